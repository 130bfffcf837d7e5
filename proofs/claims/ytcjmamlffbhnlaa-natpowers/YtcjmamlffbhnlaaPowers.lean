import Derived.Test.YtcjmamlffbhnlaaW45
namespace Go.Proofs.Ytcjmamlffbhnlaa
open Go.RowKit
set_option linter.unusedVariables false
set_option maxHeartbeats 1000000 in
theorem pow_neg32 (b n : Int) (w : World) (h : n < 0) :
    Calls Try.prog 32 #[.int .u32 b, .int .i64 n] w fun e w' => e = .returned (.tuple #[.slice none 0 0, .int .i64 2]) ∧ w = w' := by
  go_enter Try.func32, Try.ntmps32
  go_wp2
  go_ret2
  exact ⟨rfl, rfl⟩
def PowOk (w w' : World) (x : Int) (e : Ending) : Prop := ∃ zs a c, e = .returned (.tuple #[.slice a zs.length c, .int .i64 0]) ∧ Lie w' a zs ∧ Good zs x ∧ Below w.heap.size w w'
set_option maxHeartbeats 1000000 in
theorem pow_zero32 (b n : Int) (w : World) (h : n = 0) :
    Calls Try.prog 32 #[.int .u32 b, .int .i64 n] w fun e w' => PowOk w w' 1 e := by
  subst h
  go_enter Try.func32, Try.ntmps32
  go_wp2_with fail
  refine (of16 1 (by decide) (by decide) w).mono ?_
  rintro e w1 ⟨z1, a1, c1, rfl, hn, _⟩
  have HF := Hide.mk hn
  clear hn
  go_wp2
  go_ret2
  exact ⟨z1, a1, c1, rfl, HF.out.lie, HF.out.good, HF.out.bel⟩
set_option maxHeartbeats 1000000 in
theorem pow_small32 (b n : Int) (w : World) (h0 : 0 ≤ b) (h1 : b < 2) (h : 0 < n) :
    Calls Try.prog 32 #[.int .u32 b, .int .i64 n] w fun e w' => PowOk w w' b e := by
  have hne : (n == 0) = false := beq_eq_false_iff_ne.2 (by omega)
  go_enter Try.func32, Try.ntmps32
  go_wp2_with fail
  refine (of16 b h0 (by omega) w).mono ?_
  rintro e w1 ⟨z1, a1, c1, rfl, hn, _⟩
  have HF := Hide.mk hn
  clear hn
  go_wp2
  go_ret2
  exact ⟨z1, a1, c1, rfl, HF.out.lie, HF.out.good, HF.out.bel⟩
set_option maxHeartbeats 1000000 in
theorem pow_far32 (b n : Int) (w : World) (h0 : 2 ≤ b) (h : 131072 ≤ n) :
    Calls Try.prog 32 #[.int .u32 b, .int .i64 n] w fun e w' => e = .returned (.tuple #[.slice none 0 0, .int .i64 3]) ∧ w = w' := by
  have hne : (n == 0) = false := beq_eq_false_iff_ne.2 (by omega)
  go_enter Try.func32, Try.ntmps32
  go_wp2
  go_ret2
  exact ⟨rfl, rfl⟩
set_option maxHeartbeats 1000000 in
theorem pow_near32 (b : Int) (n : Nat) (w : World) {M : Int} (hM : Hide (4294967296 ^ 4096 = M)) (h0 : 2 ≤ b) (h1 : b ≤ 4294967295) (hn : 1 ≤ n) (hn2 : n < 131072) :
    Calls Try.prog 32 #[.int .u32 b, .int .i64 n] w fun e w' => PowEnd w w' (b ^ n) M e := by
  have hne : ((n : Int) == 0) = false := beq_eq_false_iff_ne.2 (by omega)
  have hi1 : (1 : Int) ≤ (n : Int) := by omega
  have hi2 : (n : Int) < 131072 := by omega
  have C0 := fun a1 c1 z1 w1 (hl : Lie w1 a1 z1) (hg : Good z1 b) => Hide.mk (raise50 a1 c1 z1 w1 hM hl hg h0 n hn hn2)
  clear hn hn2 hM
  generalize (n : Int) = x at *
  go_enter Try.func32, Try.ntmps32
  go_wp2_with fail
  refine (of16 b (by omega) (by omega) w).mono ?_
  rintro e w1 ⟨z1, a1, c1, rfl, hnum, _⟩
  have C1 := C0 a1 c1 z1 w1 hnum.lie hnum.good
  clear C0
  have hb := hnum.bel
  clear hnum
  go_wp2_with fail
  refine C1.out.mono ?_
  rintro e w2 (⟨hx, zs, a, c, rfl, hl, hg, hq⟩ | ⟨hx, rfl, hq⟩)
  · have HF := Hide.mk (And.intro hx (And.intro hl hg))
    have hb2 := below_then hb hq
    clear hx hl hg hq C1
    go_wp2
    go_ret2
    exact .inl ⟨HF.out.1, zs, a, c, rfl, HF.out.2.1, HF.out.2.2, hb2⟩
  · have HF := Hide.mk hx
    have hb2 := below_then hb hq
    clear hx hq C1
    go_wp2
    go_ret2
    exact .inr ⟨HF.out, rfl, hb2⟩
theorem pow_far {b : Int} {n : Nat} (h0 : 2 ≤ b) (h : 131072 ≤ n) : (4294967296 : Int) ^ 4096 ≤ b ^ n := by
  rw [← big_eq]
  exact Int.le_trans (pow_base_mono (by decide) h0 131072).1 (bp_mono h0 h)
theorem pow_any (b : Int) (n : Nat) (w : World) {M : Int} (hM : Hide (4294967296 ^ 4096 = M)) (h0 : 2 ≤ b) (h1 : b ≤ 4294967295) :
    Calls Try.prog 32 #[.int .u32 b, .int .i64 n] w fun e w' => PowEnd w w' (b ^ n) M e := by
  by_cases hn : n = 0
  · refine (pow_zero32 b n w (by omega)).mono ?_
    rintro e w' ⟨zs, a, c, rfl, hl, hg, hb⟩
    subst hn
    rw [← hM.out, Int.pow_zero]
    exact .inl ⟨hg.lt.2, zs, a, c, rfl, hl, hg, hb⟩
  · by_cases hf : n < 131072
    · exact pow_near32 b n w hM h0 h1 (by omega) hf
    · refine (pow_far32 b n w h0 (by omega)).mono ?_
      rintro e w' ⟨rfl, rfl⟩
      rw [← hM.out]
      exact .inr ⟨pow_far h0 (by omega), rfl, Below.refl _ _⟩
set_option maxHeartbeats 1000000 in
theorem powers_neg (b n : Int) (w : World) (h : n < 0) :
    Calls Try.prog 6 #[.int .u32 b, .int .i64 n] w fun e w' => e = .returned (.bool true) ∧ Below w.heap.size w w' := by
  go_enter Try.func6, Try.ntmps6
  go_wp2_with fail
  refine (pow_neg32 b n w h).mono ?_
  rintro e w' ⟨rfl, rfl⟩
  go_wp2_with fail
  refine (known11 _).mono ?_
  rintro e w' ⟨rfl, hbel⟩
  go_wp2
  go_ret
  exact ⟨rfl, hbel⟩
set_option maxHeartbeats 4000000 in
theorem powers_main (b : Int) (n : Nat) (w : World) {M : Int} (hM : Hide (4294967296 ^ 4096 = M)) (h0 : 2 ≤ b) (h1 : b ≤ 4294967295) (hn : n ≤ 9223372036854775807) :
    Calls Try.prog 6 #[.int .u32 b, .int .i64 n] w fun e w' => e = .returned (.bool true) ∧ Below w.heap.size w w' := by
  have C1 := Hide.mk (pow_any b n w hM h0 h1)
  have C2 := fun W => Hide.mk (fits33 b n W h0 h1 hn)
  have hn0 : (0 : Int) ≤ (n : Int) := by omega
  rw [hM.out] at C2
  go_enter Try.func6, Try.ntmps6
  go_wp2_with fail
  refine C1.out.mono ?_
  rintro e w1 (⟨hx, zs, a, c, rfl, hl, hg, hq⟩ | ⟨hx, rfl, hq⟩)
  · have L : Live w1 [(a, zs)] := ⟨by simp [hl]⟩
    have HX := Hide.mk hx
    have HG := Hide.mk hg
    have hlz : zs.length ≤ 4096 := hg.len
    clear C1 hx hl hg
    go_wp2_with fail
    refine (C2 _).out.mono ?_
    rintro e w2 ⟨f, rfl, hq2, hf0, hf1⟩
    cases f
    · exact absurd (hf0 rfl) (Int.not_le.2 HX.out)
    replace L := L.keep hq2
    have hb2 := below_then hq hq2
    have hff := hf1 rfl
    have hnl := hff.1
    have C3 := Hide.mk (refPow34 b w2 n 8193 (by omega) h1 (by omega) (by decide) hff.2)
    clear C2 hf0 hf1 hff hq hq2
    go_wp2_with fail
    refine C3.out.mono ?_
    rintro e w3 ⟨z3, a3, c3, rfl, l3, k3, v3, hl3, hq3⟩
    replace L := L.push l3 hq3
    have hb3 := below_then hb2 hq3
    have SQ : Hide (zs = z3) := ⟨Nt.can_unique HG.out.can k3 (by rw [HG.out.val, v3])⟩
    have hl4 : (z3.length : Int) ≤ 4096 := by rw [← SQ.out]; omega
    clear C3 l3 k3 v3 hl3 hq3 hb2
    go_wp2_with fail
    refine (same_true a a3 c c3 zs z3 w3 (L.all (a, zs) (by simp)) (L.all (a3, z3) (by simp)) (by omega) SQ.out).mono ?_
    rintro e w4 ⟨rfl, hq4⟩
    have hb4 := below_then hb3 hq4
    clear hb3 hq4 L
    go_wp2_with fail
    refine (known11 _).mono ?_
    rintro e w5 ⟨rfl, hq5⟩
    have hb5 := below_then hb4 hq5
    clear hb4 hq5
    go_wp2
    go_ret
    exact ⟨rfl, hb5⟩
  · have HX := Hide.mk hx
    clear C1 hx
    go_wp2_with fail
    refine (C2 _).out.mono ?_
    rintro e w2 ⟨f, rfl, hq2, hf0, hf1⟩
    have hb2 := below_then hq hq2
    cases f
    · clear hf0 hf1 hq hq2 C2
      go_wp2_with fail
      refine (known11 _).mono ?_
      rintro e w5 ⟨rfl, hq5⟩
      have hb5 := below_then hb2 hq5
      clear hb2 hq5
      go_wp2
      go_ret
      exact ⟨rfl, hb5⟩
    · have hff := hf1 rfl
      have hnl := hff.1
      have C3 := Hide.mk (refPow34 b w2 n 8193 (by omega) h1 (by omega) (by decide) hff.2)
      clear C2 hf0 hf1 hff hq hq2
      go_wp2_with fail
      refine C3.out.mono ?_
      rintro e w3 ⟨z3, a3, c3, rfl, l3, k3, v3, hl3, hq3⟩
      have hb3 := below_then hb2 hq3
      have hl4 : (4096 : Int) < (z3.length : Int) := by
        have := mt (Nt.can_len k3 4096).2 (by rw [v3, hM.out]; exact Int.not_lt.2 HX.out)
        omega
      clear C3 l3 k3 v3 hl3 hq3 hb2
      go_wp2_with fail
      refine (known11 _).mono ?_
      rintro e w5 ⟨rfl, hq5⟩
      have hb5 := below_then hb3 hq5
      clear hb3 hq5
      go_wp2
      go_ret
      exact ⟨rfl, hb5⟩
set_option maxHeartbeats 4000000 in
theorem powers_low (b : Int) (n k : Nat) (w : World) (h0 : 0 ≤ b) (h1 : b < 2) (hn : n ≤ 9223372036854775807) (hk : min (n : Int) 2 = (k : Int)) (hk2 : k ≤ 2) (C1 : Hide (Calls Try.prog 32 #[.int .u32 b, .int .i64 n] w fun e w' => PowOk w w' (b ^ k) e)) :
    Calls Try.prog 6 #[.int .u32 b, .int .i64 n] w fun e w' => e = .returned (.bool true) ∧ Below w.heap.size w w' := by
  have hn0 : (0 : Int) ≤ (n : Int) := by omega
  have HK := Hide.mk hk
  clear hk
  go_enter Try.func6, Try.ntmps6
  go_wp2_with fail
  refine C1.out.mono ?_
  rintro e w1 ⟨zs, a, c, rfl, hl, hg, hq⟩
  have L : Live w1 [(a, zs)] := ⟨by simp [hl]⟩
  have HG := Hide.mk hg
  have hlz : zs.length ≤ 4096 := hg.len
  clear C1 hl hg
  go_wp2_with fail
  refine (fits_small b n w1 h0 h1).mono ?_
  rintro e w' ⟨rfl, rfl⟩
  have C3 := Hide.mk (refPow34 b w1 k 4096 h0 (by omega) (by omega) (by decide) (fun i _ => by
    have h3 := (pow_base_mono h0 (show b ≤ 1 by omega) i).1
    rw [Int.one_pow] at h3
    have h4 := Nt.pw_mono (show 1 ≤ 4096 by decide)
    generalize (4294967296 : Int) ^ 4096 = P at *
    omega))
  rw [← HK.out] at C3
  clear HK
  go_wp2_with fail
  refine C3.out.mono ?_
  rintro e w3 ⟨z3, a3, c3, rfl, l3, k3, v3, hl3, hq3⟩
  replace L := L.push l3 hq3
  have hb3 := below_then hq hq3
  have SQ : Hide (zs = z3) := ⟨Nt.can_unique HG.out.can k3 (by rw [HG.out.val, v3])⟩
  have hl4 : (z3.length : Int) ≤ 4096 := by rw [← SQ.out]; omega
  clear C3 l3 k3 v3 hl3 hq3 hq
  go_wp2_with fail
  refine (same_true a a3 c c3 zs z3 w3 (L.all (a, zs) (by simp)) (L.all (a3, z3) (by simp)) (by omega) SQ.out).mono ?_
  rintro e w4 ⟨rfl, hq4⟩
  have hb4 := below_then hb3 hq4
  clear hb3 hq4 L
  go_wp2_with fail
  refine (known11 _).mono ?_
  rintro e w5 ⟨rfl, hq5⟩
  have hb5 := below_then hb4 hq5
  clear hb4 hq5
  go_wp2
  go_ret
  exact ⟨rfl, hb5⟩
theorem powers6 (b n : Int) (w : World) (h0 : 0 ≤ b) (h1 : b ≤ 4294967295) (hn : n ≤ 9223372036854775807) :
    Calls Try.prog 6 #[.int .u32 b, .int .i64 n] w fun e w' => e = .returned (.bool true) ∧ Below w.heap.size w w' := by
  by_cases hneg : n < 0
  · exact powers_neg b n w hneg
  · obtain ⟨m, rfl⟩ := Int.eq_ofNat_of_zero_le (show 0 ≤ n by omega)
    by_cases hb : b < 2
    · by_cases hm : m = 0
      · subst hm
        exact powers_low b 0 0 w h0 hb (by omega) (by decide) (by decide) ⟨by rw [Int.pow_zero]; exact pow_zero32 b 0 w rfl⟩
      · have hp : b = b ^ 1 ∧ b = b ^ 2 := by
          have : b = 0 ∨ b = 1 := by omega
          rcases this with rfl | rfl <;> decide
        have C := pow_small32 b m w h0 hb (by omega)
        by_cases hm1 : m = 1
        · subst hm1
          exact powers_low b 1 1 w h0 hb (by omega) (by decide) (by decide) ⟨by rw [← hp.1]; exact C⟩
        · exact powers_low b m 2 w h0 hb (by omega) (by omega) (by decide) ⟨by rw [← hp.2]; exact C⟩
    · exact powers_main b m w ⟨rfl⟩ (by omega) h1 (by omega)
end Go.Proofs.Ytcjmamlffbhnlaa
