import Derived.Test.YtcjmamlffbhnlaaW42
namespace Go.Proofs.Ytcjmamlffbhnlaa
open Go.RowKit
set_option linter.unusedVariables false
theorem bp_pos {b : Int} (h : 2 ≤ b) (n : Nat) : 0 < b ^ n := Int.pow_pos (by omega)
theorem bp_mono {b : Int} (h : 2 ≤ b) {i j : Nat} (hij : i ≤ j) : b ^ i ≤ b ^ j := by
  obtain ⟨k, rfl⟩ := Nat.exists_eq_add_of_le hij
  clear hij
  induction k with
  | zero => simp
  | succ k ih =>
    rw [← Nat.add_assoc, Int.pow_succ]
    have p := bp_pos h (i + k)
    have : b ^ (i + k) * 1 ≤ b ^ (i + k) * b := Int.mul_le_mul_of_nonneg_left (by omega) (by omega)
    omega
theorem bp_sq (b : Int) (e : Nat) : b ^ e * b ^ e = b ^ (2 * e) := by rw [← Int.pow_add, Nat.two_mul]
/-- What a power answers: its digits, or that they are too many. -/
def PowEnd (w w' : World) (x M : Int) (e : Ending) : Prop :=
  (x < M ∧ ∃ zs a c, e = .returned (.tuple #[.slice a zs.length c, .int .i64 0]) ∧ Lie w' a zs ∧ Good zs x ∧ Below w.heap.size w w') ∨
  (M ≤ x ∧ e = .returned (.tuple #[.slice none 0 0, .int .i64 3]) ∧ Below w.heap.size w w')
theorem lt_of {x M : Int} (hM : Hide (4294967296 ^ 4096 = M)) (h0 : 0 ≤ x) (h : x < M) : Lt 4096 x := ⟨h0, by rw [hM.out]; exact h⟩
theorem mul_fitM (a b : Option Addr) (ca cb : Nat) (za zb : List Int) (w : World) {x y M : Int} (hM : Hide (4294967296 ^ 4096 = M)) (ha : Lie w a za) (hb : Lie w b zb) (ga : Good za x) (gb : Good zb y) (h0 : 0 ≤ x * y) (hf : x * y < M) :
    Calls Try.prog 26 #[.slice a za.length ca, .slice b zb.length cb] w fun e w' => ∃ zs a' c, e = .returned (.tuple #[.slice a' zs.length c, .int .i64 0]) ∧ Lie w' a' zs ∧ Good zs (x * y) ∧ Below w.heap.size w w' := by
  refine (mul_fit a b ca cb za zb w ha hb ga gb (lt_of hM h0 hf)).mono ?_
  rintro e w' ⟨zs, a', c, rfl, hn, _⟩
  exact ⟨zs, a', c, rfl, hn.lie, hn.good, hn.bel⟩
theorem mul_longM (a b : Option Addr) (ca cb : Nat) (za zb : List Int) (w : World) {x y M : Int} (hM : Hide (4294967296 ^ 4096 = M)) (ha : Lie w a za) (hb : Lie w b zb) (ga : Good za x) (gb : Good zb y) (hf : M ≤ x * y) :
    Calls Try.prog 26 #[.slice a za.length ca, .slice b zb.length cb] w fun e w' => e = .returned (.tuple #[.slice none 0 0, .int .i64 3]) ∧ Below w.heap.size w w' :=
  mul_long a b ca cb za zb w ha hb ga gb (by rw [hM.out]; exact hf)
theorem pow_counts {n S k j : Nat} (hj : S = k + 1 + j) : n / 2 ^ j = 2 * (n / 2 ^ (S - k)) + n / 2 ^ j % 2 ∧ n / 2 ^ j ≤ n := by
  have e : n / 2 ^ (S - k) = n / 2 ^ j / 2 := by
    rw [show S - k = j + 1 by omega, Nat.pow_succ, Nat.div_div_eq_div_mul]
  rw [e]
  exact ⟨by omega, Nat.div_le_self _ _⟩
theorem i64_one (n : Int) : bits .and .i64 n 1 = n % 2 := by
  have h1 : (BitVec.ofInt 64 1).toNat = 2 ^ 1 - 1 := by decide
  have key : (BitVec.ofInt 64 n &&& BitVec.ofInt 64 1).toNat = (n % ((2 ^ 64 : Nat) : Int)).toNat % 2 ^ 1 := by
    rw [BitVec.toNat_and, BitVec.toNat_ofInt, h1, Nat.and_two_pow_sub_one_eq_mod]
  show IntKind.i64.wrap ((BitVec.ofInt 64 n &&& BitVec.ofInt 64 1).toNat : Nat) = n % 2
  rw [key, IntKind.wrap_i64]
  omega
set_option maxHeartbeats 4000000 in
set_option maxRecDepth 100000 in
theorem raise50 (a : Option Addr) (ca : Nat) (za : List Int) (w : World) {b M : Int} (hM : Hide (4294967296 ^ 4096 = M)) (ha : Lie w a za) (ga : Good za b) (hb2 : 2 ≤ b) (n : Nat) (hn : 1 ≤ n) (hn2 : n < 131072) :
    Calls Try.prog 50 #[.slice a za.length ca, .int .i64 n] w fun e w' => PowEnd w w' (b ^ n) M e := by
  obtain ⟨S, hS⟩ : ∃ S, Lib.bitLen n = S := ⟨_, rfl⟩
  have hSb := bitLen_bd 17 n (by have e : (2 : Nat) ^ 17 = 131072 := by decide
                                 omega) (by decide)
  rw [hS] at hSb
  have HSB := Hide.mk hSb
  have hS17 : S ≤ 17 := hSb.2.2
  have C2 := fun W => Hide.mk (len61 (n : Int) W (by omega) (by omega) S (by rw [Int.toNat_natCast]; exact hS))
  have HA := Hide.mk ha
  have HB2 := Hide.mk hb2
  clear hSb hS ha hb2
  go_enter Try.func50, Try.ntmps50
  go_wp2_with fail
  refine (of16 1 (by decide) (by decide) w).mono ?_
  rintro e w1 ⟨z1, a1, c1, rfl, hnum, _⟩
  have HN1 := Hide.mk hnum
  clear hnum
  go_wp2_with fail
  refine (C2 _).out.mono ?_
  rintro e w' ⟨rfl, rfl⟩
  clear C2
  go_wp2
  go_loopw [6, 16] (fun p i wr => ∃ (k : Nat) (zp : List Int) (ap : Option Addr) (cp : Nat), k ≤ S ∧ i = .int .i64 k ∧ p = .slice ap zp.length cp ∧ Hide (Lie wr ap zp) ∧ Hide (Good zp (b ^ (n / 2 ^ (S - k)))) ∧ Below w.heap.size w wr) (fun _ i _ => S - (intOf i).toNat)
  case atStart =>
    refine ⟨0, z1, a1, c1, Nat.zero_le _, rfl, rfl, ⟨HN1.out.lie⟩, ?_, HN1.out.bel⟩
    refine ⟨?_⟩
    rw [Nat.sub_zero, Nat.div_eq_of_lt HSB.out.1, Int.pow_zero]; exact HN1.out.good
  case round =>
    obtain ⟨k, zp, ap, cp, hk, rfl, rfl, HL, HG, hbel⟩ := hrel
    clear HN1
    by_cases hlt : k < S
    · obtain ⟨j, hj⟩ : ∃ j, S = k + 1 + j := ⟨S - k - 1, by omega⟩
      have hcnt := pow_counts (n := n) hj
      have hji : (S : Int) - 1 - (k : Int) = (j : Int) := by omega
      have hsh := shr_div n j
      have hand := i64_one ((n / 2 ^ j : Nat) : Int)
      have e2 : S - (k + 1) = j := by omega
      have E2 := Hide.mk e2
      clear hj e2
      generalize hde : n / 2 ^ (S - k) = e at *
      generalize hdd : n / 2 ^ j = d at *
      have HDD := Hide.mk hdd
      clear hde hdd
      have h0 := bp_pos HB2.out (2 * e)
      by_cases hf : b ^ (2 * e) < M
      · have C3 := Hide.mk (mul_fitM ap ap cp cp zp zp wr hM HL.out HL.out HG.out HG.out (by rw [bp_sq]; omega) (by rw [bp_sq]; exact hf))
        rw [bp_sq] at C3
        clear h0 hf HL HG
        by_cases hbit : d % 2 = 0
        · have hbi : ((d : Int) % 2 == 0) = true := beq_iff_eq.2 (by omega)
          have hd2 : Hide (2 * e = d) := ⟨by omega⟩
          clear hcnt hbit
          go_wp2_with fail
          refine C3.out.mono ?_
          rintro e w2 ⟨zs, a2, c2, rfl, hl2, hg2, hb2⟩
          rw [hd2.out] at hg2
          have F1 := Hide.mk hl2
          have F2 := Hide.mk hg2
          have hbw2 := below_then hbel hb2
          clear C3 hl2 hg2 hb2
          go_wp2
          go_roundw
          case rel => exact ⟨k + 1, zs, a2, c2, hlt, by go_num, rfl, F1, by rw [E2.out, HDD.out]; exact F2, hbw2⟩
          case measure => simp [intOf]; omega
        · have hbi : ((d : Int) % 2 == 0) = false := beq_eq_false_iff_ne.2 (by omega)
          have hd2 : Hide (2 * e + 1 = d) := ⟨by omega⟩
          have hdn : d ≤ n := hcnt.2
          clear hcnt hbit
          go_wp2_with fail
          refine C3.out.mono ?_
          rintro e' w2 ⟨zs, a2, c2, rfl, hl2, hg2, hb2⟩
          have HLA := Hide.mk (HA.out.below (below_then hbel hb2) (Nat.le_refl _))
          have F1 := Hide.mk hl2
          have F2 := Hide.mk hg2
          have hbw2 := below_then hbel hb2
          have hpe : b ^ (2 * e) * b = b ^ d := by rw [← hd2.out, Int.pow_succ]
          clear C3 hl2 hg2 hb2
          by_cases hf2 : b ^ d < M
          · have C4 := Hide.mk (mul_fitM a2 a c2 ca zs za w2 hM F1.out HLA.out F2.out ga (by rw [hpe]; have := bp_pos HB2.out d; omega) (by rw [hpe]; exact hf2))
            rw [hpe] at C4
            clear hf2 hpe
            go_wp2_with fail
            refine C4.out.mono ?_
            rintro e' w3 ⟨z3, a3, c3, rfl, hl3, hg3, hb3⟩
            have F3 := Hide.mk hl3
            have F4 := Hide.mk hg3
            have hbw3 := below_then hbw2 hb3
            clear C4 hl3 hg3 hb3
            go_wp2
            go_roundw
            case rel => exact ⟨k + 1, z3, a3, c3, hlt, by go_num, rfl, F3, by rw [E2.out, HDD.out]; exact F4, hbw3⟩
            case measure => simp [intOf]; omega
          · have C4 := Hide.mk (mul_longM a2 a c2 ca zs za w2 hM F1.out HLA.out F2.out ga (by rw [hpe]; omega))
            have HX : Hide (M ≤ b ^ n) := ⟨by have := bp_mono HB2.out hdn; omega⟩
            clear hf2 hpe
            go_wp2_with fail
            refine C4.out.mono ?_
            rintro e' w3 ⟨rfl, hb3⟩
            have hbw3 := below_then hbw2 hb3
            clear C4 hb3
            go_wp2
            go_ret2
            exact .inr ⟨HX.out, rfl, hbw3⟩
      · have C3 := Hide.mk (mul_longM ap ap cp cp zp zp wr hM HL.out HL.out HG.out HG.out (by rw [bp_sq]; omega))
        have HX : Hide (M ≤ b ^ n) := ⟨by have := bp_mono HB2.out (show 2 * e ≤ n by omega); omega⟩
        clear h0 hf HL HG hcnt
        go_wp2_with fail
        refine C3.out.mono ?_
        rintro e' w2 ⟨rfl, hb2⟩
        have hbw2 := below_then hbel hb2
        clear C3 hb2
        go_wp2
        go_ret2
        exact .inr ⟨HX.out, rfl, hbw2⟩
    · have HF : Hide (Good zp (b ^ n)) := ⟨by
        have e : S - k = 0 := by omega
        have := HG.out
        rw [e, Nat.pow_zero, Nat.div_one] at this; exact this⟩
      have HX : Hide (b ^ n < M) := ⟨by rw [← hM.out]; exact HF.out.lt.2⟩
      clear HG
      go_wp2
      go_ret2
      exact .inl ⟨HX.out, zp, ap, cp, rfl, HL.out, HF.out, hbel⟩
end Go.Proofs.Ytcjmamlffbhnlaa
