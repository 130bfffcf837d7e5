import Derived.Test.YtcjmamlffbhnlaaW44
namespace Go.Proofs.Ytcjmamlffbhnlaa
open Go.RowKit
set_option linter.unusedVariables false
theorem pow_base_mono {x y : Int} (h0 : 0 ≤ x) (h : x ≤ y) (n : Nat) : x ^ n ≤ y ^ n ∧ 0 ≤ x ^ n := by
  induction n with
  | zero => simp
  | succ n ih =>
    rw [Int.pow_succ, Int.pow_succ]
    exact ⟨Int.mul_le_mul ih.1 h h0 (by omega), Int.mul_nonneg ih.2 h0⟩
theorem big_eq : (2 : Int) ^ 131072 = 4294967296 ^ 4096 := by
  rw [show 131072 = 32 * 4096 by decide, Int.pow_mul, show (2 : Int) ^ 32 = 4294967296 by decide]
theorem fit_lo {b : Int} {L n : Nat} (hb : Bits b (L + 1)) (h : 131072 ≤ L * n) : (4294967296 : Int) ^ 4096 ≤ b ^ n := by
  rw [← big_eq]
  have h1 := p2mono h
  rw [Int.pow_mul] at h1
  have h2 : (2 : Int) ^ L ≤ b := by have := hb.le; rw [Int.pow_succ] at this; omega
  have h3 := (pow_base_mono (Int.le_of_lt (p2pos L)) h2 n).1
  exact Int.le_trans h1 h3
theorem fit_hi {b : Int} {L n : Nat} (h2 : 2 ≤ b) (hb : Bits b (L + 1)) (hL : 1 ≤ L) (h : L * n ≤ 131072) : ∀ i, i ≤ n → b ^ i < 4294967296 ^ 8193 := by
  intro i hi
  have h3 := bp_mono h2 hi
  have h4 := (pow_base_mono (show 0 ≤ b by omega) (Int.le_of_lt hb.lt) n).1
  rw [← Int.pow_mul] at h4
  have h5 : (L + 1) * n ≤ 32 * 8192 := by
    have : 1 * n ≤ L * n := Nat.mul_le_mul_right n hL
    rw [Nat.add_mul]; omega
  have h6 := p2mono h5
  have e8 : (2 : Int) ^ (32 * 8192) = 4294967296 ^ 8192 := by rw [Int.pow_mul, show (2 : Int) ^ 32 = 4294967296 by decide]
  rw [e8] at h6
  clear e8
  have h7 := Nt.pw_succ 8192
  have h8 := Nt.pw_pos 8192
  generalize (4294967296 : Int) ^ 8192 = P at *
  rw [show 8193 = 8192 + 1 by decide, h7]
  omega
set_option maxHeartbeats 1000000 in
theorem fits_small (b n : Int) (w : World) (h0 : 0 ≤ b) (h1 : b < 2) :
    Calls Try.prog 33 #[.int .u32 b, .int .i64 n] w fun e w' => e = .returned (.bool true) ∧ w = w' := by
  go_enter Try.func33, Try.ntmps33
  go_wp2
  go_ret
  exact ⟨rfl, rfl⟩
set_option maxHeartbeats 1000000 in
theorem fits33 (b : Int) (n : Nat) (w : World) (h0 : 2 ≤ b) (h1 : b ≤ 4294967295) (hn : n ≤ 9223372036854775807) :
    Calls Try.prog 33 #[.int .u32 b, .int .i64 n] w fun e w' => ∃ f : Bool, e = .returned (.bool f) ∧ Below w.heap.size w w' ∧ (f = false → 4294967296 ^ 4096 ≤ b ^ n) ∧ (f = true → n ≤ 131072 ∧ ∀ i, i ≤ n → b ^ i < 4294967296 ^ 8193) := by
  go_enter Try.func33, Try.ntmps33
  go_wp2_with fail
  refine (of17 b (by omega) (by omega) w).mono ?_
  rintro e w1 ⟨z1, a1, c1, rfl, hnum, _⟩
  have hz : 0 < z1.length := by
    by_cases c : z1.length = 0
    · have : z1 = [] := List.length_eq_zero_iff.1 c
      subst this
      have := hnum.val
      rw [Nt.val_nil] at this
      omega
    · omega
  have C1 := Hide.mk (refLen45 a1 c1 z1 w1 hnum.lie hnum.can hz (by have := hnum.len; omega))
  rw [hnum.val] at C1
  have hbel := hnum.bel
  have hz2 : z1.length ≤ 4096 := hnum.len
  clear hnum
  go_wp2_with fail
  refine C1.out.mono ?_
  rintro e w' ⟨rfl, BL, rfl, hB, hB1, hB2⟩
  have hBL2 : 2 ≤ BL := by
    by_cases c : BL = 1
    · subst c; have := hB.lt; omega
    · omega
  obtain ⟨L, hL⟩ : ∃ L, BL = L + 1 := ⟨BL - 1, by omega⟩
  have hLi : (BL : Int) - 1 = (L : Int) := by omega
  have hL1 : 1 ≤ L := by omega
  have hL2 : (L : Int) ≤ 131072 := by omega
  rw [hL] at hB
  have HB := Hide.mk hB
  have hqq : (131072 : Int) / (L : Int) = ((131072 / L : Nat) : Int) := by rw [Int.natCast_ediv]; rfl
  have hq1 : Hide (n ≤ 131072 / L → L * n ≤ 131072) := ⟨fun h => by have := Nat.mul_le_mul_left L h; have := Nat.mul_div_le 131072 L; omega⟩
  have hq2 : Hide (¬ n ≤ 131072 / L → 131072 ≤ L * n) := ⟨fun h => by
    have h1 : 131072 / L < n := by omega
    have h2 := (Nat.div_lt_iff_lt_mul (show 0 < L by omega)).1 h1
    rw [Nat.mul_comm]; omega⟩
  have hq3 : 131072 / L ≤ 131072 := Nat.div_le_self _ _
  generalize 131072 / L = Q at *
  clear hB C1 hL hB1 hB2 hBL2
  go_wp2
  go_ret
  refine ⟨_, rfl, hbel, fun h => ?_, fun h => ?_⟩
  · exact fit_lo HB.out (hq2.out (by simpa using h))
  · have hnQ : n ≤ Q := by simpa using h
    exact ⟨by omega, fit_hi h0 HB.out hL1 (hq1.out hnQ)⟩
end Go.Proofs.Ytcjmamlffbhnlaa
