import Derived.Test.YtcjmamlffbhnlaaW28
namespace Go.Proofs.Ytcjmamlffbhnlaa
open Go.RowKit
set_option linter.unusedVariables false
set_option maxHeartbeats 4000000 in
set_option maxRecDepth 100000 in
theorem len69 (x : Int) (w : World) (h0 : 0 ≤ x) (h1 : x ≤ 4294967295) :
    Calls Try.prog 69 #[.int .u64 x] w fun e w' => e = .returned (.int .i64 (Lib.bitLen x.toNat)) ∧ w = w' := by
  by_cases c1 : 65536 ≤ x
  · by_cases c2 : 256 ≤ x / 65536
    · have i0 : (0 : Int) ≤ x / 65536 / 256 := by omega
      have i1 : x / 65536 / 256 ≤ 255 := by omega
      have hl := Lib.len8_of (x / 65536 / 256) i0 i1
      have hb : ((Lib.bitLen (x / 65536 / 256).toNat : Nat) : Int) ≤ 8 := by have := Lib.bitLen_le8' (x / 65536 / 256) i0 i1; omega
      have HF : Hide (((Lib.bitLen x.toNat : Nat) : Int) = 24 + ((Lib.bitLen (x / 65536 / 256).toNat : Nat) : Int)) := ⟨by
        have e : (x / 65536 / 256).toNat = x.toNat / 16777216 := by omega
        rw [e, Lib.bitLen_shift24 x.toNat (by omega) (by omega)]; omega⟩
      generalize Lib.bitLen (x / 65536 / 256).toNat = L at *
      rw [HF.out]
      go_enter Try.func69, Try.ntmps69
      go_wp2
      go_ret
      exact ⟨rfl, rfl⟩
    · have i0 : (0 : Int) ≤ x / 65536 := by omega
      have i1 : x / 65536 ≤ 255 := by omega
      have hl := Lib.len8_of (x / 65536) i0 i1
      have hb : ((Lib.bitLen (x / 65536).toNat : Nat) : Int) ≤ 8 := by have := Lib.bitLen_le8' (x / 65536) i0 i1; omega
      have HF : Hide (((Lib.bitLen x.toNat : Nat) : Int) = 16 + ((Lib.bitLen (x / 65536).toNat : Nat) : Int)) := ⟨by
        have e : (x / 65536).toNat = x.toNat / 65536 := by omega
        rw [e, Lib.bitLen_shift16 x.toNat (by omega) (by omega)]; omega⟩
      generalize Lib.bitLen (x / 65536).toNat = L at *
      rw [HF.out]
      go_enter Try.func69, Try.ntmps69
      go_wp2
      go_ret
      exact ⟨rfl, rfl⟩
  · by_cases c2 : 256 ≤ x
    · have i0 : (0 : Int) ≤ x / 256 := by omega
      have i1 : x / 256 ≤ 255 := by omega
      have hl := Lib.len8_of (x / 256) i0 i1
      have hb : ((Lib.bitLen (x / 256).toNat : Nat) : Int) ≤ 8 := by have := Lib.bitLen_le8' (x / 256) i0 i1; omega
      have HF : Hide (((Lib.bitLen x.toNat : Nat) : Int) = 8 + ((Lib.bitLen (x / 256).toNat : Nat) : Int)) := ⟨by
        have e : (x / 256).toNat = x.toNat / 256 := by omega
        rw [e, Lib.bitLen_shift8 x.toNat (by omega) (by omega)]; omega⟩
      generalize Lib.bitLen (x / 256).toNat = L at *
      rw [HF.out]
      go_enter Try.func69, Try.ntmps69
      go_wp2
      go_ret
      exact ⟨rfl, rfl⟩
    · have hl := Lib.len8_of x h0 (by omega)
      have i1 : x ≤ 255 := by omega
      have hb : ((Lib.bitLen x.toNat : Nat) : Int) ≤ 8 := by have := Lib.bitLen_le8' x h0 i1; omega
      generalize Lib.bitLen x.toNat = L at *
      go_enter Try.func69, Try.ntmps69
      go_wp2
      go_ret
      exact ⟨by first | rfl | simp, rfl⟩

set_option maxHeartbeats 1000000 in
theorem len61 (x : Int) (w : World) (h0 : 0 ≤ x) (h1 : x ≤ 4294967295) (L : Nat) (hL : Lib.bitLen x.toNat = L) :
    Calls Try.prog 61 #[.int .u64 x] w fun e w' => e = .returned (.int .i64 L) ∧ w = w' := by
  have HL := Hide.mk (len69 x w h0 h1)
  rw [hL] at HL
  clear hL
  go_enter Try.func61, Try.ntmps61
  go_wp2_with fail
  refine HL.out.mono ?_
  rintro e w' ⟨rfl, rfl⟩
  go_wp2
  go_ret
  exact ⟨rfl, rfl⟩

/-- How many bits: BL. -/
structure Bits (x : Int) (BL : Nat) : Prop where
  lt : x < 2 ^ BL
  le : (2 : Int) ^ BL ≤ 2 * x
theorem bits_top {za : List Int} {k L : Nat} (hr : Nt.Rng za) (hz : za.length = k + 1) (h1 : za.getD k 0 < 2 ^ L) (h2 : (2 : Int) ^ L ≤ 2 * za.getD k 0) : Bits (Nt.val za) (32 * k + L) := by
  have e : Nt.val za = Nt.vp za k + za.getD k 0 * 4294967296 ^ k := by unfold Nt.val; rw [hz, Nt.vp_step]
  have b := Nt.vp_bd hr k
  have hp := Nt.pw_pos k
  have e2 : (2 : Int) ^ (32 * k + L) = 2 ^ L * 4294967296 ^ k := by
    rw [Int.pow_add, Int.pow_mul, show (2 : Int) ^ 32 = 4294967296 by decide, Int.mul_comm]
  refine ⟨?_, ?_⟩
  · rw [e, e2]
    have : (za.getD k 0 + 1) * 4294967296 ^ k ≤ 2 ^ L * 4294967296 ^ k := Int.mul_le_mul_of_nonneg_right (by omega) (by omega)
    rw [Int.add_mul] at this
    omega
  · rw [e, e2]
    have : 2 ^ L * 4294967296 ^ k ≤ 2 * za.getD k 0 * 4294967296 ^ k := Int.mul_le_mul_of_nonneg_right h2 (by omega)
    rw [Int.mul_assoc] at this
    omega

set_option maxHeartbeats 1000000 in
theorem nlen60 (a : Option Addr) (ca : Nat) (za : List Int) (w : World) (ha : Lie w a za) (ra : Nt.Rng za) (pa : mayB za = true) (hn : 0 < za.length) :
    Calls Try.prog 60 #[.slice a za.length ca] w fun e w' => w = w' ∧ ∃ BL : Nat, e = .returned (.int .i64 BL) ∧ Bits (Nt.val za) BL ∧ 1 ≤ BL ∧ BL ≤ 32 * za.length := by
  obtain ⟨qa, la⟩ := may_can ra pa
  obtain ⟨k, hk⟩ : ∃ k, za.length = k + 1 := ⟨za.length - 1, by omega⟩
  have ht0 : za.getD k 0 ≠ 0 := by have := qa.2 (by omega); rw [hk] at this; exact this
  have htr := ra k
  obtain ⟨L, eL, hL1, hL2, hL3, hL4⟩ := bitLen32 (za.getD k 0) (by omega) htr.2
  obtain ⟨b, o, rfl⟩ := lie_some ha hn
  have hc : w.cell? ⟨b, o + k, none⟩ = _ := lie_cell ha rfl (i := k) (by omega)
  have C1 := Hide.mk (may_yes (some ⟨b, o, none⟩) ca za w ha (by unfold maxLen; omega) pa)
  have C2 := Hide.mk (len68 (za.getD k 0) w htr.1 (by omega))
  have HB := Hide.mk (bits_top ra hk hL3 hL4)
  rw [eL] at C2
  rw [hk] at C1 ⊢
  have hne : (((k : Int) + 1) == 0) = false := beq_eq_false_iff_ne.2 (by omega)
  have hkb : k ≤ 4096 := by omega
  clear ha ra pa qa la ht0 hL3 hL4 eL hk hn
  generalize za.getD k 0 = x at *
  go_enter Try.func60, Try.ntmps60
  go_wp2_with fail
  refine C1.out.mono ?_
  rintro e w' ⟨rfl, rfl⟩
  go_wp2_with fail
  refine C2.out.mono ?_
  rintro e w' ⟨rfl, rfl⟩
  go_wp2
  go_ret
  exact ⟨rfl, 32 * k + L, by go_num, HB.out, by omega, by omega⟩

/-- One step of Newton's, kept to one on either side. -/
theorem newton {m a T y f g : Int} (ha : 1 ≤ a) (hT : 1 ≤ T) (hy : 2 * y = T * a) (hTa : T ≤ 2 * a) (h1 : T * T * ((a - 1) * (a - 1)) < m) (h2 : m < T * T * ((a + 1) * (a + 1))) (hm : m = 4 * y * f + g) (hg0 : 0 ≤ g) (hg1 : g < 4 * y) (hf : 0 ≤ f) :
    (y + f - 1) * (y + f - 1) < m ∧ m < (y + f + 1) * (y + f + 1) := by
  have hTa1 : 1 ≤ T * a := by
    have : 1 * 1 ≤ T * a := Int.mul_le_mul hT ha (by decide) (by omega)
    omega
  have hy1 : 1 ≤ y := by omega
  have hTT : T * T ≤ 4 * y := by
    have : T * T ≤ T * (2 * a) := Int.mul_le_mul_of_nonneg_left hTa (by omega)
    have e : T * (2 * a) = 2 * (T * a) := by grind
    omega
  have e1 : T * T * ((a - 1) * (a - 1)) = (2 * y - T) * (2 * y - T) := by rw [hy]; grind
  have e2 : T * T * ((a + 1) * (a + 1)) = (2 * y + T) * (2 * y + T) := by rw [hy]; grind
  rw [e1] at h1
  rw [e2] at h2
  constructor
  · by_cases c : (y + f - 1) * (y + f - 1) < m
    · exact c
    · exfalso
      generalize ht : y + f - 1 = t at *
      have hf2 : f = t - y + 1 := by omega
      subst hf2
      have ht0 : 0 ≤ t := by omega
      -- (t - 2y)^2 >= 4y
      have c1 : m ≤ t * t := by omega
      have c2 : 4 * y ≤ (t - 2 * y) * (t - 2 * y) := by
        have : 4 * y * (t - y + 1) ≤ t * t := by omega
        have e : (t - 2 * y) * (t - 2 * y) = t * t - 4 * y * (t - y + 1) + 4 * y := by grind
        omega
      rcases (show t < 2 * y - T + 1 ∨ 2 * y - T + 1 ≤ t by omega) with d | d
      · have : t * t ≤ (2 * y - T) * (2 * y - T) := Int.mul_le_mul (by omega) (by omega) ht0 (by omega)
        omega
      · rcases (show t < 2 * y + T ∨ 2 * y + T ≤ t by omega) with d2 | d2
        · -- |t - 2y| < T
          have d3 : (t - 2 * y) * (t - 2 * y) < T * T := by
            have p1 : 0 < T - (t - 2 * y) := by omega
            have p2 : 0 < T + (t - 2 * y) := by omega
            have p3 := Int.mul_pos p1 p2
            have e : (T - (t - 2 * y)) * (T + (t - 2 * y)) = T * T - (t - 2 * y) * (t - 2 * y) := by grind
            omega
          omega
        · have d3 : 4 * y * (y + T + 1) ≤ 4 * y * (t - y + 1) := Int.mul_le_mul_of_nonneg_left (by omega) (by omega)
          have e : (2 * y + T) * (2 * y + T) = 4 * y * (y + T + 1) - 4 * y + T * T := by grind
          omega
  · have e : (y + f + 1) * (y + f + 1) = (y - (f + 1)) * (y - (f + 1)) + 4 * y * f + 4 * y := by grind
    have : 0 ≤ (y - (f + 1)) * (y - (f + 1)) := by
      rcases (show y - (f + 1) < 0 ∨ 0 ≤ y - (f + 1) by omega) with d | d
      · exact Int.mul_nonneg_of_nonpos_of_nonpos (by omega) (by omega)
      · exact Int.mul_nonneg d d
    omega
end Go.Proofs.Ytcjmamlffbhnlaa
