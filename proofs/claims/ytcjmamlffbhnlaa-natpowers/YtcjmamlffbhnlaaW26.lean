import Derived.Test.YtcjmamlffbhnlaaW25
namespace Go.Proofs.Ytcjmamlffbhnlaa
open Go.RowKit
set_option linter.unusedVariables false
theorem val_append (P T : List Int) : Nt.val (P ++ T) = Nt.val P + 4294967296 ^ P.length * Nt.val T := by
  induction P with
  | nil => simp [Nt.val_nil]
  | cons d P ih =>
    rw [List.cons_append, val_cons, ih, val_cons, List.length_cons, Nt.pw_succ]
    generalize (4294967296 : Int) ^ P.length = X
    grind
theorem vp_of_small {T : List Int} (hr : Nt.Rng T) {n : Nat} (hn : n ≤ T.length) (h : Nt.val T < 4294967296 ^ n) : Nt.vp T n = Nt.val T ∧ Nt.val (T.drop n) = 0 := by
  have e := val_drop_split (s := T) n hn
  have h1 := Nt.vp_bd hr n
  have h2 := Nt.val_bd (rng_drop hr n)
  have hp := Nt.pw_pos n
  have h3 : Nt.val (T.drop n) = 0 := by
    by_cases c : Nt.val (T.drop n) = 0
    · exact c
    · exfalso
      have : 4294967296 ^ n * 1 ≤ 4294967296 ^ n * Nt.val (T.drop n) := Int.mul_le_mul_of_nonneg_left (by omega) (by omega)
      omega
  rw [h3] at e
  exact ⟨by omega, h3⟩
theorem drop_eq_of_getD {T T0 : List Int} {n : Nat} (hl : T.length = T0.length) (h : ∀ j, n ≤ j → T.getD j 0 = T0.getD j 0) : T.drop n = T0.drop n := by
  refine getD_eq_of_same (fun j _ => ?_) (by simp [hl])
  have := h (n + j) (by omega)
  simpa [List.getD_eq_getElem?_getD] using this

/-- Digits from t on of the quotient are told: Q; what is left of U0 stands in U. -/
structure LongInv (U0 zv U Q : List Int) (t : Nat) : Prop where
  lu : U.length = U0.length
  ru : Nt.Rng U
  rq : Nt.Rng Q
  eq : Nt.val U0 = Nt.val (Q.drop t) * 4294967296 ^ t * Nt.val zv + Nt.val U
  lt : Nt.val (U.drop t) < Nt.val zv
theorem LongInv.window {U0 zv U Q : List Int} {t m : Nat} (h : LongInv U0 zv U Q (t + 1)) (ht : t + m + 3 ≤ U.length) (hz : zv.length = m + 2) (rv : Nt.Rng zv) :
    Nt.vp (U.drop t) (m + 3) = Nt.val (U.drop t) ∧ Nt.val ((U.drop t).drop (m + 3)) = 0 ∧ Nt.val (U.drop t) < Nt.val zv * 4294967296 := by
  have e := val_drop_step (s := U) (m := t) (by omega)
  have h1 := h.lt
  have h2 := h.ru t
  have h3 := (Nt.val_bd rv).2
  have hlt : Nt.val (U.drop t) < Nt.val zv * 4294967296 := by omega
  have h4 := vp_of_small (T := U.drop t) (rng_drop h.ru t) (n := m + 3) (by rw [List.length_drop]; omega) (by
    rw [hz, show m + 2 = m + 2 from rfl] at h3
    rw [show m + 3 = m + 2 + 1 from rfl, Nt.pw_succ]
    omega)
  exact ⟨h4.1, h4.2, hlt⟩
theorem LongInv.step {U0 zv U Q T : List Int} {t m : Nat} {q : Int} (h : LongInv U0 zv U Q (t + 1)) (ht : t + m + 3 ≤ U.length) (htq : t < Q.length) (hz : zv.length = m + 2) (rv : Nt.Rng zv) (hn : Next (U.drop t) zv T q) :
    LongInv U0 zv (U.take t ++ T) (Q.set t q) t := by
  obtain ⟨e1, e2, e3⟩ := h.window ht hz rv
  have hpl : (U.take t).length = t := by rw [List.length_take]; omega
  have hTl := hn.len
  rw [List.length_drop] at hTl
  have eT : Nt.val T = Nt.val (U.drop t) - q * Nt.val zv := by
    have a1 := val_drop_split (s := T) (m + 3) (by omega)
    have a2 := drop_eq_of_getD hn.len (n := m + 3) (by have := hn.rest; rw [hz] at this; exact this)
    have a3 := hn.eq
    rw [hz] at a3
    rw [a1, a2, e2, a3, show m + 2 + 1 = m + 3 from rfl, e1]; omega
  have hTlt : Nt.val T < Nt.val zv := by
    have a1 := val_drop_split (s := T) (m + 3) (by omega)
    have a2 := drop_eq_of_getD hn.len (n := m + 3) (by have := hn.rest; rw [hz] at this; exact this)
    have a3 := hn.lt
    rw [hz, show m + 2 + 1 = m + 3 from rfl] at a3
    rw [a1, a2, e2]; omega
  refine ⟨by rw [List.length_append, hpl, hTl]; have := h.lu; omega, rng_pre (Nt.rng_take h.ru t) hn.rng, Nt.rng_set h.rq hn.q0 hn.q1, ?_, ?_⟩
  · have b1 : Nt.val U = Nt.val (U.take t) + 4294967296 ^ t * Nt.val (U.drop t) := by
      have := val_append (U.take t) (U.drop t)
      rw [List.take_append_drop, hpl] at this
      exact this
    have b2 := val_append (U.take t) T
    rw [hpl] at b2
    have b3 := val_drop_step (s := Q.set t q) (m := t) (by rw [List.length_set]; exact htq)
    have b5 : (Q.set t q).drop (t + 1) = Q.drop (t + 1) := List.drop_set_of_lt (by omega)
    rw [Nt.getD_set_self htq, b5] at b3
    have b4 := h.eq
    rw [Nt.pw_succ] at b4
    rw [b4, b3, b2, b1, eT]
    generalize (4294967296 : Int) ^ t = X
    grind
  · have : (U.take t ++ T).drop t = T := by
      rw [List.drop_append_of_le_length (by omega), List.drop_eq_nil_of_le (by omega), List.nil_append]
    rw [this]; exact hTlt

/-- The divisor, shifted till its highest bit is 1. -/
theorem norm_div {zb zv : List Int} {m L : Nat} (cb : Nt.Can zb) (hz : zb.length = m + 2) (hL : 1 ≤ L) (hL' : L ≤ 32) (h1 : zb.getD (m + 1) 0 < 2 ^ L) (h2 : (2 : Int) ^ L ≤ 2 * zb.getD (m + 1) 0) (cv : Nt.Can zv) (hv : Nt.val zv = Nt.val zb * 2 ^ (32 - L)) :
    zv.length = m + 2 ∧ 2147483648 ≤ zv.getD (m + 1) 0 := by
  have e1 : Nt.val zb = Nt.vp zb (m + 1) + zb.getD (m + 1) 0 * 4294967296 ^ (m + 1) := by unfold Nt.val; rw [hz, Nt.vp_step]
  have b1 := Nt.vp_bd cb.1 (m + 1)
  have hM := Nt.pw_pos (m + 1)
  have hp : (2 : Int) ^ L * 2 ^ (32 - L) = 4294967296 := by
    rw [← Int.pow_add, show L + (32 - L) = 32 by omega]; decide
  have hT : (0 : Int) < 2 ^ (32 - L) := Int.pow_pos (by decide)
  have lo : 2147483648 * 4294967296 ^ (m + 1) ≤ Nt.val zv := by
    have a1 : (2 : Int) ^ L * 2 ^ (32 - L) ≤ 2 * zb.getD (m + 1) 0 * 2 ^ (32 - L) := Int.mul_le_mul_of_nonneg_right h2 (by omega)
    rw [hp] at a1
    have a2 : 2147483648 ≤ zb.getD (m + 1) 0 * 2 ^ (32 - L) := by
      have : 2 * zb.getD (m + 1) 0 * 2 ^ (32 - L) = 2 * (zb.getD (m + 1) 0 * 2 ^ (32 - L)) := Int.mul_assoc _ _ _
      omega
    have a3 : 2147483648 * 4294967296 ^ (m + 1) ≤ zb.getD (m + 1) 0 * 2 ^ (32 - L) * 4294967296 ^ (m + 1) := Int.mul_le_mul_of_nonneg_right a2 (by omega)
    have a4 : 0 ≤ Nt.vp zb (m + 1) * 2 ^ (32 - L) := Int.mul_nonneg b1.1 (by omega)
    have a5 : Nt.val zb * 2 ^ (32 - L) = Nt.vp zb (m + 1) * 2 ^ (32 - L) + zb.getD (m + 1) 0 * 2 ^ (32 - L) * 4294967296 ^ (m + 1) := by rw [e1]; grind
    rw [hv, a5]; omega
  have hi : Nt.val zv < 4294967296 ^ (m + 2) := by
    have a1 : Nt.val zb < (zb.getD (m + 1) 0 + 1) * 4294967296 ^ (m + 1) := by rw [Int.add_mul, e1]; omega
    have a2 : (zb.getD (m + 1) 0 + 1) * 4294967296 ^ (m + 1) ≤ 2 ^ L * 4294967296 ^ (m + 1) := Int.mul_le_mul_of_nonneg_right (by omega) (by omega)
    have a3 : Nt.val zb * 2 ^ (32 - L) < 2 ^ L * 4294967296 ^ (m + 1) * 2 ^ (32 - L) := Int.mul_lt_mul_of_pos_right (by omega) hT
    have a4 : (2 : Int) ^ L * 4294967296 ^ (m + 1) * 2 ^ (32 - L) = 4294967296 ^ (m + 2) := by
      rw [show m + 2 = m + 1 + 1 from rfl, Nt.pw_succ, ← hp]; grind
    rw [hv]; omega
  have l1 := (Nt.can_len cv (m + 2)).1 hi
  have l2 : ¬ zv.length ≤ m + 1 := fun c => by
    have := (Nt.can_len cv (m + 1)).2 c
    omega
  have hl : zv.length = m + 2 := by omega
  refine ⟨hl, ?_⟩
  have e2 : Nt.val zv = Nt.vp zv (m + 1) + zv.getD (m + 1) 0 * 4294967296 ^ (m + 1) := by unfold Nt.val; rw [hl, Nt.vp_step]
  have b2 := Nt.vp_bd cv.1 (m + 1)
  by_cases c : 2147483648 ≤ zv.getD (m + 1) 0
  · exact c
  · exfalso
    have : (zv.getD (m + 1) 0 + 1) * 4294967296 ^ (m + 1) ≤ 2147483648 * 4294967296 ^ (m + 1) := Int.mul_le_mul_of_nonneg_right (by omega) (by omega)
    rw [Int.add_mul] at this
    omega
/-- The last step of a division. -/
theorem div_back {a b Q U T : Int} (hT : 0 < T) (hU : 0 ≤ U) (h : a * T = Q * (b * T) + U) (hlt : U < b * T) : a = Q * b + U / T ∧ 0 ≤ U / T ∧ U / T < b := by
  have e : U = T * (a - Q * b) := by grind
  have e2 : U / T = a - Q * b := by rw [e, Int.mul_ediv_cancel_left _ (by omega)]
  refine ⟨by omega, Int.ediv_nonneg hU (by omega), ?_⟩
  exact Int.ediv_lt_of_lt_mul hT hlt
end Go.Proofs.Ytcjmamlffbhnlaa
