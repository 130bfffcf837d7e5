import Derived.Test.YtiamdmfhkhlppaaDoorXK
import Derived.Test.YtiamdmfhkhlppaaDoorWK
namespace Go.Proofs.YtiamdmfhkhlppaaDoor
open Go.RowKit Go.Wd Go.Box
set_option linter.unusedVariables false
set_option maxRecDepth 3000
/-- Units, unit and value of a size. -/
def us (b : Bool) (s : Int) : Int := if s / fr b = 0 then s % fr b else fr b + s % fr b
def es (b : Bool) (s : Int) : Int := max (s / fr b - 1) 0 + lo b
def vz (b : Bool) (s : Int) : Int := us b s * pK (es b s)
theorem fn_sz (b : Bool) (x : Int) : sz b x % fr b = fn b x := by
  cases b <;> simp only [sz, fn, sg, fr] <;> omega
theorem un_us (b : Bool) (x : Int) : un b x = us b (sz b x) := by
  unfold un us
  rw [fn_sz]
  rfl
theorem ue_es (b : Bool) (x : Int) : ue b x = es b (sz b x) := rfl
theorem wv_vz (b : Bool) (x : Int) : wv b x = sv (ng b x) (vz b (sz b x)) := by
  unfold wv vz
  rw [un_us, ue_es]
  cases ng b x
  · rfl
  · rw [sv_t, sv_t, Int.neg_mul]
theorem pK_two {e : Int} (h : -(KK : Int) ≤ e) : pK (e + 1) = 2 * pK e := by
  unfold pK
  rw [show (e + 1 + (KK : Int)).toNat = (e + KK).toNat + 1 by omega, p2succ]
theorem es_lo (b : Bool) (s : Int) : lo b ≤ es b s := by unfold es; omega
theorem vz_step (b : Bool) (s : Int) (h : 0 ≤ s) : vz b (s + 1) = vz b s + pK (es b s) := by
  have hf := fr_pos b
  have hlo := lo_bd b
  have hK := KK_eq
  have hq := Int.emod_add_mul_ediv s (fr b)
  have hr1 := Int.emod_nonneg s (show fr b ≠ 0 by omega)
  have hr2 := Int.emod_lt_of_pos s hf
  have hq0 : 0 ≤ s / fr b := Int.ediv_nonneg h (by omega)
  by_cases c : s % fr b + 1 < fr b
  · have e1 : (s + 1) / fr b = s / fr b := by
      have : s + 1 = (s % fr b + 1) + fr b * (s / fr b) := by omega
      rw [this, Int.add_mul_ediv_left _ _ (by omega), Int.ediv_eq_zero_of_lt (by omega) c, Int.zero_add]
    have e2 : (s + 1) % fr b = s % fr b + 1 := by
      have : s + 1 = (s % fr b + 1) + fr b * (s / fr b) := by omega
      rw [this, Int.add_mul_emod_self_left, Int.emod_eq_of_lt (by omega) c]
    have e3 : es b (s + 1) = es b s := by unfold es; rw [e1]
    have e4 : us b (s + 1) = us b s + 1 := by
      unfold us
      rw [e1, e2]
      by_cases d : s / fr b = 0
      · rw [if_pos d, if_pos d]
      · rw [if_neg d, if_neg d]; omega
    unfold vz
    rw [e3, e4, Int.add_mul, Int.one_mul]
  · have hr : s % fr b = fr b - 1 := by omega
    have hs : s + 1 = 0 + fr b * (s / fr b + 1) := by rw [Int.mul_add]; omega
    have e1 : (s + 1) / fr b = s / fr b + 1 := by
      rw [hs, Int.add_mul_ediv_left _ _ (by omega)]; simp
    have e2 : (s + 1) % fr b = 0 := by
      rw [hs, Int.add_mul_emod_self_left]; simp
    have e4 : us b (s + 1) = fr b := by
      unfold us
      rw [e1, e2, if_neg (by omega)]; omega
    by_cases d : s / fr b = 0
    · have e3 : es b (s + 1) = es b s := by unfold es; rw [e1, d]; omega
      have e5 : us b s = fr b - 1 := by unfold us; rw [if_pos d, hr]
      unfold vz
      rw [e3, e4, e5, Int.sub_mul]; omega
    · have e3 : es b (s + 1) = es b s + 1 := by unfold es; rw [e1]; omega
      have e5 : us b s = fr b + (fr b - 1) := by unfold us; rw [if_neg d, hr]
      have h6 := es_lo b s
      unfold vz
      rw [e3, e4, e5, pK_two (by omega), Int.add_mul, Int.sub_mul, Int.mul_left_comm]; omega
theorem vz_le (b : Bool) (s : Int) (h : 0 ≤ s) (k : Nat) : vz b s ≤ vz b (s + k) := by
  induction k with
  | zero => simp
  | succ k ih =>
    have := vz_step b (s + k) (by omega)
    have hp := pK_pos (es b (s + k))
    rw [show s + ((k + 1 : Nat) : Int) = s + k + 1 by omega]
    omega
theorem vz_mono (b : Bool) {s t : Int} (h : 0 ≤ s) (hst : s ≤ t) : vz b s ≤ vz b t := by
  have := vz_le b s h (t - s).toNat
  rw [show s + ((t - s).toNat : Int) = t by omega] at this
  exact this
theorem vz_zero (b : Bool) : vz b 0 = 0 := by
  unfold vz us
  rw [if_pos (by simp)]
  simp
theorem vz_nonneg (b : Bool) {s : Int} (h : 0 ≤ s) : 0 ≤ vz b s := by
  have := vz_mono b (Int.le_refl 0) h
  rw [vz_zero] at this
  exact this
end Go.Proofs.YtiamdmfhkhlppaaDoor
