import Derived.Test.YtiamdmfhkhlppaaDoorXL
namespace Go.Proofs.YtiamdmfhkhlppaaDoor
open Go.RowKit Go.Wd Go.Box
set_option linter.unusedVariables false
set_option maxRecDepth 3000
theorem wv_pos {b : Bool} {x : Int} (h : Ok b x) (c : ¬ sg b ≤ x) : wv b x = vz b x ∧ 0 ≤ x := by
  rw [wv_vz, show ng b x = false from decide_eq_false c, sv_f, sz_pos h c]
  exact ⟨rfl, h.1⟩
theorem wv_neg {b : Bool} {x : Int} (h : Ok b x) (c : sg b ≤ x) : wv b x = -vz b (x - sg b) ∧ 0 ≤ x - sg b := by
  rw [wv_vz, show ng b x = true from decide_eq_true c, sv_t, sz_neg h c]
  exact ⟨rfl, by omega⟩
/-- What is true of a step up between finite words. -/
structure NextUp (b : Bool) (x : Int) : Prop where
  ok : Ok b (up b x)
  rise : wv b (up b x) = wv b x + pK (ue b x) ∨ wv b (up b x) = wv b x + pK (ue b (up b x))
  none : ∀ z, Ok b z → wv b z ≤ wv b x ∨ wv b (up b x) ≤ wv b z
  fin : fl b (up b x) ≠ inf b
  back : wv b (fl b (up b (fl b (up b x)))) = wv b x
  okb : Ok b (fl b (up b (fl b (up b x))))
  finb : sz b (fl b (up b (fl b (up b x)))) < inf b
theorem next_up {b : Bool} {x : Int} (h : Ok b x) (hf : sz b x < inf b) : NextUp b x := by
  have h1 := sg_one b
  have hi := inf_lt b
  have hp := inf_bd b
  have ho := up_ok b h
  have hx0 := h.1
  have hx1 := h.2
  have okz : Ok b 0 := ⟨by omega, by omega⟩
  have ok1 : Ok b 1 := ⟨by omega, by omega⟩
  have sz0 : sz b 0 = 0 := by cases b <;> rfl
  have hi1 : 1 < inf b := by cases b <;> decide
  by_cases c1 : sz b x = 0
  · have e1 : up b x = 1 := by unfold up; rw [if_pos c1]
    have v0 : wv b x = 0 := by
      rw [wv_vz, c1, vz_zero]; cases ng b x <;> rfl
    have v1 := wv_pos ok1 (show ¬ sg b ≤ 1 by omega)
    have st := vz_step b 0 (Int.le_refl 0)
    rw [vz_zero] at st
    have hue : ue b x = es b 0 := by rw [ue_es, c1]
    have f1 : fl b 1 = 1 + sg b := by unfold fl; rw [if_neg (by omega)]
    have ok2 : Ok b (1 + sg b) := ⟨by omega, by omega⟩
    have s2 : sz b (1 + sg b) = 1 := by rw [sz_neg ok2 (by omega)]; omega
    have u2 : up b (1 + sg b) = sg b := by unfold up; rw [if_neg (by omega), if_pos (by omega)]; omega
    have f3 : fl b (sg b) = 0 := by unfold fl; rw [if_pos (by omega)]; omega
    have vz0 : wv b 0 = 0 := by rw [(wv_pos okz (by omega)).1, vz_zero]
    refine ⟨ho, .inl ?_, ?_, ?_, ?_, ?_, ?_⟩
    · rw [e1, v1.1, v0, hue]; simpa using st
    · intro z hz
      rw [e1, v1.1, v0]
      by_cases c : sg b ≤ z
      · have := wv_neg hz c
        have := vz_nonneg b this.2
        exact .inl (by omega)
      · have k := wv_pos hz c
        by_cases d : z = 0
        · subst d; exact .inl (by omega)
        · exact .inr (by rw [k.1]; exact vz_mono b (by omega) (by omega))
    · rw [e1, f1]; omega
    · rw [e1, f1, u2, f3, vz0, v0]
    · rw [e1, f1, u2, f3]; exact okz
    · rw [e1, f1, u2, f3, sz0]; omega
  · by_cases c2 : sg b ≤ x
    · have e1 : up b x = x - 1 := by unfold up; rw [if_neg c1, if_pos c2]
      have hs := sz_neg h c2
      rw [hs] at c1 hf
      have okm : Ok b (x - 1) := ⟨by omega, by omega⟩
      have v0 := wv_neg h c2
      have v1 := wv_neg okm (show sg b ≤ x - 1 by omega)
      have st := vz_step b (x - 1 - sg b) (by omega)
      rw [show x - 1 - sg b + 1 = x - sg b by omega] at st
      have hue : ue b (x - 1) = es b (x - 1 - sg b) := by rw [ue_es, sz_neg okm (by omega)]
      have f1 : fl b (x - 1) = x - 1 - sg b := by unfold fl; rw [if_pos (by omega)]
      have ok2 : Ok b (x - 1 - sg b) := ⟨by omega, by omega⟩
      have s2 : sz b (x - 1 - sg b) = x - 1 - sg b := sz_pos ok2 (by omega)
      have u2 : up b (x - 1 - sg b) = x - sg b := by
        unfold up
        by_cases d : x - 1 - sg b = 0
        · rw [if_pos (by omega)]; omega
        · rw [if_neg (by omega), if_neg (by omega)]; omega
      have f3 : fl b (x - sg b) = x := by unfold fl; rw [if_neg (by omega)]; omega
      refine ⟨ho, .inr ?_, ?_, ?_, ?_, ?_, ?_⟩
      · rw [e1, v1.1, v0.1, hue]; omega
      · intro z hz
        rw [e1, v1.1, v0.1]
        by_cases c : sg b ≤ z
        · have k := wv_neg hz c
          rw [k.1]
          by_cases d : x ≤ z
          · have := vz_mono b (s := x - sg b) (t := z - sg b) (by omega) (by omega)
            exact .inl (by omega)
          · have := vz_mono b (s := z - sg b) (t := x - 1 - sg b) (by omega) (by omega)
            exact .inr (by omega)
        · have k := wv_pos hz c
          have := vz_nonneg b k.2
          have := vz_nonneg b v1.2
          exact .inr (by omega)
      · rw [e1, f1]; omega
      · rw [e1, f1, u2, f3]
      · rw [e1, f1, u2, f3]; exact h
      · rw [e1, f1, u2, f3, hs]; exact hf
    · have e1 : up b x = x + 1 := by unfold up; rw [if_neg c1, if_neg c2]
      have hs := sz_pos h c2
      rw [hs] at c1 hf
      have okm : Ok b (x + 1) := ⟨by omega, by omega⟩
      have v0 := wv_pos h c2
      have v1 := wv_pos okm (show ¬ sg b ≤ x + 1 by omega)
      have st := vz_step b x h.1
      have hue : ue b x = es b x := by rw [ue_es, hs]
      have f1 : fl b (x + 1) = x + 1 + sg b := by unfold fl; rw [if_neg (by omega)]
      have ok2 : Ok b (x + 1 + sg b) := ⟨by omega, by omega⟩
      have s2 : sz b (x + 1 + sg b) = x + 1 := by rw [sz_neg ok2 (by omega)]; omega
      have u2 : up b (x + 1 + sg b) = x + sg b := by
        unfold up
        rw [if_neg (by omega), if_pos (by omega)]; omega
      have f3 : fl b (x + sg b) = x := by unfold fl; rw [if_pos (by omega)]; omega
      refine ⟨ho, .inl ?_, ?_, ?_, ?_, ?_, ?_⟩
      · rw [e1, v1.1, v0.1, hue]; exact st
      · intro z hz
        rw [e1, v1.1, v0.1]
        by_cases c : sg b ≤ z
        · have k := wv_neg hz c
          have := vz_nonneg b k.2
          have := vz_nonneg b v0.2
          exact .inl (by omega)
        · have k := wv_pos hz c
          rw [k.1]
          by_cases d : z ≤ x
          · exact .inl (vz_mono b k.2 d)
          · exact .inr (vz_mono b (by omega) (by omega))
      · rw [e1, f1]; omega
      · rw [e1, f1, u2, f3]
      · rw [e1, f1, u2, f3]; exact h
      · rw [e1, f1, u2, f3, hs]; exact hf
end Go.Proofs.YtiamdmfhkhlppaaDoor
