import Derived.Test.YtiamdmfhkhlppaaDoorWI
namespace Go.Proofs.YtiamdmfhkhlppaaDoor
open Go.RowKit Go.Wd Go.Box
set_option linter.unusedVariables false
set_option maxRecDepth 3000
theorem sgn_dv {n : Bool} {zs : List Int} {ex : Int} (g : DG n zs ex) (hz : 0 < zs.length) : ∃ s, sgn (dv n zs ex) 0 = s ∧ (s == 0) = false := by
  refine ⟨_, rfl, ?_⟩
  have hp := g.pos hz
  have hq := pK_pos ex
  have h0 : 0 < Nt.val zs * pK ex := Int.mul_pos hp hq
  unfold dv
  cases n
  · rw [sv_f]
    generalize Nt.val zs * pK ex = X at *
    unfold sgn
    first | (simp; omega) | (split <;> first | rfl | omega)
  · rw [sv_t, Int.neg_mul]
    generalize Nt.val zs * pK ex = X at *
    unfold sgn
    first | (simp; omega) | (split <;> first | rfl | omega)
end Go.Proofs.YtiamdmfhkhlppaaDoor
