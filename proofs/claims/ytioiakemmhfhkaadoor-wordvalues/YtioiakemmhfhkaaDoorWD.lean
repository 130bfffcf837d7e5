import Derived.Test.YtioiakemmhfhkaaDoorWB
namespace Go.Proofs.YtioiakemmhfhkaaDoor
open Go.RowKit Go.Wd Go.Box
set_option linter.unusedVariables false
set_option maxRecDepth 3000
theorem sg_one (b : Bool) : 1 < sg b := by cases b <;> decide
theorem inf_bd (b : Bool) : 0 < inf b := by cases b <;> decide
theorem wZero (b n : Bool) (w : World) :
    Calls Tryd.prog 94 #[.int .u8 (fm b), .bool n] w fun e w' => e = .returned (.tuple #[.int .u64 (sd b 0 n), .int .i64 0]) ∧ Below w.heap.size w w' := by
  go_enter Tryd.func94, Tryd.ntmps94
  go_wp2_with fail
  refine (wShapeOf b _).mono ?_
  rintro e w2 ⟨rfl, h2⟩
  have B2 := ((Bx.nil w).keep h2).push (SO b)
  clear h2
  go_wp2_with fail
  refine (wSigned b 0 n (by decide) (sg_pos b) _).mono ?_
  rintro e w3 ⟨rfl, h3⟩
  have B3 := B2.keep h3
  clear h3 B2
  go_wp2
  go_ret2
  exact ⟨rfl, B3.bel⟩
end Go.Proofs.YtioiakemmhfhkaaDoor
