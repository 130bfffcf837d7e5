import Derived.Test.YtiamdmfhkhlppaaDoorWB
namespace Go.Proofs.YtiamdmfhkhlppaaDoor
open Go.RowKit Go.Wd Go.Box
set_option linter.unusedVariables false
set_option maxRecDepth 3000
theorem sg_one (b : Bool) : 1 < sg b := by cases b <;> decide
theorem inf_bd (b : Bool) : 0 < inf b := by cases b <;> decide
end Go.Proofs.YtiamdmfhkhlppaaDoor
