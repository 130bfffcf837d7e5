import Derived.Test.YtioiakemmhfhkaaRows
import Derived.WalkKit
import Derived.WalkSpells
import Derived.WalkLawsBesides
import Derived.Test.YtioiakemmhfhkaaBox
import Derived.Test.YtioiakemmhfhkaaWdMath
namespace Go.Proofs.Ytioiakemmhfhkaa
open Go.RowKit
set_option linter.unusedVariables false
/-- A fact kept from the walk. -/
structure Hide (p : Prop) : Prop where
  out : p
theorem below_alloc (w : World) (o : Obj) : Below w.heap.size w (w.alloc o) := (Below.refl _ w).alloc (Nat.le_refl _) o
theorem below_then {w w1 w2 : World} (h : Below w.heap.size w w1) (k : Below w1.heap.size w1 w2) : Below w.heap.size w w2 := h.trans (k.mono h.size)
theorem wrap_ok {x : Int} (h0 : -9223372036854775808 ≤ x) (h1 : x ≤ 9223372036854775807) : IntKind.i64.wrap x = x := by
  rw [IntKind.wrap_i64]; omega
end Go.Proofs.Ytioiakemmhfhkaa
