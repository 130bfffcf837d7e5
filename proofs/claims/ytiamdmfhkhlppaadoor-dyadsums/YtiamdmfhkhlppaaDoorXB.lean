import Derived.Test.YtiamdmfhkhlppaaDoorXA
namespace Go.Proofs.YtiamdmfhkhlppaaDoor
open Go.RowKit Go.Wd Go.Box
set_option linter.unusedVariables false
set_option maxRecDepth 3000
theorem rNegX (n : Bool) (a : Option Addr) (c k : Nat) (ex : Int) (hk : 0 < k) (w : World) :
    Calls Tryd.prog 29 #[dV n a k c ex] w fun e w' => e = .returned (dV (!n) a k c ex) ∧ Below w.heap.size w w' := by
  have B1 := ((Bx.nil w).push (DO (!n) a k c ex)).push (DO (!n) a k c ex)
  have hk2 : (0 : Int) < (k : Int) := by omega
  go_enter Tryd.func29, Tryd.ntmps29
  go_wp2
  refine bodyPost_ret (results_D1 rfl _ _ (w.heap.size + 1) _ rfl ⟨by simpa using B1.head, rfl⟩) rfl ?_
  exact ⟨rfl, B1.bel⟩
theorem rNegZ (a : Option Addr) (c : Nat) (ex : Int) (n : Bool) (w : World) :
    Calls Tryd.prog 29 #[dV n a 0 c ex] w fun e w' => e = .returned (dV n a 0 c ex) ∧ Below w.heap.size w w' := by
  have B1 := ((Bx.nil w).push (DO n a 0 c ex)).push (DO n a 0 c ex)
  go_enter Tryd.func29, Tryd.ntmps29
  go_wp2
  refine bodyPost_ret (results_D1 rfl _ _ (w.heap.size + 1) _ rfl ⟨by simpa using B1.head, rfl⟩) rfl ?_
  exact ⟨rfl, B1.bel⟩
end Go.Proofs.YtiamdmfhkhlppaaDoor
