import Derived.Test.YtiamdmfhkhlppaaDoorXD
namespace Go.Proofs.YtiamdmfhkhlppaaDoor
open Go.RowKit Go.Wd Go.Box
set_option linter.unusedVariables false
set_option maxRecDepth 3000
theorem rBound_long (n : Bool) (a : Option Addr) (c k : Nat) (ex : Int) (hk : (4096 : Int) < (k : Int)) (w : World) :
    Calls Tryd.prog 79 #[dV n a k c ex] w fun e w' => e = .returned (.tuple #[noD, .int .i64 3]) ∧ Below w.heap.size w w' := by
  have B1 := ((Bx.nil w).push (DO n a k c ex)).push (DO false none 0 0 0)
  go_enter Tryd.func79, Tryd.ntmps79
  go_wp2
  refine bodyPost_ret (results_D2 rfl _ _ (w.heap.size + 1) _ rfl ⟨by simpa using B1.head, rfl⟩) rfl ?_
  exact ⟨rfl, B1.bel⟩
theorem rBound_low (n : Bool) (a : Option Addr) (c k : Nat) (ex : Int) (hk : (k : Int) ≤ 4096) (hx : ex < -16777216) (w : World) :
    Calls Tryd.prog 79 #[dV n a k c ex] w fun e w' => e = .returned (.tuple #[noD, .int .i64 20]) ∧ Below w.heap.size w w' := by
  have B1 := ((Bx.nil w).push (DO n a k c ex)).push (DO false none 0 0 0)
  go_enter Tryd.func79, Tryd.ntmps79
  go_wp2
  refine bodyPost_ret (results_D2 rfl _ _ (w.heap.size + 1) _ rfl ⟨by simpa using B1.head, rfl⟩) rfl ?_
  exact ⟨rfl, B1.bel⟩
theorem rBound_high (n : Bool) (a : Option Addr) (c k : Nat) (ex : Int) (hk : (k : Int) ≤ 4096) (hx : 16777216 < ex) (w : World) :
    Calls Tryd.prog 79 #[dV n a k c ex] w fun e w' => e = .returned (.tuple #[noD, .int .i64 20]) ∧ Below w.heap.size w w' := by
  have B1 := ((Bx.nil w).push (DO n a k c ex)).push (DO false none 0 0 0)
  have hx2 : -16777216 ≤ ex := by omega
  go_enter Tryd.func79, Tryd.ntmps79
  go_wp2
  refine bodyPost_ret (results_D2 rfl _ _ (w.heap.size + 1) _ rfl ⟨by simpa using B1.head, rfl⟩) rfl ?_
  exact ⟨rfl, B1.bel⟩
theorem rBound (n : Bool) (a : Option Addr) (c k : Nat) (ex : Int) (hk : (k : Int) ≤ 4096) (hx : -16777216 ≤ ex) (hx2 : ex ≤ 16777216) (w : World) :
    Calls Tryd.prog 79 #[dV n a k c ex] w fun e w' => e = .returned (.tuple #[dV n a k c ex, .int .i64 0]) ∧ Below w.heap.size w w' := by
  have B1 := ((Bx.nil w).push (DO n a k c ex)).push (DO n a k c ex)
  go_enter Tryd.func79, Tryd.ntmps79
  go_wp2
  refine bodyPost_ret (results_D2 rfl _ _ (w.heap.size + 1) _ rfl ⟨by simpa using B1.head, rfl⟩) rfl ?_
  exact ⟨rfl, B1.bel⟩
/-- A call's answer of an exact number is the bound's. -/
theorem bound_call (n1 n2 n3 : Bool) (a1 a2 a3 : Option Addr) (k1 c1 k2 c2 k3 c3 : Nat) (e1 e2 e3 code : Int) (w : World)
    (HB : ∀ W, Calls Tryd.prog 79 #[dV n2 a2 k2 c2 e2] W fun e w' => e = .returned (.tuple #[dV n3 a3 k3 c3 e3, .int .i64 code]) ∧ Below W.heap.size W w')
    (HS : ∀ W, Below w.heap.size w W → Calls Tryd.prog 28 #[dV n1 a1 k1 c1 e1, dV n3 a3 k3 c3 e3] W fun e w' => e = .returned (.bool true) ∧ Below W.heap.size W w') :
    Calls Tryd.prog 39 #[dV n1 a1 k1 c1 e1, .int .i64 code, dV n2 a2 k2 c2 e2] w fun e w' => e = .returned (.bool true) ∧ Below w.heap.size w w' := by
  have B1 := ((Bx.nil w).push (DO n1 a1 k1 c1 e1)).push (DO n2 a2 k2 c2 e2)
  have d1 : (code == code) = true := by simp
  have H1 := fun W => Hide.mk (HB W)
  have H2 := fun W h => Hide.mk (HS W h)
  clear HB HS
  go_enter Tryd.func39, Tryd.ntmps39
  go_wp2_with fail
  rw [show (w.alloc (DO n1 a1 k1 c1 e1)).heap.size = w.heap.size + 1 by simp] at B1
  generalize hw1 : (w.alloc (DO n1 a1 k1 c1 e1)).alloc (DO n2 a2 k2 c2 e2) = w1 at *
  clear hw1
  refine (H1 _).out.mono ?_
  rintro e w2 ⟨rfl, h2⟩
  have B2 := B1.keep h2
  have hlt : w.heap.size < w2.heap.size := B2.lt (.tail _ (.head _))
  have B3 := B2.push (DO n3 a3 k3 c3 e3)
  obtain ⟨⟨s0, s1, s2⟩, _⟩ := cells3 B2 w.heap.size _ _ _ _ (.tail _ (.head _))
  have H3 := H2 _ B3.bel
  clear h2 B1 H1 H2
  go_wp2_with fail
  refine H3.out.mono ?_
  rintro e w4 ⟨rfl, h4⟩
  have B4 := B3.keep h4
  clear h4 H3 B3 B2 s0 s1 s2
  go_wp2
  go_ret
  exact ⟨rfl, B4.bel⟩
end Go.Proofs.YtiamdmfhkhlppaaDoor
