import Derived.Test.YtiamdmfhkhlppaaDoorYB
namespace Go.Proofs.YtiamdmfhkhlppaaDoor
open Go.RowKit Go.Wd Go.Box
set_option linter.unusedVariables false
set_option maxRecDepth 3000
theorem sums_long1 (n1 n2 : Bool) (a1 a2 : Option Addr) (c1 c2 k1 k2 : Nat) (e1 e2 : Int) (w : World) (hl1 : (4100 : Int) < (k1 : Int)) (hT : Tab w) :
    Calls Tryd.prog 5 #[dV n1 a1 k1 c1 e1, dV n2 a2 k2 c2 e2] w fun e w' => e = .returned (.bool true) ∧ Below w.heap.size w w' := by
  have BX := ((Bx.nil w).push (DO n1 a1 k1 c1 e1)).push (DO n2 a2 k2 c2 e2)
  go_enter Tryd.func5, Tryd.ntmps5
  go_wp2_with fail
  refine (dknown34 _ (hT.below BX.bel (Nat.le_refl _))).mono ?_
  rintro e w2 ⟨rfl, h2⟩
  replace BX := BX.keep h2
  go_wp2
  go_ret
  exact ⟨rfl, BX.bel⟩
theorem sums_long2 (n1 n2 : Bool) (a1 a2 : Option Addr) (c1 c2 k1 k2 : Nat) (e1 e2 : Int) (w : World) (hl1 : (k1 : Int) ≤ 4100) (hl2 : (4100 : Int) < (k2 : Int)) (hT : Tab w) :
    Calls Tryd.prog 5 #[dV n1 a1 k1 c1 e1, dV n2 a2 k2 c2 e2] w fun e w' => e = .returned (.bool true) ∧ Below w.heap.size w w' := by
  have BX := ((Bx.nil w).push (DO n1 a1 k1 c1 e1)).push (DO n2 a2 k2 c2 e2)
  go_enter Tryd.func5, Tryd.ntmps5
  go_wp2_with fail
  refine (dknown34 _ (hT.below BX.bel (Nat.le_refl _))).mono ?_
  rintro e w2 ⟨rfl, h2⟩
  replace BX := BX.keep h2
  go_wp2
  go_ret
  exact ⟨rfl, BX.bel⟩
theorem sums_long3 (n1 n2 : Bool) (a1 a2 : Option Addr) (c1 c2 k1 k2 : Nat) (e1 e2 : Int) (w : World) (hl1 : (k1 : Int) ≤ 4100) (hl2 : (k2 : Int) ≤ 4100) (hp : (1048576 : Int) < (k1 : Int) * (k2 : Int)) (hp2 : (k1 : Int) * (k2 : Int) ≤ 16810000) (hT : Tab w) :
    Calls Tryd.prog 5 #[dV n1 a1 k1 c1 e1, dV n2 a2 k2 c2 e2] w fun e w' => e = .returned (.bool true) ∧ Below w.heap.size w w' := by
  have BX := ((Bx.nil w).push (DO n1 a1 k1 c1 e1)).push (DO n2 a2 k2 c2 e2)
  go_enter Tryd.func5, Tryd.ntmps5
  go_wp2_with fail
  refine (dknown34 _ (hT.below BX.bel (Nat.le_refl _))).mono ?_
  rintro e w2 ⟨rfl, h2⟩
  replace BX := BX.keep h2
  go_wp2
  go_ret
  exact ⟨rfl, BX.bel⟩
theorem sums_any (n1 n2 : Bool) (a1 a2 : Option Addr) (c1 c2 : Nat) (z1 z2 : List Int) (e1 e2 : Int) (w : World) (u1 : DLie w a1 z1) (u2 : DLie w a2 z2) (hn1 : a1 = none → c1 = 0) (hn2 : a2 = none → c2 = 0) (hT : Tab w) :
    Calls Tryd.prog 5 #[dV n1 a1 z1.length c1 e1, dV n2 a2 z2.length c2 e2] w fun e w' => e = .returned (.bool true) ∧ Below w.heap.size w w' := by
  by_cases h1 : (z1.length : Int) ≤ 4100
  · by_cases h2 : (z2.length : Int) ≤ 4100
    · have hp2 : (z1.length : Int) * (z2.length : Int) ≤ 4100 * 4100 := Int.mul_le_mul h1 h2 (by omega) (by omega)
      have hp0 : 0 ≤ (z1.length : Int) * (z2.length : Int) := Int.mul_nonneg (by omega) (by omega)
      by_cases h3 : (z1.length : Int) * (z2.length : Int) ≤ 1048576
      · exact sums_all n1 n2 a1 a2 c1 c2 z1 z2 e1 e2 w u1 u2 h1 h2 h3 hp0 (by omega) (by omega) hn1 hn2 hT
      · exact sums_long3 n1 n2 a1 a2 c1 c2 z1.length z2.length e1 e2 w h1 h2 (by omega) (by omega) hT
    · exact sums_long2 n1 n2 a1 a2 c1 c2 z1.length z2.length e1 e2 w h1 (by omega) hT
  · exact sums_long1 n1 n2 a1 a2 c1 c2 z1.length z2.length e1 e2 w (by omega) hT
end Go.Proofs.YtiamdmfhkhlppaaDoor
