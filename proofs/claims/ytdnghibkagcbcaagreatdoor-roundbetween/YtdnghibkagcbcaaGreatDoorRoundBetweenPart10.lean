import Derived.Test.YtdnghibkagcbcaaGreatDoorRoundBetweenPart9
import Derived.Test.YtdnghibkagcbcaaGreatDoorRoundBetweenPart8
namespace Go.Proofs.YtdnghibkagcbcaaGreatDoor
open Go.RowKit Go.Wd Go.Box
set_option linter.unusedVariables false
set_option maxRecDepth 3000
theorem rSgnAny (n : Bool) (a : Option Addr) (c k : Nat) (ex s : Int) (hs : (k = 0 ∧ s = 0) ∨ (0 < k ∧ n = false ∧ s = 1) ∨ (0 < k ∧ n = true ∧ s = -1)) (w : World) :
    Calls Tryz.prog 23 #[dV n a k c ex] w fun e w' => e = .returned (.int .i64 s) ∧ Below w.heap.size w w' := by
  rcases hs with ⟨rfl, rfl⟩ | ⟨hk, rfl, rfl⟩ | ⟨hk, rfl, rfl⟩
  · go_enter Tryz.func23, Tryz.ntmps23
    go_wp2
    go_ret
    exact ⟨rfl, below_alloc _ _⟩
  · have hne : ((k : Int) == 0) = false := beq_eq_false_iff_ne.2 (by omega)
    go_enter Tryz.func23, Tryz.ntmps23
    go_wp2
    go_ret
    exact ⟨rfl, below_alloc _ _⟩
  · have hne : ((k : Int) == 0) = false := beq_eq_false_iff_ne.2 (by omega)
    go_enter Tryz.func23, Tryz.ntmps23
    go_wp2
    go_ret
    exact ⟨rfl, below_alloc _ _⟩
/-- The sign of a number, as Sign tells it. -/
def SgnOf (n : Bool) (k : Nat) (s : Int) : Prop := (k = 0 ∧ s = 0) ∨ (0 < k ∧ n = false ∧ s = 1) ∨ (0 < k ∧ n = true ∧ s = -1)
set_option maxHeartbeats 1000000 in
theorem cmpX_less (n1 n2 : Bool) (a1 a2 : Option Addr) (c1 c2 : Nat) (z1 z2 : List Int) (e1 e2 : Int) (w : World) (s t : Int) (h1 : SgnOf n1 z1.length s) (h2 : SgnOf n2 z2.length t) (hs : s < t) :
    Calls Tryz.prog 38 #[dV n1 a1 z1.length c1 e1, dV n2 a2 z2.length c2 e2] w fun e w' => e = .returned (.int .i64 (-1)) ∧ Below w.heap.size w w' := by
  have d1 : (s == t) = false := beq_eq_false_iff_ne.2 (by omega)
  have B1 := ((Bx.nil w).push (DO n1 a1 z1.length c1 e1)).push (DO n2 a2 z2.length c2 e2)
  go_enter Tryz.func38, Tryz.ntmps38
  go_wp2_with fail
  rw [show (w.alloc (DO n1 a1 z1.length c1 e1)).heap.size = w.heap.size + 1 by simp] at B1
  generalize hw1 : (w.alloc (DO n1 a1 z1.length c1 e1)).alloc (DO n2 a2 z2.length c2 e2) = w1 at *
  clear hw1
  have HI := B1.drew
  have sh := fun W (hW : Bx w [(w.heap.size + 1, DO n2 a2 z2.length c2 e2), (w.heap.size, DO n1 a1 z1.length c1 e1)] W) => And.intro (cells3 hW (w.heap.size + 1) _ _ _ _ (.head _)).1 (cells3 hW w.heap.size _ _ _ _ (.tail _ (.head _))).1
  refine Drawn.enter (Bx w [(w.heap.size + 1, DO n2 a2 z2.length c2 e2), (w.heap.size, DO n1 a1 z1.length c1 e1)]) (by kernel_rfl) ?_
  refine Drawn.tk (i := 0) (v := ?v196) rfl (fun W hW => ?_) HI ?_
  rotate_left
  · have ⟨⟨s0, s1, s2⟩, q0, q3, q4⟩ := sh W hW
    go_simp <;> exact rfl
  refine Drawn.tk (i := 2) (v := ?v197) rfl (fun W hW => ?_) HI ?_
  rotate_left
  · have ⟨⟨s0, s1, s2⟩, q0, q3, q4⟩ := sh W hW
    go_simp <;> exact rfl
  refine Drawn.one (j := 1) (by kernel_rfl) rfl (fun K hK => ?_)
  go_simp
  refine (rSgnAny n1 a1 c1 z1.length e1 s h1 _).mono ?_
  rintro e wn ⟨rfl, hn⟩
  refine hK _ _ (HI.keep hn) ?_
  clear hK K
  replace HI := HI.keep hn
  clear hn
  refine Drawn.one (j := 3) (by kernel_rfl) rfl (fun K hK => ?_)
  go_simp
  refine (rSgnAny n2 a2 c2 z2.length e2 t h2 _).mono ?_
  rintro e wn ⟨rfl, hn⟩
  refine hK _ _ (HI.keep hn) ?_
  clear hK K
  replace HI := HI.keep hn
  clear hn
  refine Drawn.tk (i := 4) (v := ?v198) rfl (fun W hW => ?_) HI ?_
  rotate_left
  · have ⟨⟨s0, s1, s2⟩, q0, q3, q4⟩ := sh W hW
    go_simp <;> exact rfl
  refine Drawn.tk (i := 5) (v := ?v199) rfl (fun W hW => ?_) HI ?_
  rotate_left
  · have ⟨⟨s0, s1, s2⟩, q0, q3, q4⟩ := sh W hW
    go_simp <;> exact rfl
  refine Drawn.done (by kernel_rfl) ?_
  try go_simp
  clear sh h1 h2
  go_wp2
  go_ret
  exact ⟨rfl, HI.bel⟩
set_option maxHeartbeats 1000000 in
theorem cmpX_more (n1 n2 : Bool) (a1 a2 : Option Addr) (c1 c2 : Nat) (z1 z2 : List Int) (e1 e2 : Int) (w : World) (s t : Int) (h1 : SgnOf n1 z1.length s) (h2 : SgnOf n2 z2.length t) (hs : t < s) :
    Calls Tryz.prog 38 #[dV n1 a1 z1.length c1 e1, dV n2 a2 z2.length c2 e2] w fun e w' => e = .returned (.int .i64 (1)) ∧ Below w.heap.size w w' := by
  have d1 : (s == t) = false := beq_eq_false_iff_ne.2 (by omega)
  have B1 := ((Bx.nil w).push (DO n1 a1 z1.length c1 e1)).push (DO n2 a2 z2.length c2 e2)
  go_enter Tryz.func38, Tryz.ntmps38
  go_wp2_with fail
  rw [show (w.alloc (DO n1 a1 z1.length c1 e1)).heap.size = w.heap.size + 1 by simp] at B1
  generalize hw1 : (w.alloc (DO n1 a1 z1.length c1 e1)).alloc (DO n2 a2 z2.length c2 e2) = w1 at *
  clear hw1
  have HI := B1.drew
  have sh := fun W (hW : Bx w [(w.heap.size + 1, DO n2 a2 z2.length c2 e2), (w.heap.size, DO n1 a1 z1.length c1 e1)] W) => And.intro (cells3 hW (w.heap.size + 1) _ _ _ _ (.head _)).1 (cells3 hW w.heap.size _ _ _ _ (.tail _ (.head _))).1
  refine Drawn.enter (Bx w [(w.heap.size + 1, DO n2 a2 z2.length c2 e2), (w.heap.size, DO n1 a1 z1.length c1 e1)]) (by kernel_rfl) ?_
  refine Drawn.tk (i := 0) (v := ?v200) rfl (fun W hW => ?_) HI ?_
  rotate_left
  · have ⟨⟨s0, s1, s2⟩, q0, q3, q4⟩ := sh W hW
    go_simp <;> exact rfl
  refine Drawn.tk (i := 2) (v := ?v201) rfl (fun W hW => ?_) HI ?_
  rotate_left
  · have ⟨⟨s0, s1, s2⟩, q0, q3, q4⟩ := sh W hW
    go_simp <;> exact rfl
  refine Drawn.one (j := 1) (by kernel_rfl) rfl (fun K hK => ?_)
  go_simp
  refine (rSgnAny n1 a1 c1 z1.length e1 s h1 _).mono ?_
  rintro e wn ⟨rfl, hn⟩
  refine hK _ _ (HI.keep hn) ?_
  clear hK K
  replace HI := HI.keep hn
  clear hn
  refine Drawn.one (j := 3) (by kernel_rfl) rfl (fun K hK => ?_)
  go_simp
  refine (rSgnAny n2 a2 c2 z2.length e2 t h2 _).mono ?_
  rintro e wn ⟨rfl, hn⟩
  refine hK _ _ (HI.keep hn) ?_
  clear hK K
  replace HI := HI.keep hn
  clear hn
  refine Drawn.tk (i := 4) (v := ?v202) rfl (fun W hW => ?_) HI ?_
  rotate_left
  · have ⟨⟨s0, s1, s2⟩, q0, q3, q4⟩ := sh W hW
    go_simp <;> exact rfl
  refine Drawn.tk (i := 5) (v := ?v203) rfl (fun W hW => ?_) HI ?_
  rotate_left
  · have ⟨⟨s0, s1, s2⟩, q0, q3, q4⟩ := sh W hW
    go_simp <;> exact rfl
  refine Drawn.done (by kernel_rfl) ?_
  try go_simp
  clear sh h1 h2
  go_wp2
  go_ret
  exact ⟨rfl, HI.bel⟩
theorem cmpX_zero (n1 n2 : Bool) (a1 a2 : Option Addr) (c1 c2 : Nat) (z1 z2 : List Int) (e1 e2 : Int) (w : World) (h1 : SgnOf n1 z1.length 0) (h2 : SgnOf n2 z2.length 0) :
    Calls Tryz.prog 38 #[dV n1 a1 z1.length c1 e1, dV n2 a2 z2.length c2 e2] w fun e w' => e = .returned (.int .i64 0) ∧ Below w.heap.size w w' := by
  have B1 := ((Bx.nil w).push (DO n1 a1 z1.length c1 e1)).push (DO n2 a2 z2.length c2 e2)
  go_enter Tryz.func38, Tryz.ntmps38
  go_wp2_with fail
  rw [show (w.alloc (DO n1 a1 z1.length c1 e1)).heap.size = w.heap.size + 1 by simp] at B1
  generalize hw1 : (w.alloc (DO n1 a1 z1.length c1 e1)).alloc (DO n2 a2 z2.length c2 e2) = w1 at *
  clear hw1
  have HI := B1.drew
  have sh := fun W (hW : Bx w [(w.heap.size + 1, DO n2 a2 z2.length c2 e2), (w.heap.size, DO n1 a1 z1.length c1 e1)] W) => And.intro (cells3 hW (w.heap.size + 1) _ _ _ _ (.head _)).1 (cells3 hW w.heap.size _ _ _ _ (.tail _ (.head _))).1
  refine Drawn.enter (Bx w [(w.heap.size + 1, DO n2 a2 z2.length c2 e2), (w.heap.size, DO n1 a1 z1.length c1 e1)]) (by kernel_rfl) ?_
  refine Drawn.tk (i := 0) (v := ?v204) rfl (fun W hW => ?_) HI ?_
  rotate_left
  · have ⟨⟨s0, s1, s2⟩, q0, q3, q4⟩ := sh W hW
    go_simp <;> exact rfl
  refine Drawn.tk (i := 2) (v := ?v205) rfl (fun W hW => ?_) HI ?_
  rotate_left
  · have ⟨⟨s0, s1, s2⟩, q0, q3, q4⟩ := sh W hW
    go_simp <;> exact rfl
  refine Drawn.one (j := 1) (by kernel_rfl) rfl (fun K hK => ?_)
  go_simp
  refine (rSgnAny n1 a1 c1 z1.length e1 0 h1 _).mono ?_
  rintro e wn ⟨rfl, hn⟩
  refine hK _ _ (HI.keep hn) ?_
  clear hK K
  replace HI := HI.keep hn
  clear hn
  refine Drawn.one (j := 3) (by kernel_rfl) rfl (fun K hK => ?_)
  go_simp
  refine (rSgnAny n2 a2 c2 z2.length e2 0 h2 _).mono ?_
  rintro e wn ⟨rfl, hn⟩
  refine hK _ _ (HI.keep hn) ?_
  clear hK K
  replace HI := HI.keep hn
  clear hn
  refine Drawn.tk (i := 4) (v := ?v206) rfl (fun W hW => ?_) HI ?_
  rotate_left
  · have ⟨⟨s0, s1, s2⟩, q0, q3, q4⟩ := sh W hW
    go_simp <;> exact rfl
  refine Drawn.tk (i := 5) (v := ?v207) rfl (fun W hW => ?_) HI ?_
  rotate_left
  · have ⟨⟨s0, s1, s2⟩, q0, q3, q4⟩ := sh W hW
    go_simp <;> exact rfl
  refine Drawn.done (by kernel_rfl) ?_
  try go_simp
  clear sh h1 h2
  go_wp2
  go_ret
  exact ⟨rfl, HI.bel⟩
set_option maxHeartbeats 2000000 in
theorem cmpX_pl (n1 n2 : Bool) (a1 a2 : Option Addr) (c1 c2 : Nat) (z1 z2 : List Int) (e1 e2 : Int) (w : World) (h1 : SgnOf n1 z1.length 1) (h2 : SgnOf n2 z2.length 1) (l1 : Lie w a1 z1) (l2 : Lie w a2 z2) (g1 : DG n1 z1 e1) (g2 : DG n2 z2 e2) (hz1 : 0 < z1.length) (hz2 : 0 < z2.length) {T1 T2 : Nat} (hT1 : BitLen (Nt.val z1) T1) (hT2 : BitLen (Nt.val z2) T2) (ht : e1 + T1 < e2 + T2) :
    Calls Tryz.prog 38 #[dV n1 a1 z1.length c1 e1, dV n2 a2 z2.length c2 e2] w fun e w' => e = .returned (.int .i64 (-1)) ∧ Below w.heap.size w w' := by
  have H1 := Hide.mk hT1
  have H2 := Hide.mk hT2
  clear hT1 hT2
  have B1 := ((Bx.nil w).push (DO n1 a1 z1.length c1 e1)).push (DO n2 a2 z2.length c2 e2)
  go_enter Tryz.func38, Tryz.ntmps38
  go_wp2_with fail
  rw [show (w.alloc (DO n1 a1 z1.length c1 e1)).heap.size = w.heap.size + 1 by simp] at B1
  generalize hw1 : (w.alloc (DO n1 a1 z1.length c1 e1)).alloc (DO n2 a2 z2.length c2 e2) = w1 at *
  clear hw1
  have HI := B1.drew
  have sh := fun W (hW : Bx w [(w.heap.size + 1, DO n2 a2 z2.length c2 e2), (w.heap.size, DO n1 a1 z1.length c1 e1)] W) => And.intro (cells3 hW (w.heap.size + 1) _ _ _ _ (.head _)).1 (cells3 hW w.heap.size _ _ _ _ (.tail _ (.head _))).1
  refine Drawn.enter (Bx w [(w.heap.size + 1, DO n2 a2 z2.length c2 e2), (w.heap.size, DO n1 a1 z1.length c1 e1)]) (by kernel_rfl) ?_
  refine Drawn.tk (i := 0) (v := ?v208) rfl (fun W hW => ?_) HI ?_
  rotate_left
  · have ⟨⟨s0, s1, s2⟩, q0, q3, q4⟩ := sh W hW
    go_simp <;> exact rfl
  refine Drawn.tk (i := 2) (v := ?v209) rfl (fun W hW => ?_) HI ?_
  rotate_left
  · have ⟨⟨s0, s1, s2⟩, q0, q3, q4⟩ := sh W hW
    go_simp <;> exact rfl
  refine Drawn.one (j := 1) (by kernel_rfl) rfl (fun K hK => ?_)
  go_simp
  refine (rSgnAny n1 a1 c1 z1.length e1 1 h1 _).mono ?_
  rintro e wn ⟨rfl, hn⟩
  refine hK _ _ (HI.keep hn) ?_
  clear hK K
  replace HI := HI.keep hn
  clear hn
  refine Drawn.one (j := 3) (by kernel_rfl) rfl (fun K hK => ?_)
  go_simp
  refine (rSgnAny n2 a2 c2 z2.length e2 1 h2 _).mono ?_
  rintro e wn ⟨rfl, hn⟩
  refine hK _ _ (HI.keep hn) ?_
  clear hK K
  replace HI := HI.keep hn
  clear hn
  refine Drawn.tk (i := 4) (v := ?v210) rfl (fun W hW => ?_) HI ?_
  rotate_left
  · have ⟨⟨s0, s1, s2⟩, q0, q3, q4⟩ := sh W hW
    go_simp <;> exact rfl
  refine Drawn.tk (i := 5) (v := ?v211) rfl (fun W hW => ?_) HI ?_
  rotate_left
  · have ⟨⟨s0, s1, s2⟩, q0, q3, q4⟩ := sh W hW
    go_simp <;> exact rfl
  refine Drawn.done (by kernel_rfl) ?_
  try go_simp
  go_wp2_with fail
  replace HI := HI.drew
  refine Drawn.enter (Bx w [(w.heap.size + 1, DO n2 a2 z2.length c2 e2), (w.heap.size, DO n1 a1 z1.length c1 e1)]) (by kernel_rfl) ?_
  refine Drawn.tk (i := 0) (v := ?v212) rfl (fun W hW => ?_) HI ?_
  rotate_left
  · have ⟨⟨s0, s1, s2⟩, q0, q3, q4⟩ := sh W hW
    go_simp <;> exact rfl
  refine Drawn.tk (i := 2) (v := ?v213) rfl (fun W hW => ?_) HI ?_
  rotate_left
  · have ⟨⟨s0, s1, s2⟩, q0, q3, q4⟩ := sh W hW
    go_simp <;> exact rfl
  refine Drawn.one (j := 1) (by kernel_rfl) rfl (fun K hK => ?_)
  go_simp
  refine (dreftop54 n1 a1 c1 z1 e1 _ (l1.below HI.bel (Nat.le_refl _)) g1 hz1).mono ?_
  rintro e w5 ⟨B5, rfl, hB5, hb5, h5⟩
  obtain rfl := hB5.unique H1.out
  refine hK _ _ (HI.keep h5) ?_
  clear hK K hB5
  replace HI := HI.keep h5
  clear h5
  refine Drawn.one (j := 3) (by kernel_rfl) rfl (fun K hK => ?_)
  go_simp
  refine (dreftop54 n2 a2 c2 z2 e2 _ (l2.below HI.bel (Nat.le_refl _)) g2 hz2).mono ?_
  rintro e w6 ⟨B6, rfl, hB6, hb6, h6⟩
  obtain rfl := hB6.unique H2.out
  refine hK _ _ (HI.keep h6) ?_
  clear hK K hB6
  replace HI := HI.keep h6
  clear h6
  refine Drawn.tk (i := 4) (v := .bool true) rfl (fun W hW => ?_) HI ?_
  · have ⟨⟨s0, s1, s2⟩, q0, q3, q4⟩ := sh W hW
    go_simp <;> (first | (simp; omega) | omega)
  refine Drawn.done (by kernel_rfl) ?_
  try go_simp
  go_wp2_with fail
  replace HI := HI.drew
  refine Drawn.enter (Bx w [(w.heap.size + 1, DO n2 a2 z2.length c2 e2), (w.heap.size, DO n1 a1 z1.length c1 e1)]) (by kernel_rfl) ?_
  refine Drawn.tk (i := 0) (v := ?v214) rfl (fun W hW => ?_) HI ?_
  rotate_left
  · have ⟨⟨s0, s1, s2⟩, q0, q3, q4⟩ := sh W hW
    go_simp <;> exact rfl
  refine Drawn.tk (i := 2) (v := ?v215) rfl (fun W hW => ?_) HI ?_
  rotate_left
  · have ⟨⟨s0, s1, s2⟩, q0, q3, q4⟩ := sh W hW
    go_simp <;> exact rfl
  refine Drawn.tk (i := 5) (v := ?v216) rfl (fun W hW => ?_) HI ?_
  rotate_left
  · have ⟨⟨s0, s1, s2⟩, q0, q3, q4⟩ := sh W hW
    go_simp <;> exact rfl
  refine Drawn.tk (i := 6) (v := .bool true) rfl (fun W hW => ?_) HI ?_
  · have ⟨⟨s0, s1, s2⟩, q0, q3, q4⟩ := sh W hW
    go_simp <;> (first | rfl | (simp; omega))
  refine Drawn.one (j := 1) (by kernel_rfl) rfl (fun K hK => ?_)
  go_simp
  refine (dreftop54 n1 a1 c1 z1 e1 _ (l1.below HI.bel (Nat.le_refl _)) g1 hz1).mono ?_
  rintro e w5 ⟨B5, rfl, hB5, hb7, h5⟩
  obtain rfl := hB5.unique H1.out
  refine hK _ _ (HI.keep h5) ?_
  clear hK K hB5
  replace HI := HI.keep h5
  clear h5
  refine Drawn.one (j := 3) (by kernel_rfl) rfl (fun K hK => ?_)
  go_simp
  refine (dreftop54 n2 a2 c2 z2 e2 _ (l2.below HI.bel (Nat.le_refl _)) g2 hz2).mono ?_
  rintro e w6 ⟨B6, rfl, hB6, hb8, h6⟩
  obtain rfl := hB6.unique H2.out
  refine hK _ _ (HI.keep h6) ?_
  clear hK K hB6
  replace HI := HI.keep h6
  clear h6
  refine Drawn.tk (i := 4) (v := .bool true) rfl (fun W hW => ?_) HI ?_
  · have ⟨⟨s0, s1, s2⟩, q0, q3, q4⟩ := sh W hW
    go_simp <;> (first | omega | (simp; omega))
  refine Drawn.tk (i := 7) (v := .bool true) rfl (fun W hW => ?_) HI ?_
  · have ⟨⟨s0, s1, s2⟩, q0, q3, q4⟩ := sh W hW
    go_simp <;> (rfl)
  refine Drawn.done (by kernel_rfl) ?_
  try go_simp
  clear sh
  go_wp2
  go_ret
  exact ⟨rfl, HI.bel⟩
set_option maxHeartbeats 2000000 in
theorem cmpX_pg (n1 n2 : Bool) (a1 a2 : Option Addr) (c1 c2 : Nat) (z1 z2 : List Int) (e1 e2 : Int) (w : World) (h1 : SgnOf n1 z1.length 1) (h2 : SgnOf n2 z2.length 1) (l1 : Lie w a1 z1) (l2 : Lie w a2 z2) (g1 : DG n1 z1 e1) (g2 : DG n2 z2 e2) (hz1 : 0 < z1.length) (hz2 : 0 < z2.length) {T1 T2 : Nat} (hT1 : BitLen (Nt.val z1) T1) (hT2 : BitLen (Nt.val z2) T2) (ht : e2 + T2 < e1 + T1) :
    Calls Tryz.prog 38 #[dV n1 a1 z1.length c1 e1, dV n2 a2 z2.length c2 e2] w fun e w' => e = .returned (.int .i64 (1)) ∧ Below w.heap.size w w' := by
  have H1 := Hide.mk hT1
  have H2 := Hide.mk hT2
  clear hT1 hT2
  have B1 := ((Bx.nil w).push (DO n1 a1 z1.length c1 e1)).push (DO n2 a2 z2.length c2 e2)
  go_enter Tryz.func38, Tryz.ntmps38
  go_wp2_with fail
  rw [show (w.alloc (DO n1 a1 z1.length c1 e1)).heap.size = w.heap.size + 1 by simp] at B1
  generalize hw1 : (w.alloc (DO n1 a1 z1.length c1 e1)).alloc (DO n2 a2 z2.length c2 e2) = w1 at *
  clear hw1
  have HI := B1.drew
  have sh := fun W (hW : Bx w [(w.heap.size + 1, DO n2 a2 z2.length c2 e2), (w.heap.size, DO n1 a1 z1.length c1 e1)] W) => And.intro (cells3 hW (w.heap.size + 1) _ _ _ _ (.head _)).1 (cells3 hW w.heap.size _ _ _ _ (.tail _ (.head _))).1
  refine Drawn.enter (Bx w [(w.heap.size + 1, DO n2 a2 z2.length c2 e2), (w.heap.size, DO n1 a1 z1.length c1 e1)]) (by kernel_rfl) ?_
  refine Drawn.tk (i := 0) (v := ?v217) rfl (fun W hW => ?_) HI ?_
  rotate_left
  · have ⟨⟨s0, s1, s2⟩, q0, q3, q4⟩ := sh W hW
    go_simp <;> exact rfl
  refine Drawn.tk (i := 2) (v := ?v218) rfl (fun W hW => ?_) HI ?_
  rotate_left
  · have ⟨⟨s0, s1, s2⟩, q0, q3, q4⟩ := sh W hW
    go_simp <;> exact rfl
  refine Drawn.one (j := 1) (by kernel_rfl) rfl (fun K hK => ?_)
  go_simp
  refine (rSgnAny n1 a1 c1 z1.length e1 1 h1 _).mono ?_
  rintro e wn ⟨rfl, hn⟩
  refine hK _ _ (HI.keep hn) ?_
  clear hK K
  replace HI := HI.keep hn
  clear hn
  refine Drawn.one (j := 3) (by kernel_rfl) rfl (fun K hK => ?_)
  go_simp
  refine (rSgnAny n2 a2 c2 z2.length e2 1 h2 _).mono ?_
  rintro e wn ⟨rfl, hn⟩
  refine hK _ _ (HI.keep hn) ?_
  clear hK K
  replace HI := HI.keep hn
  clear hn
  refine Drawn.tk (i := 4) (v := ?v219) rfl (fun W hW => ?_) HI ?_
  rotate_left
  · have ⟨⟨s0, s1, s2⟩, q0, q3, q4⟩ := sh W hW
    go_simp <;> exact rfl
  refine Drawn.tk (i := 5) (v := ?v220) rfl (fun W hW => ?_) HI ?_
  rotate_left
  · have ⟨⟨s0, s1, s2⟩, q0, q3, q4⟩ := sh W hW
    go_simp <;> exact rfl
  refine Drawn.done (by kernel_rfl) ?_
  try go_simp
  go_wp2_with fail
  replace HI := HI.drew
  refine Drawn.enter (Bx w [(w.heap.size + 1, DO n2 a2 z2.length c2 e2), (w.heap.size, DO n1 a1 z1.length c1 e1)]) (by kernel_rfl) ?_
  refine Drawn.tk (i := 0) (v := ?v221) rfl (fun W hW => ?_) HI ?_
  rotate_left
  · have ⟨⟨s0, s1, s2⟩, q0, q3, q4⟩ := sh W hW
    go_simp <;> exact rfl
  refine Drawn.tk (i := 2) (v := ?v222) rfl (fun W hW => ?_) HI ?_
  rotate_left
  · have ⟨⟨s0, s1, s2⟩, q0, q3, q4⟩ := sh W hW
    go_simp <;> exact rfl
  refine Drawn.one (j := 1) (by kernel_rfl) rfl (fun K hK => ?_)
  go_simp
  refine (dreftop54 n1 a1 c1 z1 e1 _ (l1.below HI.bel (Nat.le_refl _)) g1 hz1).mono ?_
  rintro e w5 ⟨B5, rfl, hB5, hb5, h5⟩
  obtain rfl := hB5.unique H1.out
  refine hK _ _ (HI.keep h5) ?_
  clear hK K hB5
  replace HI := HI.keep h5
  clear h5
  refine Drawn.one (j := 3) (by kernel_rfl) rfl (fun K hK => ?_)
  go_simp
  refine (dreftop54 n2 a2 c2 z2 e2 _ (l2.below HI.bel (Nat.le_refl _)) g2 hz2).mono ?_
  rintro e w6 ⟨B6, rfl, hB6, hb6, h6⟩
  obtain rfl := hB6.unique H2.out
  refine hK _ _ (HI.keep h6) ?_
  clear hK K hB6
  replace HI := HI.keep h6
  clear h6
  refine Drawn.tk (i := 4) (v := .bool true) rfl (fun W hW => ?_) HI ?_
  · have ⟨⟨s0, s1, s2⟩, q0, q3, q4⟩ := sh W hW
    go_simp <;> (first | (simp; omega) | omega)
  refine Drawn.done (by kernel_rfl) ?_
  try go_simp
  go_wp2_with fail
  replace HI := HI.drew
  refine Drawn.enter (Bx w [(w.heap.size + 1, DO n2 a2 z2.length c2 e2), (w.heap.size, DO n1 a1 z1.length c1 e1)]) (by kernel_rfl) ?_
  refine Drawn.tk (i := 0) (v := ?v223) rfl (fun W hW => ?_) HI ?_
  rotate_left
  · have ⟨⟨s0, s1, s2⟩, q0, q3, q4⟩ := sh W hW
    go_simp <;> exact rfl
  refine Drawn.tk (i := 2) (v := ?v224) rfl (fun W hW => ?_) HI ?_
  rotate_left
  · have ⟨⟨s0, s1, s2⟩, q0, q3, q4⟩ := sh W hW
    go_simp <;> exact rfl
  refine Drawn.tk (i := 5) (v := ?v225) rfl (fun W hW => ?_) HI ?_
  rotate_left
  · have ⟨⟨s0, s1, s2⟩, q0, q3, q4⟩ := sh W hW
    go_simp <;> exact rfl
  refine Drawn.tk (i := 6) (v := .bool true) rfl (fun W hW => ?_) HI ?_
  · have ⟨⟨s0, s1, s2⟩, q0, q3, q4⟩ := sh W hW
    go_simp <;> (first | rfl | (simp; omega))
  refine Drawn.one (j := 1) (by kernel_rfl) rfl (fun K hK => ?_)
  go_simp
  refine (dreftop54 n1 a1 c1 z1 e1 _ (l1.below HI.bel (Nat.le_refl _)) g1 hz1).mono ?_
  rintro e w5 ⟨B5, rfl, hB5, hb7, h5⟩
  obtain rfl := hB5.unique H1.out
  refine hK _ _ (HI.keep h5) ?_
  clear hK K hB5
  replace HI := HI.keep h5
  clear h5
  refine Drawn.one (j := 3) (by kernel_rfl) rfl (fun K hK => ?_)
  go_simp
  refine (dreftop54 n2 a2 c2 z2 e2 _ (l2.below HI.bel (Nat.le_refl _)) g2 hz2).mono ?_
  rintro e w6 ⟨B6, rfl, hB6, hb8, h6⟩
  obtain rfl := hB6.unique H2.out
  refine hK _ _ (HI.keep h6) ?_
  clear hK K hB6
  replace HI := HI.keep h6
  clear h6
  refine Drawn.tk (i := 4) (v := .bool false) rfl (fun W hW => ?_) HI ?_
  · have ⟨⟨s0, s1, s2⟩, q0, q3, q4⟩ := sh W hW
    go_simp <;> (first | omega | (simp; omega))
  refine Drawn.tk (i := 7) (v := .bool false) rfl (fun W hW => ?_) HI ?_
  · have ⟨⟨s0, s1, s2⟩, q0, q3, q4⟩ := sh W hW
    go_simp <;> (rfl)
  refine Drawn.done (by kernel_rfl) ?_
  try go_simp
  clear sh
  go_wp2
  go_ret
  exact ⟨rfl, HI.bel⟩
set_option maxHeartbeats 2000000 in
theorem cmpX_nl (n1 n2 : Bool) (a1 a2 : Option Addr) (c1 c2 : Nat) (z1 z2 : List Int) (e1 e2 : Int) (w : World) (h1 : SgnOf n1 z1.length (-1)) (h2 : SgnOf n2 z2.length (-1)) (l1 : Lie w a1 z1) (l2 : Lie w a2 z2) (g1 : DG n1 z1 e1) (g2 : DG n2 z2 e2) (hz1 : 0 < z1.length) (hz2 : 0 < z2.length) {T1 T2 : Nat} (hT1 : BitLen (Nt.val z1) T1) (hT2 : BitLen (Nt.val z2) T2) (ht : e1 + T1 < e2 + T2) :
    Calls Tryz.prog 38 #[dV n1 a1 z1.length c1 e1, dV n2 a2 z2.length c2 e2] w fun e w' => e = .returned (.int .i64 (1)) ∧ Below w.heap.size w w' := by
  have H1 := Hide.mk hT1
  have H2 := Hide.mk hT2
  clear hT1 hT2
  have B1 := ((Bx.nil w).push (DO n1 a1 z1.length c1 e1)).push (DO n2 a2 z2.length c2 e2)
  go_enter Tryz.func38, Tryz.ntmps38
  go_wp2_with fail
  rw [show (w.alloc (DO n1 a1 z1.length c1 e1)).heap.size = w.heap.size + 1 by simp] at B1
  generalize hw1 : (w.alloc (DO n1 a1 z1.length c1 e1)).alloc (DO n2 a2 z2.length c2 e2) = w1 at *
  clear hw1
  have HI := B1.drew
  have sh := fun W (hW : Bx w [(w.heap.size + 1, DO n2 a2 z2.length c2 e2), (w.heap.size, DO n1 a1 z1.length c1 e1)] W) => And.intro (cells3 hW (w.heap.size + 1) _ _ _ _ (.head _)).1 (cells3 hW w.heap.size _ _ _ _ (.tail _ (.head _))).1
  refine Drawn.enter (Bx w [(w.heap.size + 1, DO n2 a2 z2.length c2 e2), (w.heap.size, DO n1 a1 z1.length c1 e1)]) (by kernel_rfl) ?_
  refine Drawn.tk (i := 0) (v := ?v226) rfl (fun W hW => ?_) HI ?_
  rotate_left
  · have ⟨⟨s0, s1, s2⟩, q0, q3, q4⟩ := sh W hW
    go_simp <;> exact rfl
  refine Drawn.tk (i := 2) (v := ?v227) rfl (fun W hW => ?_) HI ?_
  rotate_left
  · have ⟨⟨s0, s1, s2⟩, q0, q3, q4⟩ := sh W hW
    go_simp <;> exact rfl
  refine Drawn.one (j := 1) (by kernel_rfl) rfl (fun K hK => ?_)
  go_simp
  refine (rSgnAny n1 a1 c1 z1.length e1 (-1) h1 _).mono ?_
  rintro e wn ⟨rfl, hn⟩
  refine hK _ _ (HI.keep hn) ?_
  clear hK K
  replace HI := HI.keep hn
  clear hn
  refine Drawn.one (j := 3) (by kernel_rfl) rfl (fun K hK => ?_)
  go_simp
  refine (rSgnAny n2 a2 c2 z2.length e2 (-1) h2 _).mono ?_
  rintro e wn ⟨rfl, hn⟩
  refine hK _ _ (HI.keep hn) ?_
  clear hK K
  replace HI := HI.keep hn
  clear hn
  refine Drawn.tk (i := 4) (v := ?v228) rfl (fun W hW => ?_) HI ?_
  rotate_left
  · have ⟨⟨s0, s1, s2⟩, q0, q3, q4⟩ := sh W hW
    go_simp <;> exact rfl
  refine Drawn.tk (i := 5) (v := ?v229) rfl (fun W hW => ?_) HI ?_
  rotate_left
  · have ⟨⟨s0, s1, s2⟩, q0, q3, q4⟩ := sh W hW
    go_simp <;> exact rfl
  refine Drawn.done (by kernel_rfl) ?_
  try go_simp
  go_wp2_with fail
  replace HI := HI.drew
  refine Drawn.enter (Bx w [(w.heap.size + 1, DO n2 a2 z2.length c2 e2), (w.heap.size, DO n1 a1 z1.length c1 e1)]) (by kernel_rfl) ?_
  refine Drawn.tk (i := 0) (v := ?v230) rfl (fun W hW => ?_) HI ?_
  rotate_left
  · have ⟨⟨s0, s1, s2⟩, q0, q3, q4⟩ := sh W hW
    go_simp <;> exact rfl
  refine Drawn.tk (i := 2) (v := ?v231) rfl (fun W hW => ?_) HI ?_
  rotate_left
  · have ⟨⟨s0, s1, s2⟩, q0, q3, q4⟩ := sh W hW
    go_simp <;> exact rfl
  refine Drawn.one (j := 1) (by kernel_rfl) rfl (fun K hK => ?_)
  go_simp
  refine (dreftop54 n1 a1 c1 z1 e1 _ (l1.below HI.bel (Nat.le_refl _)) g1 hz1).mono ?_
  rintro e w5 ⟨B5, rfl, hB5, hb5, h5⟩
  obtain rfl := hB5.unique H1.out
  refine hK _ _ (HI.keep h5) ?_
  clear hK K hB5
  replace HI := HI.keep h5
  clear h5
  refine Drawn.one (j := 3) (by kernel_rfl) rfl (fun K hK => ?_)
  go_simp
  refine (dreftop54 n2 a2 c2 z2 e2 _ (l2.below HI.bel (Nat.le_refl _)) g2 hz2).mono ?_
  rintro e w6 ⟨B6, rfl, hB6, hb6, h6⟩
  obtain rfl := hB6.unique H2.out
  refine hK _ _ (HI.keep h6) ?_
  clear hK K hB6
  replace HI := HI.keep h6
  clear h6
  refine Drawn.tk (i := 4) (v := .bool true) rfl (fun W hW => ?_) HI ?_
  · have ⟨⟨s0, s1, s2⟩, q0, q3, q4⟩ := sh W hW
    go_simp <;> (first | (simp; omega) | omega)
  refine Drawn.done (by kernel_rfl) ?_
  try go_simp
  go_wp2_with fail
  replace HI := HI.drew
  refine Drawn.enter (Bx w [(w.heap.size + 1, DO n2 a2 z2.length c2 e2), (w.heap.size, DO n1 a1 z1.length c1 e1)]) (by kernel_rfl) ?_
  refine Drawn.tk (i := 0) (v := ?v232) rfl (fun W hW => ?_) HI ?_
  rotate_left
  · have ⟨⟨s0, s1, s2⟩, q0, q3, q4⟩ := sh W hW
    go_simp <;> exact rfl
  refine Drawn.tk (i := 2) (v := ?v233) rfl (fun W hW => ?_) HI ?_
  rotate_left
  · have ⟨⟨s0, s1, s2⟩, q0, q3, q4⟩ := sh W hW
    go_simp <;> exact rfl
  refine Drawn.tk (i := 5) (v := ?v234) rfl (fun W hW => ?_) HI ?_
  rotate_left
  · have ⟨⟨s0, s1, s2⟩, q0, q3, q4⟩ := sh W hW
    go_simp <;> exact rfl
  refine Drawn.tk (i := 6) (v := .bool false) rfl (fun W hW => ?_) HI ?_
  · have ⟨⟨s0, s1, s2⟩, q0, q3, q4⟩ := sh W hW
    go_simp <;> (first | rfl | (simp; omega))
  refine Drawn.one (j := 1) (by kernel_rfl) rfl (fun K hK => ?_)
  go_simp
  refine (dreftop54 n1 a1 c1 z1 e1 _ (l1.below HI.bel (Nat.le_refl _)) g1 hz1).mono ?_
  rintro e w5 ⟨B5, rfl, hB5, hb7, h5⟩
  obtain rfl := hB5.unique H1.out
  refine hK _ _ (HI.keep h5) ?_
  clear hK K hB5
  replace HI := HI.keep h5
  clear h5
  refine Drawn.one (j := 3) (by kernel_rfl) rfl (fun K hK => ?_)
  go_simp
  refine (dreftop54 n2 a2 c2 z2 e2 _ (l2.below HI.bel (Nat.le_refl _)) g2 hz2).mono ?_
  rintro e w6 ⟨B6, rfl, hB6, hb8, h6⟩
  obtain rfl := hB6.unique H2.out
  refine hK _ _ (HI.keep h6) ?_
  clear hK K hB6
  replace HI := HI.keep h6
  clear h6
  refine Drawn.tk (i := 4) (v := .bool true) rfl (fun W hW => ?_) HI ?_
  · have ⟨⟨s0, s1, s2⟩, q0, q3, q4⟩ := sh W hW
    go_simp <;> (first | omega | (simp; omega))
  refine Drawn.tk (i := 7) (v := .bool false) rfl (fun W hW => ?_) HI ?_
  · have ⟨⟨s0, s1, s2⟩, q0, q3, q4⟩ := sh W hW
    go_simp <;> (rfl)
  refine Drawn.done (by kernel_rfl) ?_
  try go_simp
  clear sh
  go_wp2
  go_ret
  exact ⟨rfl, HI.bel⟩
set_option maxHeartbeats 2000000 in
theorem cmpX_ng (n1 n2 : Bool) (a1 a2 : Option Addr) (c1 c2 : Nat) (z1 z2 : List Int) (e1 e2 : Int) (w : World) (h1 : SgnOf n1 z1.length (-1)) (h2 : SgnOf n2 z2.length (-1)) (l1 : Lie w a1 z1) (l2 : Lie w a2 z2) (g1 : DG n1 z1 e1) (g2 : DG n2 z2 e2) (hz1 : 0 < z1.length) (hz2 : 0 < z2.length) {T1 T2 : Nat} (hT1 : BitLen (Nt.val z1) T1) (hT2 : BitLen (Nt.val z2) T2) (ht : e2 + T2 < e1 + T1) :
    Calls Tryz.prog 38 #[dV n1 a1 z1.length c1 e1, dV n2 a2 z2.length c2 e2] w fun e w' => e = .returned (.int .i64 (-1)) ∧ Below w.heap.size w w' := by
  have H1 := Hide.mk hT1
  have H2 := Hide.mk hT2
  clear hT1 hT2
  have B1 := ((Bx.nil w).push (DO n1 a1 z1.length c1 e1)).push (DO n2 a2 z2.length c2 e2)
  go_enter Tryz.func38, Tryz.ntmps38
  go_wp2_with fail
  rw [show (w.alloc (DO n1 a1 z1.length c1 e1)).heap.size = w.heap.size + 1 by simp] at B1
  generalize hw1 : (w.alloc (DO n1 a1 z1.length c1 e1)).alloc (DO n2 a2 z2.length c2 e2) = w1 at *
  clear hw1
  have HI := B1.drew
  have sh := fun W (hW : Bx w [(w.heap.size + 1, DO n2 a2 z2.length c2 e2), (w.heap.size, DO n1 a1 z1.length c1 e1)] W) => And.intro (cells3 hW (w.heap.size + 1) _ _ _ _ (.head _)).1 (cells3 hW w.heap.size _ _ _ _ (.tail _ (.head _))).1
  refine Drawn.enter (Bx w [(w.heap.size + 1, DO n2 a2 z2.length c2 e2), (w.heap.size, DO n1 a1 z1.length c1 e1)]) (by kernel_rfl) ?_
  refine Drawn.tk (i := 0) (v := ?v235) rfl (fun W hW => ?_) HI ?_
  rotate_left
  · have ⟨⟨s0, s1, s2⟩, q0, q3, q4⟩ := sh W hW
    go_simp <;> exact rfl
  refine Drawn.tk (i := 2) (v := ?v236) rfl (fun W hW => ?_) HI ?_
  rotate_left
  · have ⟨⟨s0, s1, s2⟩, q0, q3, q4⟩ := sh W hW
    go_simp <;> exact rfl
  refine Drawn.one (j := 1) (by kernel_rfl) rfl (fun K hK => ?_)
  go_simp
  refine (rSgnAny n1 a1 c1 z1.length e1 (-1) h1 _).mono ?_
  rintro e wn ⟨rfl, hn⟩
  refine hK _ _ (HI.keep hn) ?_
  clear hK K
  replace HI := HI.keep hn
  clear hn
  refine Drawn.one (j := 3) (by kernel_rfl) rfl (fun K hK => ?_)
  go_simp
  refine (rSgnAny n2 a2 c2 z2.length e2 (-1) h2 _).mono ?_
  rintro e wn ⟨rfl, hn⟩
  refine hK _ _ (HI.keep hn) ?_
  clear hK K
  replace HI := HI.keep hn
  clear hn
  refine Drawn.tk (i := 4) (v := ?v237) rfl (fun W hW => ?_) HI ?_
  rotate_left
  · have ⟨⟨s0, s1, s2⟩, q0, q3, q4⟩ := sh W hW
    go_simp <;> exact rfl
  refine Drawn.tk (i := 5) (v := ?v238) rfl (fun W hW => ?_) HI ?_
  rotate_left
  · have ⟨⟨s0, s1, s2⟩, q0, q3, q4⟩ := sh W hW
    go_simp <;> exact rfl
  refine Drawn.done (by kernel_rfl) ?_
  try go_simp
  go_wp2_with fail
  replace HI := HI.drew
  refine Drawn.enter (Bx w [(w.heap.size + 1, DO n2 a2 z2.length c2 e2), (w.heap.size, DO n1 a1 z1.length c1 e1)]) (by kernel_rfl) ?_
  refine Drawn.tk (i := 0) (v := ?v239) rfl (fun W hW => ?_) HI ?_
  rotate_left
  · have ⟨⟨s0, s1, s2⟩, q0, q3, q4⟩ := sh W hW
    go_simp <;> exact rfl
  refine Drawn.tk (i := 2) (v := ?v240) rfl (fun W hW => ?_) HI ?_
  rotate_left
  · have ⟨⟨s0, s1, s2⟩, q0, q3, q4⟩ := sh W hW
    go_simp <;> exact rfl
  refine Drawn.one (j := 1) (by kernel_rfl) rfl (fun K hK => ?_)
  go_simp
  refine (dreftop54 n1 a1 c1 z1 e1 _ (l1.below HI.bel (Nat.le_refl _)) g1 hz1).mono ?_
  rintro e w5 ⟨B5, rfl, hB5, hb5, h5⟩
  obtain rfl := hB5.unique H1.out
  refine hK _ _ (HI.keep h5) ?_
  clear hK K hB5
  replace HI := HI.keep h5
  clear h5
  refine Drawn.one (j := 3) (by kernel_rfl) rfl (fun K hK => ?_)
  go_simp
  refine (dreftop54 n2 a2 c2 z2 e2 _ (l2.below HI.bel (Nat.le_refl _)) g2 hz2).mono ?_
  rintro e w6 ⟨B6, rfl, hB6, hb6, h6⟩
  obtain rfl := hB6.unique H2.out
  refine hK _ _ (HI.keep h6) ?_
  clear hK K hB6
  replace HI := HI.keep h6
  clear h6
  refine Drawn.tk (i := 4) (v := .bool true) rfl (fun W hW => ?_) HI ?_
  · have ⟨⟨s0, s1, s2⟩, q0, q3, q4⟩ := sh W hW
    go_simp <;> (first | (simp; omega) | omega)
  refine Drawn.done (by kernel_rfl) ?_
  try go_simp
  go_wp2_with fail
  replace HI := HI.drew
  refine Drawn.enter (Bx w [(w.heap.size + 1, DO n2 a2 z2.length c2 e2), (w.heap.size, DO n1 a1 z1.length c1 e1)]) (by kernel_rfl) ?_
  refine Drawn.tk (i := 0) (v := ?v241) rfl (fun W hW => ?_) HI ?_
  rotate_left
  · have ⟨⟨s0, s1, s2⟩, q0, q3, q4⟩ := sh W hW
    go_simp <;> exact rfl
  refine Drawn.tk (i := 2) (v := ?v242) rfl (fun W hW => ?_) HI ?_
  rotate_left
  · have ⟨⟨s0, s1, s2⟩, q0, q3, q4⟩ := sh W hW
    go_simp <;> exact rfl
  refine Drawn.tk (i := 5) (v := ?v243) rfl (fun W hW => ?_) HI ?_
  rotate_left
  · have ⟨⟨s0, s1, s2⟩, q0, q3, q4⟩ := sh W hW
    go_simp <;> exact rfl
  refine Drawn.tk (i := 6) (v := .bool false) rfl (fun W hW => ?_) HI ?_
  · have ⟨⟨s0, s1, s2⟩, q0, q3, q4⟩ := sh W hW
    go_simp <;> (first | rfl | (simp; omega))
  refine Drawn.one (j := 1) (by kernel_rfl) rfl (fun K hK => ?_)
  go_simp
  refine (dreftop54 n1 a1 c1 z1 e1 _ (l1.below HI.bel (Nat.le_refl _)) g1 hz1).mono ?_
  rintro e w5 ⟨B5, rfl, hB5, hb7, h5⟩
  obtain rfl := hB5.unique H1.out
  refine hK _ _ (HI.keep h5) ?_
  clear hK K hB5
  replace HI := HI.keep h5
  clear h5
  refine Drawn.one (j := 3) (by kernel_rfl) rfl (fun K hK => ?_)
  go_simp
  refine (dreftop54 n2 a2 c2 z2 e2 _ (l2.below HI.bel (Nat.le_refl _)) g2 hz2).mono ?_
  rintro e w6 ⟨B6, rfl, hB6, hb8, h6⟩
  obtain rfl := hB6.unique H2.out
  refine hK _ _ (HI.keep h6) ?_
  clear hK K hB6
  replace HI := HI.keep h6
  clear h6
  refine Drawn.tk (i := 4) (v := .bool false) rfl (fun W hW => ?_) HI ?_
  · have ⟨⟨s0, s1, s2⟩, q0, q3, q4⟩ := sh W hW
    go_simp <;> (first | omega | (simp; omega))
  refine Drawn.tk (i := 7) (v := .bool true) rfl (fun W hW => ?_) HI ?_
  · have ⟨⟨s0, s1, s2⟩, q0, q3, q4⟩ := sh W hW
    go_simp <;> (rfl)
  refine Drawn.done (by kernel_rfl) ?_
  try go_simp
  clear sh
  go_wp2
  go_ret
  exact ⟨rfl, HI.bel⟩
end Go.Proofs.YtdnghibkagcbcaaGreatDoor

namespace Go.Proofs.YtdnghibkagcbcaaGreatDoor
open Go.RowKit Go.Wd Go.Box
set_option linter.unusedVariables false
set_option maxRecDepth 3000
theorem fm_sgn {s E : Int} {n : Bool} {zs : List Int} {ex : Int} (h : Fm s E n zs ex) : SgnOf n zs.length (sgn s 0) := by
  rcases h with ⟨rfl, rfl, rfl, rfl⟩ | ⟨h0, t, ht, rfl, rfl, hc, hv⟩
  · exact .inl ⟨rfl, rfl⟩
  · have hz : 0 < zs.length := by
      by_cases c : zs.length = 0
      · obtain rfl := List.length_eq_zero_iff.1 c
        rw [Nt.val_nil] at hv
        have := ht.one
        rw [← hv] at this
        simp at this
      · omega
    by_cases c : s < 0
    · refine .inr (.inr ⟨hz, decide_eq_true c, ?_⟩)
      unfold sgn
      rw [if_pos c]
    · refine .inr (.inl ⟨hz, decide_eq_false c, ?_⟩)
      unfold sgn
      rw [if_neg c, if_pos (by omega)]
set_option maxHeartbeats 2000000 in
theorem cmpX_eqp (n1 n2 : Bool) (a1 a2 : Option Addr) (c1 c2 : Nat) (z1 z2 : List Int) (e1 e2 : Int) (w : World) (h1 : SgnOf n1 z1.length 1) (h2 : SgnOf n2 z2.length 1) (l1 : Lie w a1 z1) (l2 : Lie w a2 z2) (g1 : DG n1 z1 e1) (g2 : DG n2 z2 e2) (hz1 : 0 < z1.length) (hz2 : 0 < z2.length) {T1 T2 : Nat} (hT1 : BitLen (Nt.val z1) T1) (hT2 : BitLen (Nt.val z2) T2) (ht : e1 + T1 = e2 + T2) (k1 k2 : Nat) (hk1 : k1 ≤ 150000) (hk2 : k2 ≤ 150000) (hh1 : e1 - min e1 e2 = k1) (hh2 : e2 - min e1 e2 = k2) (v : Int) (hv : sgn (sv n1 (Nt.val z1 * 2 ^ k1) + sv (!n2) (Nt.val z2 * 2 ^ k2)) 0 = v) :
    Calls Tryz.prog 38 #[dV n1 a1 z1.length c1 e1, dV n2 a2 z2.length c2 e2] w fun e w' => e = .returned (.int .i64 v) ∧ Below w.heap.size w w' := by
  have H1 := Hide.mk hT1
  have H2 := Hide.mk hT2
  have HV := Hide.mk hv
  have HK := Hide.mk (And.intro hh1 hh2)
  have x1 := g1.ex_bd
  have x2 := g2.ex_bd
  clear hT1 hT2 hv hh1 hh2
  have B1 := ((Bx.nil w).push (DO n1 a1 z1.length c1 e1)).push (DO n2 a2 z2.length c2 e2)
  go_enter Tryz.func38, Tryz.ntmps38
  go_wp2_with fail
  rw [show (w.alloc (DO n1 a1 z1.length c1 e1)).heap.size = w.heap.size + 1 by simp] at B1
  generalize hw1 : (w.alloc (DO n1 a1 z1.length c1 e1)).alloc (DO n2 a2 z2.length c2 e2) = w1 at *
  clear hw1
  have HI := B1.drew
  have sh := fun W (hW : Bx w [(w.heap.size + 1, DO n2 a2 z2.length c2 e2), (w.heap.size, DO n1 a1 z1.length c1 e1)] W) => And.intro (cells3 hW (w.heap.size + 1) _ _ _ _ (.head _)).1 (cells3 hW w.heap.size _ _ _ _ (.tail _ (.head _))).1
  refine Drawn.enter (Bx w [(w.heap.size + 1, DO n2 a2 z2.length c2 e2), (w.heap.size, DO n1 a1 z1.length c1 e1)]) (by kernel_rfl) ?_
  refine Drawn.tk (i := 0) (v := ?v244) rfl (fun W hW => ?_) HI ?_
  rotate_left
  · have ⟨⟨s0, s1, s2⟩, q0, q3, q4⟩ := sh W hW
    go_simp <;> exact rfl
  refine Drawn.tk (i := 2) (v := ?v245) rfl (fun W hW => ?_) HI ?_
  rotate_left
  · have ⟨⟨s0, s1, s2⟩, q0, q3, q4⟩ := sh W hW
    go_simp <;> exact rfl
  refine Drawn.one (j := 1) (by kernel_rfl) rfl (fun K hK => ?_)
  go_simp
  refine (rSgnAny n1 a1 c1 z1.length e1 1 h1 _).mono ?_
  rintro e wn ⟨rfl, hn⟩
  refine hK _ _ (HI.keep hn) ?_
  clear hK K
  replace HI := HI.keep hn
  clear hn
  refine Drawn.one (j := 3) (by kernel_rfl) rfl (fun K hK => ?_)
  go_simp
  refine (rSgnAny n2 a2 c2 z2.length e2 1 h2 _).mono ?_
  rintro e wn ⟨rfl, hn⟩
  refine hK _ _ (HI.keep hn) ?_
  clear hK K
  replace HI := HI.keep hn
  clear hn
  refine Drawn.tk (i := 4) (v := ?v246) rfl (fun W hW => ?_) HI ?_
  rotate_left
  · have ⟨⟨s0, s1, s2⟩, q0, q3, q4⟩ := sh W hW
    go_simp <;> exact rfl
  refine Drawn.tk (i := 5) (v := ?v247) rfl (fun W hW => ?_) HI ?_
  rotate_left
  · have ⟨⟨s0, s1, s2⟩, q0, q3, q4⟩ := sh W hW
    go_simp <;> exact rfl
  refine Drawn.done (by kernel_rfl) ?_
  try go_simp
  go_wp2_with fail
  replace HI := HI.drew
  refine Drawn.enter (Bx w [(w.heap.size + 1, DO n2 a2 z2.length c2 e2), (w.heap.size, DO n1 a1 z1.length c1 e1)]) (by kernel_rfl) ?_
  refine Drawn.tk (i := 0) (v := ?v248) rfl (fun W hW => ?_) HI ?_
  rotate_left
  · have ⟨⟨s0, s1, s2⟩, q0, q3, q4⟩ := sh W hW
    go_simp <;> exact rfl
  refine Drawn.tk (i := 2) (v := ?v249) rfl (fun W hW => ?_) HI ?_
  rotate_left
  · have ⟨⟨s0, s1, s2⟩, q0, q3, q4⟩ := sh W hW
    go_simp <;> exact rfl
  refine Drawn.one (j := 1) (by kernel_rfl) rfl (fun K hK => ?_)
  go_simp
  refine (dreftop54 n1 a1 c1 z1 e1 _ (l1.below HI.bel (Nat.le_refl _)) g1 hz1).mono ?_
  rintro e w5 ⟨B5, rfl, hB5, hb5, h5⟩
  obtain rfl := hB5.unique H1.out
  refine hK _ _ (HI.keep h5) ?_
  clear hK K hB5
  replace HI := HI.keep h5
  clear h5
  refine Drawn.one (j := 3) (by kernel_rfl) rfl (fun K hK => ?_)
  go_simp
  refine (dreftop54 n2 a2 c2 z2 e2 _ (l2.below HI.bel (Nat.le_refl _)) g2 hz2).mono ?_
  rintro e w6 ⟨B6, rfl, hB6, hb6, h6⟩
  obtain rfl := hB6.unique H2.out
  refine hK _ _ (HI.keep h6) ?_
  clear hK K hB6
  replace HI := HI.keep h6
  clear h6
  refine Drawn.tk (i := 4) (v := .bool false) rfl (fun W hW => ?_) HI ?_
  · have ⟨⟨s0, s1, s2⟩, q0, q3, q4⟩ := sh W hW
    go_simp <;> (first | omega | (simp; omega))
  refine Drawn.done (by kernel_rfl) ?_
  try go_simp
  obtain ⟨⟨s0, s1, s2⟩, q0, q3, q4⟩ := sh _ HI
  clear sh
  go_wp2_with fail
  have hlen1 := g1.len
  have hlen2 := g2.len
  refine (subX n1 n2 a1 a2 c1 c2 z1 z2 e1 e2 _ (l1.below HI.bel (Nat.le_refl _)) (l2.below HI.bel (Nat.le_refl _)) g1.can g2.can (by omega) (by omega) hz1 hz2 (by omega) (by omega) (by omega) (by omega) k1 k2 hk1 hk2 HK.out.1 HK.out.2).mono ?_
  rintro e w9 ⟨n9, z9, x9, a9, c9, rfl, F9, l9, h9⟩
  replace HI := HI.keep h9
  have HS := fm_sgn F9
  rw [HV.out] at HS
  have HSS := fun W => Hide.mk (rSgnAny n9 a9 c9 z9.length x9 v HS W)
  clear h9 F9 l9 HS s0 s1 s2 q0 q3 q4
  go_wp2_with fail
  refine (HSS _).out.mono ?_
  rintro e w10 ⟨rfl, h10⟩
  replace HI := HI.keep h10
  clear h10 HSS
  go_wp2
  go_ret
  exact ⟨rfl, HI.bel⟩
set_option maxHeartbeats 2000000 in
theorem cmpX_eqn (n1 n2 : Bool) (a1 a2 : Option Addr) (c1 c2 : Nat) (z1 z2 : List Int) (e1 e2 : Int) (w : World) (h1 : SgnOf n1 z1.length (-1)) (h2 : SgnOf n2 z2.length (-1)) (l1 : Lie w a1 z1) (l2 : Lie w a2 z2) (g1 : DG n1 z1 e1) (g2 : DG n2 z2 e2) (hz1 : 0 < z1.length) (hz2 : 0 < z2.length) {T1 T2 : Nat} (hT1 : BitLen (Nt.val z1) T1) (hT2 : BitLen (Nt.val z2) T2) (ht : e1 + T1 = e2 + T2) (k1 k2 : Nat) (hk1 : k1 ≤ 150000) (hk2 : k2 ≤ 150000) (hh1 : e1 - min e1 e2 = k1) (hh2 : e2 - min e1 e2 = k2) (v : Int) (hv : sgn (sv n1 (Nt.val z1 * 2 ^ k1) + sv (!n2) (Nt.val z2 * 2 ^ k2)) 0 = v) :
    Calls Tryz.prog 38 #[dV n1 a1 z1.length c1 e1, dV n2 a2 z2.length c2 e2] w fun e w' => e = .returned (.int .i64 v) ∧ Below w.heap.size w w' := by
  have H1 := Hide.mk hT1
  have H2 := Hide.mk hT2
  have HV := Hide.mk hv
  have HK := Hide.mk (And.intro hh1 hh2)
  have x1 := g1.ex_bd
  have x2 := g2.ex_bd
  clear hT1 hT2 hv hh1 hh2
  have B1 := ((Bx.nil w).push (DO n1 a1 z1.length c1 e1)).push (DO n2 a2 z2.length c2 e2)
  go_enter Tryz.func38, Tryz.ntmps38
  go_wp2_with fail
  rw [show (w.alloc (DO n1 a1 z1.length c1 e1)).heap.size = w.heap.size + 1 by simp] at B1
  generalize hw1 : (w.alloc (DO n1 a1 z1.length c1 e1)).alloc (DO n2 a2 z2.length c2 e2) = w1 at *
  clear hw1
  have HI := B1.drew
  have sh := fun W (hW : Bx w [(w.heap.size + 1, DO n2 a2 z2.length c2 e2), (w.heap.size, DO n1 a1 z1.length c1 e1)] W) => And.intro (cells3 hW (w.heap.size + 1) _ _ _ _ (.head _)).1 (cells3 hW w.heap.size _ _ _ _ (.tail _ (.head _))).1
  refine Drawn.enter (Bx w [(w.heap.size + 1, DO n2 a2 z2.length c2 e2), (w.heap.size, DO n1 a1 z1.length c1 e1)]) (by kernel_rfl) ?_
  refine Drawn.tk (i := 0) (v := ?v250) rfl (fun W hW => ?_) HI ?_
  rotate_left
  · have ⟨⟨s0, s1, s2⟩, q0, q3, q4⟩ := sh W hW
    go_simp <;> exact rfl
  refine Drawn.tk (i := 2) (v := ?v251) rfl (fun W hW => ?_) HI ?_
  rotate_left
  · have ⟨⟨s0, s1, s2⟩, q0, q3, q4⟩ := sh W hW
    go_simp <;> exact rfl
  refine Drawn.one (j := 1) (by kernel_rfl) rfl (fun K hK => ?_)
  go_simp
  refine (rSgnAny n1 a1 c1 z1.length e1 (-1) h1 _).mono ?_
  rintro e wn ⟨rfl, hn⟩
  refine hK _ _ (HI.keep hn) ?_
  clear hK K
  replace HI := HI.keep hn
  clear hn
  refine Drawn.one (j := 3) (by kernel_rfl) rfl (fun K hK => ?_)
  go_simp
  refine (rSgnAny n2 a2 c2 z2.length e2 (-1) h2 _).mono ?_
  rintro e wn ⟨rfl, hn⟩
  refine hK _ _ (HI.keep hn) ?_
  clear hK K
  replace HI := HI.keep hn
  clear hn
  refine Drawn.tk (i := 4) (v := ?v252) rfl (fun W hW => ?_) HI ?_
  rotate_left
  · have ⟨⟨s0, s1, s2⟩, q0, q3, q4⟩ := sh W hW
    go_simp <;> exact rfl
  refine Drawn.tk (i := 5) (v := ?v253) rfl (fun W hW => ?_) HI ?_
  rotate_left
  · have ⟨⟨s0, s1, s2⟩, q0, q3, q4⟩ := sh W hW
    go_simp <;> exact rfl
  refine Drawn.done (by kernel_rfl) ?_
  try go_simp
  go_wp2_with fail
  replace HI := HI.drew
  refine Drawn.enter (Bx w [(w.heap.size + 1, DO n2 a2 z2.length c2 e2), (w.heap.size, DO n1 a1 z1.length c1 e1)]) (by kernel_rfl) ?_
  refine Drawn.tk (i := 0) (v := ?v254) rfl (fun W hW => ?_) HI ?_
  rotate_left
  · have ⟨⟨s0, s1, s2⟩, q0, q3, q4⟩ := sh W hW
    go_simp <;> exact rfl
  refine Drawn.tk (i := 2) (v := ?v255) rfl (fun W hW => ?_) HI ?_
  rotate_left
  · have ⟨⟨s0, s1, s2⟩, q0, q3, q4⟩ := sh W hW
    go_simp <;> exact rfl
  refine Drawn.one (j := 1) (by kernel_rfl) rfl (fun K hK => ?_)
  go_simp
  refine (dreftop54 n1 a1 c1 z1 e1 _ (l1.below HI.bel (Nat.le_refl _)) g1 hz1).mono ?_
  rintro e w5 ⟨B5, rfl, hB5, hb5, h5⟩
  obtain rfl := hB5.unique H1.out
  refine hK _ _ (HI.keep h5) ?_
  clear hK K hB5
  replace HI := HI.keep h5
  clear h5
  refine Drawn.one (j := 3) (by kernel_rfl) rfl (fun K hK => ?_)
  go_simp
  refine (dreftop54 n2 a2 c2 z2 e2 _ (l2.below HI.bel (Nat.le_refl _)) g2 hz2).mono ?_
  rintro e w6 ⟨B6, rfl, hB6, hb6, h6⟩
  obtain rfl := hB6.unique H2.out
  refine hK _ _ (HI.keep h6) ?_
  clear hK K hB6
  replace HI := HI.keep h6
  clear h6
  refine Drawn.tk (i := 4) (v := .bool false) rfl (fun W hW => ?_) HI ?_
  · have ⟨⟨s0, s1, s2⟩, q0, q3, q4⟩ := sh W hW
    go_simp <;> (first | omega | (simp; omega))
  refine Drawn.done (by kernel_rfl) ?_
  try go_simp
  obtain ⟨⟨s0, s1, s2⟩, q0, q3, q4⟩ := sh _ HI
  clear sh
  go_wp2_with fail
  have hlen1 := g1.len
  have hlen2 := g2.len
  refine (subX n1 n2 a1 a2 c1 c2 z1 z2 e1 e2 _ (l1.below HI.bel (Nat.le_refl _)) (l2.below HI.bel (Nat.le_refl _)) g1.can g2.can (by omega) (by omega) hz1 hz2 (by omega) (by omega) (by omega) (by omega) k1 k2 hk1 hk2 HK.out.1 HK.out.2).mono ?_
  rintro e w9 ⟨n9, z9, x9, a9, c9, rfl, F9, l9, h9⟩
  replace HI := HI.keep h9
  have HS := fm_sgn F9
  rw [HV.out] at HS
  have HSS := fun W => Hide.mk (rSgnAny n9 a9 c9 z9.length x9 v HS W)
  clear h9 F9 l9 HS s0 s1 s2 q0 q3 q4
  go_wp2_with fail
  refine (HSS _).out.mono ?_
  rintro e w10 ⟨rfl, h10⟩
  replace HI := HI.keep h10
  clear h10 HSS
  go_wp2
  go_ret
  exact ⟨rfl, HI.bel⟩
end Go.Proofs.YtdnghibkagcbcaaGreatDoor

namespace Go.Proofs.YtdnghibkagcbcaaGreatDoor
open Go.RowKit Go.Wd Go.Box
set_option linter.unusedVariables false
set_option maxRecDepth 3000
theorem sgn_is1 {x y : Int} (h : x < y) : sgn x y = -1 := by unfold sgn; rw [if_pos h]
theorem sgn_is2 {x y : Int} (h : y < x) : sgn x y = 1 := by unfold sgn; rw [if_neg (by omega), if_pos h]
theorem sgn_is0 {x y : Int} (h : x = y) : sgn x y = 0 := by unfold sgn; rw [if_neg (by omega), if_neg (by omega)]
theorem sgn_diff (x y : Int) : sgn (x + -y) 0 = sgn x y := by
  rcases Int.lt_trichotomy x y with h | h | h
  · rw [sgn_is1 h, sgn_is1 (by omega)]
  · rw [sgn_is0 h, sgn_is0 (by omega)]
  · rw [sgn_is2 h, sgn_is2 (by omega)]
theorem sgn_negs (x y : Int) : sgn (-x) (-y) = sgn y x := by
  rcases Int.lt_trichotomy x y with h | h | h
  · rw [sgn_is2 h, sgn_is2 (by omega)]
  · rw [sgn_is0 (show -x = -y by omega), sgn_is0 (by omega)]
  · rw [sgn_is1 h, sgn_is1 (by omega)]
theorem cls {n : Bool} {zs : List Int} {ex u : Int} (N : DN n zs ex u) :
    (SgnOf n zs.length 0 ∧ u = 0) ∨ (SgnOf n zs.length 1 ∧ 0 < u ∧ 0 < zs.length ∧ n = false) ∨ (SgnOf n zs.length (-1) ∧ u < 0 ∧ 0 < zs.length ∧ n = true) := by
  obtain ⟨d1, d2, d3⟩ := dv_sgn N
  by_cases hz : 0 < zs.length
  · cases n
    · exact .inr (.inl ⟨.inr (.inl ⟨hz, rfl, rfl⟩), d3 hz rfl, hz, rfl⟩)
    · exact .inr (.inr ⟨.inr (.inr ⟨hz, rfl, rfl⟩), d2 hz rfl, hz, rfl⟩)
  · exact .inl ⟨.inl ⟨by omega, rfl⟩, d1 (by omega)⟩
theorem top_ex {n : Bool} {zs : List Int} {ex : Int} (g : DG n zs ex) (hz : 0 < zs.length) : ∃ T : Nat, BitLen (Nt.val zs) T ∧ Bits (Nt.val zs) T ∧ T ≤ 131072 := by
  obtain ⟨T, hT⟩ := bitLen_ex g.good.nonneg
  have hp := g.pos hz
  rcases hT with ⟨h0, _⟩ | ⟨_, h9⟩
  · omega
  · have h10 : Nt.val zs < 4294967296 ^ 4096 := g.good.lt.2
    have := h9.fits (n := 0) (by rw [Int.pow_zero, Int.mul_one]; exact h10)
    exact ⟨T, .inr ⟨hp, h9⟩, h9, by omega⟩
/-- Cmp of the reference tells how the values stand to each other. -/
theorem cmpX (n1 n2 : Bool) (a1 a2 : Option Addr) (c1 c2 : Nat) (z1 z2 : List Int) (e1 e2 : Int) (w : World) {u v : Int} (l1 : Lie w a1 z1) (l2 : Lie w a2 z2) (N1 : DN n1 z1 e1 u) (N2 : DN n2 z2 e2 v) (s : Int) (hs : sgn u v = s) :
    Calls Tryz.prog 38 #[dV n1 a1 z1.length c1 e1, dV n2 a2 z2.length c2 e2] w fun e w' => e = .returned (.int .i64 s) ∧ Below w.heap.size w w' := by
  have g1 := N1.dg
  have g2 := N2.dg
  have x1 := g1.ex_bd
  have x2 := g2.ex_bd
  have hK := KK_eq
  subst hs
  rcases cls N1 with ⟨s1, q1⟩ | ⟨s1, q1, hz1, rfl⟩ | ⟨s1, q1, hz1, rfl⟩ <;> rcases cls N2 with ⟨s2, q2⟩ | ⟨s2, q2, hz2, rfl⟩ | ⟨s2, q2, hz2, rfl⟩
  · rw [sgn_is0 (by omega)]; exact cmpX_zero _ _ a1 a2 c1 c2 z1 z2 e1 e2 w s1 s2
  · rw [sgn_is1 (by omega)]; exact cmpX_less _ _ a1 a2 c1 c2 z1 z2 e1 e2 w _ _ s1 s2 (by decide)
  · rw [sgn_is2 (by omega)]; exact cmpX_more _ _ a1 a2 c1 c2 z1 z2 e1 e2 w _ _ s1 s2 (by decide)
  · rw [sgn_is2 (by omega)]; exact cmpX_more _ _ a1 a2 c1 c2 z1 z2 e1 e2 w _ _ s1 s2 (by decide)
  · obtain ⟨T1, t1, t1', b1⟩ := top_ex g1 hz1
    obtain ⟨T2, t2, t2', b2⟩ := top_ex g2 hz2
    have hu : u = Nt.val z1 * pK e1 := by rw [← N1.val]; rfl
    have hv : v = Nt.val z2 * pK e2 := by rw [← N2.val]; rfl
    rcases Int.lt_trichotomy (e1 + T1) (e2 + T2) with h | h | h
    · have hlt := tops_lt t1' t2' (e1 := e1) (e2 := e2) (by omega) (by omega) (by omega)
      rw [sgn_is1 (by rw [hu, hv]; exact hlt)]
      exact cmpX_pl _ _ a1 a2 c1 c2 z1 z2 e1 e2 w s1 s2 l1 l2 g1 g2 hz1 hz2 t1 t2 h
    · refine cmpX_eqp _ _ a1 a2 c1 c2 z1 z2 e1 e2 w s1 s2 l1 l2 g1 g2 hz1 hz2 t1 t2 h (e1 - min e1 e2).toNat (e2 - min e1 e2).toNat (by omega) (by omega) (by omega) (by omega) _ ?_
      rw [show (!false) = true from rfl, sv_f, sv_t, sgn_diff, hu, hv]
      exact (sizes_eq (by omega) (by omega) (by omega)).symm
    · have hlt := tops_lt t2' t1' (e1 := e2) (e2 := e1) (by omega) (by omega) (by omega)
      rw [sgn_is2 (by rw [hu, hv]; exact hlt)]
      exact cmpX_pg _ _ a1 a2 c1 c2 z1 z2 e1 e2 w s1 s2 l1 l2 g1 g2 hz1 hz2 t1 t2 h
  · rw [sgn_is2 (by omega)]; exact cmpX_more _ _ a1 a2 c1 c2 z1 z2 e1 e2 w _ _ s1 s2 (by decide)
  · rw [sgn_is1 (by omega)]; exact cmpX_less _ _ a1 a2 c1 c2 z1 z2 e1 e2 w _ _ s1 s2 (by decide)
  · rw [sgn_is1 (by omega)]; exact cmpX_less _ _ a1 a2 c1 c2 z1 z2 e1 e2 w _ _ s1 s2 (by decide)
  · obtain ⟨T1, t1, t1', b1⟩ := top_ex g1 hz1
    obtain ⟨T2, t2, t2', b2⟩ := top_ex g2 hz2
    have hu : u = -(Nt.val z1 * pK e1) := by rw [← N1.val]; unfold dv; rw [sv_t, Int.neg_mul]
    have hv : v = -(Nt.val z2 * pK e2) := by rw [← N2.val]; unfold dv; rw [sv_t, Int.neg_mul]
    rcases Int.lt_trichotomy (e1 + T1) (e2 + T2) with h | h | h
    · have hlt := tops_lt t1' t2' (e1 := e1) (e2 := e2) (by omega) (by omega) (by omega)
      rw [sgn_is2 (by rw [hu, hv]; exact Int.neg_lt_neg hlt)]
      exact cmpX_nl _ _ a1 a2 c1 c2 z1 z2 e1 e2 w s1 s2 l1 l2 g1 g2 hz1 hz2 t1 t2 h
    · refine cmpX_eqn _ _ a1 a2 c1 c2 z1 z2 e1 e2 w s1 s2 l1 l2 g1 g2 hz1 hz2 t1 t2 h (e1 - min e1 e2).toNat (e2 - min e1 e2).toNat (by omega) (by omega) (by omega) (by omega) _ ?_
      rw [show (!true) = false from rfl, sv_f, sv_t, Int.add_comm, sgn_diff, hu, hv, sgn_negs]
      exact (sizes_eq (by omega) (by omega) (by omega)).symm
    · have hlt := tops_lt t2' t1' (e1 := e2) (e2 := e1) (by omega) (by omega) (by omega)
      rw [sgn_is1 (by rw [hu, hv]; exact Int.neg_lt_neg hlt)]
      exact cmpX_ng _ _ a1 a2 c1 c2 z1 z2 e1 e2 w s1 s2 l1 l2 g1 g2 hz1 hz2 t1 t2 h
end Go.Proofs.YtdnghibkagcbcaaGreatDoor

namespace Go.Proofs.YtdnghibkagcbcaaGreatDoor
open Go.RowKit Go.Wd Go.Box
set_option linter.unusedVariables false
set_option maxRecDepth 3000
set_option maxHeartbeats 1000000 in
theorem dTop (n : Bool) (a : Option Addr) (c : Nat) (zs : List Int) (ex : Int) (w : World) (hl : Lie w a zs) (g : DG n zs ex) :
    Calls Tryz.prog 116 #[dV n a zs.length c ex] w fun e w' => ∃ B : Nat, e = .returned (.int .i64 (B + ex)) ∧ BitLen (Nt.val zs) B ∧ B ≤ 131072 ∧ Below w.heap.size w w' := by
  have B1 := (Bx.nil w).push (DO n a zs.length c ex)
  have u := g.lie hl
  go_enter Tryz.func116, Tryz.ntmps116
  go_wp2_with fail
  refine (u.may n c ex true g.may _ B1.bel).mono ?_
  rintro e w2 ⟨rfl, h2⟩
  have B2 := B1.keep h2
  obtain ⟨⟨f0, f1, f2⟩, _⟩ := cells3 B2 w.heap.size _ _ _ _ (.head _)
  have l2 := hl.below B2.bel (Nat.le_refl _)
  clear h2 B1 u
  go_wp2_with fail
  refine (dtop96 n a c zs ex _ l2 g).mono ?_
  rintro e w3 ⟨B, rfl, hB, hB2, h3⟩
  have B3 := B2.keep h3
  have HB := Hide.mk (And.intro hB hB2)
  clear h3 B2 hB hB2 f0 f1 f2 l2
  go_wp2
  go_ret
  exact ⟨B, rfl, HB.out.1, HB.out.2, B3.bel⟩
theorem fc_bd (b : Bool) : 23 ≤ fc b ∧ fc b ≤ 52 := by cases b <;> decide
/-- The exponent of the unit of a number with the top T. -/
def uu (b : Bool) (T : Int) : Int := max (T - fc b - 1) (lo b)
theorem p2fc (b : Bool) : (2 : Int) ^ (fc b).toNat = fr b := by cases b <;> decide
/-- The number of units. -/
theorem units_fit (b : Bool) {M : Int} {B k : Nat} (hM : BitLen M B) (h0 : 0 ≤ M) (hk : (B : Int) + k ≤ fc b + 1) : 0 ≤ M * 2 ^ k ∧ M * 2 ^ k < 2 * fr b := by
  have hp := p2pos k
  refine ⟨Int.mul_nonneg h0 (by omega), ?_⟩
  have e : ∃ F : Nat, (F : Int) = fc b ∧ (2 : Int) ^ (F + 1) = 2 * fr b := by
    cases b
    · exact ⟨23, rfl, by decide⟩
    · exact ⟨52, rfl, by decide⟩
  obtain ⟨F, hF, e⟩ := e
  rw [← e]
  rcases hM with ⟨rfl, _⟩ | ⟨_, c⟩
  · rw [Int.zero_mul]; exact p2pos _
  · have h1 := (c.up k).lt
    have := p2mono (show B + k ≤ F + 1 by omega)
    omega
set_option maxHeartbeats 4000000 in
theorem wWordOf (b n : Bool) (a : Option Addr) (c : Nat) (zs : List Int) (ex : Int) (w : World) (hl : Lie w a zs) (g : DG n zs ex) {B : Nat} (hB : BitLen (Nt.val zs) B) (hb : B ≤ 131072)
    (hc1 : uu b (B + ex) - lo b + 1 < tp b) (hc2 : uu b (B + ex) ≤ ex) (k : Nat) (hk : (k : Int) = ex - uu b (B + ex)) :
    Calls Tryz.prog 128 #[S b, dV n a zs.length c ex] w fun e w' => e = .returned (.tuple #[.int .u64 (sd b ((uu b (B + ex) - lo b) * fr b + Nt.val zs * 2 ^ k) n), .int .i64 0]) ∧ Below w.heap.size w w' := by
  have B1 := ((Bx.nil w).push (SO b)).push (DO n a zs.length c ex)
  have hx := g.ex_bd
  have hf := fc_bd b
  have hlo := lo_bd b
  have hlu : lo b ≤ uu b (B + ex) := by unfold uu; omega
  have hkf : (B : Int) + k ≤ fc b + 1 := by unfold uu at hk; omega
  have hn0 := g.good.nonneg
  obtain ⟨m0, m1⟩ := units_fit b hB hn0 hkf
  have m2 : Nt.val zs < 18446744073709551616 := by
    have hp := p2pos k
    have h5 : Nt.val zs * 1 ≤ Nt.val zs * 2 ^ k := Int.mul_le_mul_of_nonneg_left (by omega) hn0
    have := fr_le b
    omega
  have H2 := Hide.mk (two_digits g.good m2)
  have G := Hide.mk g.good
  have HBL := Hide.mk hB
  have HKF := Hide.mk hkf
  clear hB hkf
  go_enter Tryz.func128, Tryz.ntmps128
  go_wp2_with fail
  rw [show (w.alloc (SO b)).heap.size = w.heap.size + 1 by simp] at B1
  generalize hw1 : (w.alloc (SO b)).alloc (DO n a zs.length c ex) = w1 at *
  clear hw1
  have HI := B1.drew
  have sh := fun W (hW : Bx w [(w.heap.size + 1, DO n a zs.length c ex), (w.heap.size, SO b)] W) => And.intro (shape_cells hW w.heap.size b (.tail _ (.head _))) (cells3 hW (w.heap.size + 1) _ _ _ _ (.head _)).1
  refine Drawn.enter (Bx w [(w.heap.size + 1, DO n a zs.length c ex), (w.heap.size, SO b)]) (by kernel_rfl) ?_
  refine Drawn.tk (i := 0) (v := ?v16) rfl (fun W hW => ?_) HI ?_
  rotate_left
  · have ⟨⟨e0, e1, e2, e3⟩, q0, q1, q2⟩ := sh W hW
    go_simp <;> exact rfl
  refine Drawn.tk (i := 2) (v := ?v17) rfl (fun W hW => ?_) HI ?_
  rotate_left
  · have ⟨⟨e0, e1, e2, e3⟩, q0, q1, q2⟩ := sh W hW
    go_simp <;> exact rfl
  refine Drawn.tk (i := 3) (v := ?v18) rfl (fun W hW => ?_) HI ?_
  rotate_left
  · have ⟨⟨e0, e1, e2, e3⟩, q0, q1, q2⟩ := sh W hW
    go_simp <;> exact rfl
  refine Drawn.tk (i := 6) (v := ?v19) rfl (fun W hW => ?_) HI ?_
  rotate_left
  · have ⟨⟨e0, e1, e2, e3⟩, q0, q1, q2⟩ := sh W hW
    go_simp <;> exact rfl
  refine Drawn.tk (i := 7) (v := ?v20) rfl (fun W hW => ?_) HI ?_
  rotate_left
  · have ⟨⟨e0, e1, e2, e3⟩, q0, q1, q2⟩ := sh W hW
    go_simp <;> exact rfl
  refine Drawn.one (j := 1) (by kernel_rfl) rfl (fun K hK => ?_)
  go_simp
  refine (dTop n a c zs ex _ (hl.below HI.bel (Nat.le_refl _)) g).mono ?_
  rintro e wn ⟨B2, rfl, hB2, _, hn⟩
  obtain rfl := hB2.unique HBL.out
  refine hK _ _ (HI.keep hn) ?_
  clear hK K hB2
  replace HI := HI.keep hn
  clear hn
  have hT1 : -20000000 ≤ (B2 : Int) + ex := by omega
  have hT2 : (B2 : Int) + ex ≤ 20000000 := by omega
  have hU2 : uu b (B2 + ex) ≤ 20000100 := by unfold uu; omega
  refine Drawn.tk (i := 4) (v := .int .i64 (B2 + ex - fc b)) rfl (fun W hW => ?_) HI ?_
  · have ⟨⟨e0, e1, e2, e3⟩, q0, q1, q2⟩ := sh W hW
    go_simp <;> (exact wrap_ok (by omega) (by omega))
  refine Drawn.tk (i := 5) (v := .int .i64 (B2 + ex - fc b - 1)) rfl (fun W hW => ?_) HI ?_
  · have ⟨⟨e0, e1, e2, e3⟩, q0, q1, q2⟩ := sh W hW
    go_simp <;> (exact wrap_ok (by omega) (by omega))
  refine Drawn.tk (i := 8) (v := .int .i64 (uu b (B2 + ex))) rfl (fun W hW => ?_) HI ?_
  · have ⟨⟨e0, e1, e2, e3⟩, q0, q1, q2⟩ := sh W hW
    go_simp <;> (rfl)
  refine Drawn.tk (i := 9) (v := ?v21) rfl (fun W hW => ?_) HI ?_
  rotate_left
  · have ⟨⟨e0, e1, e2, e3⟩, q0, q1, q2⟩ := sh W hW
    go_simp <;> exact rfl
  refine Drawn.done (by kernel_rfl) ?_
  try go_simp
  obtain ⟨⟨e0, e1, e2, e3⟩, q0, q1, q2⟩ := sh _ HI
  have htp := tp_bd b
  generalize hU : uu b (B2 + ex) = U at *
  have HU := Hide.mk hU
  clear hU hT1 hT2
  have l2 := hl.below HI.bel (Nat.le_refl _)
  go_wp2_with fail
  refine (num_yes a c zs _ G.out.may l2 G.out.can.1 H2.out).mono ?_
  rintro e w5 ⟨rfl, rfl⟩
  clear l2
  generalize hM : Nt.val zs = M at *
  have HM := Hide.mk hM
  clear hM
  have hk0 : 0 ≤ ex - U := by omega
  have hkk : (ex - U).toNat = k := by omega
  have hk64 : k ≤ 64 := by have := HKF.out; omega
  have hfl := fr_le b
  have hw : IntKind.u64.wrap (M * 2 ^ min (ex - U).toNat 64) = M * 2 ^ k := by
    rw [hkk, Nat.min_eq_left hk64, IntKind.wrap_u64]
    exact Int.emod_eq_of_lt m0 (by omega)
  have HW := Hide.mk hw
  have hU0 : 0 ≤ U - lo b := by omega
  have hU1 : U - lo b ≤ 2047 := by omega
  have hs1 : 0 ≤ (U - lo b) * fr b ∧ (U - lo b) * fr b < 18446744073709551616 ∧ (U - lo b) * fr b + M * 2 ^ k < sg b := by
    generalize M * 2 ^ k = Y at *
    cases b <;> simp only [fr, tp, sg, lo] at * <;> omega
  obtain ⟨s0, s1, s2⟩ := hs1
  have hsl := sg_le b
  clear hw hkk hk64
  go_wp2_with fail
  rw [HW.out]
  replace HI := HI.drew
  clear e0 e1 e2 e3 q0 q1 q2
  refine Drawn.enter (Bx w [(w.heap.size + 1, DO n a zs.length c ex), (w.heap.size, SO b)]) (by kernel_rfl) ?_
  refine Drawn.tk (i := 0) (v := ?v22) rfl (fun W hW => ?_) HI ?_
  rotate_left
  · have ⟨⟨e0, e1, e2, e3⟩, q0, q1, q2⟩ := sh W hW
    go_simp <;> exact rfl
  refine Drawn.tk (i := 1) (v := ?v23) rfl (fun W hW => ?_) HI ?_
  rotate_left
  · have ⟨⟨e0, e1, e2, e3⟩, q0, q1, q2⟩ := sh W hW
    go_simp <;> exact rfl
  refine Drawn.tk (i := 2) (v := .int .i64 (U - lo b)) rfl (fun W hW => ?_) HI ?_
  · have ⟨⟨e0, e1, e2, e3⟩, q0, q1, q2⟩ := sh W hW
    go_simp <;> (exact (wrap_ok (by omega) (by omega)).trans (by omega))
  refine Drawn.tk (i := 3) (v := .int .u64 (U - lo b)) rfl (fun W hW => ?_) HI ?_
  · have ⟨⟨e0, e1, e2, e3⟩, q0, q1, q2⟩ := sh W hW
    go_simp <;> (rw [IntKind.wrap_u64]; omega)
  refine Drawn.tk (i := 4) (v := ?v24) rfl (fun W hW => ?_) HI ?_
  rotate_left
  · have ⟨⟨e0, e1, e2, e3⟩, q0, q1, q2⟩ := sh W hW
    go_simp <;> exact rfl
  refine Drawn.tk (i := 5) (v := ?v25) rfl (fun W hW => ?_) HI ?_
  rotate_left
  · have ⟨⟨e0, e1, e2, e3⟩, q0, q1, q2⟩ := sh W hW
    go_simp <;> exact rfl
  refine Drawn.tk (i := 6) (v := .int .u64 ((U - lo b) * fr b)) rfl (fun W hW => ?_) HI ?_
  · have ⟨⟨e0, e1, e2, e3⟩, q0, q1, q2⟩ := sh W hW
    go_simp <;> (rw [p2fc, IntKind.wrap_u64, Int.emod_eq_of_lt s0 s1])
  refine Drawn.tk (i := 7) (v := ?v26) rfl (fun W hW => ?_) HI ?_
  rotate_left
  · have ⟨⟨e0, e1, e2, e3⟩, q0, q1, q2⟩ := sh W hW
    go_simp <;> exact rfl
  refine Drawn.tk (i := 8) (v := .int .u64 ((U - lo b) * fr b + M * 2 ^ k)) rfl (fun W hW => ?_) HI ?_
  · have ⟨⟨e0, e1, e2, e3⟩, q0, q1, q2⟩ := sh W hW
    go_simp <;> (rw [IntKind.wrap_u64]; exact Int.emod_eq_of_lt (by omega) (by omega))
  refine Drawn.tk (i := 9) (v := ?v27) rfl (fun W hW => ?_) HI ?_
  rotate_left
  · have ⟨⟨e0, e1, e2, e3⟩, q0, q1, q2⟩ := sh W hW
    go_simp <;> exact rfl
  refine Drawn.tk (i := 10) (v := ?v28) rfl (fun W hW => ?_) HI ?_
  rotate_left
  · have ⟨⟨e0, e1, e2, e3⟩, q0, q1, q2⟩ := sh W hW
    go_simp <;> exact rfl
  refine Drawn.one (j := 11) (by kernel_rfl) rfl (fun K hK => ?_)
  go_simp
  refine (wSigned b ((U - lo b) * fr b + M * 2 ^ k) n (by omega) s2 _).mono ?_
  rintro e wn ⟨rfl, hn⟩
  refine hK _ _ (HI.keep hn) ?_
  clear hK K
  replace HI := HI.keep hn
  clear hn
  refine Drawn.tk (i := 12) (v := ?v29) rfl (fun W hW => ?_) HI ?_
  rotate_left
  · have ⟨⟨e0, e1, e2, e3⟩, q0, q1, q2⟩ := sh W hW
    go_simp <;> exact rfl
  refine Drawn.tk (i := 13) (v := ?v30) rfl (fun W hW => ?_) HI ?_
  rotate_left
  · have ⟨⟨e0, e1, e2, e3⟩, q0, q1, q2⟩ := sh W hW
    go_simp <;> exact rfl
  refine Drawn.done (by kernel_rfl) ?_
  try go_simp
  clear sh
  go_wp2
  go_ret2
  exact ⟨by rw [HU.out, HM.out]; rfl, HI.bel⟩
end Go.Proofs.YtdnghibkagcbcaaGreatDoor

namespace Go.Proofs.YtdnghibkagcbcaaGreatDoor
open Go.RowKit Go.Wd Go.Box
set_option linter.unusedVariables false
set_option maxRecDepth 3000
theorem sgn_dv {n : Bool} {zs : List Int} {ex : Int} (g : DG n zs ex) (hz : 0 < zs.length) : ∃ s, sgn (dv n zs ex) 0 = s ∧ (s == 0) = false := by
  refine ⟨_, rfl, ?_⟩
  have hp := g.pos hz
  have hq := pK_pos ex
  have h0 : 0 < Nt.val zs * pK ex := Int.mul_pos hp hq
  unfold dv
  cases n
  · rw [sv_f]
    generalize Nt.val zs * pK ex = X at *
    unfold sgn
    first | (simp; omega) | (split <;> first | rfl | omega)
  · rw [sv_t, Int.neg_mul]
    generalize Nt.val zs * pK ex = X at *
    unfold sgn
    first | (simp; omega) | (split <;> first | rfl | omega)
theorem wOf_call (b n : Bool) (a : Option Addr) (c : Nat) (zs : List Int) (ex : Int) (w : World) (hl : Lie w a zs) (g : DG n zs ex) (hz : 0 < zs.length) (y k : Int)
    (H : ∀ W, Lie W a zs → Calls Tryz.prog 128 #[S b, dV n a zs.length c ex] W fun e w' => e = .returned (.tuple #[.int .u64 y, .int .i64 k]) ∧ Below W.heap.size W w') :
    Calls Tryz.prog 112 #[.int .u8 (fm b), dV n a zs.length c ex] w fun e w' => e = .returned (.tuple #[.int .u64 y, .int .i64 k]) ∧ Below w.heap.size w w' := by
  have B1 := (Bx.nil w).push (DO n a zs.length c ex)
  have u := g.lie hl
  obtain ⟨s, hs, hs2⟩ := sgn_dv g hz
  have HS := Hide.mk hs
  have HH := Hide.mk H
  clear hs H
  go_enter Tryz.func112, Tryz.ntmps112
  go_wp2_with fail
  refine (wShapeOf b _).mono ?_
  rintro e w2 ⟨rfl, h2⟩
  have B2 := (B1.keep h2).push (SO b)
  have hlt : w.heap.size < w2.heap.size := (B1.keep h2).lt (.head _)
  obtain ⟨⟨f0, f1, f2⟩, _⟩ := cells3 (B1.keep h2) w.heap.size _ _ _ _ (.head _)
  clear h2 B1
  go_wp2_with fail
  refine (u.may n c ex true g.may _ B2.bel).mono ?_
  rintro e w3 ⟨rfl, h3⟩
  have B3 := B2.keep h3
  obtain ⟨⟨f0, f1, f2⟩, _⟩ := cells3 B3 w.heap.size _ _ _ _ (.tail _ (.head _))
  have l3 := hl.below B3.bel (Nat.le_refl _)
  clear h3 B2 u
  go_wp2_with fail
  refine (dsign49 n a c zs ex _ _ l3 ⟨g, rfl⟩ s HS.out).mono ?_
  rintro e w4 ⟨rfl, h4⟩
  have B4 := B3.keep h4
  obtain ⟨⟨f0, f1, f2⟩, _⟩ := cells3 B4 w.heap.size _ _ _ _ (.tail _ (.head _))
  obtain ⟨e0, e1, e2, e3⟩ := shape_cells B4 w2.heap.size b (.head _)
  have l4 := hl.below B4.bel (Nat.le_refl _)
  have H4 := Hide.mk (HH.out w4 l4)
  clear h4 B3 l3 HH HS l4
  go_wp2_with fail
  refine H4.out.mono ?_
  rintro e w5 ⟨rfl, h5⟩
  have B5 := B4.keep h5
  clear h5 B4 f0 f1 f2 e0 e1 e2 e3 H4
  go_wp2
  go_ret2
  exact ⟨rfl, B5.bel⟩
theorem wOf_ok (b n : Bool) (a : Option Addr) (c : Nat) (zs : List Int) (ex : Int) (w : World) (hl : Lie w a zs) (g : DG n zs ex) (hz : 0 < zs.length) {B : Nat} (hB : BitLen (Nt.val zs) B) (hb : B ≤ 131072)
    (hc1 : uu b (B + ex) - lo b + 1 < tp b) (hc2 : uu b (B + ex) ≤ ex) (k : Nat) (hk : (k : Int) = ex - uu b (B + ex)) :
    Calls Tryz.prog 112 #[.int .u8 (fm b), dV n a zs.length c ex] w fun e w' => e = .returned (.tuple #[.int .u64 (sd b ((uu b (B + ex) - lo b) * fr b + Nt.val zs * 2 ^ k) n), .int .i64 0]) ∧ Below w.heap.size w w' :=
  wOf_call b n a c zs ex w hl g hz _ 0 (fun W hW => wWordOf b n a c zs ex W hW g hB hb hc1 hc2 k hk)
end Go.Proofs.YtdnghibkagcbcaaGreatDoor

namespace Go.Proofs.YtdnghibkagcbcaaGreatDoor
open Go.RowKit Go.Wd Go.Box
set_option linter.unusedVariables false
set_option maxRecDepth 3000
theorem sz_pos {b : Bool} {x : Int} (h : Ok b x) (hn : ¬ sg b ≤ x) : sz b x = x := Int.emod_eq_of_lt h.1 (by omega)
theorem sz_neg {b : Bool} {x : Int} (h : Ok b x) (hn : sg b ≤ x) : sz b x = x - sg b := by
  have := h.2
  unfold sz
  rw [← Int.sub_emod_right]
  exact Int.emod_eq_of_lt (by omega) (by omega)
/-- What the fields make is taken apart into them. -/
theorem apart {b n : Bool} {E F : Int} (h0 : 0 ≤ E) (h1 : E ≤ tp b) (h2 : 0 ≤ F) (h3 : F < fr b) :
    Ok b (sd b (E * fr b + F) n) ∧ ng b (sd b (E * fr b + F) n) = n ∧ fd b (sd b (E * fr b + F) n) = E ∧ fn b (sd b (E * fr b + F) n) = F := by
  cases b <;> cases n <;> simp only [Ok, sd, ng, fd, fn, tp, fr, sg, if_true, Bool.false_eq_true, if_false, decide_eq_true_eq, decide_eq_false_iff_not] at * <;> omega
end Go.Proofs.YtdnghibkagcbcaaGreatDoor

namespace Go.Proofs.YtdnghibkagcbcaaGreatDoor
open Go.RowKit Go.Wd Go.Box
set_option linter.unusedVariables false
set_option maxRecDepth 3000
/-- Units, unit and value of a size. -/
def us (b : Bool) (s : Int) : Int := if s / fr b = 0 then s % fr b else fr b + s % fr b
def es (b : Bool) (s : Int) : Int := max (s / fr b - 1) 0 + lo b
def vz (b : Bool) (s : Int) : Int := us b s * pK (es b s)
theorem fn_sz (b : Bool) (x : Int) : sz b x % fr b = fn b x := by
  cases b <;> simp only [sz, fn, sg, fr] <;> omega
theorem un_us (b : Bool) (x : Int) : un b x = us b (sz b x) := by
  unfold un us
  rw [fn_sz]
  rfl
theorem ue_es (b : Bool) (x : Int) : ue b x = es b (sz b x) := rfl
theorem wv_vz (b : Bool) (x : Int) : wv b x = sv (ng b x) (vz b (sz b x)) := by
  unfold wv vz
  rw [un_us, ue_es]
  cases ng b x
  · rfl
  · rw [sv_t, sv_t, Int.neg_mul]
theorem pK_two {e : Int} (h : -(KK : Int) ≤ e) : pK (e + 1) = 2 * pK e := by
  unfold pK
  rw [show (e + 1 + (KK : Int)).toNat = (e + KK).toNat + 1 by omega, p2succ]
theorem es_lo (b : Bool) (s : Int) : lo b ≤ es b s := by unfold es; omega
theorem vz_step (b : Bool) (s : Int) (h : 0 ≤ s) : vz b (s + 1) = vz b s + pK (es b s) := by
  have hf := fr_pos b
  have hlo := lo_bd b
  have hK := KK_eq
  have hq := Int.emod_add_mul_ediv s (fr b)
  have hr1 := Int.emod_nonneg s (show fr b ≠ 0 by omega)
  have hr2 := Int.emod_lt_of_pos s hf
  have hq0 : 0 ≤ s / fr b := Int.ediv_nonneg h (by omega)
  by_cases c : s % fr b + 1 < fr b
  · have e1 : (s + 1) / fr b = s / fr b := by
      have : s + 1 = (s % fr b + 1) + fr b * (s / fr b) := by omega
      rw [this, Int.add_mul_ediv_left _ _ (by omega), Int.ediv_eq_zero_of_lt (by omega) c, Int.zero_add]
    have e2 : (s + 1) % fr b = s % fr b + 1 := by
      have : s + 1 = (s % fr b + 1) + fr b * (s / fr b) := by omega
      rw [this, Int.add_mul_emod_self_left, Int.emod_eq_of_lt (by omega) c]
    have e3 : es b (s + 1) = es b s := by unfold es; rw [e1]
    have e4 : us b (s + 1) = us b s + 1 := by
      unfold us
      rw [e1, e2]
      by_cases d : s / fr b = 0
      · rw [if_pos d, if_pos d]
      · rw [if_neg d, if_neg d]; omega
    unfold vz
    rw [e3, e4, Int.add_mul, Int.one_mul]
  · have hr : s % fr b = fr b - 1 := by omega
    have hs : s + 1 = 0 + fr b * (s / fr b + 1) := by rw [Int.mul_add]; omega
    have e1 : (s + 1) / fr b = s / fr b + 1 := by
      rw [hs, Int.add_mul_ediv_left _ _ (by omega)]; simp
    have e2 : (s + 1) % fr b = 0 := by
      rw [hs, Int.add_mul_emod_self_left]; simp
    have e4 : us b (s + 1) = fr b := by
      unfold us
      rw [e1, e2, if_neg (by omega)]; omega
    by_cases d : s / fr b = 0
    · have e3 : es b (s + 1) = es b s := by unfold es; rw [e1, d]; omega
      have e5 : us b s = fr b - 1 := by unfold us; rw [if_pos d, hr]
      unfold vz
      rw [e3, e4, e5, Int.sub_mul]; omega
    · have e3 : es b (s + 1) = es b s + 1 := by unfold es; rw [e1]; omega
      have e5 : us b s = fr b + (fr b - 1) := by unfold us; rw [if_neg d, hr]
      have h6 := es_lo b s
      unfold vz
      rw [e3, e4, e5, pK_two (by omega), Int.add_mul, Int.sub_mul, Int.mul_left_comm]; omega
theorem vz_le (b : Bool) (s : Int) (h : 0 ≤ s) (k : Nat) : vz b s ≤ vz b (s + k) := by
  induction k with
  | zero => simp
  | succ k ih =>
    have := vz_step b (s + k) (by omega)
    have hp := pK_pos (es b (s + k))
    rw [show s + ((k + 1 : Nat) : Int) = s + k + 1 by omega]
    omega
theorem vz_mono (b : Bool) {s t : Int} (h : 0 ≤ s) (hst : s ≤ t) : vz b s ≤ vz b t := by
  have := vz_le b s h (t - s).toNat
  rw [show s + ((t - s).toNat : Int) = t by omega] at this
  exact this
end Go.Proofs.YtdnghibkagcbcaaGreatDoor

namespace Go.Proofs.YtdnghibkagcbcaaGreatDoor
open Go.RowKit Go.Wd Go.Box
set_option linter.unusedVariables false
set_option maxRecDepth 3000
/-- What is true of a step up between finite words. -/
structure NextUp (b : Bool) (x : Int) : Prop where
  ok : Ok b (up b x)
  rise : wv b (up b x) = wv b x + pK (ue b x) ∨ wv b (up b x) = wv b x + pK (ue b (up b x))
  none : ∀ z, Ok b z → wv b z ≤ wv b x ∨ wv b (up b x) ≤ wv b z
  fin : fl b (up b x) ≠ inf b
  back : wv b (fl b (up b (fl b (up b x)))) = wv b x
  okb : Ok b (fl b (up b (fl b (up b x))))
  finb : sz b (fl b (up b (fl b (up b x)))) < inf b
end Go.Proofs.YtdnghibkagcbcaaGreatDoor

namespace Go.Proofs.YtdnghibkagcbcaaGreatDoor
open Go.RowKit Go.Wd Go.Box
set_option linter.unusedVariables false
set_option maxRecDepth 3000
theorem DN.zero {n : Bool} {zs : List Int} {ex u : Int} (h : DN n zs ex u) (hz : zs.length ≤ 0) : zs = [] ∧ n = false ∧ ex = 0 ∧ u = 0 := by
  obtain ⟨rfl, rfl, rfl⟩ := h.dg.nil hz
  exact ⟨rfl, rfl, rfl, by rw [← h.val]; exact zero_dv _ _⟩
end Go.Proofs.YtdnghibkagcbcaaGreatDoor

namespace Go.Proofs.YtdnghibkagcbcaaGreatDoor
open Go.RowKit
set_option linter.unusedVariables false
set_option maxRecDepth 3000
end Go.Proofs.YtdnghibkagcbcaaGreatDoor
