import Derived.Test.YtiamdmfhkhlppaaDoorXH
namespace Go.Proofs.YtiamdmfhkhlppaaDoor
open Go.RowKit Go.Wd Go.Box
set_option linter.unusedVariables false
set_option maxRecDepth 3000
theorem rSgnAny (n : Bool) (a : Option Addr) (c k : Nat) (ex s : Int) (hs : (k = 0 ∧ s = 0) ∨ (0 < k ∧ n = false ∧ s = 1) ∨ (0 < k ∧ n = true ∧ s = -1)) (w : World) :
    Calls Tryd.prog 31 #[dV n a k c ex] w fun e w' => e = .returned (.int .i64 s) ∧ Below w.heap.size w w' := by
  rcases hs with ⟨rfl, rfl⟩ | ⟨hk, rfl, rfl⟩ | ⟨hk, rfl, rfl⟩
  · go_enter Tryd.func31, Tryd.ntmps31
    go_wp2
    go_ret
    exact ⟨rfl, below_alloc _ _⟩
  · have hne : ((k : Int) == 0) = false := beq_eq_false_iff_ne.2 (by omega)
    go_enter Tryd.func31, Tryd.ntmps31
    go_wp2
    go_ret
    exact ⟨rfl, below_alloc _ _⟩
  · have hne : ((k : Int) == 0) = false := beq_eq_false_iff_ne.2 (by omega)
    go_enter Tryd.func31, Tryd.ntmps31
    go_wp2
    go_ret
    exact ⟨rfl, below_alloc _ _⟩
/-- The sign of a number, as Sign tells it. -/
def SgnOf (n : Bool) (k : Nat) (s : Int) : Prop := (k = 0 ∧ s = 0) ∨ (0 < k ∧ n = false ∧ s = 1) ∨ (0 < k ∧ n = true ∧ s = -1)
set_option maxHeartbeats 1000000 in
theorem cmpX_less (n1 n2 : Bool) (a1 a2 : Option Addr) (c1 c2 : Nat) (z1 z2 : List Int) (e1 e2 : Int) (w : World) (s t : Int) (h1 : SgnOf n1 z1.length s) (h2 : SgnOf n2 z2.length t) (hs : s < t) :
    Calls Tryd.prog 38 #[dV n1 a1 z1.length c1 e1, dV n2 a2 z2.length c2 e2] w fun e w' => e = .returned (.int .i64 (-1)) ∧ Below w.heap.size w w' := by
  have d1 : (s == t) = false := beq_eq_false_iff_ne.2 (by omega)
  have B1 := ((Bx.nil w).push (DO n1 a1 z1.length c1 e1)).push (DO n2 a2 z2.length c2 e2)
  go_enter Tryd.func38, Tryd.ntmps38
  go_wp2_with fail
  rw [show (w.alloc (DO n1 a1 z1.length c1 e1)).heap.size = w.heap.size + 1 by simp] at B1
  generalize hw1 : (w.alloc (DO n1 a1 z1.length c1 e1)).alloc (DO n2 a2 z2.length c2 e2) = w1 at *
  clear hw1
  have HI := B1.drew
  have sh := fun W (hW : Bx w [(w.heap.size + 1, DO n2 a2 z2.length c2 e2), (w.heap.size, DO n1 a1 z1.length c1 e1)] W) => And.intro (cells3 hW (w.heap.size + 1) _ _ _ _ (.head _)).1 (cells3 hW w.heap.size _ _ _ _ (.tail _ (.head _))).1
  refine Drawn.enter (Bx w [(w.heap.size + 1, DO n2 a2 z2.length c2 e2), (w.heap.size, DO n1 a1 z1.length c1 e1)]) (by kernel_rfl) ?_
  refine Drawn.take (i := 0) (v := ?v189) rfl (by kernel_rfl) (by kernel_rfl) (by kernel_rfl) (fun _ _ _ h => h) (by kernel_rfl) (fun W hW => ?_) HI ?_
  rotate_left
  · have ⟨⟨s0, s1, s2⟩, q0, q3, q4⟩ := sh W hW
    go_simp <;> exact rfl
  refine Drawn.take (i := 2) (v := ?v190) rfl (by kernel_rfl) (by kernel_rfl) (by kernel_rfl) (fun _ _ _ h => h) (by kernel_rfl) (fun W hW => ?_) HI ?_
  rotate_left
  · have ⟨⟨s0, s1, s2⟩, q0, q3, q4⟩ := sh W hW
    go_simp <;> exact rfl
  refine Drawn.one (j := 1) (by kernel_rfl) rfl (fun K hK => ?_)
  go_simp
  refine (rSgnAny n1 a1 c1 z1.length e1 s h1 _).mono ?_
  rintro e wn ⟨rfl, hn⟩
  refine hK _ _ (HI.keep hn) ?_
  clear hK K
  replace HI := HI.keep hn
  clear hn
  refine Drawn.one (j := 3) (by kernel_rfl) rfl (fun K hK => ?_)
  go_simp
  refine (rSgnAny n2 a2 c2 z2.length e2 t h2 _).mono ?_
  rintro e wn ⟨rfl, hn⟩
  refine hK _ _ (HI.keep hn) ?_
  clear hK K
  replace HI := HI.keep hn
  clear hn
  refine Drawn.take (i := 4) (v := ?v191) rfl (by kernel_rfl) (by kernel_rfl) (by kernel_rfl) (fun _ _ _ h => h) (by kernel_rfl) (fun W hW => ?_) HI ?_
  rotate_left
  · have ⟨⟨s0, s1, s2⟩, q0, q3, q4⟩ := sh W hW
    go_simp <;> exact rfl
  refine Drawn.take (i := 5) (v := ?v192) rfl (by kernel_rfl) (by kernel_rfl) (by kernel_rfl) (fun _ _ _ h => h) (by kernel_rfl) (fun W hW => ?_) HI ?_
  rotate_left
  · have ⟨⟨s0, s1, s2⟩, q0, q3, q4⟩ := sh W hW
    go_simp <;> exact rfl
  refine Drawn.done (by kernel_rfl) ?_
  try go_simp
  clear sh h1 h2
  go_wp2
  go_ret
  exact ⟨rfl, HI.bel⟩
set_option maxHeartbeats 1000000 in
theorem cmpX_more (n1 n2 : Bool) (a1 a2 : Option Addr) (c1 c2 : Nat) (z1 z2 : List Int) (e1 e2 : Int) (w : World) (s t : Int) (h1 : SgnOf n1 z1.length s) (h2 : SgnOf n2 z2.length t) (hs : t < s) :
    Calls Tryd.prog 38 #[dV n1 a1 z1.length c1 e1, dV n2 a2 z2.length c2 e2] w fun e w' => e = .returned (.int .i64 (1)) ∧ Below w.heap.size w w' := by
  have d1 : (s == t) = false := beq_eq_false_iff_ne.2 (by omega)
  have B1 := ((Bx.nil w).push (DO n1 a1 z1.length c1 e1)).push (DO n2 a2 z2.length c2 e2)
  go_enter Tryd.func38, Tryd.ntmps38
  go_wp2_with fail
  rw [show (w.alloc (DO n1 a1 z1.length c1 e1)).heap.size = w.heap.size + 1 by simp] at B1
  generalize hw1 : (w.alloc (DO n1 a1 z1.length c1 e1)).alloc (DO n2 a2 z2.length c2 e2) = w1 at *
  clear hw1
  have HI := B1.drew
  have sh := fun W (hW : Bx w [(w.heap.size + 1, DO n2 a2 z2.length c2 e2), (w.heap.size, DO n1 a1 z1.length c1 e1)] W) => And.intro (cells3 hW (w.heap.size + 1) _ _ _ _ (.head _)).1 (cells3 hW w.heap.size _ _ _ _ (.tail _ (.head _))).1
  refine Drawn.enter (Bx w [(w.heap.size + 1, DO n2 a2 z2.length c2 e2), (w.heap.size, DO n1 a1 z1.length c1 e1)]) (by kernel_rfl) ?_
  refine Drawn.take (i := 0) (v := ?v193) rfl (by kernel_rfl) (by kernel_rfl) (by kernel_rfl) (fun _ _ _ h => h) (by kernel_rfl) (fun W hW => ?_) HI ?_
  rotate_left
  · have ⟨⟨s0, s1, s2⟩, q0, q3, q4⟩ := sh W hW
    go_simp <;> exact rfl
  refine Drawn.take (i := 2) (v := ?v194) rfl (by kernel_rfl) (by kernel_rfl) (by kernel_rfl) (fun _ _ _ h => h) (by kernel_rfl) (fun W hW => ?_) HI ?_
  rotate_left
  · have ⟨⟨s0, s1, s2⟩, q0, q3, q4⟩ := sh W hW
    go_simp <;> exact rfl
  refine Drawn.one (j := 1) (by kernel_rfl) rfl (fun K hK => ?_)
  go_simp
  refine (rSgnAny n1 a1 c1 z1.length e1 s h1 _).mono ?_
  rintro e wn ⟨rfl, hn⟩
  refine hK _ _ (HI.keep hn) ?_
  clear hK K
  replace HI := HI.keep hn
  clear hn
  refine Drawn.one (j := 3) (by kernel_rfl) rfl (fun K hK => ?_)
  go_simp
  refine (rSgnAny n2 a2 c2 z2.length e2 t h2 _).mono ?_
  rintro e wn ⟨rfl, hn⟩
  refine hK _ _ (HI.keep hn) ?_
  clear hK K
  replace HI := HI.keep hn
  clear hn
  refine Drawn.take (i := 4) (v := ?v195) rfl (by kernel_rfl) (by kernel_rfl) (by kernel_rfl) (fun _ _ _ h => h) (by kernel_rfl) (fun W hW => ?_) HI ?_
  rotate_left
  · have ⟨⟨s0, s1, s2⟩, q0, q3, q4⟩ := sh W hW
    go_simp <;> exact rfl
  refine Drawn.take (i := 5) (v := ?v196) rfl (by kernel_rfl) (by kernel_rfl) (by kernel_rfl) (fun _ _ _ h => h) (by kernel_rfl) (fun W hW => ?_) HI ?_
  rotate_left
  · have ⟨⟨s0, s1, s2⟩, q0, q3, q4⟩ := sh W hW
    go_simp <;> exact rfl
  refine Drawn.done (by kernel_rfl) ?_
  try go_simp
  clear sh h1 h2
  go_wp2
  go_ret
  exact ⟨rfl, HI.bel⟩
theorem cmpX_zero (n1 n2 : Bool) (a1 a2 : Option Addr) (c1 c2 : Nat) (z1 z2 : List Int) (e1 e2 : Int) (w : World) (h1 : SgnOf n1 z1.length 0) (h2 : SgnOf n2 z2.length 0) :
    Calls Tryd.prog 38 #[dV n1 a1 z1.length c1 e1, dV n2 a2 z2.length c2 e2] w fun e w' => e = .returned (.int .i64 0) ∧ Below w.heap.size w w' := by
  have B1 := ((Bx.nil w).push (DO n1 a1 z1.length c1 e1)).push (DO n2 a2 z2.length c2 e2)
  go_enter Tryd.func38, Tryd.ntmps38
  go_wp2_with fail
  rw [show (w.alloc (DO n1 a1 z1.length c1 e1)).heap.size = w.heap.size + 1 by simp] at B1
  generalize hw1 : (w.alloc (DO n1 a1 z1.length c1 e1)).alloc (DO n2 a2 z2.length c2 e2) = w1 at *
  clear hw1
  have HI := B1.drew
  have sh := fun W (hW : Bx w [(w.heap.size + 1, DO n2 a2 z2.length c2 e2), (w.heap.size, DO n1 a1 z1.length c1 e1)] W) => And.intro (cells3 hW (w.heap.size + 1) _ _ _ _ (.head _)).1 (cells3 hW w.heap.size _ _ _ _ (.tail _ (.head _))).1
  refine Drawn.enter (Bx w [(w.heap.size + 1, DO n2 a2 z2.length c2 e2), (w.heap.size, DO n1 a1 z1.length c1 e1)]) (by kernel_rfl) ?_
  refine Drawn.take (i := 0) (v := ?v197) rfl (by kernel_rfl) (by kernel_rfl) (by kernel_rfl) (fun _ _ _ h => h) (by kernel_rfl) (fun W hW => ?_) HI ?_
  rotate_left
  · have ⟨⟨s0, s1, s2⟩, q0, q3, q4⟩ := sh W hW
    go_simp <;> exact rfl
  refine Drawn.take (i := 2) (v := ?v198) rfl (by kernel_rfl) (by kernel_rfl) (by kernel_rfl) (fun _ _ _ h => h) (by kernel_rfl) (fun W hW => ?_) HI ?_
  rotate_left
  · have ⟨⟨s0, s1, s2⟩, q0, q3, q4⟩ := sh W hW
    go_simp <;> exact rfl
  refine Drawn.one (j := 1) (by kernel_rfl) rfl (fun K hK => ?_)
  go_simp
  refine (rSgnAny n1 a1 c1 z1.length e1 0 h1 _).mono ?_
  rintro e wn ⟨rfl, hn⟩
  refine hK _ _ (HI.keep hn) ?_
  clear hK K
  replace HI := HI.keep hn
  clear hn
  refine Drawn.one (j := 3) (by kernel_rfl) rfl (fun K hK => ?_)
  go_simp
  refine (rSgnAny n2 a2 c2 z2.length e2 0 h2 _).mono ?_
  rintro e wn ⟨rfl, hn⟩
  refine hK _ _ (HI.keep hn) ?_
  clear hK K
  replace HI := HI.keep hn
  clear hn
  refine Drawn.take (i := 4) (v := ?v199) rfl (by kernel_rfl) (by kernel_rfl) (by kernel_rfl) (fun _ _ _ h => h) (by kernel_rfl) (fun W hW => ?_) HI ?_
  rotate_left
  · have ⟨⟨s0, s1, s2⟩, q0, q3, q4⟩ := sh W hW
    go_simp <;> exact rfl
  refine Drawn.take (i := 5) (v := ?v200) rfl (by kernel_rfl) (by kernel_rfl) (by kernel_rfl) (fun _ _ _ h => h) (by kernel_rfl) (fun W hW => ?_) HI ?_
  rotate_left
  · have ⟨⟨s0, s1, s2⟩, q0, q3, q4⟩ := sh W hW
    go_simp <;> exact rfl
  refine Drawn.done (by kernel_rfl) ?_
  try go_simp
  clear sh h1 h2
  go_wp2
  go_ret
  exact ⟨rfl, HI.bel⟩
set_option maxHeartbeats 2000000 in
theorem cmpX_pl (n1 n2 : Bool) (a1 a2 : Option Addr) (c1 c2 : Nat) (z1 z2 : List Int) (e1 e2 : Int) (w : World) (h1 : SgnOf n1 z1.length 1) (h2 : SgnOf n2 z2.length 1) (l1 : Lie w a1 z1) (l2 : Lie w a2 z2) (g1 : DG n1 z1 e1) (g2 : DG n2 z2 e2) (hz1 : 0 < z1.length) (hz2 : 0 < z2.length) {T1 T2 : Nat} (hT1 : BitLen (Nt.val z1) T1) (hT2 : BitLen (Nt.val z2) T2) (ht : e1 + T1 < e2 + T2) :
    Calls Tryd.prog 38 #[dV n1 a1 z1.length c1 e1, dV n2 a2 z2.length c2 e2] w fun e w' => e = .returned (.int .i64 (-1)) ∧ Below w.heap.size w w' := by
  have H1 := Hide.mk hT1
  have H2 := Hide.mk hT2
  clear hT1 hT2
  have B1 := ((Bx.nil w).push (DO n1 a1 z1.length c1 e1)).push (DO n2 a2 z2.length c2 e2)
  go_enter Tryd.func38, Tryd.ntmps38
  go_wp2_with fail
  rw [show (w.alloc (DO n1 a1 z1.length c1 e1)).heap.size = w.heap.size + 1 by simp] at B1
  generalize hw1 : (w.alloc (DO n1 a1 z1.length c1 e1)).alloc (DO n2 a2 z2.length c2 e2) = w1 at *
  clear hw1
  have HI := B1.drew
  have sh := fun W (hW : Bx w [(w.heap.size + 1, DO n2 a2 z2.length c2 e2), (w.heap.size, DO n1 a1 z1.length c1 e1)] W) => And.intro (cells3 hW (w.heap.size + 1) _ _ _ _ (.head _)).1 (cells3 hW w.heap.size _ _ _ _ (.tail _ (.head _))).1
  refine Drawn.enter (Bx w [(w.heap.size + 1, DO n2 a2 z2.length c2 e2), (w.heap.size, DO n1 a1 z1.length c1 e1)]) (by kernel_rfl) ?_
  refine Drawn.take (i := 0) (v := ?v201) rfl (by kernel_rfl) (by kernel_rfl) (by kernel_rfl) (fun _ _ _ h => h) (by kernel_rfl) (fun W hW => ?_) HI ?_
  rotate_left
  · have ⟨⟨s0, s1, s2⟩, q0, q3, q4⟩ := sh W hW
    go_simp <;> exact rfl
  refine Drawn.take (i := 2) (v := ?v202) rfl (by kernel_rfl) (by kernel_rfl) (by kernel_rfl) (fun _ _ _ h => h) (by kernel_rfl) (fun W hW => ?_) HI ?_
  rotate_left
  · have ⟨⟨s0, s1, s2⟩, q0, q3, q4⟩ := sh W hW
    go_simp <;> exact rfl
  refine Drawn.one (j := 1) (by kernel_rfl) rfl (fun K hK => ?_)
  go_simp
  refine (rSgnAny n1 a1 c1 z1.length e1 1 h1 _).mono ?_
  rintro e wn ⟨rfl, hn⟩
  refine hK _ _ (HI.keep hn) ?_
  clear hK K
  replace HI := HI.keep hn
  clear hn
  refine Drawn.one (j := 3) (by kernel_rfl) rfl (fun K hK => ?_)
  go_simp
  refine (rSgnAny n2 a2 c2 z2.length e2 1 h2 _).mono ?_
  rintro e wn ⟨rfl, hn⟩
  refine hK _ _ (HI.keep hn) ?_
  clear hK K
  replace HI := HI.keep hn
  clear hn
  refine Drawn.take (i := 4) (v := ?v203) rfl (by kernel_rfl) (by kernel_rfl) (by kernel_rfl) (fun _ _ _ h => h) (by kernel_rfl) (fun W hW => ?_) HI ?_
  rotate_left
  · have ⟨⟨s0, s1, s2⟩, q0, q3, q4⟩ := sh W hW
    go_simp <;> exact rfl
  refine Drawn.take (i := 5) (v := ?v204) rfl (by kernel_rfl) (by kernel_rfl) (by kernel_rfl) (fun _ _ _ h => h) (by kernel_rfl) (fun W hW => ?_) HI ?_
  rotate_left
  · have ⟨⟨s0, s1, s2⟩, q0, q3, q4⟩ := sh W hW
    go_simp <;> exact rfl
  refine Drawn.done (by kernel_rfl) ?_
  try go_simp
  go_wp2_with fail
  replace HI := HI.drew
  refine Drawn.enter (Bx w [(w.heap.size + 1, DO n2 a2 z2.length c2 e2), (w.heap.size, DO n1 a1 z1.length c1 e1)]) (by kernel_rfl) ?_
  refine Drawn.take (i := 0) (v := ?v205) rfl (by kernel_rfl) (by kernel_rfl) (by kernel_rfl) (fun _ _ _ h => h) (by kernel_rfl) (fun W hW => ?_) HI ?_
  rotate_left
  · have ⟨⟨s0, s1, s2⟩, q0, q3, q4⟩ := sh W hW
    go_simp <;> exact rfl
  refine Drawn.take (i := 2) (v := ?v206) rfl (by kernel_rfl) (by kernel_rfl) (by kernel_rfl) (fun _ _ _ h => h) (by kernel_rfl) (fun W hW => ?_) HI ?_
  rotate_left
  · have ⟨⟨s0, s1, s2⟩, q0, q3, q4⟩ := sh W hW
    go_simp <;> exact rfl
  refine Drawn.one (j := 1) (by kernel_rfl) rfl (fun K hK => ?_)
  go_simp
  refine (dreftop54 n1 a1 c1 z1 e1 _ (l1.below HI.bel (Nat.le_refl _)) g1 hz1).mono ?_
  rintro e w5 ⟨B5, rfl, hB5, hb5, h5⟩
  obtain rfl := hB5.unique H1.out
  refine hK _ _ (HI.keep h5) ?_
  clear hK K hB5
  replace HI := HI.keep h5
  clear h5
  refine Drawn.one (j := 3) (by kernel_rfl) rfl (fun K hK => ?_)
  go_simp
  refine (dreftop54 n2 a2 c2 z2 e2 _ (l2.below HI.bel (Nat.le_refl _)) g2 hz2).mono ?_
  rintro e w6 ⟨B6, rfl, hB6, hb6, h6⟩
  obtain rfl := hB6.unique H2.out
  refine hK _ _ (HI.keep h6) ?_
  clear hK K hB6
  replace HI := HI.keep h6
  clear h6
  refine Drawn.take (i := 4) (v := .bool true) rfl (by kernel_rfl) (by kernel_rfl) (by kernel_rfl) (fun _ _ _ h => h) (by kernel_rfl) (fun W hW => ?_) HI ?_
  · have ⟨⟨s0, s1, s2⟩, q0, q3, q4⟩ := sh W hW
    go_simp <;> (first | (simp; omega) | omega)
  refine Drawn.done (by kernel_rfl) ?_
  try go_simp
  go_wp2_with fail
  replace HI := HI.drew
  refine Drawn.enter (Bx w [(w.heap.size + 1, DO n2 a2 z2.length c2 e2), (w.heap.size, DO n1 a1 z1.length c1 e1)]) (by kernel_rfl) ?_
  refine Drawn.take (i := 0) (v := ?v207) rfl (by kernel_rfl) (by kernel_rfl) (by kernel_rfl) (fun _ _ _ h => h) (by kernel_rfl) (fun W hW => ?_) HI ?_
  rotate_left
  · have ⟨⟨s0, s1, s2⟩, q0, q3, q4⟩ := sh W hW
    go_simp <;> exact rfl
  refine Drawn.take (i := 2) (v := ?v208) rfl (by kernel_rfl) (by kernel_rfl) (by kernel_rfl) (fun _ _ _ h => h) (by kernel_rfl) (fun W hW => ?_) HI ?_
  rotate_left
  · have ⟨⟨s0, s1, s2⟩, q0, q3, q4⟩ := sh W hW
    go_simp <;> exact rfl
  refine Drawn.take (i := 5) (v := ?v209) rfl (by kernel_rfl) (by kernel_rfl) (by kernel_rfl) (fun _ _ _ h => h) (by kernel_rfl) (fun W hW => ?_) HI ?_
  rotate_left
  · have ⟨⟨s0, s1, s2⟩, q0, q3, q4⟩ := sh W hW
    go_simp <;> exact rfl
  refine Drawn.take (i := 6) (v := .bool true) rfl (by kernel_rfl) (by kernel_rfl) (by kernel_rfl) (fun _ _ _ h => h) (by kernel_rfl) (fun W hW => ?_) HI ?_
  · have ⟨⟨s0, s1, s2⟩, q0, q3, q4⟩ := sh W hW
    go_simp <;> (first | rfl | (simp; omega))
  refine Drawn.one (j := 1) (by kernel_rfl) rfl (fun K hK => ?_)
  go_simp
  refine (dreftop54 n1 a1 c1 z1 e1 _ (l1.below HI.bel (Nat.le_refl _)) g1 hz1).mono ?_
  rintro e w5 ⟨B5, rfl, hB5, hb7, h5⟩
  obtain rfl := hB5.unique H1.out
  refine hK _ _ (HI.keep h5) ?_
  clear hK K hB5
  replace HI := HI.keep h5
  clear h5
  refine Drawn.one (j := 3) (by kernel_rfl) rfl (fun K hK => ?_)
  go_simp
  refine (dreftop54 n2 a2 c2 z2 e2 _ (l2.below HI.bel (Nat.le_refl _)) g2 hz2).mono ?_
  rintro e w6 ⟨B6, rfl, hB6, hb8, h6⟩
  obtain rfl := hB6.unique H2.out
  refine hK _ _ (HI.keep h6) ?_
  clear hK K hB6
  replace HI := HI.keep h6
  clear h6
  refine Drawn.take (i := 4) (v := .bool true) rfl (by kernel_rfl) (by kernel_rfl) (by kernel_rfl) (fun _ _ _ h => h) (by kernel_rfl) (fun W hW => ?_) HI ?_
  · have ⟨⟨s0, s1, s2⟩, q0, q3, q4⟩ := sh W hW
    go_simp <;> (first | omega | (simp; omega))
  refine Drawn.take (i := 7) (v := .bool true) rfl (by kernel_rfl) (by kernel_rfl) (by kernel_rfl) (fun _ _ _ h => h) (by kernel_rfl) (fun W hW => ?_) HI ?_
  · have ⟨⟨s0, s1, s2⟩, q0, q3, q4⟩ := sh W hW
    go_simp <;> (rfl)
  refine Drawn.done (by kernel_rfl) ?_
  try go_simp
  clear sh
  go_wp2
  go_ret
  exact ⟨rfl, HI.bel⟩
set_option maxHeartbeats 2000000 in
theorem cmpX_pg (n1 n2 : Bool) (a1 a2 : Option Addr) (c1 c2 : Nat) (z1 z2 : List Int) (e1 e2 : Int) (w : World) (h1 : SgnOf n1 z1.length 1) (h2 : SgnOf n2 z2.length 1) (l1 : Lie w a1 z1) (l2 : Lie w a2 z2) (g1 : DG n1 z1 e1) (g2 : DG n2 z2 e2) (hz1 : 0 < z1.length) (hz2 : 0 < z2.length) {T1 T2 : Nat} (hT1 : BitLen (Nt.val z1) T1) (hT2 : BitLen (Nt.val z2) T2) (ht : e2 + T2 < e1 + T1) :
    Calls Tryd.prog 38 #[dV n1 a1 z1.length c1 e1, dV n2 a2 z2.length c2 e2] w fun e w' => e = .returned (.int .i64 (1)) ∧ Below w.heap.size w w' := by
  have H1 := Hide.mk hT1
  have H2 := Hide.mk hT2
  clear hT1 hT2
  have B1 := ((Bx.nil w).push (DO n1 a1 z1.length c1 e1)).push (DO n2 a2 z2.length c2 e2)
  go_enter Tryd.func38, Tryd.ntmps38
  go_wp2_with fail
  rw [show (w.alloc (DO n1 a1 z1.length c1 e1)).heap.size = w.heap.size + 1 by simp] at B1
  generalize hw1 : (w.alloc (DO n1 a1 z1.length c1 e1)).alloc (DO n2 a2 z2.length c2 e2) = w1 at *
  clear hw1
  have HI := B1.drew
  have sh := fun W (hW : Bx w [(w.heap.size + 1, DO n2 a2 z2.length c2 e2), (w.heap.size, DO n1 a1 z1.length c1 e1)] W) => And.intro (cells3 hW (w.heap.size + 1) _ _ _ _ (.head _)).1 (cells3 hW w.heap.size _ _ _ _ (.tail _ (.head _))).1
  refine Drawn.enter (Bx w [(w.heap.size + 1, DO n2 a2 z2.length c2 e2), (w.heap.size, DO n1 a1 z1.length c1 e1)]) (by kernel_rfl) ?_
  refine Drawn.take (i := 0) (v := ?v210) rfl (by kernel_rfl) (by kernel_rfl) (by kernel_rfl) (fun _ _ _ h => h) (by kernel_rfl) (fun W hW => ?_) HI ?_
  rotate_left
  · have ⟨⟨s0, s1, s2⟩, q0, q3, q4⟩ := sh W hW
    go_simp <;> exact rfl
  refine Drawn.take (i := 2) (v := ?v211) rfl (by kernel_rfl) (by kernel_rfl) (by kernel_rfl) (fun _ _ _ h => h) (by kernel_rfl) (fun W hW => ?_) HI ?_
  rotate_left
  · have ⟨⟨s0, s1, s2⟩, q0, q3, q4⟩ := sh W hW
    go_simp <;> exact rfl
  refine Drawn.one (j := 1) (by kernel_rfl) rfl (fun K hK => ?_)
  go_simp
  refine (rSgnAny n1 a1 c1 z1.length e1 1 h1 _).mono ?_
  rintro e wn ⟨rfl, hn⟩
  refine hK _ _ (HI.keep hn) ?_
  clear hK K
  replace HI := HI.keep hn
  clear hn
  refine Drawn.one (j := 3) (by kernel_rfl) rfl (fun K hK => ?_)
  go_simp
  refine (rSgnAny n2 a2 c2 z2.length e2 1 h2 _).mono ?_
  rintro e wn ⟨rfl, hn⟩
  refine hK _ _ (HI.keep hn) ?_
  clear hK K
  replace HI := HI.keep hn
  clear hn
  refine Drawn.take (i := 4) (v := ?v212) rfl (by kernel_rfl) (by kernel_rfl) (by kernel_rfl) (fun _ _ _ h => h) (by kernel_rfl) (fun W hW => ?_) HI ?_
  rotate_left
  · have ⟨⟨s0, s1, s2⟩, q0, q3, q4⟩ := sh W hW
    go_simp <;> exact rfl
  refine Drawn.take (i := 5) (v := ?v213) rfl (by kernel_rfl) (by kernel_rfl) (by kernel_rfl) (fun _ _ _ h => h) (by kernel_rfl) (fun W hW => ?_) HI ?_
  rotate_left
  · have ⟨⟨s0, s1, s2⟩, q0, q3, q4⟩ := sh W hW
    go_simp <;> exact rfl
  refine Drawn.done (by kernel_rfl) ?_
  try go_simp
  go_wp2_with fail
  replace HI := HI.drew
  refine Drawn.enter (Bx w [(w.heap.size + 1, DO n2 a2 z2.length c2 e2), (w.heap.size, DO n1 a1 z1.length c1 e1)]) (by kernel_rfl) ?_
  refine Drawn.take (i := 0) (v := ?v214) rfl (by kernel_rfl) (by kernel_rfl) (by kernel_rfl) (fun _ _ _ h => h) (by kernel_rfl) (fun W hW => ?_) HI ?_
  rotate_left
  · have ⟨⟨s0, s1, s2⟩, q0, q3, q4⟩ := sh W hW
    go_simp <;> exact rfl
  refine Drawn.take (i := 2) (v := ?v215) rfl (by kernel_rfl) (by kernel_rfl) (by kernel_rfl) (fun _ _ _ h => h) (by kernel_rfl) (fun W hW => ?_) HI ?_
  rotate_left
  · have ⟨⟨s0, s1, s2⟩, q0, q3, q4⟩ := sh W hW
    go_simp <;> exact rfl
  refine Drawn.one (j := 1) (by kernel_rfl) rfl (fun K hK => ?_)
  go_simp
  refine (dreftop54 n1 a1 c1 z1 e1 _ (l1.below HI.bel (Nat.le_refl _)) g1 hz1).mono ?_
  rintro e w5 ⟨B5, rfl, hB5, hb5, h5⟩
  obtain rfl := hB5.unique H1.out
  refine hK _ _ (HI.keep h5) ?_
  clear hK K hB5
  replace HI := HI.keep h5
  clear h5
  refine Drawn.one (j := 3) (by kernel_rfl) rfl (fun K hK => ?_)
  go_simp
  refine (dreftop54 n2 a2 c2 z2 e2 _ (l2.below HI.bel (Nat.le_refl _)) g2 hz2).mono ?_
  rintro e w6 ⟨B6, rfl, hB6, hb6, h6⟩
  obtain rfl := hB6.unique H2.out
  refine hK _ _ (HI.keep h6) ?_
  clear hK K hB6
  replace HI := HI.keep h6
  clear h6
  refine Drawn.take (i := 4) (v := .bool true) rfl (by kernel_rfl) (by kernel_rfl) (by kernel_rfl) (fun _ _ _ h => h) (by kernel_rfl) (fun W hW => ?_) HI ?_
  · have ⟨⟨s0, s1, s2⟩, q0, q3, q4⟩ := sh W hW
    go_simp <;> (first | (simp; omega) | omega)
  refine Drawn.done (by kernel_rfl) ?_
  try go_simp
  go_wp2_with fail
  replace HI := HI.drew
  refine Drawn.enter (Bx w [(w.heap.size + 1, DO n2 a2 z2.length c2 e2), (w.heap.size, DO n1 a1 z1.length c1 e1)]) (by kernel_rfl) ?_
  refine Drawn.take (i := 0) (v := ?v216) rfl (by kernel_rfl) (by kernel_rfl) (by kernel_rfl) (fun _ _ _ h => h) (by kernel_rfl) (fun W hW => ?_) HI ?_
  rotate_left
  · have ⟨⟨s0, s1, s2⟩, q0, q3, q4⟩ := sh W hW
    go_simp <;> exact rfl
  refine Drawn.take (i := 2) (v := ?v217) rfl (by kernel_rfl) (by kernel_rfl) (by kernel_rfl) (fun _ _ _ h => h) (by kernel_rfl) (fun W hW => ?_) HI ?_
  rotate_left
  · have ⟨⟨s0, s1, s2⟩, q0, q3, q4⟩ := sh W hW
    go_simp <;> exact rfl
  refine Drawn.take (i := 5) (v := ?v218) rfl (by kernel_rfl) (by kernel_rfl) (by kernel_rfl) (fun _ _ _ h => h) (by kernel_rfl) (fun W hW => ?_) HI ?_
  rotate_left
  · have ⟨⟨s0, s1, s2⟩, q0, q3, q4⟩ := sh W hW
    go_simp <;> exact rfl
  refine Drawn.take (i := 6) (v := .bool true) rfl (by kernel_rfl) (by kernel_rfl) (by kernel_rfl) (fun _ _ _ h => h) (by kernel_rfl) (fun W hW => ?_) HI ?_
  · have ⟨⟨s0, s1, s2⟩, q0, q3, q4⟩ := sh W hW
    go_simp <;> (first | rfl | (simp; omega))
  refine Drawn.one (j := 1) (by kernel_rfl) rfl (fun K hK => ?_)
  go_simp
  refine (dreftop54 n1 a1 c1 z1 e1 _ (l1.below HI.bel (Nat.le_refl _)) g1 hz1).mono ?_
  rintro e w5 ⟨B5, rfl, hB5, hb7, h5⟩
  obtain rfl := hB5.unique H1.out
  refine hK _ _ (HI.keep h5) ?_
  clear hK K hB5
  replace HI := HI.keep h5
  clear h5
  refine Drawn.one (j := 3) (by kernel_rfl) rfl (fun K hK => ?_)
  go_simp
  refine (dreftop54 n2 a2 c2 z2 e2 _ (l2.below HI.bel (Nat.le_refl _)) g2 hz2).mono ?_
  rintro e w6 ⟨B6, rfl, hB6, hb8, h6⟩
  obtain rfl := hB6.unique H2.out
  refine hK _ _ (HI.keep h6) ?_
  clear hK K hB6
  replace HI := HI.keep h6
  clear h6
  refine Drawn.take (i := 4) (v := .bool false) rfl (by kernel_rfl) (by kernel_rfl) (by kernel_rfl) (fun _ _ _ h => h) (by kernel_rfl) (fun W hW => ?_) HI ?_
  · have ⟨⟨s0, s1, s2⟩, q0, q3, q4⟩ := sh W hW
    go_simp <;> (first | omega | (simp; omega))
  refine Drawn.take (i := 7) (v := .bool false) rfl (by kernel_rfl) (by kernel_rfl) (by kernel_rfl) (fun _ _ _ h => h) (by kernel_rfl) (fun W hW => ?_) HI ?_
  · have ⟨⟨s0, s1, s2⟩, q0, q3, q4⟩ := sh W hW
    go_simp <;> (rfl)
  refine Drawn.done (by kernel_rfl) ?_
  try go_simp
  clear sh
  go_wp2
  go_ret
  exact ⟨rfl, HI.bel⟩
set_option maxHeartbeats 2000000 in
theorem cmpX_nl (n1 n2 : Bool) (a1 a2 : Option Addr) (c1 c2 : Nat) (z1 z2 : List Int) (e1 e2 : Int) (w : World) (h1 : SgnOf n1 z1.length (-1)) (h2 : SgnOf n2 z2.length (-1)) (l1 : Lie w a1 z1) (l2 : Lie w a2 z2) (g1 : DG n1 z1 e1) (g2 : DG n2 z2 e2) (hz1 : 0 < z1.length) (hz2 : 0 < z2.length) {T1 T2 : Nat} (hT1 : BitLen (Nt.val z1) T1) (hT2 : BitLen (Nt.val z2) T2) (ht : e1 + T1 < e2 + T2) :
    Calls Tryd.prog 38 #[dV n1 a1 z1.length c1 e1, dV n2 a2 z2.length c2 e2] w fun e w' => e = .returned (.int .i64 (1)) ∧ Below w.heap.size w w' := by
  have H1 := Hide.mk hT1
  have H2 := Hide.mk hT2
  clear hT1 hT2
  have B1 := ((Bx.nil w).push (DO n1 a1 z1.length c1 e1)).push (DO n2 a2 z2.length c2 e2)
  go_enter Tryd.func38, Tryd.ntmps38
  go_wp2_with fail
  rw [show (w.alloc (DO n1 a1 z1.length c1 e1)).heap.size = w.heap.size + 1 by simp] at B1
  generalize hw1 : (w.alloc (DO n1 a1 z1.length c1 e1)).alloc (DO n2 a2 z2.length c2 e2) = w1 at *
  clear hw1
  have HI := B1.drew
  have sh := fun W (hW : Bx w [(w.heap.size + 1, DO n2 a2 z2.length c2 e2), (w.heap.size, DO n1 a1 z1.length c1 e1)] W) => And.intro (cells3 hW (w.heap.size + 1) _ _ _ _ (.head _)).1 (cells3 hW w.heap.size _ _ _ _ (.tail _ (.head _))).1
  refine Drawn.enter (Bx w [(w.heap.size + 1, DO n2 a2 z2.length c2 e2), (w.heap.size, DO n1 a1 z1.length c1 e1)]) (by kernel_rfl) ?_
  refine Drawn.take (i := 0) (v := ?v219) rfl (by kernel_rfl) (by kernel_rfl) (by kernel_rfl) (fun _ _ _ h => h) (by kernel_rfl) (fun W hW => ?_) HI ?_
  rotate_left
  · have ⟨⟨s0, s1, s2⟩, q0, q3, q4⟩ := sh W hW
    go_simp <;> exact rfl
  refine Drawn.take (i := 2) (v := ?v220) rfl (by kernel_rfl) (by kernel_rfl) (by kernel_rfl) (fun _ _ _ h => h) (by kernel_rfl) (fun W hW => ?_) HI ?_
  rotate_left
  · have ⟨⟨s0, s1, s2⟩, q0, q3, q4⟩ := sh W hW
    go_simp <;> exact rfl
  refine Drawn.one (j := 1) (by kernel_rfl) rfl (fun K hK => ?_)
  go_simp
  refine (rSgnAny n1 a1 c1 z1.length e1 (-1) h1 _).mono ?_
  rintro e wn ⟨rfl, hn⟩
  refine hK _ _ (HI.keep hn) ?_
  clear hK K
  replace HI := HI.keep hn
  clear hn
  refine Drawn.one (j := 3) (by kernel_rfl) rfl (fun K hK => ?_)
  go_simp
  refine (rSgnAny n2 a2 c2 z2.length e2 (-1) h2 _).mono ?_
  rintro e wn ⟨rfl, hn⟩
  refine hK _ _ (HI.keep hn) ?_
  clear hK K
  replace HI := HI.keep hn
  clear hn
  refine Drawn.take (i := 4) (v := ?v221) rfl (by kernel_rfl) (by kernel_rfl) (by kernel_rfl) (fun _ _ _ h => h) (by kernel_rfl) (fun W hW => ?_) HI ?_
  rotate_left
  · have ⟨⟨s0, s1, s2⟩, q0, q3, q4⟩ := sh W hW
    go_simp <;> exact rfl
  refine Drawn.take (i := 5) (v := ?v222) rfl (by kernel_rfl) (by kernel_rfl) (by kernel_rfl) (fun _ _ _ h => h) (by kernel_rfl) (fun W hW => ?_) HI ?_
  rotate_left
  · have ⟨⟨s0, s1, s2⟩, q0, q3, q4⟩ := sh W hW
    go_simp <;> exact rfl
  refine Drawn.done (by kernel_rfl) ?_
  try go_simp
  go_wp2_with fail
  replace HI := HI.drew
  refine Drawn.enter (Bx w [(w.heap.size + 1, DO n2 a2 z2.length c2 e2), (w.heap.size, DO n1 a1 z1.length c1 e1)]) (by kernel_rfl) ?_
  refine Drawn.take (i := 0) (v := ?v223) rfl (by kernel_rfl) (by kernel_rfl) (by kernel_rfl) (fun _ _ _ h => h) (by kernel_rfl) (fun W hW => ?_) HI ?_
  rotate_left
  · have ⟨⟨s0, s1, s2⟩, q0, q3, q4⟩ := sh W hW
    go_simp <;> exact rfl
  refine Drawn.take (i := 2) (v := ?v224) rfl (by kernel_rfl) (by kernel_rfl) (by kernel_rfl) (fun _ _ _ h => h) (by kernel_rfl) (fun W hW => ?_) HI ?_
  rotate_left
  · have ⟨⟨s0, s1, s2⟩, q0, q3, q4⟩ := sh W hW
    go_simp <;> exact rfl
  refine Drawn.one (j := 1) (by kernel_rfl) rfl (fun K hK => ?_)
  go_simp
  refine (dreftop54 n1 a1 c1 z1 e1 _ (l1.below HI.bel (Nat.le_refl _)) g1 hz1).mono ?_
  rintro e w5 ⟨B5, rfl, hB5, hb5, h5⟩
  obtain rfl := hB5.unique H1.out
  refine hK _ _ (HI.keep h5) ?_
  clear hK K hB5
  replace HI := HI.keep h5
  clear h5
  refine Drawn.one (j := 3) (by kernel_rfl) rfl (fun K hK => ?_)
  go_simp
  refine (dreftop54 n2 a2 c2 z2 e2 _ (l2.below HI.bel (Nat.le_refl _)) g2 hz2).mono ?_
  rintro e w6 ⟨B6, rfl, hB6, hb6, h6⟩
  obtain rfl := hB6.unique H2.out
  refine hK _ _ (HI.keep h6) ?_
  clear hK K hB6
  replace HI := HI.keep h6
  clear h6
  refine Drawn.take (i := 4) (v := .bool true) rfl (by kernel_rfl) (by kernel_rfl) (by kernel_rfl) (fun _ _ _ h => h) (by kernel_rfl) (fun W hW => ?_) HI ?_
  · have ⟨⟨s0, s1, s2⟩, q0, q3, q4⟩ := sh W hW
    go_simp <;> (first | (simp; omega) | omega)
  refine Drawn.done (by kernel_rfl) ?_
  try go_simp
  go_wp2_with fail
  replace HI := HI.drew
  refine Drawn.enter (Bx w [(w.heap.size + 1, DO n2 a2 z2.length c2 e2), (w.heap.size, DO n1 a1 z1.length c1 e1)]) (by kernel_rfl) ?_
  refine Drawn.take (i := 0) (v := ?v225) rfl (by kernel_rfl) (by kernel_rfl) (by kernel_rfl) (fun _ _ _ h => h) (by kernel_rfl) (fun W hW => ?_) HI ?_
  rotate_left
  · have ⟨⟨s0, s1, s2⟩, q0, q3, q4⟩ := sh W hW
    go_simp <;> exact rfl
  refine Drawn.take (i := 2) (v := ?v226) rfl (by kernel_rfl) (by kernel_rfl) (by kernel_rfl) (fun _ _ _ h => h) (by kernel_rfl) (fun W hW => ?_) HI ?_
  rotate_left
  · have ⟨⟨s0, s1, s2⟩, q0, q3, q4⟩ := sh W hW
    go_simp <;> exact rfl
  refine Drawn.take (i := 5) (v := ?v227) rfl (by kernel_rfl) (by kernel_rfl) (by kernel_rfl) (fun _ _ _ h => h) (by kernel_rfl) (fun W hW => ?_) HI ?_
  rotate_left
  · have ⟨⟨s0, s1, s2⟩, q0, q3, q4⟩ := sh W hW
    go_simp <;> exact rfl
  refine Drawn.take (i := 6) (v := .bool false) rfl (by kernel_rfl) (by kernel_rfl) (by kernel_rfl) (fun _ _ _ h => h) (by kernel_rfl) (fun W hW => ?_) HI ?_
  · have ⟨⟨s0, s1, s2⟩, q0, q3, q4⟩ := sh W hW
    go_simp <;> (first | rfl | (simp; omega))
  refine Drawn.one (j := 1) (by kernel_rfl) rfl (fun K hK => ?_)
  go_simp
  refine (dreftop54 n1 a1 c1 z1 e1 _ (l1.below HI.bel (Nat.le_refl _)) g1 hz1).mono ?_
  rintro e w5 ⟨B5, rfl, hB5, hb7, h5⟩
  obtain rfl := hB5.unique H1.out
  refine hK _ _ (HI.keep h5) ?_
  clear hK K hB5
  replace HI := HI.keep h5
  clear h5
  refine Drawn.one (j := 3) (by kernel_rfl) rfl (fun K hK => ?_)
  go_simp
  refine (dreftop54 n2 a2 c2 z2 e2 _ (l2.below HI.bel (Nat.le_refl _)) g2 hz2).mono ?_
  rintro e w6 ⟨B6, rfl, hB6, hb8, h6⟩
  obtain rfl := hB6.unique H2.out
  refine hK _ _ (HI.keep h6) ?_
  clear hK K hB6
  replace HI := HI.keep h6
  clear h6
  refine Drawn.take (i := 4) (v := .bool true) rfl (by kernel_rfl) (by kernel_rfl) (by kernel_rfl) (fun _ _ _ h => h) (by kernel_rfl) (fun W hW => ?_) HI ?_
  · have ⟨⟨s0, s1, s2⟩, q0, q3, q4⟩ := sh W hW
    go_simp <;> (first | omega | (simp; omega))
  refine Drawn.take (i := 7) (v := .bool false) rfl (by kernel_rfl) (by kernel_rfl) (by kernel_rfl) (fun _ _ _ h => h) (by kernel_rfl) (fun W hW => ?_) HI ?_
  · have ⟨⟨s0, s1, s2⟩, q0, q3, q4⟩ := sh W hW
    go_simp <;> (rfl)
  refine Drawn.done (by kernel_rfl) ?_
  try go_simp
  clear sh
  go_wp2
  go_ret
  exact ⟨rfl, HI.bel⟩
set_option maxHeartbeats 2000000 in
theorem cmpX_ng (n1 n2 : Bool) (a1 a2 : Option Addr) (c1 c2 : Nat) (z1 z2 : List Int) (e1 e2 : Int) (w : World) (h1 : SgnOf n1 z1.length (-1)) (h2 : SgnOf n2 z2.length (-1)) (l1 : Lie w a1 z1) (l2 : Lie w a2 z2) (g1 : DG n1 z1 e1) (g2 : DG n2 z2 e2) (hz1 : 0 < z1.length) (hz2 : 0 < z2.length) {T1 T2 : Nat} (hT1 : BitLen (Nt.val z1) T1) (hT2 : BitLen (Nt.val z2) T2) (ht : e2 + T2 < e1 + T1) :
    Calls Tryd.prog 38 #[dV n1 a1 z1.length c1 e1, dV n2 a2 z2.length c2 e2] w fun e w' => e = .returned (.int .i64 (-1)) ∧ Below w.heap.size w w' := by
  have H1 := Hide.mk hT1
  have H2 := Hide.mk hT2
  clear hT1 hT2
  have B1 := ((Bx.nil w).push (DO n1 a1 z1.length c1 e1)).push (DO n2 a2 z2.length c2 e2)
  go_enter Tryd.func38, Tryd.ntmps38
  go_wp2_with fail
  rw [show (w.alloc (DO n1 a1 z1.length c1 e1)).heap.size = w.heap.size + 1 by simp] at B1
  generalize hw1 : (w.alloc (DO n1 a1 z1.length c1 e1)).alloc (DO n2 a2 z2.length c2 e2) = w1 at *
  clear hw1
  have HI := B1.drew
  have sh := fun W (hW : Bx w [(w.heap.size + 1, DO n2 a2 z2.length c2 e2), (w.heap.size, DO n1 a1 z1.length c1 e1)] W) => And.intro (cells3 hW (w.heap.size + 1) _ _ _ _ (.head _)).1 (cells3 hW w.heap.size _ _ _ _ (.tail _ (.head _))).1
  refine Drawn.enter (Bx w [(w.heap.size + 1, DO n2 a2 z2.length c2 e2), (w.heap.size, DO n1 a1 z1.length c1 e1)]) (by kernel_rfl) ?_
  refine Drawn.take (i := 0) (v := ?v228) rfl (by kernel_rfl) (by kernel_rfl) (by kernel_rfl) (fun _ _ _ h => h) (by kernel_rfl) (fun W hW => ?_) HI ?_
  rotate_left
  · have ⟨⟨s0, s1, s2⟩, q0, q3, q4⟩ := sh W hW
    go_simp <;> exact rfl
  refine Drawn.take (i := 2) (v := ?v229) rfl (by kernel_rfl) (by kernel_rfl) (by kernel_rfl) (fun _ _ _ h => h) (by kernel_rfl) (fun W hW => ?_) HI ?_
  rotate_left
  · have ⟨⟨s0, s1, s2⟩, q0, q3, q4⟩ := sh W hW
    go_simp <;> exact rfl
  refine Drawn.one (j := 1) (by kernel_rfl) rfl (fun K hK => ?_)
  go_simp
  refine (rSgnAny n1 a1 c1 z1.length e1 (-1) h1 _).mono ?_
  rintro e wn ⟨rfl, hn⟩
  refine hK _ _ (HI.keep hn) ?_
  clear hK K
  replace HI := HI.keep hn
  clear hn
  refine Drawn.one (j := 3) (by kernel_rfl) rfl (fun K hK => ?_)
  go_simp
  refine (rSgnAny n2 a2 c2 z2.length e2 (-1) h2 _).mono ?_
  rintro e wn ⟨rfl, hn⟩
  refine hK _ _ (HI.keep hn) ?_
  clear hK K
  replace HI := HI.keep hn
  clear hn
  refine Drawn.take (i := 4) (v := ?v230) rfl (by kernel_rfl) (by kernel_rfl) (by kernel_rfl) (fun _ _ _ h => h) (by kernel_rfl) (fun W hW => ?_) HI ?_
  rotate_left
  · have ⟨⟨s0, s1, s2⟩, q0, q3, q4⟩ := sh W hW
    go_simp <;> exact rfl
  refine Drawn.take (i := 5) (v := ?v231) rfl (by kernel_rfl) (by kernel_rfl) (by kernel_rfl) (fun _ _ _ h => h) (by kernel_rfl) (fun W hW => ?_) HI ?_
  rotate_left
  · have ⟨⟨s0, s1, s2⟩, q0, q3, q4⟩ := sh W hW
    go_simp <;> exact rfl
  refine Drawn.done (by kernel_rfl) ?_
  try go_simp
  go_wp2_with fail
  replace HI := HI.drew
  refine Drawn.enter (Bx w [(w.heap.size + 1, DO n2 a2 z2.length c2 e2), (w.heap.size, DO n1 a1 z1.length c1 e1)]) (by kernel_rfl) ?_
  refine Drawn.take (i := 0) (v := ?v232) rfl (by kernel_rfl) (by kernel_rfl) (by kernel_rfl) (fun _ _ _ h => h) (by kernel_rfl) (fun W hW => ?_) HI ?_
  rotate_left
  · have ⟨⟨s0, s1, s2⟩, q0, q3, q4⟩ := sh W hW
    go_simp <;> exact rfl
  refine Drawn.take (i := 2) (v := ?v233) rfl (by kernel_rfl) (by kernel_rfl) (by kernel_rfl) (fun _ _ _ h => h) (by kernel_rfl) (fun W hW => ?_) HI ?_
  rotate_left
  · have ⟨⟨s0, s1, s2⟩, q0, q3, q4⟩ := sh W hW
    go_simp <;> exact rfl
  refine Drawn.one (j := 1) (by kernel_rfl) rfl (fun K hK => ?_)
  go_simp
  refine (dreftop54 n1 a1 c1 z1 e1 _ (l1.below HI.bel (Nat.le_refl _)) g1 hz1).mono ?_
  rintro e w5 ⟨B5, rfl, hB5, hb5, h5⟩
  obtain rfl := hB5.unique H1.out
  refine hK _ _ (HI.keep h5) ?_
  clear hK K hB5
  replace HI := HI.keep h5
  clear h5
  refine Drawn.one (j := 3) (by kernel_rfl) rfl (fun K hK => ?_)
  go_simp
  refine (dreftop54 n2 a2 c2 z2 e2 _ (l2.below HI.bel (Nat.le_refl _)) g2 hz2).mono ?_
  rintro e w6 ⟨B6, rfl, hB6, hb6, h6⟩
  obtain rfl := hB6.unique H2.out
  refine hK _ _ (HI.keep h6) ?_
  clear hK K hB6
  replace HI := HI.keep h6
  clear h6
  refine Drawn.take (i := 4) (v := .bool true) rfl (by kernel_rfl) (by kernel_rfl) (by kernel_rfl) (fun _ _ _ h => h) (by kernel_rfl) (fun W hW => ?_) HI ?_
  · have ⟨⟨s0, s1, s2⟩, q0, q3, q4⟩ := sh W hW
    go_simp <;> (first | (simp; omega) | omega)
  refine Drawn.done (by kernel_rfl) ?_
  try go_simp
  go_wp2_with fail
  replace HI := HI.drew
  refine Drawn.enter (Bx w [(w.heap.size + 1, DO n2 a2 z2.length c2 e2), (w.heap.size, DO n1 a1 z1.length c1 e1)]) (by kernel_rfl) ?_
  refine Drawn.take (i := 0) (v := ?v234) rfl (by kernel_rfl) (by kernel_rfl) (by kernel_rfl) (fun _ _ _ h => h) (by kernel_rfl) (fun W hW => ?_) HI ?_
  rotate_left
  · have ⟨⟨s0, s1, s2⟩, q0, q3, q4⟩ := sh W hW
    go_simp <;> exact rfl
  refine Drawn.take (i := 2) (v := ?v235) rfl (by kernel_rfl) (by kernel_rfl) (by kernel_rfl) (fun _ _ _ h => h) (by kernel_rfl) (fun W hW => ?_) HI ?_
  rotate_left
  · have ⟨⟨s0, s1, s2⟩, q0, q3, q4⟩ := sh W hW
    go_simp <;> exact rfl
  refine Drawn.take (i := 5) (v := ?v236) rfl (by kernel_rfl) (by kernel_rfl) (by kernel_rfl) (fun _ _ _ h => h) (by kernel_rfl) (fun W hW => ?_) HI ?_
  rotate_left
  · have ⟨⟨s0, s1, s2⟩, q0, q3, q4⟩ := sh W hW
    go_simp <;> exact rfl
  refine Drawn.take (i := 6) (v := .bool false) rfl (by kernel_rfl) (by kernel_rfl) (by kernel_rfl) (fun _ _ _ h => h) (by kernel_rfl) (fun W hW => ?_) HI ?_
  · have ⟨⟨s0, s1, s2⟩, q0, q3, q4⟩ := sh W hW
    go_simp <;> (first | rfl | (simp; omega))
  refine Drawn.one (j := 1) (by kernel_rfl) rfl (fun K hK => ?_)
  go_simp
  refine (dreftop54 n1 a1 c1 z1 e1 _ (l1.below HI.bel (Nat.le_refl _)) g1 hz1).mono ?_
  rintro e w5 ⟨B5, rfl, hB5, hb7, h5⟩
  obtain rfl := hB5.unique H1.out
  refine hK _ _ (HI.keep h5) ?_
  clear hK K hB5
  replace HI := HI.keep h5
  clear h5
  refine Drawn.one (j := 3) (by kernel_rfl) rfl (fun K hK => ?_)
  go_simp
  refine (dreftop54 n2 a2 c2 z2 e2 _ (l2.below HI.bel (Nat.le_refl _)) g2 hz2).mono ?_
  rintro e w6 ⟨B6, rfl, hB6, hb8, h6⟩
  obtain rfl := hB6.unique H2.out
  refine hK _ _ (HI.keep h6) ?_
  clear hK K hB6
  replace HI := HI.keep h6
  clear h6
  refine Drawn.take (i := 4) (v := .bool false) rfl (by kernel_rfl) (by kernel_rfl) (by kernel_rfl) (fun _ _ _ h => h) (by kernel_rfl) (fun W hW => ?_) HI ?_
  · have ⟨⟨s0, s1, s2⟩, q0, q3, q4⟩ := sh W hW
    go_simp <;> (first | omega | (simp; omega))
  refine Drawn.take (i := 7) (v := .bool true) rfl (by kernel_rfl) (by kernel_rfl) (by kernel_rfl) (fun _ _ _ h => h) (by kernel_rfl) (fun W hW => ?_) HI ?_
  · have ⟨⟨s0, s1, s2⟩, q0, q3, q4⟩ := sh W hW
    go_simp <;> (rfl)
  refine Drawn.done (by kernel_rfl) ?_
  try go_simp
  clear sh
  go_wp2
  go_ret
  exact ⟨rfl, HI.bel⟩
end Go.Proofs.YtiamdmfhkhlppaaDoor
