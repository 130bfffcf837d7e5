import Derived.Test.YteejaghimppcgaaDoorDyadCutsPart18
namespace Go.Proofs.YteejaghimppcgaaDoor
open Go.RowKit Go.Wd Go.Box
set_option linter.unusedVariables false
set_option maxRecDepth 3000
set_option maxHeartbeats 40000000 in
theorem cuts_farL_low (n1 : Bool) (a1 : Option Addr) (c1 : Nat) (z1 : List Int) (e1 cnt bits : Int) (w : World) (u1 : DLie w a1 z1) (hl1 : (z1.length : Int) ≤ 4100) (hm1 : z1.length ≤ 1000000) (hn1 : a1 = none → c1 = 0) (hT : Tab w) {v1 : Int} (N1 : DN n1 z1 e1 v1) (hS : 0 < (z1.length : Int)) (hS1 : cnt < -16777216 - e1) (hC : bits < 1) :
    Calls Tryd.prog 6 #[dV n1 a1 z1.length c1 e1, .int .i64 cnt, .int .i64 bits] w fun e w' => e = .returned (.bool true) ∧ Below w.heap.size w w' := by
  have g1 := N1.dg
  have xb1 := g1.ex_bd.1
  have xb2 := g1.ex_bd.2
  have l1 := u1.lie
  have BX := (Bx.nil w).push (DO n1 a1 z1.length c1 e1)
  have la := l1.below BX.bel (Nat.le_refl _)
  go_enter Tryd.func6, Tryd.ntmps6
  go_wp2_with fail
  generalize hw1 : w.alloc (DO n1 a1 z1.length c1 e1) = w1 at *
  clear hw1
  have HB := Below.refl w1.heap.size w1
  refine (dlent35 n1 a1 c1 z1 e1 _ la hm1 hn1).mono ?_
  rintro e uL ⟨ax, cx, rfl, lx, hn, _⟩
  replace BX := BX.keep hn
  replace HB := below_then HB hn
  replace la := la.below hn (Nat.le_refl _)
  clear hn
  have hax := below_alloc uL (DO n1 ax z1.length cx e1)
  replace BX := BX.push (DO n1 ax z1.length cx e1)
  replace HB := below_then HB hax
  replace la := la.below hax (Nat.le_refl _)
  replace lx := lx.below hax (Nat.le_refl _)
  clear hax
  obtain ⟨⟨fx0, fx1, fx2⟩, _⟩ := cells3 BX uL.heap.size _ _ _ _ (show (uL.heap.size, DO n1 ax z1.length cx e1) ∈ _ by simp)
  go_wp2_with fail
  generalize hvx : uL.alloc (DO n1 ax z1.length cx e1) = vx at *
  clear hvx
  have HF := BX
  replace HB := Below.refl vx.heap.size vx
  have lx0 := lx
  have la0 := la
  refine (shift_far n1 ax cx z1 e1 cnt _ lx g1 (hT.below BX.bel (Nat.le_refl _)) (by omega) (by omega)).mono ?_
  rintro e uS ⟨rfl, hS⟩
  replace BX := BX.keep hS
  replace HB := below_then HB hS
  replace la := la.below hS (Nat.le_refl _)
  replace lx := lx.below hS (Nat.le_refl _)
  clear hS
  have haS := below_alloc uS (DO false none 0 0 0)
  replace BX := BX.push (DO false none 0 0 0)
  replace HB := below_then HB haS
  replace la := la.below haS (Nat.le_refl _)
  replace lx := lx.below haS (Nat.le_refl _)
  clear haS
  obtain ⟨⟨fx0, fx1, fx2⟩, _⟩ := cells3 BX uL.heap.size _ _ _ _ (show (uL.heap.size, DO n1 ax z1.length cx e1) ∈ _ by simp)
  go_wp2_with fail
  generalize hvS : uS.alloc (DO false none 0 0 0) = vS at *
  clear hvS
  refine (dfloor66 n1 ax cx z1 e1 _ lx g1 (hT.below BX.bel (Nat.le_refl _))).mono ?_
  rintro e uF ⟨nF, aF, mF, cF, xF, dF, rfl, vF0⟩
  have hF := vF0.bel
  obtain ⟨zF, rfl, yF, wF⟩ := vF0.list
  replace wF := wF.weak HB.size
  have AF := vF0.ans
  clear vF0
  replace BX := BX.keep hF
  replace HB := below_then HB hF
  replace la := la.below hF (Nat.le_refl _)
  replace lx := lx.below hF (Nat.le_refl _)
  clear hF
  have haF := below_alloc uF (DO nF aF zF.length cF xF)
  replace BX := BX.push (DO nF aF zF.length cF xF)
  replace HB := below_then HB haF
  replace la := la.below haF (Nat.le_refl _)
  replace lx := lx.below haF (Nat.le_refl _)
  replace wF := wF.below (C := 0) haF
  replace AF := AF.below haF
  clear haF
  obtain ⟨⟨fx0, fx1, fx2⟩, _⟩ := cells3 BX uL.heap.size _ _ _ _ (show (uL.heap.size, DO n1 ax z1.length cx e1) ∈ _ by simp)
  go_wp2_with fail
  generalize hvF : uF.alloc (DO nF aF zF.length cF xF) = vF at *
  clear hvF
  refine (cut_bad n1 ax cx z1 e1 bits 2 _ ⟨lx, u1.len, u1.rng⟩ (by unfold askB; rw [if_pos (.inl hC)]) (by decide)).mono ?_
  rintro e uC ⟨rfl, hC9⟩
  replace BX := BX.keep hC9
  replace HB := below_then HB hC9
  replace la := la.below hC9 (Nat.le_refl _)
  replace lx := lx.below hC9 (Nat.le_refl _)
  replace wF := wF.below (C := 0) hC9
  replace AF := AF.below hC9
  clear hC9
  have haC := below_alloc uC (DO false none 0 0 0)
  replace BX := BX.push (DO false none 0 0 0)
  replace HB := below_then HB haC
  replace la := la.below haC (Nat.le_refl _)
  replace lx := lx.below haC (Nat.le_refl _)
  replace wF := wF.below (C := 0) haC
  replace AF := AF.below haC
  clear haC
  obtain ⟨⟨fx0, fx1, fx2⟩, _⟩ := cells3 BX uL.heap.size _ _ _ _ (show (uL.heap.size, DO n1 ax z1.length cx e1) ∈ _ by simp)
  obtain ⟨⟨fa0, fa1, fa2⟩, _⟩ := cells3 BX w.heap.size _ _ _ _ (show (w.heap.size, DO n1 a1 z1.length c1 e1) ∈ _ by simp)
  go_wp2_with fail
  generalize hvC : uC.alloc (DO false none 0 0 0) = vC at *
  clear hvC
  refine (dsame40 n1 n1 ax a1 cx c1 z1 z1 e1 e1 _ ⟨lx, u1.len, u1.rng⟩ ⟨la, u1.len, u1.rng⟩ true (decide_eq_true ⟨rfl, rfl, rfl⟩)).mono ?_
  rintro e k1w ⟨rfl, k1⟩
  replace BX := BX.keep k1
  replace HB := below_then HB k1
  replace la := la.below k1 (Nat.le_refl _)
  replace lx := lx.below k1 (Nat.le_refl _)
  replace wF := wF.below (C := 0) k1
  replace AF := AF.below k1
  clear k1
  obtain ⟨⟨fa0, fa1, fa2⟩, _⟩ := cells3 BX w.heap.size _ _ _ _ (show (w.heap.size, DO n1 a1 z1.length c1 e1) ∈ _ by simp)
  go_wp2_with fail
  refine (drefmay37 n1 a1 c1 z1 e1 _ ⟨la, u1.len, u1.rng⟩ true g1.may).mono ?_
  rintro e k2w ⟨rfl, k2⟩
  replace BX := BX.keep k2
  replace HB := below_then HB k2
  replace la := la.below k2 (Nat.le_refl _)
  replace lx := lx.below k2 (Nat.le_refl _)
  replace wF := wF.below (C := 0) k2
  replace AF := AF.below k2
  clear k2
  obtain ⟨⟨fa0, fa1, fa2⟩, _⟩ := cells3 BX w.heap.size _ _ _ _ (show (w.heap.size, DO n1 a1 z1.length c1 e1) ∈ _ by simp)
  obtain ⟨⟨fS0, fS1, fS2⟩, _⟩ := cells3 BX uS.heap.size _ _ _ _ (show (uS.heap.size, DO false none 0 0 0) ∈ _ by simp)
  go_wp2_with fail
  refine (dnone_yes _ 20).mono ?_
  rintro e k3w ⟨rfl, k3⟩
  replace BX := BX.keep k3
  replace HB := below_then HB k3
  replace la := la.below k3 (Nat.le_refl _)
  replace lx := lx.below k3 (Nat.le_refl _)
  replace wF := wF.below (C := 0) k3
  replace AF := AF.below k3
  clear k3
  go_wp2_with fail
  have HI := (BX.sub (L' := [(uF.heap.size, DO nF aF zF.length cF xF), (w.heap.size, DO n1 a1 z1.length c1 e1)]) (by simp)).drew
  have sh := fun W (hW : Bx w [(uF.heap.size, DO nF aF zF.length cF xF), (w.heap.size, DO n1 a1 z1.length c1 e1)] W) => And.intro (cells3 hW uF.heap.size _ _ _ _ (show (uF.heap.size, DO nF aF zF.length cF xF) ∈ _ by simp)).1 ((cells3 hW w.heap.size _ _ _ _ (show (w.heap.size, DO n1 a1 z1.length c1 e1) ∈ _ by simp)).1)
  replace HB := Below.drew HB
  replace BX := BX.drew
  replace la : Lie (World.drew _) _ _ := la
  replace lx : Lie (World.drew _) _ _ := lx
  replace wF : WrA _ (World.drew _) _ _ := wF
  replace AF : Ans (World.drew _) _ _ _ _ _ _ _ _ := AF
  refine Drawn.enter (Bx w [(uF.heap.size, DO nF aF zF.length cF xF), (w.heap.size, DO n1 a1 z1.length c1 e1)]) (by kernel_rfl) ?_
  refine Drawn.take (i := 0) (v := ?v253) rfl (by kernel_rfl) (by kernel_rfl) (by kernel_rfl) (fun _ _ _ h => h) (by kernel_rfl) (fun W hW => ?_) HI ?_
  rotate_left
  · have ⟨⟨sF0, sF1, sF2⟩, sa0, sa1, sa2⟩ := sh W hW
    go_simp <;> exact rfl
  refine Drawn.take (i := 1) (v := ?v254) rfl (by kernel_rfl) (by kernel_rfl) (by kernel_rfl) (fun _ _ _ h => h) (by kernel_rfl) (fun W hW => ?_) HI ?_
  rotate_left
  · have ⟨⟨sF0, sF1, sF2⟩, sa0, sa1, sa2⟩ := sh W hW
    go_simp <;> exact rfl
  refine Drawn.take (i := 2) (v := ?v255) rfl (by kernel_rfl) (by kernel_rfl) (by kernel_rfl) (fun _ _ _ h => h) (by kernel_rfl) (fun W hW => ?_) HI ?_
  rotate_left
  · have ⟨⟨sF0, sF1, sF2⟩, sa0, sa1, sa2⟩ := sh W hW
    go_simp <;> exact rfl
  refine Drawn.one (j := 3) (by kernel_rfl) rfl (fun K hK => ?_)
  go_simp
  refine (rFloorD n1 a1 c1 z1 e1 _ la g1).mono ?_
  rintro e k4w ⟨nR, zR, xR, aR, cR, rfl, FR, lR, k4⟩
  refine hK _ _ (HI.keep k4) ?_
  clear hK K
  replace HI := HI.keep k4
  replace BX := BX.keep k4
  replace HB := below_then HB k4
  replace la := la.below k4 (Nat.le_refl _)
  replace lx := lx.below k4 (Nat.le_refl _)
  replace wF := wF.below (C := 0) k4
  replace AF := AF.below k4
  clear k4
  refine Drawn.one (j := 4) (by kernel_rfl) rfl (fun K hK => ?_)
  go_simp
  refine (boundX _ AF FR lR).mono ?_
  rintro e k5w ⟨rfl, k5⟩
  refine hK _ _ (HI.keep k5) ?_
  clear hK K
  replace HI := HI.keep k5
  replace BX := BX.keep k5
  replace HB := below_then HB k5
  replace la := la.below k5 (Nat.le_refl _)
  replace lx := lx.below k5 (Nat.le_refl _)
  replace wF := wF.below (C := 0) k5
  replace AF := AF.below k5
  clear k5
  clear FR lR AF
  refine Drawn.take (i := 5) (v := .bool false) rfl (by kernel_rfl) (by kernel_rfl) (by kernel_rfl) (fun _ _ _ h => h) (by kernel_rfl) (fun W hW => ?_) HI ?_
  · have ⟨⟨sF0, sF1, sF2⟩, sa0, sa1, sa2⟩ := sh W hW
    go_simp <;> (rfl)
  refine Drawn.done (by kernel_rfl) ?_
  try go_simp
  clear HI sh
  obtain ⟨⟨fC0, fC1, fC2⟩, _⟩ := cells3 BX uC.heap.size _ _ _ _ (show (uC.heap.size, DO false none 0 0 0) ∈ _ by simp)
  go_wp2_with fail
  refine (dnone_yes _ 2).mono ?_
  rintro e k6w ⟨rfl, k6⟩
  replace BX := BX.keep k6
  replace HB := below_then HB k6
  replace la := la.below k6 (Nat.le_refl _)
  replace lx := lx.below k6 (Nat.le_refl _)
  replace wF := wF.below (C := 0) k6
  clear k6
  go_wp2_with fail
  refine (dknown34 _ (hT.below BX.bel (Nat.le_refl _))).mono ?_
  rintro e k7w ⟨rfl, k7⟩
  replace BX := BX.keep k7
  replace HB := below_then HB k7
  replace la := la.below k7 (Nat.le_refl _)
  replace lx := lx.below k7 (Nat.le_refl _)
  replace wF := wF.below (C := 0) k7
  clear k7
  go_wp2
  go_ret
  exact ⟨rfl, BX.bel⟩
set_option maxHeartbeats 40000000 in
theorem cuts_farL_high (n1 : Bool) (a1 : Option Addr) (c1 : Nat) (z1 : List Int) (e1 cnt bits : Int) (w : World) (u1 : DLie w a1 z1) (hl1 : (z1.length : Int) ≤ 4100) (hm1 : z1.length ≤ 1000000) (hn1 : a1 = none → c1 = 0) (hT : Tab w) {v1 : Int} (N1 : DN n1 z1 e1 v1) (hS : 0 < (z1.length : Int)) (hS1 : cnt < -16777216 - e1) (hC : 1 ≤ bits) (hC2 : 8192 < bits) :
    Calls Tryd.prog 6 #[dV n1 a1 z1.length c1 e1, .int .i64 cnt, .int .i64 bits] w fun e w' => e = .returned (.bool true) ∧ Below w.heap.size w w' := by
  have g1 := N1.dg
  have xb1 := g1.ex_bd.1
  have xb2 := g1.ex_bd.2
  have l1 := u1.lie
  have BX := (Bx.nil w).push (DO n1 a1 z1.length c1 e1)
  have la := l1.below BX.bel (Nat.le_refl _)
  go_enter Tryd.func6, Tryd.ntmps6
  go_wp2_with fail
  generalize hw1 : w.alloc (DO n1 a1 z1.length c1 e1) = w1 at *
  clear hw1
  have HB := Below.refl w1.heap.size w1
  refine (dlent35 n1 a1 c1 z1 e1 _ la hm1 hn1).mono ?_
  rintro e uL ⟨ax, cx, rfl, lx, hn, _⟩
  replace BX := BX.keep hn
  replace HB := below_then HB hn
  replace la := la.below hn (Nat.le_refl _)
  clear hn
  have hax := below_alloc uL (DO n1 ax z1.length cx e1)
  replace BX := BX.push (DO n1 ax z1.length cx e1)
  replace HB := below_then HB hax
  replace la := la.below hax (Nat.le_refl _)
  replace lx := lx.below hax (Nat.le_refl _)
  clear hax
  obtain ⟨⟨fx0, fx1, fx2⟩, _⟩ := cells3 BX uL.heap.size _ _ _ _ (show (uL.heap.size, DO n1 ax z1.length cx e1) ∈ _ by simp)
  go_wp2_with fail
  generalize hvx : uL.alloc (DO n1 ax z1.length cx e1) = vx at *
  clear hvx
  have HF := BX
  replace HB := Below.refl vx.heap.size vx
  have lx0 := lx
  have la0 := la
  refine (shift_far n1 ax cx z1 e1 cnt _ lx g1 (hT.below BX.bel (Nat.le_refl _)) (by omega) (by omega)).mono ?_
  rintro e uS ⟨rfl, hS⟩
  replace BX := BX.keep hS
  replace HB := below_then HB hS
  replace la := la.below hS (Nat.le_refl _)
  replace lx := lx.below hS (Nat.le_refl _)
  clear hS
  have haS := below_alloc uS (DO false none 0 0 0)
  replace BX := BX.push (DO false none 0 0 0)
  replace HB := below_then HB haS
  replace la := la.below haS (Nat.le_refl _)
  replace lx := lx.below haS (Nat.le_refl _)
  clear haS
  obtain ⟨⟨fx0, fx1, fx2⟩, _⟩ := cells3 BX uL.heap.size _ _ _ _ (show (uL.heap.size, DO n1 ax z1.length cx e1) ∈ _ by simp)
  go_wp2_with fail
  generalize hvS : uS.alloc (DO false none 0 0 0) = vS at *
  clear hvS
  refine (dfloor66 n1 ax cx z1 e1 _ lx g1 (hT.below BX.bel (Nat.le_refl _))).mono ?_
  rintro e uF ⟨nF, aF, mF, cF, xF, dF, rfl, vF0⟩
  have hF := vF0.bel
  obtain ⟨zF, rfl, yF, wF⟩ := vF0.list
  replace wF := wF.weak HB.size
  have AF := vF0.ans
  clear vF0
  replace BX := BX.keep hF
  replace HB := below_then HB hF
  replace la := la.below hF (Nat.le_refl _)
  replace lx := lx.below hF (Nat.le_refl _)
  clear hF
  have haF := below_alloc uF (DO nF aF zF.length cF xF)
  replace BX := BX.push (DO nF aF zF.length cF xF)
  replace HB := below_then HB haF
  replace la := la.below haF (Nat.le_refl _)
  replace lx := lx.below haF (Nat.le_refl _)
  replace wF := wF.below (C := 0) haF
  replace AF := AF.below haF
  clear haF
  obtain ⟨⟨fx0, fx1, fx2⟩, _⟩ := cells3 BX uL.heap.size _ _ _ _ (show (uL.heap.size, DO n1 ax z1.length cx e1) ∈ _ by simp)
  go_wp2_with fail
  generalize hvF : uF.alloc (DO nF aF zF.length cF xF) = vF at *
  clear hvF
  refine (cut_bad n1 ax cx z1 e1 bits 3 _ ⟨lx, u1.len, u1.rng⟩ (by rw [g1.may]; unfold askB; rw [if_neg (by simp; omega), if_pos hC2]) (by decide)).mono ?_
  rintro e uC ⟨rfl, hC9⟩
  replace BX := BX.keep hC9
  replace HB := below_then HB hC9
  replace la := la.below hC9 (Nat.le_refl _)
  replace lx := lx.below hC9 (Nat.le_refl _)
  replace wF := wF.below (C := 0) hC9
  replace AF := AF.below hC9
  clear hC9
  have haC := below_alloc uC (DO false none 0 0 0)
  replace BX := BX.push (DO false none 0 0 0)
  replace HB := below_then HB haC
  replace la := la.below haC (Nat.le_refl _)
  replace lx := lx.below haC (Nat.le_refl _)
  replace wF := wF.below (C := 0) haC
  replace AF := AF.below haC
  clear haC
  obtain ⟨⟨fx0, fx1, fx2⟩, _⟩ := cells3 BX uL.heap.size _ _ _ _ (show (uL.heap.size, DO n1 ax z1.length cx e1) ∈ _ by simp)
  obtain ⟨⟨fa0, fa1, fa2⟩, _⟩ := cells3 BX w.heap.size _ _ _ _ (show (w.heap.size, DO n1 a1 z1.length c1 e1) ∈ _ by simp)
  go_wp2_with fail
  generalize hvC : uC.alloc (DO false none 0 0 0) = vC at *
  clear hvC
  refine (dsame40 n1 n1 ax a1 cx c1 z1 z1 e1 e1 _ ⟨lx, u1.len, u1.rng⟩ ⟨la, u1.len, u1.rng⟩ true (decide_eq_true ⟨rfl, rfl, rfl⟩)).mono ?_
  rintro e k1w ⟨rfl, k1⟩
  replace BX := BX.keep k1
  replace HB := below_then HB k1
  replace la := la.below k1 (Nat.le_refl _)
  replace lx := lx.below k1 (Nat.le_refl _)
  replace wF := wF.below (C := 0) k1
  replace AF := AF.below k1
  clear k1
  obtain ⟨⟨fa0, fa1, fa2⟩, _⟩ := cells3 BX w.heap.size _ _ _ _ (show (w.heap.size, DO n1 a1 z1.length c1 e1) ∈ _ by simp)
  go_wp2_with fail
  refine (drefmay37 n1 a1 c1 z1 e1 _ ⟨la, u1.len, u1.rng⟩ true g1.may).mono ?_
  rintro e k2w ⟨rfl, k2⟩
  replace BX := BX.keep k2
  replace HB := below_then HB k2
  replace la := la.below k2 (Nat.le_refl _)
  replace lx := lx.below k2 (Nat.le_refl _)
  replace wF := wF.below (C := 0) k2
  replace AF := AF.below k2
  clear k2
  obtain ⟨⟨fa0, fa1, fa2⟩, _⟩ := cells3 BX w.heap.size _ _ _ _ (show (w.heap.size, DO n1 a1 z1.length c1 e1) ∈ _ by simp)
  obtain ⟨⟨fS0, fS1, fS2⟩, _⟩ := cells3 BX uS.heap.size _ _ _ _ (show (uS.heap.size, DO false none 0 0 0) ∈ _ by simp)
  go_wp2_with fail
  refine (dnone_yes _ 20).mono ?_
  rintro e k3w ⟨rfl, k3⟩
  replace BX := BX.keep k3
  replace HB := below_then HB k3
  replace la := la.below k3 (Nat.le_refl _)
  replace lx := lx.below k3 (Nat.le_refl _)
  replace wF := wF.below (C := 0) k3
  replace AF := AF.below k3
  clear k3
  go_wp2_with fail
  have HI := (BX.sub (L' := [(uF.heap.size, DO nF aF zF.length cF xF), (w.heap.size, DO n1 a1 z1.length c1 e1)]) (by simp)).drew
  have sh := fun W (hW : Bx w [(uF.heap.size, DO nF aF zF.length cF xF), (w.heap.size, DO n1 a1 z1.length c1 e1)] W) => And.intro (cells3 hW uF.heap.size _ _ _ _ (show (uF.heap.size, DO nF aF zF.length cF xF) ∈ _ by simp)).1 ((cells3 hW w.heap.size _ _ _ _ (show (w.heap.size, DO n1 a1 z1.length c1 e1) ∈ _ by simp)).1)
  replace HB := Below.drew HB
  replace BX := BX.drew
  replace la : Lie (World.drew _) _ _ := la
  replace lx : Lie (World.drew _) _ _ := lx
  replace wF : WrA _ (World.drew _) _ _ := wF
  replace AF : Ans (World.drew _) _ _ _ _ _ _ _ _ := AF
  refine Drawn.enter (Bx w [(uF.heap.size, DO nF aF zF.length cF xF), (w.heap.size, DO n1 a1 z1.length c1 e1)]) (by kernel_rfl) ?_
  refine Drawn.take (i := 0) (v := ?v256) rfl (by kernel_rfl) (by kernel_rfl) (by kernel_rfl) (fun _ _ _ h => h) (by kernel_rfl) (fun W hW => ?_) HI ?_
  rotate_left
  · have ⟨⟨sF0, sF1, sF2⟩, sa0, sa1, sa2⟩ := sh W hW
    go_simp <;> exact rfl
  refine Drawn.take (i := 1) (v := ?v257) rfl (by kernel_rfl) (by kernel_rfl) (by kernel_rfl) (fun _ _ _ h => h) (by kernel_rfl) (fun W hW => ?_) HI ?_
  rotate_left
  · have ⟨⟨sF0, sF1, sF2⟩, sa0, sa1, sa2⟩ := sh W hW
    go_simp <;> exact rfl
  refine Drawn.take (i := 2) (v := ?v258) rfl (by kernel_rfl) (by kernel_rfl) (by kernel_rfl) (fun _ _ _ h => h) (by kernel_rfl) (fun W hW => ?_) HI ?_
  rotate_left
  · have ⟨⟨sF0, sF1, sF2⟩, sa0, sa1, sa2⟩ := sh W hW
    go_simp <;> exact rfl
  refine Drawn.one (j := 3) (by kernel_rfl) rfl (fun K hK => ?_)
  go_simp
  refine (rFloorD n1 a1 c1 z1 e1 _ la g1).mono ?_
  rintro e k4w ⟨nR, zR, xR, aR, cR, rfl, FR, lR, k4⟩
  refine hK _ _ (HI.keep k4) ?_
  clear hK K
  replace HI := HI.keep k4
  replace BX := BX.keep k4
  replace HB := below_then HB k4
  replace la := la.below k4 (Nat.le_refl _)
  replace lx := lx.below k4 (Nat.le_refl _)
  replace wF := wF.below (C := 0) k4
  replace AF := AF.below k4
  clear k4
  refine Drawn.one (j := 4) (by kernel_rfl) rfl (fun K hK => ?_)
  go_simp
  refine (boundX _ AF FR lR).mono ?_
  rintro e k5w ⟨rfl, k5⟩
  refine hK _ _ (HI.keep k5) ?_
  clear hK K
  replace HI := HI.keep k5
  replace BX := BX.keep k5
  replace HB := below_then HB k5
  replace la := la.below k5 (Nat.le_refl _)
  replace lx := lx.below k5 (Nat.le_refl _)
  replace wF := wF.below (C := 0) k5
  replace AF := AF.below k5
  clear k5
  clear FR lR AF
  refine Drawn.take (i := 5) (v := .bool false) rfl (by kernel_rfl) (by kernel_rfl) (by kernel_rfl) (fun _ _ _ h => h) (by kernel_rfl) (fun W hW => ?_) HI ?_
  · have ⟨⟨sF0, sF1, sF2⟩, sa0, sa1, sa2⟩ := sh W hW
    go_simp <;> (rfl)
  refine Drawn.done (by kernel_rfl) ?_
  try go_simp
  clear HI sh
  obtain ⟨⟨fC0, fC1, fC2⟩, _⟩ := cells3 BX uC.heap.size _ _ _ _ (show (uC.heap.size, DO false none 0 0 0) ∈ _ by simp)
  go_wp2_with fail
  refine (dnone_yes _ 3).mono ?_
  rintro e k6w ⟨rfl, k6⟩
  replace BX := BX.keep k6
  replace HB := below_then HB k6
  replace la := la.below k6 (Nat.le_refl _)
  replace lx := lx.below k6 (Nat.le_refl _)
  replace wF := wF.below (C := 0) k6
  clear k6
  go_wp2_with fail
  refine (dknown34 _ (hT.below BX.bel (Nat.le_refl _))).mono ?_
  rintro e k7w ⟨rfl, k7⟩
  replace BX := BX.keep k7
  replace HB := below_then HB k7
  replace la := la.below k7 (Nat.le_refl _)
  replace lx := lx.below k7 (Nat.le_refl _)
  replace wF := wF.below (C := 0) k7
  clear k7
  go_wp2
  go_ret
  exact ⟨rfl, BX.bel⟩
set_option maxHeartbeats 40000000 in
theorem cuts_farL_far (n1 : Bool) (a1 : Option Addr) (c1 : Nat) (z1 : List Int) (e1 cnt bits : Int) (w : World) (u1 : DLie w a1 z1) (hl1 : (z1.length : Int) ≤ 4100) (hm1 : z1.length ≤ 1000000) (hn1 : a1 = none → c1 = 0) (hT : Tab w) {v1 : Int} (N1 : DN n1 z1 e1 v1) (hS : 0 < (z1.length : Int)) (hS1 : cnt < -16777216 - e1) (hC : 1 ≤ bits) (hC2 : bits ≤ 8192) {B : Nat} (hB : BitLen (Nt.val z1) B) (hB2 : B ≤ 131072) (d : Nat) (hd : max ((B : Int) - bits) 0 = (d : Int)) {s : Int} (hs : sv n1 (Nt.val z1 / 2 ^ d) = s) (h0 : s ≠ 0) {t : Nat} (ht : LowBit (s.natAbs : Int) t) (hr : 16777216 < e1 + d + t) :
    Calls Tryd.prog 6 #[dV n1 a1 z1.length c1 e1, .int .i64 cnt, .int .i64 bits] w fun e w' => e = .returned (.bool true) ∧ Below w.heap.size w w' := by
  have g1 := N1.dg
  have xb1 := g1.ex_bd.1
  have xb2 := g1.ex_bd.2
  obtain ⟨q, hq⟩ : ∃ q : Bool, decide (Nt.val z1 % 2 ^ d ≠ 0) = q := ⟨_, rfl⟩
  have HCF := Hide.mk (fun (A : Option Addr) (C : Nat) (W : World) (l : Lie W A z1) (hT : Tab W) => cut_far n1 A C z1 e1 bits W l g1 hT hC hC2 hB hB2 d hd hs h0 ht hr)
  have HFF := Hide.mk (fun (n : Bool) (z : List Int) (x : Int) (F : Fm s (e1 + d) n z x) => fm_far F h0 ht hr)
  have HR0 := fun (A : Option Addr) (C : Nat) (W : World) (l : Lie W A z1) => rCutD n1 A C z1 e1 bits W l g1 hC hC2 hB d hd q hq
  rw [hs] at HR0
  have HRC := Hide.mk HR0
  clear HR0 hB hd hs hr hq ht h0
  have l1 := u1.lie
  have BX := (Bx.nil w).push (DO n1 a1 z1.length c1 e1)
  have la := l1.below BX.bel (Nat.le_refl _)
  go_enter Tryd.func6, Tryd.ntmps6
  go_wp2_with fail
  generalize hw1 : w.alloc (DO n1 a1 z1.length c1 e1) = w1 at *
  clear hw1
  have HB := Below.refl w1.heap.size w1
  refine (dlent35 n1 a1 c1 z1 e1 _ la hm1 hn1).mono ?_
  rintro e uL ⟨ax, cx, rfl, lx, hn, _⟩
  replace BX := BX.keep hn
  replace HB := below_then HB hn
  replace la := la.below hn (Nat.le_refl _)
  clear hn
  have hax := below_alloc uL (DO n1 ax z1.length cx e1)
  replace BX := BX.push (DO n1 ax z1.length cx e1)
  replace HB := below_then HB hax
  replace la := la.below hax (Nat.le_refl _)
  replace lx := lx.below hax (Nat.le_refl _)
  clear hax
  obtain ⟨⟨fx0, fx1, fx2⟩, _⟩ := cells3 BX uL.heap.size _ _ _ _ (show (uL.heap.size, DO n1 ax z1.length cx e1) ∈ _ by simp)
  go_wp2_with fail
  generalize hvx : uL.alloc (DO n1 ax z1.length cx e1) = vx at *
  clear hvx
  have HF := BX
  replace HB := Below.refl vx.heap.size vx
  have lx0 := lx
  have la0 := la
  refine (shift_far n1 ax cx z1 e1 cnt _ lx g1 (hT.below BX.bel (Nat.le_refl _)) (by omega) (by omega)).mono ?_
  rintro e uS ⟨rfl, hS⟩
  replace BX := BX.keep hS
  replace HB := below_then HB hS
  replace la := la.below hS (Nat.le_refl _)
  replace lx := lx.below hS (Nat.le_refl _)
  clear hS
  have haS := below_alloc uS (DO false none 0 0 0)
  replace BX := BX.push (DO false none 0 0 0)
  replace HB := below_then HB haS
  replace la := la.below haS (Nat.le_refl _)
  replace lx := lx.below haS (Nat.le_refl _)
  clear haS
  obtain ⟨⟨fx0, fx1, fx2⟩, _⟩ := cells3 BX uL.heap.size _ _ _ _ (show (uL.heap.size, DO n1 ax z1.length cx e1) ∈ _ by simp)
  go_wp2_with fail
  generalize hvS : uS.alloc (DO false none 0 0 0) = vS at *
  clear hvS
  refine (dfloor66 n1 ax cx z1 e1 _ lx g1 (hT.below BX.bel (Nat.le_refl _))).mono ?_
  rintro e uF ⟨nF, aF, mF, cF, xF, dF, rfl, vF0⟩
  have hF := vF0.bel
  obtain ⟨zF, rfl, yF, wF⟩ := vF0.list
  replace wF := wF.weak HB.size
  have AF := vF0.ans
  clear vF0
  replace BX := BX.keep hF
  replace HB := below_then HB hF
  replace la := la.below hF (Nat.le_refl _)
  replace lx := lx.below hF (Nat.le_refl _)
  clear hF
  have haF := below_alloc uF (DO nF aF zF.length cF xF)
  replace BX := BX.push (DO nF aF zF.length cF xF)
  replace HB := below_then HB haF
  replace la := la.below haF (Nat.le_refl _)
  replace lx := lx.below haF (Nat.le_refl _)
  replace wF := wF.below (C := 0) haF
  replace AF := AF.below haF
  clear haF
  obtain ⟨⟨fx0, fx1, fx2⟩, _⟩ := cells3 BX uL.heap.size _ _ _ _ (show (uL.heap.size, DO n1 ax z1.length cx e1) ∈ _ by simp)
  go_wp2_with fail
  generalize hvF : uF.alloc (DO nF aF zF.length cF xF) = vF at *
  clear hvF
  refine (HCF.out ax cx _ lx (hT.below BX.bel (Nat.le_refl _))).mono ?_
  rintro e uC ⟨rfl, hC9⟩
  replace BX := BX.keep hC9
  replace HB := below_then HB hC9
  replace la := la.below hC9 (Nat.le_refl _)
  replace lx := lx.below hC9 (Nat.le_refl _)
  replace wF := wF.below (C := 0) hC9
  replace AF := AF.below hC9
  clear hC9
  have haC := below_alloc uC (DO false none 0 0 0)
  replace BX := BX.push (DO false none 0 0 0)
  replace HB := below_then HB haC
  replace la := la.below haC (Nat.le_refl _)
  replace lx := lx.below haC (Nat.le_refl _)
  replace wF := wF.below (C := 0) haC
  replace AF := AF.below haC
  clear haC
  obtain ⟨⟨fx0, fx1, fx2⟩, _⟩ := cells3 BX uL.heap.size _ _ _ _ (show (uL.heap.size, DO n1 ax z1.length cx e1) ∈ _ by simp)
  obtain ⟨⟨fa0, fa1, fa2⟩, _⟩ := cells3 BX w.heap.size _ _ _ _ (show (w.heap.size, DO n1 a1 z1.length c1 e1) ∈ _ by simp)
  go_wp2_with fail
  generalize hvC : uC.alloc (DO false none 0 0 0) = vC at *
  clear hvC
  refine (dsame40 n1 n1 ax a1 cx c1 z1 z1 e1 e1 _ ⟨lx, u1.len, u1.rng⟩ ⟨la, u1.len, u1.rng⟩ true (decide_eq_true ⟨rfl, rfl, rfl⟩)).mono ?_
  rintro e k1w ⟨rfl, k1⟩
  replace BX := BX.keep k1
  replace HB := below_then HB k1
  replace la := la.below k1 (Nat.le_refl _)
  replace lx := lx.below k1 (Nat.le_refl _)
  replace wF := wF.below (C := 0) k1
  replace AF := AF.below k1
  clear k1
  obtain ⟨⟨fa0, fa1, fa2⟩, _⟩ := cells3 BX w.heap.size _ _ _ _ (show (w.heap.size, DO n1 a1 z1.length c1 e1) ∈ _ by simp)
  go_wp2_with fail
  refine (drefmay37 n1 a1 c1 z1 e1 _ ⟨la, u1.len, u1.rng⟩ true g1.may).mono ?_
  rintro e k2w ⟨rfl, k2⟩
  replace BX := BX.keep k2
  replace HB := below_then HB k2
  replace la := la.below k2 (Nat.le_refl _)
  replace lx := lx.below k2 (Nat.le_refl _)
  replace wF := wF.below (C := 0) k2
  replace AF := AF.below k2
  clear k2
  obtain ⟨⟨fa0, fa1, fa2⟩, _⟩ := cells3 BX w.heap.size _ _ _ _ (show (w.heap.size, DO n1 a1 z1.length c1 e1) ∈ _ by simp)
  obtain ⟨⟨fS0, fS1, fS2⟩, _⟩ := cells3 BX uS.heap.size _ _ _ _ (show (uS.heap.size, DO false none 0 0 0) ∈ _ by simp)
  go_wp2_with fail
  refine (dnone_yes _ 20).mono ?_
  rintro e k3w ⟨rfl, k3⟩
  replace BX := BX.keep k3
  replace HB := below_then HB k3
  replace la := la.below k3 (Nat.le_refl _)
  replace lx := lx.below k3 (Nat.le_refl _)
  replace wF := wF.below (C := 0) k3
  replace AF := AF.below k3
  clear k3
  go_wp2_with fail
  have HI := (BX.sub (L' := [(uF.heap.size, DO nF aF zF.length cF xF), (w.heap.size, DO n1 a1 z1.length c1 e1)]) (by simp)).drew
  have sh := fun W (hW : Bx w [(uF.heap.size, DO nF aF zF.length cF xF), (w.heap.size, DO n1 a1 z1.length c1 e1)] W) => And.intro (cells3 hW uF.heap.size _ _ _ _ (show (uF.heap.size, DO nF aF zF.length cF xF) ∈ _ by simp)).1 ((cells3 hW w.heap.size _ _ _ _ (show (w.heap.size, DO n1 a1 z1.length c1 e1) ∈ _ by simp)).1)
  replace HB := Below.drew HB
  replace BX := BX.drew
  replace la : Lie (World.drew _) _ _ := la
  replace lx : Lie (World.drew _) _ _ := lx
  replace wF : WrA _ (World.drew _) _ _ := wF
  replace AF : Ans (World.drew _) _ _ _ _ _ _ _ _ := AF
  refine Drawn.enter (Bx w [(uF.heap.size, DO nF aF zF.length cF xF), (w.heap.size, DO n1 a1 z1.length c1 e1)]) (by kernel_rfl) ?_
  refine Drawn.take (i := 0) (v := ?v259) rfl (by kernel_rfl) (by kernel_rfl) (by kernel_rfl) (fun _ _ _ h => h) (by kernel_rfl) (fun W hW => ?_) HI ?_
  rotate_left
  · have ⟨⟨sF0, sF1, sF2⟩, sa0, sa1, sa2⟩ := sh W hW
    go_simp <;> exact rfl
  refine Drawn.take (i := 1) (v := ?v260) rfl (by kernel_rfl) (by kernel_rfl) (by kernel_rfl) (fun _ _ _ h => h) (by kernel_rfl) (fun W hW => ?_) HI ?_
  rotate_left
  · have ⟨⟨sF0, sF1, sF2⟩, sa0, sa1, sa2⟩ := sh W hW
    go_simp <;> exact rfl
  refine Drawn.take (i := 2) (v := ?v261) rfl (by kernel_rfl) (by kernel_rfl) (by kernel_rfl) (fun _ _ _ h => h) (by kernel_rfl) (fun W hW => ?_) HI ?_
  rotate_left
  · have ⟨⟨sF0, sF1, sF2⟩, sa0, sa1, sa2⟩ := sh W hW
    go_simp <;> exact rfl
  refine Drawn.one (j := 3) (by kernel_rfl) rfl (fun K hK => ?_)
  go_simp
  refine (rFloorD n1 a1 c1 z1 e1 _ la g1).mono ?_
  rintro e k4w ⟨nR, zR, xR, aR, cR, rfl, FR, lR, k4⟩
  refine hK _ _ (HI.keep k4) ?_
  clear hK K
  replace HI := HI.keep k4
  replace BX := BX.keep k4
  replace HB := below_then HB k4
  replace la := la.below k4 (Nat.le_refl _)
  replace lx := lx.below k4 (Nat.le_refl _)
  replace wF := wF.below (C := 0) k4
  replace AF := AF.below k4
  clear k4
  refine Drawn.one (j := 4) (by kernel_rfl) rfl (fun K hK => ?_)
  go_simp
  refine (boundX _ AF FR lR).mono ?_
  rintro e k5w ⟨rfl, k5⟩
  refine hK _ _ (HI.keep k5) ?_
  clear hK K
  replace HI := HI.keep k5
  replace BX := BX.keep k5
  replace HB := below_then HB k5
  replace la := la.below k5 (Nat.le_refl _)
  replace lx := lx.below k5 (Nat.le_refl _)
  replace wF := wF.below (C := 0) k5
  replace AF := AF.below k5
  clear k5
  clear FR lR AF
  refine Drawn.take (i := 5) (v := .bool false) rfl (by kernel_rfl) (by kernel_rfl) (by kernel_rfl) (fun _ _ _ h => h) (by kernel_rfl) (fun W hW => ?_) HI ?_
  · have ⟨⟨sF0, sF1, sF2⟩, sa0, sa1, sa2⟩ := sh W hW
    go_simp <;> (rfl)
  refine Drawn.done (by kernel_rfl) ?_
  try go_simp
  clear HI sh
  obtain ⟨⟨fa0, fa1, fa2⟩, _⟩ := cells3 BX w.heap.size _ _ _ _ (show (w.heap.size, DO n1 a1 z1.length c1 e1) ∈ _ by simp)
  go_wp2_with fail
  refine (HRC.out a1 c1 _ la).mono ?_
  rintro e uK ⟨nK, zK, xK, aK, cK, rfl, FK, lK, hK9⟩
  have hx9 := HFF.out _ _ _ FK
  clear FK
  replace BX := BX.keep hK9
  replace HB := below_then HB hK9
  replace la := la.below hK9 (Nat.le_refl _)
  replace lx := lx.below hK9 (Nat.le_refl _)
  replace wF := wF.below (C := 0) hK9
  clear hK9
  have haK := below_alloc uK (DO nK aK zK.length cK xK)
  replace BX := BX.push (DO nK aK zK.length cK xK)
  replace HB := below_then HB haK
  replace la := la.below haK (Nat.le_refl _)
  replace lx := lx.below haK (Nat.le_refl _)
  replace lK := lK.below haK (Nat.le_refl _)
  replace wF := wF.below (C := 0) haK
  clear haK
  obtain ⟨⟨fK0, fK1, fK2⟩, _⟩ := cells3 BX uK.heap.size _ _ _ _ (show (uK.heap.size, DO nK aK zK.length cK xK) ∈ _ by simp)
  obtain ⟨⟨fC0, fC1, fC2⟩, _⟩ := cells3 BX uC.heap.size _ _ _ _ (show (uC.heap.size, DO false none 0 0 0) ∈ _ by simp)
  go_wp2_with fail
  generalize hvK : uK.alloc (DO nK aK zK.length cK xK) = vK at *
  clear hvK
  refine (dnone_yes _ 20).mono ?_
  rintro e k6w ⟨rfl, k6⟩
  replace BX := BX.keep k6
  replace HB := below_then HB k6
  replace la := la.below k6 (Nat.le_refl _)
  replace lx := lx.below k6 (Nat.le_refl _)
  replace lK := lK.below k6 (Nat.le_refl _)
  replace wF := wF.below (C := 0) k6
  clear k6
  go_wp2_with fail
  refine (dknown34 _ (hT.below BX.bel (Nat.le_refl _))).mono ?_
  rintro e k7w ⟨rfl, k7⟩
  replace BX := BX.keep k7
  replace HB := below_then HB k7
  replace la := la.below k7 (Nat.le_refl _)
  replace lx := lx.below k7 (Nat.le_refl _)
  replace lK := lK.below k7 (Nat.le_refl _)
  replace wF := wF.below (C := 0) k7
  clear k7
  go_wp2
  go_ret
  exact ⟨rfl, BX.bel⟩
set_option maxHeartbeats 40000000 in
theorem cuts_farL_near (n1 : Bool) (a1 : Option Addr) (c1 : Nat) (z1 : List Int) (e1 cnt bits : Int) (w : World) (u1 : DLie w a1 z1) (hl1 : (z1.length : Int) ≤ 4100) (hm1 : z1.length ≤ 1000000) (hn1 : a1 = none → c1 = 0) (hT : Tab w) {v1 : Int} (N1 : DN n1 z1 e1 v1) (hS : 0 < (z1.length : Int)) (hS1 : cnt < -16777216 - e1) (hC : 1 ≤ bits) (hC2 : bits ≤ 8192) {B : Nat} (hB : BitLen (Nt.val z1) B) (hB2 : B ≤ 131072) (d : Nat) (hd : max ((B : Int) - bits) 0 = (d : Int)) (q : Bool) (hq : decide (Nt.val z1 % 2 ^ d ≠ 0) = q) {s : Int} (hs : sv n1 (Nt.val z1 / 2 ^ d) = s) (hr : s = 0 ∨ ∃ t : Nat, LowBit (s.natAbs : Int) t ∧ e1 + d + t ≤ 16777216) :
    Calls Tryd.prog 6 #[dV n1 a1 z1.length c1 e1, .int .i64 cnt, .int .i64 bits] w fun e w' => e = .returned (.bool true) ∧ Below w.heap.size w w' := by
  have g1 := N1.dg
  have xb1 := g1.ex_bd.1
  have xb2 := g1.ex_bd.2
  have HCF := Hide.mk (fun (A : Option Addr) (C : Nat) (W : World) (l : Lie W A z1) (hT : Tab W) => cut_near n1 A C z1 e1 bits W l g1 hT hC hC2 hB hB2 d hd q hq hs hr)
  have HFF := Hide.mk (fun (n : Bool) (z : List Int) (x : Int) (F : Fm s (e1 + d) n z x) => fm_near F hr)
  have HR0 := fun (A : Option Addr) (C : Nat) (W : World) (l : Lie W A z1) => rCutD n1 A C z1 e1 bits W l g1 hC hC2 hB d hd q hq
  rw [hs] at HR0
  have HRC := Hide.mk HR0
  clear HR0 hB hd hs hr hq
  have l1 := u1.lie
  have BX := (Bx.nil w).push (DO n1 a1 z1.length c1 e1)
  have la := l1.below BX.bel (Nat.le_refl _)
  go_enter Tryd.func6, Tryd.ntmps6
  go_wp2_with fail
  generalize hw1 : w.alloc (DO n1 a1 z1.length c1 e1) = w1 at *
  clear hw1
  have HB := Below.refl w1.heap.size w1
  refine (dlent35 n1 a1 c1 z1 e1 _ la hm1 hn1).mono ?_
  rintro e uL ⟨ax, cx, rfl, lx, hn, _⟩
  replace BX := BX.keep hn
  replace HB := below_then HB hn
  replace la := la.below hn (Nat.le_refl _)
  clear hn
  have hax := below_alloc uL (DO n1 ax z1.length cx e1)
  replace BX := BX.push (DO n1 ax z1.length cx e1)
  replace HB := below_then HB hax
  replace la := la.below hax (Nat.le_refl _)
  replace lx := lx.below hax (Nat.le_refl _)
  clear hax
  obtain ⟨⟨fx0, fx1, fx2⟩, _⟩ := cells3 BX uL.heap.size _ _ _ _ (show (uL.heap.size, DO n1 ax z1.length cx e1) ∈ _ by simp)
  go_wp2_with fail
  generalize hvx : uL.alloc (DO n1 ax z1.length cx e1) = vx at *
  clear hvx
  have HF := BX
  replace HB := Below.refl vx.heap.size vx
  have lx0 := lx
  have la0 := la
  refine (shift_far n1 ax cx z1 e1 cnt _ lx g1 (hT.below BX.bel (Nat.le_refl _)) (by omega) (by omega)).mono ?_
  rintro e uS ⟨rfl, hS⟩
  replace BX := BX.keep hS
  replace HB := below_then HB hS
  replace la := la.below hS (Nat.le_refl _)
  replace lx := lx.below hS (Nat.le_refl _)
  clear hS
  have haS := below_alloc uS (DO false none 0 0 0)
  replace BX := BX.push (DO false none 0 0 0)
  replace HB := below_then HB haS
  replace la := la.below haS (Nat.le_refl _)
  replace lx := lx.below haS (Nat.le_refl _)
  clear haS
  obtain ⟨⟨fx0, fx1, fx2⟩, _⟩ := cells3 BX uL.heap.size _ _ _ _ (show (uL.heap.size, DO n1 ax z1.length cx e1) ∈ _ by simp)
  go_wp2_with fail
  generalize hvS : uS.alloc (DO false none 0 0 0) = vS at *
  clear hvS
  refine (dfloor66 n1 ax cx z1 e1 _ lx g1 (hT.below BX.bel (Nat.le_refl _))).mono ?_
  rintro e uF ⟨nF, aF, mF, cF, xF, dF, rfl, vF0⟩
  have hF := vF0.bel
  obtain ⟨zF, rfl, yF, wF⟩ := vF0.list
  replace wF := wF.weak HB.size
  have AF := vF0.ans
  clear vF0
  replace BX := BX.keep hF
  replace HB := below_then HB hF
  replace la := la.below hF (Nat.le_refl _)
  replace lx := lx.below hF (Nat.le_refl _)
  clear hF
  have haF := below_alloc uF (DO nF aF zF.length cF xF)
  replace BX := BX.push (DO nF aF zF.length cF xF)
  replace HB := below_then HB haF
  replace la := la.below haF (Nat.le_refl _)
  replace lx := lx.below haF (Nat.le_refl _)
  replace wF := wF.below (C := 0) haF
  replace AF := AF.below haF
  clear haF
  obtain ⟨⟨fx0, fx1, fx2⟩, _⟩ := cells3 BX uL.heap.size _ _ _ _ (show (uL.heap.size, DO n1 ax z1.length cx e1) ∈ _ by simp)
  go_wp2_with fail
  generalize hvF : uF.alloc (DO nF aF zF.length cF xF) = vF at *
  clear hvF
  refine (HCF.out ax cx _ lx (hT.below BX.bel (Nat.le_refl _))).mono ?_
  rintro e uC ⟨nC, zC, xC, aC, cC, rfl, FC, yC, lC, wC, hC9⟩
  replace wC := wC.weak HB.size
  have HFC := Hide.mk FC
  clear FC
  replace BX := BX.keep hC9
  replace HB := below_then HB hC9
  replace la := la.below hC9 (Nat.le_refl _)
  replace lx := lx.below hC9 (Nat.le_refl _)
  replace wF := wF.below (C := 0) hC9
  replace AF := AF.below hC9
  clear hC9
  have haC := below_alloc uC (DO nC aC zC.length cC xC)
  replace BX := BX.push (DO nC aC zC.length cC xC)
  replace HB := below_then HB haC
  replace la := la.below haC (Nat.le_refl _)
  replace lx := lx.below haC (Nat.le_refl _)
  replace lC := lC.below haC (Nat.le_refl _)
  replace wF := wF.below (C := 0) haC
  replace wC := wC.below (C := 0) haC
  replace AF := AF.below haC
  clear haC
  obtain ⟨⟨fx0, fx1, fx2⟩, _⟩ := cells3 BX uL.heap.size _ _ _ _ (show (uL.heap.size, DO n1 ax z1.length cx e1) ∈ _ by simp)
  obtain ⟨⟨fa0, fa1, fa2⟩, _⟩ := cells3 BX w.heap.size _ _ _ _ (show (w.heap.size, DO n1 a1 z1.length c1 e1) ∈ _ by simp)
  go_wp2_with fail
  generalize hvC : uC.alloc (DO nC aC zC.length cC xC) = vC at *
  clear hvC
  refine (dsame40 n1 n1 ax a1 cx c1 z1 z1 e1 e1 _ ⟨lx, u1.len, u1.rng⟩ ⟨la, u1.len, u1.rng⟩ true (decide_eq_true ⟨rfl, rfl, rfl⟩)).mono ?_
  rintro e k1w ⟨rfl, k1⟩
  replace BX := BX.keep k1
  replace HB := below_then HB k1
  replace la := la.below k1 (Nat.le_refl _)
  replace lx := lx.below k1 (Nat.le_refl _)
  replace lC := lC.below k1 (Nat.le_refl _)
  replace wF := wF.below (C := 0) k1
  replace wC := wC.below (C := 0) k1
  replace AF := AF.below k1
  clear k1
  obtain ⟨⟨fa0, fa1, fa2⟩, _⟩ := cells3 BX w.heap.size _ _ _ _ (show (w.heap.size, DO n1 a1 z1.length c1 e1) ∈ _ by simp)
  go_wp2_with fail
  refine (drefmay37 n1 a1 c1 z1 e1 _ ⟨la, u1.len, u1.rng⟩ true g1.may).mono ?_
  rintro e k2w ⟨rfl, k2⟩
  replace BX := BX.keep k2
  replace HB := below_then HB k2
  replace la := la.below k2 (Nat.le_refl _)
  replace lx := lx.below k2 (Nat.le_refl _)
  replace lC := lC.below k2 (Nat.le_refl _)
  replace wF := wF.below (C := 0) k2
  replace wC := wC.below (C := 0) k2
  replace AF := AF.below k2
  clear k2
  obtain ⟨⟨fa0, fa1, fa2⟩, _⟩ := cells3 BX w.heap.size _ _ _ _ (show (w.heap.size, DO n1 a1 z1.length c1 e1) ∈ _ by simp)
  obtain ⟨⟨fS0, fS1, fS2⟩, _⟩ := cells3 BX uS.heap.size _ _ _ _ (show (uS.heap.size, DO false none 0 0 0) ∈ _ by simp)
  go_wp2_with fail
  refine (dnone_yes _ 20).mono ?_
  rintro e k3w ⟨rfl, k3⟩
  replace BX := BX.keep k3
  replace HB := below_then HB k3
  replace la := la.below k3 (Nat.le_refl _)
  replace lx := lx.below k3 (Nat.le_refl _)
  replace lC := lC.below k3 (Nat.le_refl _)
  replace wF := wF.below (C := 0) k3
  replace wC := wC.below (C := 0) k3
  replace AF := AF.below k3
  clear k3
  go_wp2_with fail
  have HI := (BX.sub (L' := [(uF.heap.size, DO nF aF zF.length cF xF), (w.heap.size, DO n1 a1 z1.length c1 e1)]) (by simp)).drew
  have sh := fun W (hW : Bx w [(uF.heap.size, DO nF aF zF.length cF xF), (w.heap.size, DO n1 a1 z1.length c1 e1)] W) => And.intro (cells3 hW uF.heap.size _ _ _ _ (show (uF.heap.size, DO nF aF zF.length cF xF) ∈ _ by simp)).1 ((cells3 hW w.heap.size _ _ _ _ (show (w.heap.size, DO n1 a1 z1.length c1 e1) ∈ _ by simp)).1)
  replace HB := Below.drew HB
  replace BX := BX.drew
  replace la : Lie (World.drew _) _ _ := la
  replace lx : Lie (World.drew _) _ _ := lx
  replace lC : Lie (World.drew _) _ _ := lC
  replace wF : WrA _ (World.drew _) _ _ := wF
  replace wC : WrA _ (World.drew _) _ _ := wC
  replace AF : Ans (World.drew _) _ _ _ _ _ _ _ _ := AF
  refine Drawn.enter (Bx w [(uF.heap.size, DO nF aF zF.length cF xF), (w.heap.size, DO n1 a1 z1.length c1 e1)]) (by kernel_rfl) ?_
  refine Drawn.take (i := 0) (v := ?v262) rfl (by kernel_rfl) (by kernel_rfl) (by kernel_rfl) (fun _ _ _ h => h) (by kernel_rfl) (fun W hW => ?_) HI ?_
  rotate_left
  · have ⟨⟨sF0, sF1, sF2⟩, sa0, sa1, sa2⟩ := sh W hW
    go_simp <;> exact rfl
  refine Drawn.take (i := 1) (v := ?v263) rfl (by kernel_rfl) (by kernel_rfl) (by kernel_rfl) (fun _ _ _ h => h) (by kernel_rfl) (fun W hW => ?_) HI ?_
  rotate_left
  · have ⟨⟨sF0, sF1, sF2⟩, sa0, sa1, sa2⟩ := sh W hW
    go_simp <;> exact rfl
  refine Drawn.take (i := 2) (v := ?v264) rfl (by kernel_rfl) (by kernel_rfl) (by kernel_rfl) (fun _ _ _ h => h) (by kernel_rfl) (fun W hW => ?_) HI ?_
  rotate_left
  · have ⟨⟨sF0, sF1, sF2⟩, sa0, sa1, sa2⟩ := sh W hW
    go_simp <;> exact rfl
  refine Drawn.one (j := 3) (by kernel_rfl) rfl (fun K hK => ?_)
  go_simp
  refine (rFloorD n1 a1 c1 z1 e1 _ la g1).mono ?_
  rintro e k4w ⟨nR, zR, xR, aR, cR, rfl, FR, lR, k4⟩
  refine hK _ _ (HI.keep k4) ?_
  clear hK K
  replace HI := HI.keep k4
  replace BX := BX.keep k4
  replace HB := below_then HB k4
  replace la := la.below k4 (Nat.le_refl _)
  replace lx := lx.below k4 (Nat.le_refl _)
  replace lC := lC.below k4 (Nat.le_refl _)
  replace wF := wF.below (C := 0) k4
  replace wC := wC.below (C := 0) k4
  replace AF := AF.below k4
  clear k4
  refine Drawn.one (j := 4) (by kernel_rfl) rfl (fun K hK => ?_)
  go_simp
  refine (boundX _ AF FR lR).mono ?_
  rintro e k5w ⟨rfl, k5⟩
  refine hK _ _ (HI.keep k5) ?_
  clear hK K
  replace HI := HI.keep k5
  replace BX := BX.keep k5
  replace HB := below_then HB k5
  replace la := la.below k5 (Nat.le_refl _)
  replace lx := lx.below k5 (Nat.le_refl _)
  replace lC := lC.below k5 (Nat.le_refl _)
  replace wF := wF.below (C := 0) k5
  replace wC := wC.below (C := 0) k5
  replace AF := AF.below k5
  clear k5
  clear FR lR AF
  refine Drawn.take (i := 5) (v := .bool false) rfl (by kernel_rfl) (by kernel_rfl) (by kernel_rfl) (fun _ _ _ h => h) (by kernel_rfl) (fun W hW => ?_) HI ?_
  · have ⟨⟨sF0, sF1, sF2⟩, sa0, sa1, sa2⟩ := sh W hW
    go_simp <;> (rfl)
  refine Drawn.done (by kernel_rfl) ?_
  try go_simp
  clear HI sh
  obtain ⟨⟨fa0, fa1, fa2⟩, _⟩ := cells3 BX w.heap.size _ _ _ _ (show (w.heap.size, DO n1 a1 z1.length c1 e1) ∈ _ by simp)
  go_wp2_with fail
  refine (HRC.out a1 c1 _ la).mono ?_
  rintro e uK ⟨nK, zK, xK, aK, cK, rfl, FK, lK, hK9⟩
  have hx9 := HFF.out _ _ _ FK
  obtain ⟨rfl, rfl, rfl⟩ := FK.same HFC.out
  have rC := FK.rng
  clear FK
  replace BX := BX.keep hK9
  replace HB := below_then HB hK9
  replace la := la.below hK9 (Nat.le_refl _)
  replace lx := lx.below hK9 (Nat.le_refl _)
  replace lC := lC.below hK9 (Nat.le_refl _)
  replace wF := wF.below (C := 0) hK9
  replace wC := wC.below (C := 0) hK9
  clear hK9
  have haK := below_alloc uK (DO nK aK zK.length cK xK)
  replace BX := BX.push (DO nK aK zK.length cK xK)
  replace HB := below_then HB haK
  replace la := la.below haK (Nat.le_refl _)
  replace lx := lx.below haK (Nat.le_refl _)
  replace lC := lC.below haK (Nat.le_refl _)
  replace lK := lK.below haK (Nat.le_refl _)
  replace wF := wF.below (C := 0) haK
  replace wC := wC.below (C := 0) haK
  clear haK
  obtain ⟨⟨fK0, fK1, fK2⟩, _⟩ := cells3 BX uK.heap.size _ _ _ _ (show (uK.heap.size, DO nK aK zK.length cK xK) ∈ _ by simp)
  obtain ⟨⟨fC0, fC1, fC2⟩, _⟩ := cells3 BX uC.heap.size _ _ _ _ (show (uC.heap.size, DO nK aC zK.length cC xK) ∈ _ by simp)
  go_wp2_with fail
  generalize hvK : uK.alloc (DO nK aK zK.length cK xK) = vK at *
  clear hvK
  have hzl : zK.length ≤ maxLen := by unfold maxLen; omega
  refine (dsame40 nK nK aC aK cC cK zK zK xK xK _ ⟨lC, hzl, rC⟩ ⟨lK, hzl, rC⟩ true (decide_eq_true ⟨rfl, rfl, rfl⟩)).mono ?_
  rintro e k6w ⟨rfl, k6⟩
  replace BX := BX.keep k6
  replace HB := below_then HB k6
  replace la := la.below k6 (Nat.le_refl _)
  replace lx := lx.below k6 (Nat.le_refl _)
  replace lC := lC.below k6 (Nat.le_refl _)
  replace lK := lK.below k6 (Nat.le_refl _)
  replace wF := wF.below (C := 0) k6
  replace wC := wC.below (C := 0) k6
  clear k6
  obtain ⟨⟨fS0, fS1, fS2⟩, _⟩ := cells3 BX uS.heap.size _ _ _ _ (show (uS.heap.size, DO false none 0 0 0) ∈ _ by simp)
  obtain ⟨⟨fF0, fF1, fF2⟩, _⟩ := cells3 BX uF.heap.size _ _ _ _ (show (uF.heap.size, DO nF aF zF.length cF xF) ∈ _ by simp)
  obtain ⟨⟨fC0, fC1, fC2⟩, _⟩ := cells3 BX uC.heap.size _ _ _ _ (show (uC.heap.size, DO nK aC zK.length cC xK) ∈ _ by simp)
  go_wp2_with fail
  refine (mark3 vx.heap.size _ _ none 0 [] _ (noWr _ _) (by simp) _ aF cF zF _ wF (by omega) _ aC cC zK _ wC (by omega)).mono ?_
  rintro e W3 ⟨rfl, hk⟩
  have HC := (below_then HB (below_alloc _ _)).trans hk
  replace BX := HF.keep HC
  replace lx := lx0.below HC (Nat.le_refl _)
  replace la := la0.below HC (Nat.le_refl _)
  clear HC hk HB wF wC
  have HB := Below.refl W3.heap.size W3
  obtain ⟨⟨fx0, fx1, fx2⟩, _⟩ := cells3 BX uL.heap.size _ _ _ _ (show (uL.heap.size, DO n1 ax z1.length cx e1) ∈ _ by simp)
  obtain ⟨⟨fa0, fa1, fa2⟩, _⟩ := cells3 BX w.heap.size _ _ _ _ (show (w.heap.size, DO n1 a1 z1.length c1 e1) ∈ _ by simp)
  go_wp2_with fail
  refine (dsame40 n1 n1 ax a1 cx c1 z1 z1 e1 e1 _ ⟨lx, u1.len, u1.rng⟩ ⟨la, u1.len, u1.rng⟩ true (decide_eq_true ⟨rfl, rfl, rfl⟩)).mono ?_
  rintro e k7w ⟨rfl, k7⟩
  replace BX := BX.keep k7
  replace HB := below_then HB k7
  replace la := la.below k7 (Nat.le_refl _)
  replace lx := lx.below k7 (Nat.le_refl _)
  clear k7
  go_wp2_with fail
  refine (dknown34 _ (hT.below BX.bel (Nat.le_refl _))).mono ?_
  rintro e k8w ⟨rfl, k8⟩
  replace BX := BX.keep k8
  replace HB := below_then HB k8
  replace la := la.below k8 (Nat.le_refl _)
  replace lx := lx.below k8 (Nat.le_refl _)
  clear k8
  go_wp2
  go_ret
  exact ⟨rfl, BX.bel⟩
end Go.Proofs.YteejaghimppcgaaDoor
