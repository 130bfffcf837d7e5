import Derived.Test.YteejaghimppcgaaDoorDyadClosesPart15
namespace Go.Proofs.YteejaghimppcgaaDoor
open Go.RowKit Go.Wd Go.Box
set_option linter.unusedVariables false
set_option maxRecDepth 3000
set_option maxHeartbeats 40000000 in
theorem closes_b1 (n1 n2 : Bool) (a1 a2 : Option Addr) (c1 c2 : Nat) (z1 z2 : List Int) (e1 e2 bits : Int) (w : World) (u1 : DLie w a1 z1) (u2 : DLie w a2 z2) (hT : Tab w) (HNear : Hide (([⟨n1, a1, c1, z1, e1⟩, ⟨n2, a2, c2, z2, e2⟩] : List Arg).all nearB = true)) (hC1 : 1 ≤ bits) (hC2 : bits ≤ 600) {v1 v2 : Int} (N1 : DN n1 z1 e1 v1) (N2 : DN n2 z2 e2 v2) (HY : Hide (sgn (Nt.val z2 * pK e2) 0 = 1))
    {r E9 : Int} {gr : Bool} (HR1 : Hide (∀ W A C, Lie W A z1 → Tab W → Calls Tryd.prog 51 #[dV false A z1.length C e1, .int .i64 bits] W fun e w' => ∃ n z x a c, e = .returned (.tuple #[dV n a (List.length z) c x, .bool gr, .int .i64 0]) ∧ Fm r E9 n z x ∧ Lie w' a z ∧ Below W.heap.size W w'))
    (HW2 : Hide (∀ W n z x a c A C, Fm r E9 n z x → Lie W a z → Lie W A z1 → Tab W → Calls Tryd.prog 55 #[dV n a z.length c x, .bool gr, .int .i64 bits, noD, dV false A z1.length C e1] W fun e w' => e = .returned (.bool true) ∧ Below W.heap.size W w'))
    {R E : Int} {gq : Bool} (HQ1 : Hide (∀ W A C A' C', Lie W A z1 → Lie W A' z2 → Tab W → Calls Tryd.prog 50 #[dV false A z1.length C e1, dV false A' z2.length C' e2, .int .i64 bits] W fun e w' => ∃ n z x a c, e = .returned (.tuple #[dV n a (List.length z) c x, .bool gq, .int .i64 0]) ∧ Fm R E n z x ∧ Lie w' a z ∧ Below W.heap.size W w'))
    (HW1 : Hide (∀ W n z x a c A C A' C', Fm R E n z x → Lie W a z → Lie W A z1 → Lie W A' z2 → Tab W → Calls Tryd.prog 55 #[dV n a z.length c x, .bool gq, .int .i64 bits, dV false A' z2.length C' e2, dV false A z1.length C e1] W fun e w' => e = .returned (.bool true) ∧ Below W.heap.size W w'))
    (HQ2 : Hide (∀ W, Lie W a1 z1 → Lie W a2 z2 → Tab W → Calls Tryd.prog 50 #[dV n1 a1 z1.length c1 e1, dV n2 a2 z2.length c2 e2, .int .i64 bits] W fun e w' => ∃ n z x a c, e = .returned (.tuple #[dV n a (List.length z) c x, .bool gq, .int .i64 0]) ∧ Fm (sv (n1 != n2) R) E n z x ∧ Lie w' a z ∧ Below W.heap.size W w'))
    {us sS sA sB : Int} (HS : Hide (∀ n z x n' z' x', Fm (sv (n1 != n2) R) E n z x → Fm R E n' z' x' → DN n z x us ∧ n' = false ∧ z = z' ∧ x = x')) (HSg : Hide (sgn us 0 = sS ∧ sgn v1 0 = sA ∧ sgn v2 0 = sB ∧ sA * sB = sS)) (HSb : Hide (-1 ≤ sS ∧ sS ≤ 1)) :
    Calls Tryd.prog 8 #[dV n1 a1 z1.length c1 e1, dV n2 a2 z2.length c2 e2, .int .i64 bits] w fun e w' => e = .returned (.bool true) ∧ Below w.heap.size w w' := by
  have la := u1.lie
  have lb := u2.lie
  have B1 := (((Bx.nil w).push (DO n1 a1 z1.length c1 e1)).push (DO n2 a2 z2.length c2 e2)).push (DO2 n1 a1 z1.length c1 e1 n2 a2 z2.length c2 e2)
  rw [show ((w.alloc (DO n1 a1 z1.length c1 e1)).alloc (DO n2 a2 z2.length c2 e2)).heap.size = w.heap.size + 1 + 1 by simp, show (w.alloc (DO n1 a1 z1.length c1 e1)).heap.size = w.heap.size + 1 by simp] at B1
  have hr := arow2 ((w.alloc (DO n1 a1 z1.length c1 e1)).alloc (DO n2 a2 z2.length c2 e2)) (w.heap.size + 1 + 1) (by simp) ⟨n1, a1, c1, z1, e1⟩ ⟨n2, a2, c2, z2, e2⟩ (u1.below (below_then (below_alloc _ _) (below_alloc _ _))) (u2.below (below_then (below_alloc _ _) (below_alloc _ _)))
  have HN := Hide.mk (near75 _ _ _ hr (by simp))
  clear hr
  go_enter Tryd.func8, Tryd.ntmps8
  go_wp2_with fail
  refine HN.out.mono ?_
  rintro e w1 ⟨rfl, hn⟩
  rw [HNear.out]
  have BX := (B1.keep hn).sub (L' := [((w.heap.size + 1), DO n2 a2 z2.length c2 e2), (w.heap.size, DO n1 a1 z1.length c1 e1)]) (by simp)
  clear HN hn B1
  have HB := Below.refl w1.heap.size w1
  replace la := la.below BX.bel (Nat.le_refl _)
  replace lb := lb.below BX.bel (Nat.le_refl _)
  obtain ⟨⟨fa0, fa1, fa2⟩, _⟩ := cells3 BX w.heap.size _ _ _ _ (show (w.heap.size, DO n1 a1 z1.length c1 e1) ∈ _ by simp)
  go_wp2_with fail
  refine (dabs48 n1 a1 c1 z1 e1 _ la N1.dg (hT.below BX.bel (Nat.le_refl _))).mono ?_
  rintro e uX ⟨nX, aX, mX, cX, xX, dX, rfl, vX0⟩
  have hX := vX0.bel
  obtain ⟨rfl, rfl, rfl, rfl, iX⟩ := vX0.isD (abs_num N1)
  have wX := iX.own.wrA.weak HB.size
  have lX := iX.lie
  clear iX vX0
  replace BX := BX.keep hX
  replace HB := below_then HB hX
  replace la := la.below hX (Nat.le_refl _)
  replace lb := lb.below hX (Nat.le_refl _)
  clear hX
  have haX := below_alloc uX (DO false aX z1.length cX e1)
  replace BX := BX.push (DO false aX z1.length cX e1)
  replace HB := below_then HB haX
  replace la := la.below haX (Nat.le_refl _)
  replace lb := lb.below haX (Nat.le_refl _)
  replace lX := lX.below haX (Nat.le_refl _)
  replace wX := wX.below (C := 0) haX
  clear haX
  obtain ⟨⟨fb0, fb1, fb2⟩, _⟩ := cells3 BX (w.heap.size + 1) _ _ _ _ (show ((w.heap.size + 1), DO n2 a2 z2.length c2 e2) ∈ _ by simp)
  go_wp2_with fail
  generalize hvX : uX.alloc (DO false aX z1.length cX e1) = vX at *
  clear hvX
  refine (dabs48 n2 a2 c2 z2 e2 _ lb N2.dg (hT.below BX.bel (Nat.le_refl _))).mono ?_
  rintro e uY ⟨nY, aY, mY, cY, xY, dY, rfl, vY0⟩
  have hY := vY0.bel
  obtain ⟨rfl, rfl, rfl, rfl, iY⟩ := vY0.isD (abs_num N2)
  have lY := iY.lie
  clear iY vY0
  replace BX := BX.keep hY
  replace HB := below_then HB hY
  replace la := la.below hY (Nat.le_refl _)
  replace lb := lb.below hY (Nat.le_refl _)
  replace lX := lX.below hY (Nat.le_refl _)
  replace wX := wX.below (C := 0) hY
  clear hY
  have haY := below_alloc uY (DO false aY z2.length cY e2)
  replace BX := BX.push (DO false aY z2.length cY e2)
  replace HB := below_then HB haY
  replace la := la.below haY (Nat.le_refl _)
  replace lb := lb.below haY (Nat.le_refl _)
  replace lX := lX.below haY (Nat.le_refl _)
  replace lY := lY.below haY (Nat.le_refl _)
  replace wX := wX.below (C := 0) haY
  clear haY
  obtain ⟨⟨fY0, fY1, fY2⟩, _⟩ := cells3 BX uY.heap.size _ _ _ _ (show (uY.heap.size, DO false aY z2.length cY e2) ∈ _ by simp)
  go_wp2_with fail
  generalize hvY : uY.alloc (DO false aY z2.length cY e2) = vY at *
  clear hvY
  refine (dsign49 false aY cY z2 e2 _ _ lY (mag_DN2 (abs_num N2).dg) 1 HY.out).mono ?_
  rintro e k1w ⟨rfl, k1⟩
  replace BX := BX.keep k1
  replace HB := below_then HB k1
  replace la := la.below k1 (Nat.le_refl _)
  replace lb := lb.below k1 (Nat.le_refl _)
  replace lX := lX.below k1 (Nat.le_refl _)
  replace lY := lY.below k1 (Nat.le_refl _)
  replace wX := wX.below (C := 0) k1
  clear k1
  obtain ⟨⟨fX0, fX1, fX2⟩, _⟩ := cells3 BX uX.heap.size _ _ _ _ (show (uX.heap.size, DO false aX z1.length cX e1) ∈ _ by simp)
  obtain ⟨⟨fY0, fY1, fY2⟩, _⟩ := cells3 BX uY.heap.size _ _ _ _ (show (uY.heap.size, DO false aY z2.length cY e2) ∈ _ by simp)
  go_wp2_with fail
  refine (HQ1.out _ aX cX aY cY lX lY (hT.below BX.bel (Nat.le_refl _))).mono ?_
  rintro e uQ ⟨nQ, zQ, xQ, aQ, cQ, rfl, FQ, lQ, hQ⟩
  have HFQ := Hide.mk FQ
  clear FQ
  replace BX := BX.keep hQ
  replace HB := below_then HB hQ
  replace la := la.below hQ (Nat.le_refl _)
  replace lb := lb.below hQ (Nat.le_refl _)
  replace lX := lX.below hQ (Nat.le_refl _)
  replace lY := lY.below hQ (Nat.le_refl _)
  replace wX := wX.below (C := 0) hQ
  clear hQ
  have haQ := below_alloc uQ (DO nQ aQ zQ.length cQ xQ)
  replace BX := BX.push (DO nQ aQ zQ.length cQ xQ)
  replace HB := below_then HB haQ
  replace la := la.below haQ (Nat.le_refl _)
  replace lb := lb.below haQ (Nat.le_refl _)
  replace lX := lX.below haQ (Nat.le_refl _)
  replace lY := lY.below haQ (Nat.le_refl _)
  replace lQ := lQ.below haQ (Nat.le_refl _)
  replace wX := wX.below (C := 0) haQ
  clear haQ
  obtain ⟨⟨fQ0, fQ1, fQ2⟩, _⟩ := cells3 BX uQ.heap.size _ _ _ _ (show (uQ.heap.size, DO nQ aQ zQ.length cQ xQ) ∈ _ by simp)
  obtain ⟨⟨fY0, fY1, fY2⟩, _⟩ := cells3 BX uY.heap.size _ _ _ _ (show (uY.heap.size, DO false aY z2.length cY e2) ∈ _ by simp)
  obtain ⟨⟨fX0, fX1, fX2⟩, _⟩ := cells3 BX uX.heap.size _ _ _ _ (show (uX.heap.size, DO false aX z1.length cX e1) ∈ _ by simp)
  go_wp2_with fail
  generalize hvQ : uQ.alloc (DO nQ aQ zQ.length cQ xQ) = vQ at *
  clear hvQ
  refine (HW1.out _ nQ zQ xQ aQ cQ aX cX aY cY HFQ.out lQ lX lY (hT.below BX.bel (Nat.le_refl _))).mono ?_
  rintro e k2w ⟨rfl, k2⟩
  replace BX := BX.keep k2
  replace HB := below_then HB k2
  replace la := la.below k2 (Nat.le_refl _)
  replace lb := lb.below k2 (Nat.le_refl _)
  replace lX := lX.below k2 (Nat.le_refl _)
  replace lY := lY.below k2 (Nat.le_refl _)
  replace lQ := lQ.below k2 (Nat.le_refl _)
  replace wX := wX.below (C := 0) k2
  clear k2
  obtain ⟨⟨fa0, fa1, fa2⟩, _⟩ := cells3 BX w.heap.size _ _ _ _ (show (w.heap.size, DO n1 a1 z1.length c1 e1) ∈ _ by simp)
  obtain ⟨⟨fb0, fb1, fb2⟩, _⟩ := cells3 BX (w.heap.size + 1) _ _ _ _ (show ((w.heap.size + 1), DO n2 a2 z2.length c2 e2) ∈ _ by simp)
  go_wp2_with fail
  refine (HQ2.out _ la lb (hT.below BX.bel (Nat.le_refl _))).mono ?_
  rintro e uS ⟨nS, zS, xS, aS, cS, rfl, FS, lS, hS⟩
  have HFS := Hide.mk FS
  clear FS
  replace BX := BX.keep hS
  replace HB := below_then HB hS
  replace la := la.below hS (Nat.le_refl _)
  replace lb := lb.below hS (Nat.le_refl _)
  replace lX := lX.below hS (Nat.le_refl _)
  replace lY := lY.below hS (Nat.le_refl _)
  replace lQ := lQ.below hS (Nat.le_refl _)
  replace wX := wX.below (C := 0) hS
  clear hS
  have haS := below_alloc uS (DO nS aS zS.length cS xS)
  replace BX := BX.push (DO nS aS zS.length cS xS)
  replace HB := below_then HB haS
  replace la := la.below haS (Nat.le_refl _)
  replace lb := lb.below haS (Nat.le_refl _)
  replace lX := lX.below haS (Nat.le_refl _)
  replace lY := lY.below haS (Nat.le_refl _)
  replace lQ := lQ.below haS (Nat.le_refl _)
  replace lS := lS.below haS (Nat.le_refl _)
  replace wX := wX.below (C := 0) haS
  clear haS
  obtain ⟨⟨fS0, fS1, fS2⟩, _⟩ := cells3 BX uS.heap.size _ _ _ _ (show (uS.heap.size, DO nS aS zS.length cS xS) ∈ _ by simp)
  go_wp2_with fail
  generalize hvS : uS.alloc (DO nS aS zS.length cS xS) = vS at *
  clear hvS
  obtain ⟨NS, hk1, hk2, hk3⟩ := HS.out _ _ _ _ _ _ HFS.out HFQ.out
  subst hk1 hk2 hk3
  refine (dabs48 nS aS cS zS xS _ lS NS.dg (hT.below BX.bel (Nat.le_refl _))).mono ?_
  rintro e uT ⟨nT, aT, mT, cT, xT, dT, rfl, vT0⟩
  have hT9 := vT0.bel
  obtain ⟨rfl, rfl, rfl, rfl, iT⟩ := vT0.isD (abs_num NS)
  have lT := iT.lie
  clear iT vT0
  replace BX := BX.keep hT9
  replace HB := below_then HB hT9
  replace la := la.below hT9 (Nat.le_refl _)
  replace lb := lb.below hT9 (Nat.le_refl _)
  replace lX := lX.below hT9 (Nat.le_refl _)
  replace lY := lY.below hT9 (Nat.le_refl _)
  replace lQ := lQ.below hT9 (Nat.le_refl _)
  replace lS := lS.below hT9 (Nat.le_refl _)
  replace wX := wX.below (C := 0) hT9
  clear hT9
  have haT := below_alloc uT (DO false aT zS.length cT xS)
  replace BX := BX.push (DO false aT zS.length cT xS)
  replace HB := below_then HB haT
  replace la := la.below haT (Nat.le_refl _)
  replace lb := lb.below haT (Nat.le_refl _)
  replace lX := lX.below haT (Nat.le_refl _)
  replace lY := lY.below haT (Nat.le_refl _)
  replace lQ := lQ.below haT (Nat.le_refl _)
  replace lS := lS.below haT (Nat.le_refl _)
  replace lT := lT.below haT (Nat.le_refl _)
  replace wX := wX.below (C := 0) haT
  clear haT
  go_wp2_with fail
  generalize hvT : uT.alloc (DO false aT zS.length cT xS) = vT at *
  clear hvT
  have HI := (BX.sub (L' := [(uT.heap.size, DO false aT zS.length cT xS), (uQ.heap.size, DO false aQ zS.length cQ xS), (uS.heap.size, DO nS aS zS.length cS xS), (w.heap.size, DO n1 a1 z1.length c1 e1), ((w.heap.size + 1), DO n2 a2 z2.length c2 e2)]) (by simp)).drew
  have sh := fun W (hW : Bx w [(uT.heap.size, DO false aT zS.length cT xS), (uQ.heap.size, DO false aQ zS.length cQ xS), (uS.heap.size, DO nS aS zS.length cS xS), (w.heap.size, DO n1 a1 z1.length c1 e1), ((w.heap.size + 1), DO n2 a2 z2.length c2 e2)] W) => And.intro (cells3 hW uT.heap.size _ _ _ _ (show (uT.heap.size, DO false aT zS.length cT xS) ∈ _ by simp)).1 (And.intro (cells3 hW uQ.heap.size _ _ _ _ (show (uQ.heap.size, DO false aQ zS.length cQ xS) ∈ _ by simp)).1 (And.intro (cells3 hW uS.heap.size _ _ _ _ (show (uS.heap.size, DO nS aS zS.length cS xS) ∈ _ by simp)).1 (And.intro (cells3 hW w.heap.size _ _ _ _ (show (w.heap.size, DO n1 a1 z1.length c1 e1) ∈ _ by simp)).1 ((cells3 hW (w.heap.size + 1) _ _ _ _ (show ((w.heap.size + 1), DO n2 a2 z2.length c2 e2) ∈ _ by simp)).1))))
  replace HB := Below.drew HB
  replace BX := BX.drew
  replace la : Lie (World.drew _) _ _ := la
  replace lb : Lie (World.drew _) _ _ := lb
  replace lX : Lie (World.drew _) _ _ := lX
  replace lY : Lie (World.drew _) _ _ := lY
  replace lQ : Lie (World.drew _) _ _ := lQ
  replace lS : Lie (World.drew _) _ _ := lS
  replace lT : Lie (World.drew _) _ _ := lT
  replace wX : WrA _ (World.drew _) _ _ := wX
  refine Drawn.enter (Bx w [(uT.heap.size, DO false aT zS.length cT xS), (uQ.heap.size, DO false aQ zS.length cQ xS), (uS.heap.size, DO nS aS zS.length cS xS), (w.heap.size, DO n1 a1 z1.length c1 e1), ((w.heap.size + 1), DO n2 a2 z2.length c2 e2)]) (by kernel_rfl) ?_
  refine Drawn.take (i := 0) (v := ?v0) rfl (by kernel_rfl) (by kernel_rfl) (by kernel_rfl) (fun _ _ _ h => h) (by kernel_rfl) (fun W hW => ?_) HI ?_
  rotate_left
  · have ⟨⟨sT0, sT1, sT2⟩, ⟨sQ0, sQ1, sQ2⟩, ⟨sS0, sS1, sS2⟩, ⟨sa0, sa1, sa2⟩, sb0, sb1, sb2⟩ := sh W hW
    go_simp <;> exact rfl
  refine Drawn.take (i := 1) (v := ?v1) rfl (by kernel_rfl) (by kernel_rfl) (by kernel_rfl) (fun _ _ _ h => h) (by kernel_rfl) (fun W hW => ?_) HI ?_
  rotate_left
  · have ⟨⟨sT0, sT1, sT2⟩, ⟨sQ0, sQ1, sQ2⟩, ⟨sS0, sS1, sS2⟩, ⟨sa0, sa1, sa2⟩, sb0, sb1, sb2⟩ := sh W hW
    go_simp <;> exact rfl
  refine Drawn.take (i := 2) (v := ?v2) rfl (by kernel_rfl) (by kernel_rfl) (by kernel_rfl) (fun _ _ _ h => h) (by kernel_rfl) (fun W hW => ?_) HI ?_
  rotate_left
  · have ⟨⟨sT0, sT1, sT2⟩, ⟨sQ0, sQ1, sQ2⟩, ⟨sS0, sS1, sS2⟩, ⟨sa0, sa1, sa2⟩, sb0, sb1, sb2⟩ := sh W hW
    go_simp <;> exact rfl
  refine Drawn.take (i := 3) (v := ?v3) rfl (by kernel_rfl) (by kernel_rfl) (by kernel_rfl) (fun _ _ _ h => h) (by kernel_rfl) (fun W hW => ?_) HI ?_
  rotate_left
  · have ⟨⟨sT0, sT1, sT2⟩, ⟨sQ0, sQ1, sQ2⟩, ⟨sS0, sS1, sS2⟩, ⟨sa0, sa1, sa2⟩, sb0, sb1, sb2⟩ := sh W hW
    go_simp <;> exact rfl
  refine Drawn.take (i := 4) (v := ?v4) rfl (by kernel_rfl) (by kernel_rfl) (by kernel_rfl) (fun _ _ _ h => h) (by kernel_rfl) (fun W hW => ?_) HI ?_
  rotate_left
  · have ⟨⟨sT0, sT1, sT2⟩, ⟨sQ0, sQ1, sQ2⟩, ⟨sS0, sS1, sS2⟩, ⟨sa0, sa1, sa2⟩, sb0, sb1, sb2⟩ := sh W hW
    go_simp <;> exact rfl
  refine Drawn.take (i := 5) (v := .bool false) rfl (by kernel_rfl) (by kernel_rfl) (by kernel_rfl) (fun _ _ _ h => h) (by kernel_rfl) (fun W hW => ?_) HI ?_
  · have ⟨⟨sT0, sT1, sT2⟩, ⟨sQ0, sQ1, sQ2⟩, ⟨sS0, sS1, sS2⟩, ⟨sa0, sa1, sa2⟩, sb0, sb1, sb2⟩ := sh W hW
    go_simp <;> (simp)
  refine Drawn.take (i := 6) (v := ?v5) rfl (by kernel_rfl) (by kernel_rfl) (by kernel_rfl) (fun _ _ _ h => h) (by kernel_rfl) (fun W hW => ?_) HI ?_
  rotate_left
  · have ⟨⟨sT0, sT1, sT2⟩, ⟨sQ0, sQ1, sQ2⟩, ⟨sS0, sS1, sS2⟩, ⟨sa0, sa1, sa2⟩, sb0, sb1, sb2⟩ := sh W hW
    go_simp <;> exact rfl
  refine Drawn.take (i := 7) (v := ?v6) rfl (by kernel_rfl) (by kernel_rfl) (by kernel_rfl) (fun _ _ _ h => h) (by kernel_rfl) (fun W hW => ?_) HI ?_
  rotate_left
  · have ⟨⟨sT0, sT1, sT2⟩, ⟨sQ0, sQ1, sQ2⟩, ⟨sS0, sS1, sS2⟩, ⟨sa0, sa1, sa2⟩, sb0, sb1, sb2⟩ := sh W hW
    go_simp <;> exact rfl
  refine Drawn.take (i := 8) (v := ?v7) rfl (by kernel_rfl) (by kernel_rfl) (by kernel_rfl) (fun _ _ _ h => h) (by kernel_rfl) (fun W hW => ?_) HI ?_
  rotate_left
  · have ⟨⟨sT0, sT1, sT2⟩, ⟨sQ0, sQ1, sQ2⟩, ⟨sS0, sS1, sS2⟩, ⟨sa0, sa1, sa2⟩, sb0, sb1, sb2⟩ := sh W hW
    go_simp <;> exact rfl
  refine Drawn.take (i := 9) (v := ?v8) rfl (by kernel_rfl) (by kernel_rfl) (by kernel_rfl) (fun _ _ _ h => h) (by kernel_rfl) (fun W hW => ?_) HI ?_
  rotate_left
  · have ⟨⟨sT0, sT1, sT2⟩, ⟨sQ0, sQ1, sQ2⟩, ⟨sS0, sS1, sS2⟩, ⟨sa0, sa1, sa2⟩, sb0, sb1, sb2⟩ := sh W hW
    go_simp <;> exact rfl
  refine Drawn.one (j := 10) (by kernel_rfl) rfl (fun K hK => ?_)
  go_simp
  refine (sameD false false aT aQ cT cQ zS zS xS xS _ (abs_num NS) (abs_num NS) lT lQ).mono ?_
  rintro e k3w ⟨rfl, k3⟩
  refine hK _ _ (HI.keep k3) ?_
  clear hK K
  replace HI := HI.keep k3
  replace BX := BX.keep k3
  replace HB := below_then HB k3
  replace la := la.below k3 (Nat.le_refl _)
  replace lb := lb.below k3 (Nat.le_refl _)
  replace lX := lX.below k3 (Nat.le_refl _)
  replace lY := lY.below k3 (Nat.le_refl _)
  replace lQ := lQ.below k3 (Nat.le_refl _)
  replace lS := lS.below k3 (Nat.le_refl _)
  replace lT := lT.below k3 (Nat.le_refl _)
  replace wX := wX.below (C := 0) k3
  clear k3
  refine Drawn.take (i := 11) (v := .bool false) rfl (by kernel_rfl) (by kernel_rfl) (by kernel_rfl) (fun _ _ _ h => h) (by kernel_rfl) (fun W hW => ?_) HI ?_
  · have ⟨⟨sT0, sT1, sT2⟩, ⟨sQ0, sQ1, sQ2⟩, ⟨sS0, sS1, sS2⟩, ⟨sa0, sa1, sa2⟩, sb0, sb1, sb2⟩ := sh W hW
    go_simp <;> (rfl)
  refine Drawn.take (i := 12) (v := ?v9) rfl (by kernel_rfl) (by kernel_rfl) (by kernel_rfl) (fun _ _ _ h => h) (by kernel_rfl) (fun W hW => ?_) HI ?_
  rotate_left
  · have ⟨⟨sT0, sT1, sT2⟩, ⟨sQ0, sQ1, sQ2⟩, ⟨sS0, sS1, sS2⟩, ⟨sa0, sa1, sa2⟩, sb0, sb1, sb2⟩ := sh W hW
    go_simp <;> exact rfl
  refine Drawn.take (i := 13) (v := ?v10) rfl (by kernel_rfl) (by kernel_rfl) (by kernel_rfl) (fun _ _ _ h => h) (by kernel_rfl) (fun W hW => ?_) HI ?_
  rotate_left
  · have ⟨⟨sT0, sT1, sT2⟩, ⟨sQ0, sQ1, sQ2⟩, ⟨sS0, sS1, sS2⟩, ⟨sa0, sa1, sa2⟩, sb0, sb1, sb2⟩ := sh W hW
    go_simp <;> exact rfl
  refine Drawn.take (i := 14) (v := ?v11) rfl (by kernel_rfl) (by kernel_rfl) (by kernel_rfl) (fun _ _ _ h => h) (by kernel_rfl) (fun W hW => ?_) HI ?_
  rotate_left
  · have ⟨⟨sT0, sT1, sT2⟩, ⟨sQ0, sQ1, sQ2⟩, ⟨sS0, sS1, sS2⟩, ⟨sa0, sa1, sa2⟩, sb0, sb1, sb2⟩ := sh W hW
    go_simp <;> exact rfl
  refine Drawn.take (i := 16) (v := ?v12) rfl (by kernel_rfl) (by kernel_rfl) (by kernel_rfl) (fun _ _ _ h => h) (by kernel_rfl) (fun W hW => ?_) HI ?_
  rotate_left
  · have ⟨⟨sT0, sT1, sT2⟩, ⟨sQ0, sQ1, sQ2⟩, ⟨sS0, sS1, sS2⟩, ⟨sa0, sa1, sa2⟩, sb0, sb1, sb2⟩ := sh W hW
    go_simp <;> exact rfl
  refine Drawn.take (i := 18) (v := ?v13) rfl (by kernel_rfl) (by kernel_rfl) (by kernel_rfl) (fun _ _ _ h => h) (by kernel_rfl) (fun W hW => ?_) HI ?_
  rotate_left
  · have ⟨⟨sT0, sT1, sT2⟩, ⟨sQ0, sQ1, sQ2⟩, ⟨sS0, sS1, sS2⟩, ⟨sa0, sa1, sa2⟩, sb0, sb1, sb2⟩ := sh W hW
    go_simp <;> exact rfl
  refine Drawn.one (j := 15) (by kernel_rfl) rfl (fun K hK => ?_)
  go_simp
  refine (dsign49 nS aS cS zS xS _ _ lS NS sS HSg.out.1).mono ?_
  rintro e k4w ⟨rfl, k4⟩
  refine hK _ _ (HI.keep k4) ?_
  clear hK K
  replace HI := HI.keep k4
  replace BX := BX.keep k4
  replace HB := below_then HB k4
  replace la := la.below k4 (Nat.le_refl _)
  replace lb := lb.below k4 (Nat.le_refl _)
  replace lX := lX.below k4 (Nat.le_refl _)
  replace lY := lY.below k4 (Nat.le_refl _)
  replace lQ := lQ.below k4 (Nat.le_refl _)
  replace lS := lS.below k4 (Nat.le_refl _)
  replace lT := lT.below k4 (Nat.le_refl _)
  replace wX := wX.below (C := 0) k4
  clear k4
  refine Drawn.one (j := 17) (by kernel_rfl) rfl (fun K hK => ?_)
  go_simp
  refine (dsign49 n1 a1 c1 z1 e1 _ _ la N1 sA HSg.out.2.1).mono ?_
  rintro e k5w ⟨rfl, k5⟩
  refine hK _ _ (HI.keep k5) ?_
  clear hK K
  replace HI := HI.keep k5
  replace BX := BX.keep k5
  replace HB := below_then HB k5
  replace la := la.below k5 (Nat.le_refl _)
  replace lb := lb.below k5 (Nat.le_refl _)
  replace lX := lX.below k5 (Nat.le_refl _)
  replace lY := lY.below k5 (Nat.le_refl _)
  replace lQ := lQ.below k5 (Nat.le_refl _)
  replace lS := lS.below k5 (Nat.le_refl _)
  replace lT := lT.below k5 (Nat.le_refl _)
  replace wX := wX.below (C := 0) k5
  clear k5
  refine Drawn.one (j := 19) (by kernel_rfl) rfl (fun K hK => ?_)
  go_simp
  refine (dsign49 n2 a2 c2 z2 e2 _ _ lb N2 sB HSg.out.2.2.1).mono ?_
  rintro e k6w ⟨rfl, k6⟩
  refine hK _ _ (HI.keep k6) ?_
  clear hK K
  replace HI := HI.keep k6
  replace BX := BX.keep k6
  replace HB := below_then HB k6
  replace la := la.below k6 (Nat.le_refl _)
  replace lb := lb.below k6 (Nat.le_refl _)
  replace lX := lX.below k6 (Nat.le_refl _)
  replace lY := lY.below k6 (Nat.le_refl _)
  replace lQ := lQ.below k6 (Nat.le_refl _)
  replace lS := lS.below k6 (Nat.le_refl _)
  replace lT := lT.below k6 (Nat.le_refl _)
  replace wX := wX.below (C := 0) k6
  clear k6
  refine Drawn.take (i := 20) (v := .int .i64 sS) rfl (by kernel_rfl) (by kernel_rfl) (by kernel_rfl) (fun _ _ _ h => h) (by kernel_rfl) (fun W hW => ?_) HI ?_
  · have ⟨⟨sT0, sT1, sT2⟩, ⟨sQ0, sQ1, sQ2⟩, ⟨sS0, sS1, sS2⟩, ⟨sa0, sa1, sa2⟩, sb0, sb1, sb2⟩ := sh W hW
    go_simp <;> (rw [HSg.out.2.2.2]; exact wrap_ok (by have := HSb.out; omega) (by have := HSb.out; omega))
  refine Drawn.take (i := 21) (v := .bool false) rfl (by kernel_rfl) (by kernel_rfl) (by kernel_rfl) (fun _ _ _ h => h) (by kernel_rfl) (fun W hW => ?_) HI ?_
  · have ⟨⟨sT0, sT1, sT2⟩, ⟨sQ0, sQ1, sQ2⟩, ⟨sS0, sS1, sS2⟩, ⟨sa0, sa1, sa2⟩, sb0, sb1, sb2⟩ := sh W hW
    go_simp <;> (simp)
  refine Drawn.take (i := 22) (v := ?v14) rfl (by kernel_rfl) (by kernel_rfl) (by kernel_rfl) (fun _ _ _ h => h) (by kernel_rfl) (fun W hW => ?_) HI ?_
  rotate_left
  · have ⟨⟨sT0, sT1, sT2⟩, ⟨sQ0, sQ1, sQ2⟩, ⟨sS0, sS1, sS2⟩, ⟨sa0, sa1, sa2⟩, sb0, sb1, sb2⟩ := sh W hW
    go_simp <;> exact rfl
  refine Drawn.done (by kernel_rfl) ?_
  try go_simp
  clear HI sh
  obtain ⟨⟨fX0, fX1, fX2⟩, _⟩ := cells3 BX uX.heap.size _ _ _ _ (show (uX.heap.size, DO false aX z1.length cX e1) ∈ _ by simp)
  go_wp2_with fail
  refine (HR1.out _ aX cX lX (hT.below BX.bel (Nat.le_refl _))).mono ?_
  rintro e uR ⟨nR, zR, xR, aR, cR, rfl, FR, lR, hR⟩
  have HFR := Hide.mk FR
  clear FR
  replace BX := BX.keep hR
  replace HB := below_then HB hR
  replace la := la.below hR (Nat.le_refl _)
  replace lb := lb.below hR (Nat.le_refl _)
  replace lX := lX.below hR (Nat.le_refl _)
  replace lY := lY.below hR (Nat.le_refl _)
  replace lQ := lQ.below hR (Nat.le_refl _)
  replace lS := lS.below hR (Nat.le_refl _)
  replace lT := lT.below hR (Nat.le_refl _)
  replace wX := wX.below (C := 0) hR
  clear hR
  have haR := below_alloc uR (DO nR aR zR.length cR xR)
  replace BX := BX.push (DO nR aR zR.length cR xR)
  replace HB := below_then HB haR
  replace la := la.below haR (Nat.le_refl _)
  replace lb := lb.below haR (Nat.le_refl _)
  replace lX := lX.below haR (Nat.le_refl _)
  replace lY := lY.below haR (Nat.le_refl _)
  replace lQ := lQ.below haR (Nat.le_refl _)
  replace lS := lS.below haR (Nat.le_refl _)
  replace lT := lT.below haR (Nat.le_refl _)
  replace lR := lR.below haR (Nat.le_refl _)
  replace wX := wX.below (C := 0) haR
  clear haR
  obtain ⟨⟨fR0, fR1, fR2⟩, _⟩ := cells3 BX uR.heap.size _ _ _ _ (show (uR.heap.size, DO nR aR zR.length cR xR) ∈ _ by simp)
  obtain ⟨⟨fX0, fX1, fX2⟩, _⟩ := cells3 BX uX.heap.size _ _ _ _ (show (uX.heap.size, DO false aX z1.length cX e1) ∈ _ by simp)
  go_wp2_with fail
  generalize hvR : uR.alloc (DO nR aR zR.length cR xR) = vR at *
  clear hvR
  refine (HW2.out _ nR zR xR aR cR aX cX HFR.out lR lX (hT.below BX.bel (Nat.le_refl _))).mono ?_
  rintro e k7w ⟨rfl, k7⟩
  replace BX := BX.keep k7
  replace HB := below_then HB k7
  replace la := la.below k7 (Nat.le_refl _)
  replace lb := lb.below k7 (Nat.le_refl _)
  replace lX := lX.below k7 (Nat.le_refl _)
  replace lY := lY.below k7 (Nat.le_refl _)
  replace lQ := lQ.below k7 (Nat.le_refl _)
  replace lS := lS.below k7 (Nat.le_refl _)
  replace lT := lT.below k7 (Nat.le_refl _)
  replace lR := lR.below k7 (Nat.le_refl _)
  replace wX := wX.below (C := 0) k7
  clear k7
  go_wp2_with fail
  refine (dknown34 _ (hT.below BX.bel (Nat.le_refl _))).mono ?_
  rintro e k8w ⟨rfl, k8⟩
  replace BX := BX.keep k8
  replace HB := below_then HB k8
  replace la := la.below k8 (Nat.le_refl _)
  replace lb := lb.below k8 (Nat.le_refl _)
  replace lX := lX.below k8 (Nat.le_refl _)
  replace lY := lY.below k8 (Nat.le_refl _)
  replace lQ := lQ.below k8 (Nat.le_refl _)
  replace lS := lS.below k8 (Nat.le_refl _)
  replace lT := lT.below k8 (Nat.le_refl _)
  replace lR := lR.below k8 (Nat.le_refl _)
  replace wX := wX.below (C := 0) k8
  clear k8
  go_wp2
  go_ret
  exact ⟨rfl, BX.bel⟩
end Go.Proofs.YteejaghimppcgaaDoor

namespace Go.Proofs.YteejaghimppcgaaDoor
open Go.RowKit Go.Wd Go.Box
set_option linter.unusedVariables false
set_option maxRecDepth 3000
theorem sv_lt3 (n : Bool) {x : Int} {b : Nat} (h : BitLen x b) (hb : b ≤ 131072) : ((sv n x).natAbs : Int) < 4294967296 ^ 4096 := by
  have h0 : 0 ≤ x := by rcases h with ⟨h, _⟩ | ⟨h, _⟩ <;> omega
  rw [sv_abs2 n h0, pw32]
  rcases h with ⟨h, _⟩ | ⟨_, h⟩
  · rw [h]; exact p2pos _
  · have := h.lt
    have := p2le hb
    omega
theorem db_nought : DB KK (KK + 1) (0 * 0) := by
  have h1 := p2pos (KK + 1)
  rw [Int.mul_zero]
  exact ⟨Int.zero_emod _, by omega, by omega⟩
theorem fm_nought {E : Int} {n : Bool} {z : List Int} {x : Int} (F : Fm 0 E n z x) : n = false ∧ z = [] ∧ x = 0 := by
  rcases F with ⟨_, h⟩ | ⟨h, _⟩
  · exact h
  · exact absurd rfl h
theorem sg0 : Hide (sgn 0 0 = 0 ∧ sgn 0 0 = 0) := ⟨by decide, by decide⟩
theorem wn_root (z1 : List Int) (e1 bits : Int) (g1 : DG false z1 e1) (hz : z1.length ≤ 0) (hb1 : 1 ≤ bits) (hb2 : bits ≤ 600) (W : World) (n : Bool) (z : List Int) (x : Int) (a : Option Addr) (c : Nat) (A : Option Addr) (C : Nat) (F : Fm 0 0 n z x) (l : Lie W a z) (lA : Lie W A z1) (t : Tab W) :
    Calls Tryd.prog 55 #[dV n a z.length c x, .bool false, .int .i64 bits, noD, dV false A z1.length C e1] W fun e w' => e = .returned (.bool true) ∧ Below W.heap.size W w' := by
  obtain ⟨rfl, rfl, rfl⟩ := fm_nought F
  obtain ⟨rfl, _, rfl⟩ := g1.nil (by omega)
  have hK := KK_int
  exact within_nought (p2 := 0) (ut := 0) false false false a none A c 0 C [] [] [] 0 0 0 bits W l (.inl rfl) lA zeroDN zeroDN t hb1 (by omega) sg0 sg0 (fun W l t => cut_keep false [] 0 bits zeroDG (B := 0) (.inl ⟨Nt.val_nil, rfl⟩) (by omega) hb1 (by omega) W a c l t) (fun W l _ t => times_sq false a c [] 0 W l zeroDN t db_nought (by omega) (by omega) (by omega) (p := 0) (by rw [Int.zero_mul, Int.zero_mul])) ⟨by decide⟩
theorem wn_quo (z1 z2 : List Int) (e1 e2 bits : Int) (g1 : DG false z1 e1) (g2 : DG false z2 e2) (hz : z1.length ≤ 0) (hz2 : 0 < z2.length) (hb1 : 1 ≤ bits) (hb2 : bits ≤ 600) (W : World) (n : Bool) (z : List Int) (x : Int) (a : Option Addr) (c : Nat) (A : Option Addr) (C : Nat) (A' : Option Addr) (C' : Nat) (F : Fm 0 0 n z x) (l : Lie W a z) (lA : Lie W A z1) (lB : Lie W A' z2) (t : Tab W) :
    Calls Tryd.prog 55 #[dV n a z.length c x, .bool false, .int .i64 bits, dV false A' z2.length C' e2, dV false A z1.length C e1] W fun e w' => e = .returned (.bool true) ∧ Below W.heap.size W w' := by
  obtain ⟨rfl, rfl, rfl⟩ := fm_nought F
  obtain ⟨rfl, _, rfl⟩ := g1.nil (by omega)
  have hK := KK_int
  have Y0 := g2.pos hz2
  have hs := sgn_is2 (Int.mul_pos Y0 (pK_pos e2))
  have db : DB KK (KK + 1) (0 * (Nt.val z2 * pK e2)) := by rw [Int.zero_mul]; have := db_nought; rwa [Int.mul_zero] at this
  exact within_nought (p2 := 0) (ut := 0) false false false a A' A c C' C [] z2 [] 0 e2 0 bits W l lB lA zeroDN zeroDN t hb1 (by omega) sg0 sg0 (fun W l t => cut_keep false [] 0 bits zeroDG (B := 0) (.inl ⟨Nt.val_nil, rfl⟩) (by omega) hb1 (by omega) W a c l t) (fun W l l2 t => times_by false false a A' c C' [] z2 0 e2 W l l2 zeroDN (mag_DN g2) t db (by omega) (by omega) (by omega) (p := 0) (by rw [Int.zero_mul, Int.zero_mul]) 1 hs rfl) ⟨by decide⟩
theorem noDn (q : Bool) (w w' : World) (hb : Below w.heap.size w w') : ∃ n z x a c, Ending.returned (.tuple #[noD, .bool q, .int .i64 0]) = .returned (.tuple #[dV n a (List.length z) c x, .bool q, .int .i64 0]) ∧ Fm 0 0 n z x ∧ Lie w' a z ∧ Below w.heap.size w w' :=
  ⟨false, [], 0, none, 0, rfl, .inl ⟨rfl, rfl, rfl, rfl⟩, .inl rfl, hb⟩
theorem root_part (z1 : List Int) (e1 bits : Int) (g1 : DG false z1 e1) (k1 : z1.length ≤ 100) (he1 : -3000 ≤ e1) (he2 : e1 ≤ 3000) (hb1 : 1 ≤ bits) (hb2 : bits ≤ 600) : ∃ (r E9 : Int) (gr : Bool),
    (∀ W A C, Lie W A z1 → Tab W → Calls Tryd.prog 51 #[dV false A z1.length C e1, .int .i64 bits] W fun e w' => ∃ n z x a c, e = .returned (.tuple #[dV n a (List.length z) c x, .bool gr, .int .i64 0]) ∧ Fm r E9 n z x ∧ Lie w' a z ∧ Below W.heap.size W w') ∧
    (∀ W n z x a c A C, Fm r E9 n z x → Lie W a z → Lie W A z1 → Tab W → Calls Tryd.prog 55 #[dV n a z.length c x, .bool gr, .int .i64 bits, noD, dV false A z1.length C e1] W fun e w' => e = .returned (.bool true) ∧ Below W.heap.size W w') := by
  by_cases hz : 0 < z1.length
  · have p1 := g1.pos hz
    obtain ⟨b, hbb⟩ : ∃ b : Nat, bits = (b : Int) := ⟨bits.toNat, by omega⟩
    obtain ⟨La, hLa⟩ := bitLen_ex (Int.le_of_lt p1)
    have bx : Bits (Nt.val z1) La := by rcases hLa with ⟨h, _⟩ | ⟨_, h⟩; omega; exact h
    have s1 : La ≤ 3200 := bl_le hLa (small_val g1.can k1)
    obtain ⟨j, r, more, hR, hj1, hj2⟩ := r_at bx p1 e1 b (by omega)
    have r0 : 0 < r := by rcases hR.bits with ⟨_, h⟩ | ⟨h, _⟩; omega; exact h
    obtain ⟨t, ht⟩ := low_ex r0
    have ht2 := low_bits2 hR.bits ht r0
    refine ⟨r, -j, more, fun W A C l T => ?_, fun W n z x a c A C F l lA T => ?_⟩
    · refine (rootT A C z1 e1 W l g1 T bits b hbb hb1 (by omega) hz hR).mono fun e w' h => ?_
      have := dcut_num h (sv_lt3 false hR.bits (by omega)) (.inr ⟨t, by rw [sv_abs2 false (by omega)]; exact ht, by omega, by omega⟩)
      obtain ⟨n', z', x', a', c', h1, h2, _, h4, _, h6⟩ := this
      rw [sv_f] at h2
      exact ⟨n', z', x', a', c', h1, h2, h4, h6⟩
    · exact within_r n a A c C z z1 x e1 bits b W l lA g1 hz F hR hbb hb1 hb2 he1 he2 (by omega) (by omega) T
  · refine ⟨0, 0, false, fun W A C l T => ?_, fun W n z x a c A C F l lA T => wn_root z1 e1 bits g1 (by omega) hb1 hb2 W n z x a c A C F l lA T⟩
    refine (root_nil A C z1 e1 bits W l g1 hb1 (by omega) (by omega)).mono ?_
    rintro e w' ⟨rfl, hb⟩
    exact noDn false W w' hb
theorem fm_abs {R E : Int} (m : Bool) (R0 : 0 < R) {n n' : Bool} {z z' : List Int} {x x' : Int} (F : Fm (sv m R) E n z x) (F' : Fm R E n' z' x') : n' = false ∧ z = z' ∧ x = x' := by
  rcases F with ⟨h, _⟩ | ⟨_, t, ht, _, rfl, hc, hv⟩
  · exact absurd h (sv_ne m R0)
  · rcases F' with ⟨h, _⟩ | ⟨_, t', ht', hn', rfl, hc', hv'⟩
    · omega
    · rw [sv_abs2 m (by omega)] at ht hv
      rw [show ((R.natAbs : Nat) : Int) = R by omega] at ht' hv'
      obtain rfl := ht.unique ht'
      exact ⟨by rw [hn']; exact decide_eq_false (by omega), Nt.can_unique hc hc' (hv.trans hv'.symm), rfl⟩
theorem sgn_sv (n : Bool) {x : Int} (e : Int) (h : 0 < x) : sgn (sv n x * pK e) 0 = if n then -1 else 1 := by
  have hp := pK_pos e
  have := Int.mul_pos h hp
  cases n
  · rw [sv_f, sgn_is2 this]; rfl
  · rw [sv_t, Int.neg_mul, sgn_is1 (by omega)]; rfl
set_option maxHeartbeats 4000000 in
theorem closes_any (n1 n2 : Bool) (a1 a2 : Option Addr) (c1 c2 : Nat) (z1 z2 : List Int) (e1 e2 bits : Int) (w : World) (u1 : DLie w a1 z1) (u2 : DLie w a2 z2) (hT : Tab w) :
    Calls Tryd.prog 8 #[dV n1 a1 z1.length c1 e1, dV n2 a2 z2.length c2 e2, .int .i64 bits] w fun e w' => e = .returned (.bool true) ∧ Below w.heap.size w w' := by
  by_cases hN : ([⟨n1, a1, c1, z1, e1⟩, ⟨n2, a2, c2, z2, e2⟩] : List Arg).all nearB = true
  · by_cases hC : bits < 1
    · exact closes_low n1 n2 a1 a2 c1 c2 z1 z2 e1 e2 bits w u1 u2 hT ⟨hN⟩ hC
    · by_cases hC2 : 600 < bits
      · exact closes_high n1 n2 a1 a2 c1 c2 z1 z2 e1 e2 bits w u1 u2 hT ⟨hN⟩ (by omega) hC2
      · have hN' := hN
        simp only [List.all_cons, List.all_nil, nearB, Bool.and_eq_true, decide_eq_true_eq, Bool.and_true] at hN'
        obtain ⟨⟨⟨⟨k1, x1⟩, y1⟩, m1⟩, ⟨⟨k2, x2⟩, y2⟩, m2⟩ := hN'
        have N1 : DN n1 z1 e1 (dv n1 z1 e1) := ⟨DG.of u1.rng m1, rfl⟩
        have N2 : DN n2 z2 e2 (dv n2 z2 e2) := ⟨DG.of u2.rng m2, rfl⟩
        have gx := (abs_num N1).dg
        have gy := (abs_num N2).dg
        obtain ⟨r, E9, gr, HR1, HW2⟩ := root_part z1 e1 bits gx k1 x1 y1 (by omega) (by omega)
        by_cases hzb : 0 < z2.length
        · have p2 := gy.pos hzb
          have HY : Hide (sgn (Nt.val z2 * pK e2) 0 = 1) := ⟨sgn_is2 (Int.mul_pos p2 (pK_pos e2))⟩
          by_cases hza : 0 < z1.length
          · have p1 := gx.pos hza
            obtain ⟨b, hbb⟩ : ∃ b : Nat, bits = (b : Int) := ⟨bits.toNat, by omega⟩
            obtain ⟨La, hLa⟩ := bitLen_ex (Int.le_of_lt p1)
            have bx : Bits (Nt.val z1) La := by rcases hLa with ⟨h, _⟩ | ⟨_, h⟩; omega; exact h
            obtain ⟨Lb, hLb⟩ := bitLen_ex (Int.le_of_lt p2)
            have bY : Bits (Nt.val z2) Lb := by rcases hLb with ⟨h, _⟩ | ⟨_, h⟩; omega; exact h
            have s1 : La ≤ 3200 := bl_le hLa (small_val gx.can k1)
            have s2 : Lb ≤ 3200 := bl_le hLb (small_val gy.can k2)
            obtain ⟨i, hi, hi1, hi2⟩ := q_at bx bY p1 p2 b (by omega)
            have q0 : 0 < qf (Nt.val z1) (Nt.val z2) i := by rcases hi with ⟨_, h⟩ | ⟨h, _⟩; omega; exact h
            have qlt : qf (Nt.val z1) (Nt.val z2) i < 2 ^ b := by
              rcases hi with ⟨h, _⟩ | ⟨_, h⟩
              · omega
              · exact h.lt
            obtain ⟨t, ht⟩ := low_ex q0
            have ht2 := low_bits2 hi ht q0
            have hK := KK_int
            have hx1 := N1.dg.ex_bd
            have num : ∀ (m1 m2 : Bool) (W : World) (A : Option Addr) (C : Nat) (A' : Option Addr) (C' : Nat), DG m1 z1 e1 → DG m2 z2 e2 → Lie W A z1 → Lie W A' z2 → Tab W → Calls Tryd.prog 50 #[dV m1 A z1.length C e1, dV m2 A' z2.length C' e2, .int .i64 bits] W fun e w' => ∃ n z x a c, e = .returned (.tuple #[dV n a (List.length z) c x, .bool (qg (Nt.val z1) (Nt.val z2) i), .int .i64 0]) ∧ Fm (sv (m1 != m2) (qf (Nt.val z1) (Nt.val z2) i)) (e1 - e2 - i) n z x ∧ Lie w' a z ∧ Below W.heap.size W w' := by
              intro m1 m2 W A C A' C' g1 g2 l1 l2 T
              refine (quoT m1 m2 A A' C C' z1 z2 e1 e2 W l1 l2 g1 g2 T bits b hbb (by omega) (by omega) hza hzb hi).mono fun e w' h => ?_
              have := dcut_num h (sv_lt3 _ hi (by omega)) (.inr ⟨t, by rw [sv_abs2 _ (by omega)]; exact ht, by omega, by omega⟩)
              obtain ⟨n', z', x', a', c', h1, h2, _, h4, _, h6⟩ := this
              exact ⟨n', z', x', a', c', h1, h2, h4, h6⟩
            obtain ⟨nn, hn⟩ : ∃ n : Nat, (n : Int) = e1 - e2 - i + KK := ⟨(e1 - e2 - i + KK).toNat, by omega⟩
            refine closes_b1 n1 n2 a1 a2 c1 c2 z1 z2 e1 e2 bits w u1 u2 hT ⟨hN⟩ (by omega) (by omega) N1 N2 HY ⟨HR1⟩ ⟨HW2⟩ (R := qf (Nt.val z1) (Nt.val z2) i) (E := e1 - e2 - i) (gq := qg (Nt.val z1) (Nt.val z2) i) ⟨fun W A C A' C' l l' T => ?_⟩ ⟨fun W n z x a c A C A' C' F l lA lB T => within_q n a A' A c C' C z z2 z1 x e2 e1 bits b W l lB lA gx gy hza hzb F hi hbb (by omega) (by omega) k2 x1 y1 x2 y2 (by omega) (by omega) T⟩ ⟨fun W l l' T => num n1 n2 W a1 c1 a2 c2 N1.dg N2.dg l l' T⟩ (us := sv (n1 != n2) (qf (Nt.val z1) (Nt.val z2) i) * pK (e1 - e2 - i)) (sS := if (n1 != n2) then -1 else 1) (sA := if n1 then -1 else 1) (sB := if n2 then -1 else 1) ⟨fun n z x n' z' x' F F' => ⟨F.dn (by omega) (db_of (b := b) hn (by cases (n1 != n2) <;> first | (rw [sv_f]; omega) | (rw [sv_t]; omega)) (by cases (n1 != n2) <;> first | (rw [sv_f]; omega) | (rw [sv_t]; omega))) (by omega) (by omega), fm_abs _ q0 F F'⟩⟩ ⟨sgn_sv _ _ q0, sgn_sv _ _ p1, sgn_sv _ _ p2, by cases n1 <;> cases n2 <;> rfl⟩ ⟨by cases n1 <;> cases n2 <;> decide⟩
            have := num false false W A C A' C' gx gy l l' T
            rw [show (false != false) = false from rfl, sv_f] at this
            exact this
          · obtain ⟨h1, h2, h3⟩ := N1.dg.nil (by omega)
            have e0 : dv n1 z1 e1 = 0 := by unfold dv; rw [h1, Nt.val_nil, h2, sv_f, Int.zero_mul]
            have nn : ∀ (m1 m2 : Bool) (W : World) (A : Option Addr) (C : Nat) (A' : Option Addr) (C' : Nat), DG m1 z1 e1 → DG m2 z2 e2 → Lie W A z1 → Lie W A' z2 → Tab W → Calls Tryd.prog 50 #[dV m1 A z1.length C e1, dV m2 A' z2.length C' e2, .int .i64 bits] W fun e w' => ∃ n z x a c, e = .returned (.tuple #[dV n a (List.length z) c x, .bool false, .int .i64 0]) ∧ Fm 0 0 n z x ∧ Lie w' a z ∧ Below W.heap.size W w' := by
              intro m1 m2 W A C A' C' g1 g2 l1 l2 T
              refine (quo_nil m1 m2 A A' C C' z1 z2 e1 e2 bits W l1 l2 g1 g2 (by omega) (by omega) hzb (by omega)).mono ?_
              rintro e w' ⟨rfl, hb⟩
              exact noDn false W w' hb
            have s0 : sv (n1 != n2) 0 = 0 := by cases (n1 != n2) <;> rfl
            refine closes_b1 n1 n2 a1 a2 c1 c2 z1 z2 e1 e2 bits w u1 u2 hT ⟨hN⟩ (by omega) (by omega) N1 N2 HY ⟨HR1⟩ ⟨HW2⟩ (R := 0) (E := 0) (gq := false) ⟨fun W A C A' C' l l' T => nn false false W A C A' C' gx gy l l' T⟩ ⟨fun W n z x a c A C A' C' F l lA lB T => wn_quo z1 z2 e1 e2 bits gx gy (by omega) hzb (by omega) (by omega) W n z x a c A C A' C' F l lA lB T⟩ ⟨fun W l l' T => ?_⟩ (us := 0) (sS := 0) (sA := 0) (sB := sgn (dv n2 z2 e2) 0) ⟨fun n z x n' z' x' F F' => ?_⟩ ⟨by decide, by rw [e0]; decide, rfl, Int.zero_mul _⟩ ⟨by decide⟩
            · rw [s0]; exact nn n1 n2 W a1 c1 a2 c2 N1.dg N2.dg l l' T
            · rw [s0] at F
              obtain ⟨rfl, rfl, rfl⟩ := fm_nought F
              obtain ⟨rfl, rfl, rfl⟩ := fm_nought F'
              exact ⟨zeroDN, rfl, rfl, rfl⟩
        · have HY : Hide (sgn (Nt.val z2 * pK e2) 0 = 0) := ⟨by
            obtain ⟨h1, _, _⟩ := N2.dg.nil (by omega)
            rw [h1, Nt.val_nil, Int.zero_mul]; decide⟩
          exact closes_b0 n1 n2 a1 a2 c1 c2 z1 z2 e1 e2 bits w u1 u2 hT ⟨hN⟩ (by omega) (by omega) N1 N2 HY ⟨HR1⟩ ⟨HW2⟩
  · exact closes_far n1 n2 a1 a2 c1 c2 z1 z2 e1 e2 bits w u1 u2 hT ⟨by simpa using hN⟩
end Go.Proofs.YteejaghimppcgaaDoor
