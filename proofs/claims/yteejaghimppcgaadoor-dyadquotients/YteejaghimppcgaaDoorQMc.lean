import Derived.Test.YteejaghimppcgaaDoorDyadQuotientsPart14
namespace Go.Proofs.YteejaghimppcgaaDoor
open Go.RowKit Go.Wd Go.Box
set_option linter.unusedVariables false
set_option maxRecDepth 3000
set_option maxHeartbeats 100000000 in
theorem quots_gc (n1 n2 : Bool) (a1 a2 : Option Addr) (c1 c2 : Nat) (z1 z2 : List Int) (e1 e2 bits : Int) (w : World) (u1 : DLie w a1 z1) (u2 : DLie w a2 z2) (hl1 : (z1.length : Int) ≤ 40) (hl2 : (z2.length : Int) ≤ 40) (hm1 : z1.length ≤ 1000000) (hm2 : z2.length ≤ 1000000) (hn1 : a1 = none → c1 = 0) (hn2 : a2 = none → c2 = 0) (hT : Tab w) (hC9 : 8192 < bits) (HC9 : Hide ((∃ (hq1 : dmayB n1 z1 e1 = false) (hq : (dmayB n1 z1 e1 && dmayB n2 z2 e2) = false) (hC : 8192 < bits), True) ∨ (∃ (g1 : DG n1 z1 e1) (hC : 8192 < bits) (hq2 : dmayB n2 z2 e2 = false), True) ∨ (∃ (g1 : DG n1 z1 e1) (g2 : DG n2 z2 e2) (hC : 8192 < bits), True))) :
    Calls Tryd.prog 7 #[dV n1 a1 z1.length c1 e1, dV n2 a2 z2.length c2 e2, .int .i64 bits] w fun e w' => e = .returned (.bool true) ∧ Below w.heap.size w w' := by
  have l1 := u1.lie
  have l2 := u2.lie
  have B1 := ((Bx.nil w).push (DO n1 a1 z1.length c1 e1)).push (DO n2 a2 z2.length c2 e2)
  go_enter Tryd.func7, Tryd.ntmps7
  go_wp2_with fail
  rw [show (w.alloc (DO n1 a1 z1.length c1 e1)).heap.size = w.heap.size + 1 by simp] at B1
  generalize hw1 : (w.alloc (DO n1 a1 z1.length c1 e1)).alloc (DO n2 a2 z2.length c2 e2) = w1 at *
  clear hw1
  have HF := B1.drew
  have HI := HF
  have sh := fun W (hW : Bx w [(w.heap.size + 1, DO n2 a2 z2.length c2 e2), (w.heap.size, DO n1 a1 z1.length c1 e1)] W) => And.intro (cells3 hW (w.heap.size + 1) _ _ _ _ (.head _)).1 (cells3 hW w.heap.size _ _ _ _ (.tail _ (.head _))).1
  refine Drawn.enter (Bx w [(w.heap.size + 1, DO n2 a2 z2.length c2 e2), (w.heap.size, DO n1 a1 z1.length c1 e1)]) (by kernel_rfl) ?_
  refine Drawn.take (i := 0) (v := ?v4) rfl (by kernel_rfl) (by kernel_rfl) (by kernel_rfl) (fun _ _ _ h => h) (by kernel_rfl) (fun W hW => ?_) HI ?_
  rotate_left
  · have ⟨⟨s0, s1, s2⟩, q0, q3, q4⟩ := sh W hW
    go_simp <;> exact rfl
  refine Drawn.take (i := 2) (v := ?v5) rfl (by kernel_rfl) (by kernel_rfl) (by kernel_rfl) (fun _ _ _ h => h) (by kernel_rfl) (fun W hW => ?_) HI ?_
  rotate_left
  · have ⟨⟨s0, s1, s2⟩, q0, q3, q4⟩ := sh W hW
    go_simp <;> exact rfl
  generalize hdr : w1.drew = W00 at *
  clear hdr
  refine suppose7 (F := fun g5 g6 W ax cx ay cy => Bx w [(g6, DO n2 ay z2.length cy e2), (g5, DO n1 ax z1.length cx e1), (w.heap.size + 1, DO n2 a2 z2.length c2 e2), (w.heap.size, DO n1 a1 z1.length c1 e1)] W ∧ Lie W ax z1 ∧ Lie W ay z2) (G := ?G) (fun Rest => ?main) ?rest
  case main =>
    refine Drawn.trio (i := 1) (j := 4) (k := 5) (by kernel_rfl) rfl rfl rfl (fun K hK => ?_) (fun K hK => ?_) (fun K hK => ?_)
    · go_simp
      refine (dlent35 n1 a1 c1 z1 e1 _ (l1.below HF.bel (Nat.le_refl _)) hm1 hn1).mono ?_
      rintro e W0 ⟨ax, cx, rfl, lx, hn, _⟩
      refine hK _ _ (HI.keep hn) ?_
      clear hK K
      replace HI := HI.keep hn
      replace HF := HF.keep hn
      clear hn
      refine Drawn.trio (i := 3) (j := 4) (k := 5) (by kernel_rfl) rfl rfl rfl (fun K hK => ?_) (fun K hK => ?_) (fun K hK => ?_)
      · go_simp
        refine (dlent35 n2 a2 c2 z2 e2 _ (l2.below HF.bel (Nat.le_refl _)) hm2 hn2).mono ?_
        rintro e W1 ⟨ay, cy, rfl, ly, hn, _⟩
        refine hK _ _ (HI.keep hn) ?_
        clear hK K
        replace HI := HI.keep hn
        replace HF := HF.keep hn
        replace lx := lx.below hn (Nat.le_refl _)
        clear hn
        refine Drawn.pair (i := 4) (j := 5) (by kernel_rfl) rfl rfl (fun K hK => ?_) (fun K hK => ?_)
        · go_simp
          refine hK _ _ (HI.grown (DO false none 0 0 0)) ?_
          clear hK K
          have o5 : w.heap.size + 1 < W1.heap.size := HF.lt (p := (w.heap.size + 1, DO n2 a2 z2.length c2 e2)) (by simp)
          replace HI := HI.grown (DO false none 0 0 0)
          replace HF := HF.push (DO false none 0 0 0)
          replace lx := lx.below (below_alloc W1 (DO false none 0 0 0)) (Nat.le_refl _)
          replace ly := ly.below (below_alloc W1 (DO false none 0 0 0)) (Nat.le_refl _)
          generalize hg5 : W1.alloc (DO false none 0 0 0) = W2 at *
          clear hg5
          generalize hh5 : W1.heap.size = g5 at *
          clear hh5
          refine Drawn.one (j := 5) (by kernel_rfl) rfl (fun K hK => ?_)
          go_simp
          refine hK _ _ (HI.grown (DO false none 0 0 0)) ?_
          clear hK K
          have o6 : w.heap.size + 1 < W2.heap.size := HF.lt (p := (w.heap.size + 1, DO n2 a2 z2.length c2 e2)) (by simp)
          have o56 : g5 < W2.heap.size := HF.lt (p := (g5, DO false none 0 0 0)) (by simp)
          replace HI := HI.grown (DO false none 0 0 0)
          replace HF := HF.push (DO false none 0 0 0)
          replace lx := lx.below (below_alloc W2 (DO false none 0 0 0)) (Nat.le_refl _)
          replace ly := ly.below (below_alloc W2 (DO false none 0 0 0)) (Nat.le_refl _)
          generalize hg6 : W2.alloc (DO false none 0 0 0) = W3 at *
          clear hg6
          generalize hh6 : W2.heap.size = g6 at *
          clear hh6
          replace HF := HF.sub (L' := [(g5, DO false none 0 0 0), (g6, DO false none 0 0 0), (w.heap.size + 1, DO n2 a2 z2.length c2 e2), (w.heap.size, DO n1 a1 z1.length c1 e1)]) (by simp)
          have H5 := HF.head
          obtain ⟨⟨f0, f1, f2⟩, r0, r1, r2⟩ := cells3 HF g5 _ _ _ _ (.head _)
          replace lx := lie_set3 H5 (.bool n1) (.slice ax z1.length cx) (.int .i64 e1) lx
          replace ly := lie_set3 H5 (.bool n1) (.slice ax z1.length cx) (.int .i64 e1) ly
          replace HF := HF.fill3 (by omega) (by simp; omega) (.bool n1) (.slice ax z1.length cx) (.int .i64 e1)
          refine Drawn.one (j := 6) (by kernel_rfl) rfl (fun K hK => ?_)
          go_simp
          refine hK _ _ (HF.sub (by simp)) ?_
          clear hK K f0 f1 f2 r0 r1 r2 H5
          replace HF := HF.sub (L' := [(g6, DO false none 0 0 0), (g5, DO n1 ax z1.length cx e1), (w.heap.size + 1, DO n2 a2 z2.length c2 e2), (w.heap.size, DO n1 a1 z1.length c1 e1)]) (by simp)
          have H5 := HF.head
          obtain ⟨⟨f0, f1, f2⟩, r0, r1, r2⟩ := cells3 HF g6 _ _ _ _ (.head _)
          replace lx := lie_set3 H5 (.bool n2) (.slice ay z2.length cy) (.int .i64 e2) lx
          replace ly := lie_set3 H5 (.bool n2) (.slice ay z2.length cy) (.int .i64 e2) ly
          replace HF := HF.fill3 (by omega) (by simp; omega) (.bool n2) (.slice ay z2.length cy) (.int .i64 e2)
          refine Drawn.one (j := 7) (by kernel_rfl) rfl (fun K hK => ?_)
          go_simp
          refine hK _ _ (HF.sub (by simp)) ?_
          clear hK K f0 f1 f2 r0 r1 r2 H5
          refine Drawn.done (by kernel_rfl) ?_
          try go_simp
          generalize hWf : ((((((W3.setCell ⟨g5, 0, none⟩ (.bool n1)).setCell ⟨g5, 1, none⟩ (.slice ax z1.length cx)).setCell ⟨g5, 2, none⟩ (.int .i64 e1)).setCell ⟨g6, 0, none⟩ (.bool n2)).setCell ⟨g6, 1, none⟩ (.slice ay z2.length cy)).setCell ⟨g6, 2, none⟩ (.int .i64 e2)) = Wf at *
          exact Rest g5 g6 Wf ax cx ay cy ⟨HF, lx, ly⟩
        · go_simp
          refine hK _ _ (HI.grown (DO false none 0 0 0)) ?_
          clear hK K
          have o6 : w.heap.size + 1 < W1.heap.size := HF.lt (p := (w.heap.size + 1, DO n2 a2 z2.length c2 e2)) (by simp)
          replace HI := HI.grown (DO false none 0 0 0)
          replace HF := HF.push (DO false none 0 0 0)
          replace lx := lx.below (below_alloc W1 (DO false none 0 0 0)) (Nat.le_refl _)
          replace ly := ly.below (below_alloc W1 (DO false none 0 0 0)) (Nat.le_refl _)
          generalize hg6 : W1.alloc (DO false none 0 0 0) = W4 at *
          clear hg6
          generalize hh6 : W1.heap.size = g6 at *
          clear hh6
          refine Drawn.one (j := 4) (by kernel_rfl) rfl (fun K hK => ?_)
          go_simp
          refine hK _ _ (HI.grown (DO false none 0 0 0)) ?_
          clear hK K
          have o5 : w.heap.size + 1 < W4.heap.size := HF.lt (p := (w.heap.size + 1, DO n2 a2 z2.length c2 e2)) (by simp)
          have o56 : g6 < W4.heap.size := HF.lt (p := (g6, DO false none 0 0 0)) (by simp)
          replace HI := HI.grown (DO false none 0 0 0)
          replace HF := HF.push (DO false none 0 0 0)
          replace lx := lx.below (below_alloc W4 (DO false none 0 0 0)) (Nat.le_refl _)
          replace ly := ly.below (below_alloc W4 (DO false none 0 0 0)) (Nat.le_refl _)
          generalize hg5 : W4.alloc (DO false none 0 0 0) = W5 at *
          clear hg5
          generalize hh5 : W4.heap.size = g5 at *
          clear hh5
          replace HF := HF.sub (L' := [(g5, DO false none 0 0 0), (g6, DO false none 0 0 0), (w.heap.size + 1, DO n2 a2 z2.length c2 e2), (w.heap.size, DO n1 a1 z1.length c1 e1)]) (by simp)
          have H5 := HF.head
          obtain ⟨⟨f0, f1, f2⟩, r0, r1, r2⟩ := cells3 HF g5 _ _ _ _ (.head _)
          replace lx := lie_set3 H5 (.bool n1) (.slice ax z1.length cx) (.int .i64 e1) lx
          replace ly := lie_set3 H5 (.bool n1) (.slice ax z1.length cx) (.int .i64 e1) ly
          replace HF := HF.fill3 (by omega) (by simp; omega) (.bool n1) (.slice ax z1.length cx) (.int .i64 e1)
          refine Drawn.one (j := 6) (by kernel_rfl) rfl (fun K hK => ?_)
          go_simp
          refine hK _ _ (HF.sub (by simp)) ?_
          clear hK K f0 f1 f2 r0 r1 r2 H5
          replace HF := HF.sub (L' := [(g6, DO false none 0 0 0), (g5, DO n1 ax z1.length cx e1), (w.heap.size + 1, DO n2 a2 z2.length c2 e2), (w.heap.size, DO n1 a1 z1.length c1 e1)]) (by simp)
          have H5 := HF.head
          obtain ⟨⟨f0, f1, f2⟩, r0, r1, r2⟩ := cells3 HF g6 _ _ _ _ (.head _)
          replace lx := lie_set3 H5 (.bool n2) (.slice ay z2.length cy) (.int .i64 e2) lx
          replace ly := lie_set3 H5 (.bool n2) (.slice ay z2.length cy) (.int .i64 e2) ly
          replace HF := HF.fill3 (by omega) (by simp; omega) (.bool n2) (.slice ay z2.length cy) (.int .i64 e2)
          refine Drawn.one (j := 7) (by kernel_rfl) rfl (fun K hK => ?_)
          go_simp
          refine hK _ _ (HF.sub (by simp)) ?_
          clear hK K f0 f1 f2 r0 r1 r2 H5
          refine Drawn.done (by kernel_rfl) ?_
          try go_simp
          generalize hWf : ((((((W5.setCell ⟨g5, 0, none⟩ (.bool n1)).setCell ⟨g5, 1, none⟩ (.slice ax z1.length cx)).setCell ⟨g5, 2, none⟩ (.int .i64 e1)).setCell ⟨g6, 0, none⟩ (.bool n2)).setCell ⟨g6, 1, none⟩ (.slice ay z2.length cy)).setCell ⟨g6, 2, none⟩ (.int .i64 e2)) = Wf at *
          exact Rest g5 g6 Wf ax cx ay cy ⟨HF, lx, ly⟩
      · go_simp
        refine hK _ _ (HI.grown (DO false none 0 0 0)) ?_
        clear hK K
        have o5 : w.heap.size + 1 < W0.heap.size := HF.lt (p := (w.heap.size + 1, DO n2 a2 z2.length c2 e2)) (by simp)
        replace HI := HI.grown (DO false none 0 0 0)
        replace HF := HF.push (DO false none 0 0 0)
        replace lx := lx.below (below_alloc W0 (DO false none 0 0 0)) (Nat.le_refl _)
        generalize hg5 : W0.alloc (DO false none 0 0 0) = W6 at *
        clear hg5
        generalize hh5 : W0.heap.size = g5 at *
        clear hh5
        refine Drawn.pair (i := 3) (j := 5) (by kernel_rfl) rfl rfl (fun K hK => ?_) (fun K hK => ?_)
        · go_simp
          refine (dlent35 n2 a2 c2 z2 e2 _ (l2.below HF.bel (Nat.le_refl _)) hm2 hn2).mono ?_
          rintro e W7 ⟨ay, cy, rfl, ly, hn, _⟩
          refine hK _ _ (HI.keep hn) ?_
          clear hK K
          replace HI := HI.keep hn
          replace HF := HF.keep hn
          replace lx := lx.below hn (Nat.le_refl _)
          clear hn
          refine Drawn.one (j := 5) (by kernel_rfl) rfl (fun K hK => ?_)
          go_simp
          refine hK _ _ (HI.grown (DO false none 0 0 0)) ?_
          clear hK K
          have o6 : w.heap.size + 1 < W7.heap.size := HF.lt (p := (w.heap.size + 1, DO n2 a2 z2.length c2 e2)) (by simp)
          have o56 : g5 < W7.heap.size := HF.lt (p := (g5, DO false none 0 0 0)) (by simp)
          replace HI := HI.grown (DO false none 0 0 0)
          replace HF := HF.push (DO false none 0 0 0)
          replace lx := lx.below (below_alloc W7 (DO false none 0 0 0)) (Nat.le_refl _)
          replace ly := ly.below (below_alloc W7 (DO false none 0 0 0)) (Nat.le_refl _)
          generalize hg6 : W7.alloc (DO false none 0 0 0) = W8 at *
          clear hg6
          generalize hh6 : W7.heap.size = g6 at *
          clear hh6
          replace HF := HF.sub (L' := [(g5, DO false none 0 0 0), (g6, DO false none 0 0 0), (w.heap.size + 1, DO n2 a2 z2.length c2 e2), (w.heap.size, DO n1 a1 z1.length c1 e1)]) (by simp)
          have H5 := HF.head
          obtain ⟨⟨f0, f1, f2⟩, r0, r1, r2⟩ := cells3 HF g5 _ _ _ _ (.head _)
          replace lx := lie_set3 H5 (.bool n1) (.slice ax z1.length cx) (.int .i64 e1) lx
          replace ly := lie_set3 H5 (.bool n1) (.slice ax z1.length cx) (.int .i64 e1) ly
          replace HF := HF.fill3 (by omega) (by simp; omega) (.bool n1) (.slice ax z1.length cx) (.int .i64 e1)
          refine Drawn.one (j := 6) (by kernel_rfl) rfl (fun K hK => ?_)
          go_simp
          refine hK _ _ (HF.sub (by simp)) ?_
          clear hK K f0 f1 f2 r0 r1 r2 H5
          replace HF := HF.sub (L' := [(g6, DO false none 0 0 0), (g5, DO n1 ax z1.length cx e1), (w.heap.size + 1, DO n2 a2 z2.length c2 e2), (w.heap.size, DO n1 a1 z1.length c1 e1)]) (by simp)
          have H5 := HF.head
          obtain ⟨⟨f0, f1, f2⟩, r0, r1, r2⟩ := cells3 HF g6 _ _ _ _ (.head _)
          replace lx := lie_set3 H5 (.bool n2) (.slice ay z2.length cy) (.int .i64 e2) lx
          replace ly := lie_set3 H5 (.bool n2) (.slice ay z2.length cy) (.int .i64 e2) ly
          replace HF := HF.fill3 (by omega) (by simp; omega) (.bool n2) (.slice ay z2.length cy) (.int .i64 e2)
          refine Drawn.one (j := 7) (by kernel_rfl) rfl (fun K hK => ?_)
          go_simp
          refine hK _ _ (HF.sub (by simp)) ?_
          clear hK K f0 f1 f2 r0 r1 r2 H5
          refine Drawn.done (by kernel_rfl) ?_
          try go_simp
          generalize hWf : ((((((W8.setCell ⟨g5, 0, none⟩ (.bool n1)).setCell ⟨g5, 1, none⟩ (.slice ax z1.length cx)).setCell ⟨g5, 2, none⟩ (.int .i64 e1)).setCell ⟨g6, 0, none⟩ (.bool n2)).setCell ⟨g6, 1, none⟩ (.slice ay z2.length cy)).setCell ⟨g6, 2, none⟩ (.int .i64 e2)) = Wf at *
          exact Rest g5 g6 Wf ax cx ay cy ⟨HF, lx, ly⟩
        · go_simp
          refine hK _ _ (HI.grown (DO false none 0 0 0)) ?_
          clear hK K
          have o6 : w.heap.size + 1 < W6.heap.size := HF.lt (p := (w.heap.size + 1, DO n2 a2 z2.length c2 e2)) (by simp)
          have o56 : g5 < W6.heap.size := HF.lt (p := (g5, DO false none 0 0 0)) (by simp)
          replace HI := HI.grown (DO false none 0 0 0)
          replace HF := HF.push (DO false none 0 0 0)
          replace lx := lx.below (below_alloc W6 (DO false none 0 0 0)) (Nat.le_refl _)
          generalize hg6 : W6.alloc (DO false none 0 0 0) = W9 at *
          clear hg6
          generalize hh6 : W6.heap.size = g6 at *
          clear hh6
          refine Drawn.one (j := 3) (by kernel_rfl) rfl (fun K hK => ?_)
          go_simp
          refine (dlent35 n2 a2 c2 z2 e2 _ (l2.below HF.bel (Nat.le_refl _)) hm2 hn2).mono ?_
          rintro e W10 ⟨ay, cy, rfl, ly, hn, _⟩
          refine hK _ _ (HI.keep hn) ?_
          clear hK K
          replace HI := HI.keep hn
          replace HF := HF.keep hn
          replace lx := lx.below hn (Nat.le_refl _)
          clear hn
          replace HF := HF.sub (L' := [(g5, DO false none 0 0 0), (g6, DO false none 0 0 0), (w.heap.size + 1, DO n2 a2 z2.length c2 e2), (w.heap.size, DO n1 a1 z1.length c1 e1)]) (by simp)
          have H5 := HF.head
          obtain ⟨⟨f0, f1, f2⟩, r0, r1, r2⟩ := cells3 HF g5 _ _ _ _ (.head _)
          replace lx := lie_set3 H5 (.bool n1) (.slice ax z1.length cx) (.int .i64 e1) lx
          replace ly := lie_set3 H5 (.bool n1) (.slice ax z1.length cx) (.int .i64 e1) ly
          replace HF := HF.fill3 (by omega) (by simp; omega) (.bool n1) (.slice ax z1.length cx) (.int .i64 e1)
          refine Drawn.one (j := 6) (by kernel_rfl) rfl (fun K hK => ?_)
          go_simp
          refine hK _ _ (HF.sub (by simp)) ?_
          clear hK K f0 f1 f2 r0 r1 r2 H5
          replace HF := HF.sub (L' := [(g6, DO false none 0 0 0), (g5, DO n1 ax z1.length cx e1), (w.heap.size + 1, DO n2 a2 z2.length c2 e2), (w.heap.size, DO n1 a1 z1.length c1 e1)]) (by simp)
          have H5 := HF.head
          obtain ⟨⟨f0, f1, f2⟩, r0, r1, r2⟩ := cells3 HF g6 _ _ _ _ (.head _)
          replace lx := lie_set3 H5 (.bool n2) (.slice ay z2.length cy) (.int .i64 e2) lx
          replace ly := lie_set3 H5 (.bool n2) (.slice ay z2.length cy) (.int .i64 e2) ly
          replace HF := HF.fill3 (by omega) (by simp; omega) (.bool n2) (.slice ay z2.length cy) (.int .i64 e2)
          refine Drawn.one (j := 7) (by kernel_rfl) rfl (fun K hK => ?_)
          go_simp
          refine hK _ _ (HF.sub (by simp)) ?_
          clear hK K f0 f1 f2 r0 r1 r2 H5
          refine Drawn.done (by kernel_rfl) ?_
          try go_simp
          generalize hWf : ((((((W10.setCell ⟨g5, 0, none⟩ (.bool n1)).setCell ⟨g5, 1, none⟩ (.slice ax z1.length cx)).setCell ⟨g5, 2, none⟩ (.int .i64 e1)).setCell ⟨g6, 0, none⟩ (.bool n2)).setCell ⟨g6, 1, none⟩ (.slice ay z2.length cy)).setCell ⟨g6, 2, none⟩ (.int .i64 e2)) = Wf at *
          exact Rest g5 g6 Wf ax cx ay cy ⟨HF, lx, ly⟩
      · go_simp
        refine hK _ _ (HI.grown (DO false none 0 0 0)) ?_
        clear hK K
        have o6 : w.heap.size + 1 < W0.heap.size := HF.lt (p := (w.heap.size + 1, DO n2 a2 z2.length c2 e2)) (by simp)
        replace HI := HI.grown (DO false none 0 0 0)
        replace HF := HF.push (DO false none 0 0 0)
        replace lx := lx.below (below_alloc W0 (DO false none 0 0 0)) (Nat.le_refl _)
        generalize hg6 : W0.alloc (DO false none 0 0 0) = W11 at *
        clear hg6
        generalize hh6 : W0.heap.size = g6 at *
        clear hh6
        refine Drawn.pair (i := 3) (j := 4) (by kernel_rfl) rfl rfl (fun K hK => ?_) (fun K hK => ?_)
        · go_simp
          refine (dlent35 n2 a2 c2 z2 e2 _ (l2.below HF.bel (Nat.le_refl _)) hm2 hn2).mono ?_
          rintro e W12 ⟨ay, cy, rfl, ly, hn, _⟩
          refine hK _ _ (HI.keep hn) ?_
          clear hK K
          replace HI := HI.keep hn
          replace HF := HF.keep hn
          replace lx := lx.below hn (Nat.le_refl _)
          clear hn
          refine Drawn.one (j := 4) (by kernel_rfl) rfl (fun K hK => ?_)
          go_simp
          refine hK _ _ (HI.grown (DO false none 0 0 0)) ?_
          clear hK K
          have o5 : w.heap.size + 1 < W12.heap.size := HF.lt (p := (w.heap.size + 1, DO n2 a2 z2.length c2 e2)) (by simp)
          have o56 : g6 < W12.heap.size := HF.lt (p := (g6, DO false none 0 0 0)) (by simp)
          replace HI := HI.grown (DO false none 0 0 0)
          replace HF := HF.push (DO false none 0 0 0)
          replace lx := lx.below (below_alloc W12 (DO false none 0 0 0)) (Nat.le_refl _)
          replace ly := ly.below (below_alloc W12 (DO false none 0 0 0)) (Nat.le_refl _)
          generalize hg5 : W12.alloc (DO false none 0 0 0) = W13 at *
          clear hg5
          generalize hh5 : W12.heap.size = g5 at *
          clear hh5
          replace HF := HF.sub (L' := [(g5, DO false none 0 0 0), (g6, DO false none 0 0 0), (w.heap.size + 1, DO n2 a2 z2.length c2 e2), (w.heap.size, DO n1 a1 z1.length c1 e1)]) (by simp)
          have H5 := HF.head
          obtain ⟨⟨f0, f1, f2⟩, r0, r1, r2⟩ := cells3 HF g5 _ _ _ _ (.head _)
          replace lx := lie_set3 H5 (.bool n1) (.slice ax z1.length cx) (.int .i64 e1) lx
          replace ly := lie_set3 H5 (.bool n1) (.slice ax z1.length cx) (.int .i64 e1) ly
          replace HF := HF.fill3 (by omega) (by simp; omega) (.bool n1) (.slice ax z1.length cx) (.int .i64 e1)
          refine Drawn.one (j := 6) (by kernel_rfl) rfl (fun K hK => ?_)
          go_simp
          refine hK _ _ (HF.sub (by simp)) ?_
          clear hK K f0 f1 f2 r0 r1 r2 H5
          replace HF := HF.sub (L' := [(g6, DO false none 0 0 0), (g5, DO n1 ax z1.length cx e1), (w.heap.size + 1, DO n2 a2 z2.length c2 e2), (w.heap.size, DO n1 a1 z1.length c1 e1)]) (by simp)
          have H5 := HF.head
          obtain ⟨⟨f0, f1, f2⟩, r0, r1, r2⟩ := cells3 HF g6 _ _ _ _ (.head _)
          replace lx := lie_set3 H5 (.bool n2) (.slice ay z2.length cy) (.int .i64 e2) lx
          replace ly := lie_set3 H5 (.bool n2) (.slice ay z2.length cy) (.int .i64 e2) ly
          replace HF := HF.fill3 (by omega) (by simp; omega) (.bool n2) (.slice ay z2.length cy) (.int .i64 e2)
          refine Drawn.one (j := 7) (by kernel_rfl) rfl (fun K hK => ?_)
          go_simp
          refine hK _ _ (HF.sub (by simp)) ?_
          clear hK K f0 f1 f2 r0 r1 r2 H5
          refine Drawn.done (by kernel_rfl) ?_
          try go_simp
          generalize hWf : ((((((W13.setCell ⟨g5, 0, none⟩ (.bool n1)).setCell ⟨g5, 1, none⟩ (.slice ax z1.length cx)).setCell ⟨g5, 2, none⟩ (.int .i64 e1)).setCell ⟨g6, 0, none⟩ (.bool n2)).setCell ⟨g6, 1, none⟩ (.slice ay z2.length cy)).setCell ⟨g6, 2, none⟩ (.int .i64 e2)) = Wf at *
          exact Rest g5 g6 Wf ax cx ay cy ⟨HF, lx, ly⟩
        · go_simp
          refine hK _ _ (HI.grown (DO false none 0 0 0)) ?_
          clear hK K
          have o5 : w.heap.size + 1 < W11.heap.size := HF.lt (p := (w.heap.size + 1, DO n2 a2 z2.length c2 e2)) (by simp)
          have o56 : g6 < W11.heap.size := HF.lt (p := (g6, DO false none 0 0 0)) (by simp)
          replace HI := HI.grown (DO false none 0 0 0)
          replace HF := HF.push (DO false none 0 0 0)
          replace lx := lx.below (below_alloc W11 (DO false none 0 0 0)) (Nat.le_refl _)
          generalize hg5 : W11.alloc (DO false none 0 0 0) = W14 at *
          clear hg5
          generalize hh5 : W11.heap.size = g5 at *
          clear hh5
          refine Drawn.one (j := 3) (by kernel_rfl) rfl (fun K hK => ?_)
          go_simp
          refine (dlent35 n2 a2 c2 z2 e2 _ (l2.below HF.bel (Nat.le_refl _)) hm2 hn2).mono ?_
          rintro e W15 ⟨ay, cy, rfl, ly, hn, _⟩
          refine hK _ _ (HI.keep hn) ?_
          clear hK K
          replace HI := HI.keep hn
          replace HF := HF.keep hn
          replace lx := lx.below hn (Nat.le_refl _)
          clear hn
          replace HF := HF.sub (L' := [(g5, DO false none 0 0 0), (g6, DO false none 0 0 0), (w.heap.size + 1, DO n2 a2 z2.length c2 e2), (w.heap.size, DO n1 a1 z1.length c1 e1)]) (by simp)
          have H5 := HF.head
          obtain ⟨⟨f0, f1, f2⟩, r0, r1, r2⟩ := cells3 HF g5 _ _ _ _ (.head _)
          replace lx := lie_set3 H5 (.bool n1) (.slice ax z1.length cx) (.int .i64 e1) lx
          replace ly := lie_set3 H5 (.bool n1) (.slice ax z1.length cx) (.int .i64 e1) ly
          replace HF := HF.fill3 (by omega) (by simp; omega) (.bool n1) (.slice ax z1.length cx) (.int .i64 e1)
          refine Drawn.one (j := 6) (by kernel_rfl) rfl (fun K hK => ?_)
          go_simp
          refine hK _ _ (HF.sub (by simp)) ?_
          clear hK K f0 f1 f2 r0 r1 r2 H5
          replace HF := HF.sub (L' := [(g6, DO false none 0 0 0), (g5, DO n1 ax z1.length cx e1), (w.heap.size + 1, DO n2 a2 z2.length c2 e2), (w.heap.size, DO n1 a1 z1.length c1 e1)]) (by simp)
          have H5 := HF.head
          obtain ⟨⟨f0, f1, f2⟩, r0, r1, r2⟩ := cells3 HF g6 _ _ _ _ (.head _)
          replace lx := lie_set3 H5 (.bool n2) (.slice ay z2.length cy) (.int .i64 e2) lx
          replace ly := lie_set3 H5 (.bool n2) (.slice ay z2.length cy) (.int .i64 e2) ly
          replace HF := HF.fill3 (by omega) (by simp; omega) (.bool n2) (.slice ay z2.length cy) (.int .i64 e2)
          refine Drawn.one (j := 7) (by kernel_rfl) rfl (fun K hK => ?_)
          go_simp
          refine hK _ _ (HF.sub (by simp)) ?_
          clear hK K f0 f1 f2 r0 r1 r2 H5
          refine Drawn.done (by kernel_rfl) ?_
          try go_simp
          generalize hWf : ((((((W15.setCell ⟨g5, 0, none⟩ (.bool n1)).setCell ⟨g5, 1, none⟩ (.slice ax z1.length cx)).setCell ⟨g5, 2, none⟩ (.int .i64 e1)).setCell ⟨g6, 0, none⟩ (.bool n2)).setCell ⟨g6, 1, none⟩ (.slice ay z2.length cy)).setCell ⟨g6, 2, none⟩ (.int .i64 e2)) = Wf at *
          exact Rest g5 g6 Wf ax cx ay cy ⟨HF, lx, ly⟩
    · go_simp
      refine hK _ _ (HI.grown (DO false none 0 0 0)) ?_
      clear hK K
      have o5 : w.heap.size + 1 < W00.heap.size := HF.lt (p := (w.heap.size + 1, DO n2 a2 z2.length c2 e2)) (by simp)
      replace HI := HI.grown (DO false none 0 0 0)
      replace HF := HF.push (DO false none 0 0 0)
      generalize hg5 : W00.alloc (DO false none 0 0 0) = W16 at *
      clear hg5
      generalize hh5 : W00.heap.size = g5 at *
      clear hh5
      refine Drawn.pair (i := 1) (j := 5) (by kernel_rfl) rfl rfl (fun K hK => ?_) (fun K hK => ?_)
      · go_simp
        refine (dlent35 n1 a1 c1 z1 e1 _ (l1.below HF.bel (Nat.le_refl _)) hm1 hn1).mono ?_
        rintro e W17 ⟨ax, cx, rfl, lx, hn, _⟩
        refine hK _ _ (HI.keep hn) ?_
        clear hK K
        replace HI := HI.keep hn
        replace HF := HF.keep hn
        clear hn
        refine Drawn.pair (i := 3) (j := 5) (by kernel_rfl) rfl rfl (fun K hK => ?_) (fun K hK => ?_)
        · go_simp
          refine (dlent35 n2 a2 c2 z2 e2 _ (l2.below HF.bel (Nat.le_refl _)) hm2 hn2).mono ?_
          rintro e W18 ⟨ay, cy, rfl, ly, hn, _⟩
          refine hK _ _ (HI.keep hn) ?_
          clear hK K
          replace HI := HI.keep hn
          replace HF := HF.keep hn
          replace lx := lx.below hn (Nat.le_refl _)
          clear hn
          refine Drawn.one (j := 5) (by kernel_rfl) rfl (fun K hK => ?_)
          go_simp
          refine hK _ _ (HI.grown (DO false none 0 0 0)) ?_
          clear hK K
          have o6 : w.heap.size + 1 < W18.heap.size := HF.lt (p := (w.heap.size + 1, DO n2 a2 z2.length c2 e2)) (by simp)
          have o56 : g5 < W18.heap.size := HF.lt (p := (g5, DO false none 0 0 0)) (by simp)
          replace HI := HI.grown (DO false none 0 0 0)
          replace HF := HF.push (DO false none 0 0 0)
          replace lx := lx.below (below_alloc W18 (DO false none 0 0 0)) (Nat.le_refl _)
          replace ly := ly.below (below_alloc W18 (DO false none 0 0 0)) (Nat.le_refl _)
          generalize hg6 : W18.alloc (DO false none 0 0 0) = W19 at *
          clear hg6
          generalize hh6 : W18.heap.size = g6 at *
          clear hh6
          replace HF := HF.sub (L' := [(g5, DO false none 0 0 0), (g6, DO false none 0 0 0), (w.heap.size + 1, DO n2 a2 z2.length c2 e2), (w.heap.size, DO n1 a1 z1.length c1 e1)]) (by simp)
          have H5 := HF.head
          obtain ⟨⟨f0, f1, f2⟩, r0, r1, r2⟩ := cells3 HF g5 _ _ _ _ (.head _)
          replace lx := lie_set3 H5 (.bool n1) (.slice ax z1.length cx) (.int .i64 e1) lx
          replace ly := lie_set3 H5 (.bool n1) (.slice ax z1.length cx) (.int .i64 e1) ly
          replace HF := HF.fill3 (by omega) (by simp; omega) (.bool n1) (.slice ax z1.length cx) (.int .i64 e1)
          refine Drawn.one (j := 6) (by kernel_rfl) rfl (fun K hK => ?_)
          go_simp
          refine hK _ _ (HF.sub (by simp)) ?_
          clear hK K f0 f1 f2 r0 r1 r2 H5
          replace HF := HF.sub (L' := [(g6, DO false none 0 0 0), (g5, DO n1 ax z1.length cx e1), (w.heap.size + 1, DO n2 a2 z2.length c2 e2), (w.heap.size, DO n1 a1 z1.length c1 e1)]) (by simp)
          have H5 := HF.head
          obtain ⟨⟨f0, f1, f2⟩, r0, r1, r2⟩ := cells3 HF g6 _ _ _ _ (.head _)
          replace lx := lie_set3 H5 (.bool n2) (.slice ay z2.length cy) (.int .i64 e2) lx
          replace ly := lie_set3 H5 (.bool n2) (.slice ay z2.length cy) (.int .i64 e2) ly
          replace HF := HF.fill3 (by omega) (by simp; omega) (.bool n2) (.slice ay z2.length cy) (.int .i64 e2)
          refine Drawn.one (j := 7) (by kernel_rfl) rfl (fun K hK => ?_)
          go_simp
          refine hK _ _ (HF.sub (by simp)) ?_
          clear hK K f0 f1 f2 r0 r1 r2 H5
          refine Drawn.done (by kernel_rfl) ?_
          try go_simp
          generalize hWf : ((((((W19.setCell ⟨g5, 0, none⟩ (.bool n1)).setCell ⟨g5, 1, none⟩ (.slice ax z1.length cx)).setCell ⟨g5, 2, none⟩ (.int .i64 e1)).setCell ⟨g6, 0, none⟩ (.bool n2)).setCell ⟨g6, 1, none⟩ (.slice ay z2.length cy)).setCell ⟨g6, 2, none⟩ (.int .i64 e2)) = Wf at *
          exact Rest g5 g6 Wf ax cx ay cy ⟨HF, lx, ly⟩
        · go_simp
          refine hK _ _ (HI.grown (DO false none 0 0 0)) ?_
          clear hK K
          have o6 : w.heap.size + 1 < W17.heap.size := HF.lt (p := (w.heap.size + 1, DO n2 a2 z2.length c2 e2)) (by simp)
          have o56 : g5 < W17.heap.size := HF.lt (p := (g5, DO false none 0 0 0)) (by simp)
          replace HI := HI.grown (DO false none 0 0 0)
          replace HF := HF.push (DO false none 0 0 0)
          replace lx := lx.below (below_alloc W17 (DO false none 0 0 0)) (Nat.le_refl _)
          generalize hg6 : W17.alloc (DO false none 0 0 0) = W20 at *
          clear hg6
          generalize hh6 : W17.heap.size = g6 at *
          clear hh6
          refine Drawn.one (j := 3) (by kernel_rfl) rfl (fun K hK => ?_)
          go_simp
          refine (dlent35 n2 a2 c2 z2 e2 _ (l2.below HF.bel (Nat.le_refl _)) hm2 hn2).mono ?_
          rintro e W21 ⟨ay, cy, rfl, ly, hn, _⟩
          refine hK _ _ (HI.keep hn) ?_
          clear hK K
          replace HI := HI.keep hn
          replace HF := HF.keep hn
          replace lx := lx.below hn (Nat.le_refl _)
          clear hn
          replace HF := HF.sub (L' := [(g5, DO false none 0 0 0), (g6, DO false none 0 0 0), (w.heap.size + 1, DO n2 a2 z2.length c2 e2), (w.heap.size, DO n1 a1 z1.length c1 e1)]) (by simp)
          have H5 := HF.head
          obtain ⟨⟨f0, f1, f2⟩, r0, r1, r2⟩ := cells3 HF g5 _ _ _ _ (.head _)
          replace lx := lie_set3 H5 (.bool n1) (.slice ax z1.length cx) (.int .i64 e1) lx
          replace ly := lie_set3 H5 (.bool n1) (.slice ax z1.length cx) (.int .i64 e1) ly
          replace HF := HF.fill3 (by omega) (by simp; omega) (.bool n1) (.slice ax z1.length cx) (.int .i64 e1)
          refine Drawn.one (j := 6) (by kernel_rfl) rfl (fun K hK => ?_)
          go_simp
          refine hK _ _ (HF.sub (by simp)) ?_
          clear hK K f0 f1 f2 r0 r1 r2 H5
          replace HF := HF.sub (L' := [(g6, DO false none 0 0 0), (g5, DO n1 ax z1.length cx e1), (w.heap.size + 1, DO n2 a2 z2.length c2 e2), (w.heap.size, DO n1 a1 z1.length c1 e1)]) (by simp)
          have H5 := HF.head
          obtain ⟨⟨f0, f1, f2⟩, r0, r1, r2⟩ := cells3 HF g6 _ _ _ _ (.head _)
          replace lx := lie_set3 H5 (.bool n2) (.slice ay z2.length cy) (.int .i64 e2) lx
          replace ly := lie_set3 H5 (.bool n2) (.slice ay z2.length cy) (.int .i64 e2) ly
          replace HF := HF.fill3 (by omega) (by simp; omega) (.bool n2) (.slice ay z2.length cy) (.int .i64 e2)
          refine Drawn.one (j := 7) (by kernel_rfl) rfl (fun K hK => ?_)
          go_simp
          refine hK _ _ (HF.sub (by simp)) ?_
          clear hK K f0 f1 f2 r0 r1 r2 H5
          refine Drawn.done (by kernel_rfl) ?_
          try go_simp
          generalize hWf : ((((((W21.setCell ⟨g5, 0, none⟩ (.bool n1)).setCell ⟨g5, 1, none⟩ (.slice ax z1.length cx)).setCell ⟨g5, 2, none⟩ (.int .i64 e1)).setCell ⟨g6, 0, none⟩ (.bool n2)).setCell ⟨g6, 1, none⟩ (.slice ay z2.length cy)).setCell ⟨g6, 2, none⟩ (.int .i64 e2)) = Wf at *
          exact Rest g5 g6 Wf ax cx ay cy ⟨HF, lx, ly⟩
      · go_simp
        refine hK _ _ (HI.grown (DO false none 0 0 0)) ?_
        clear hK K
        have o6 : w.heap.size + 1 < W16.heap.size := HF.lt (p := (w.heap.size + 1, DO n2 a2 z2.length c2 e2)) (by simp)
        have o56 : g5 < W16.heap.size := HF.lt (p := (g5, DO false none 0 0 0)) (by simp)
        replace HI := HI.grown (DO false none 0 0 0)
        replace HF := HF.push (DO false none 0 0 0)
        generalize hg6 : W16.alloc (DO false none 0 0 0) = W22 at *
        clear hg6
        generalize hh6 : W16.heap.size = g6 at *
        clear hh6
        refine Drawn.one (j := 1) (by kernel_rfl) rfl (fun K hK => ?_)
        go_simp
        refine (dlent35 n1 a1 c1 z1 e1 _ (l1.below HF.bel (Nat.le_refl _)) hm1 hn1).mono ?_
        rintro e W23 ⟨ax, cx, rfl, lx, hn, _⟩
        refine hK _ _ (HI.keep hn) ?_
        clear hK K
        replace HI := HI.keep hn
        replace HF := HF.keep hn
        clear hn
        refine Drawn.one (j := 3) (by kernel_rfl) rfl (fun K hK => ?_)
        go_simp
        refine (dlent35 n2 a2 c2 z2 e2 _ (l2.below HF.bel (Nat.le_refl _)) hm2 hn2).mono ?_
        rintro e W24 ⟨ay, cy, rfl, ly, hn, _⟩
        refine hK _ _ (HI.keep hn) ?_
        clear hK K
        replace HI := HI.keep hn
        replace HF := HF.keep hn
        replace lx := lx.below hn (Nat.le_refl _)
        clear hn
        replace HF := HF.sub (L' := [(g5, DO false none 0 0 0), (g6, DO false none 0 0 0), (w.heap.size + 1, DO n2 a2 z2.length c2 e2), (w.heap.size, DO n1 a1 z1.length c1 e1)]) (by simp)
        have H5 := HF.head
        obtain ⟨⟨f0, f1, f2⟩, r0, r1, r2⟩ := cells3 HF g5 _ _ _ _ (.head _)
        replace lx := lie_set3 H5 (.bool n1) (.slice ax z1.length cx) (.int .i64 e1) lx
        replace ly := lie_set3 H5 (.bool n1) (.slice ax z1.length cx) (.int .i64 e1) ly
        replace HF := HF.fill3 (by omega) (by simp; omega) (.bool n1) (.slice ax z1.length cx) (.int .i64 e1)
        refine Drawn.one (j := 6) (by kernel_rfl) rfl (fun K hK => ?_)
        go_simp
        refine hK _ _ (HF.sub (by simp)) ?_
        clear hK K f0 f1 f2 r0 r1 r2 H5
        replace HF := HF.sub (L' := [(g6, DO false none 0 0 0), (g5, DO n1 ax z1.length cx e1), (w.heap.size + 1, DO n2 a2 z2.length c2 e2), (w.heap.size, DO n1 a1 z1.length c1 e1)]) (by simp)
        have H5 := HF.head
        obtain ⟨⟨f0, f1, f2⟩, r0, r1, r2⟩ := cells3 HF g6 _ _ _ _ (.head _)
        replace lx := lie_set3 H5 (.bool n2) (.slice ay z2.length cy) (.int .i64 e2) lx
        replace ly := lie_set3 H5 (.bool n2) (.slice ay z2.length cy) (.int .i64 e2) ly
        replace HF := HF.fill3 (by omega) (by simp; omega) (.bool n2) (.slice ay z2.length cy) (.int .i64 e2)
        refine Drawn.one (j := 7) (by kernel_rfl) rfl (fun K hK => ?_)
        go_simp
        refine hK _ _ (HF.sub (by simp)) ?_
        clear hK K f0 f1 f2 r0 r1 r2 H5
        refine Drawn.done (by kernel_rfl) ?_
        try go_simp
        generalize hWf : ((((((W24.setCell ⟨g5, 0, none⟩ (.bool n1)).setCell ⟨g5, 1, none⟩ (.slice ax z1.length cx)).setCell ⟨g5, 2, none⟩ (.int .i64 e1)).setCell ⟨g6, 0, none⟩ (.bool n2)).setCell ⟨g6, 1, none⟩ (.slice ay z2.length cy)).setCell ⟨g6, 2, none⟩ (.int .i64 e2)) = Wf at *
        exact Rest g5 g6 Wf ax cx ay cy ⟨HF, lx, ly⟩
    · go_simp
      refine hK _ _ (HI.grown (DO false none 0 0 0)) ?_
      clear hK K
      have o6 : w.heap.size + 1 < W00.heap.size := HF.lt (p := (w.heap.size + 1, DO n2 a2 z2.length c2 e2)) (by simp)
      replace HI := HI.grown (DO false none 0 0 0)
      replace HF := HF.push (DO false none 0 0 0)
      generalize hg6 : W00.alloc (DO false none 0 0 0) = W25 at *
      clear hg6
      generalize hh6 : W00.heap.size = g6 at *
      clear hh6
      refine Drawn.pair (i := 1) (j := 4) (by kernel_rfl) rfl rfl (fun K hK => ?_) (fun K hK => ?_)
      · go_simp
        refine (dlent35 n1 a1 c1 z1 e1 _ (l1.below HF.bel (Nat.le_refl _)) hm1 hn1).mono ?_
        rintro e W26 ⟨ax, cx, rfl, lx, hn, _⟩
        refine hK _ _ (HI.keep hn) ?_
        clear hK K
        replace HI := HI.keep hn
        replace HF := HF.keep hn
        clear hn
        refine Drawn.pair (i := 3) (j := 4) (by kernel_rfl) rfl rfl (fun K hK => ?_) (fun K hK => ?_)
        · go_simp
          refine (dlent35 n2 a2 c2 z2 e2 _ (l2.below HF.bel (Nat.le_refl _)) hm2 hn2).mono ?_
          rintro e W27 ⟨ay, cy, rfl, ly, hn, _⟩
          refine hK _ _ (HI.keep hn) ?_
          clear hK K
          replace HI := HI.keep hn
          replace HF := HF.keep hn
          replace lx := lx.below hn (Nat.le_refl _)
          clear hn
          refine Drawn.one (j := 4) (by kernel_rfl) rfl (fun K hK => ?_)
          go_simp
          refine hK _ _ (HI.grown (DO false none 0 0 0)) ?_
          clear hK K
          have o5 : w.heap.size + 1 < W27.heap.size := HF.lt (p := (w.heap.size + 1, DO n2 a2 z2.length c2 e2)) (by simp)
          have o56 : g6 < W27.heap.size := HF.lt (p := (g6, DO false none 0 0 0)) (by simp)
          replace HI := HI.grown (DO false none 0 0 0)
          replace HF := HF.push (DO false none 0 0 0)
          replace lx := lx.below (below_alloc W27 (DO false none 0 0 0)) (Nat.le_refl _)
          replace ly := ly.below (below_alloc W27 (DO false none 0 0 0)) (Nat.le_refl _)
          generalize hg5 : W27.alloc (DO false none 0 0 0) = W28 at *
          clear hg5
          generalize hh5 : W27.heap.size = g5 at *
          clear hh5
          replace HF := HF.sub (L' := [(g5, DO false none 0 0 0), (g6, DO false none 0 0 0), (w.heap.size + 1, DO n2 a2 z2.length c2 e2), (w.heap.size, DO n1 a1 z1.length c1 e1)]) (by simp)
          have H5 := HF.head
          obtain ⟨⟨f0, f1, f2⟩, r0, r1, r2⟩ := cells3 HF g5 _ _ _ _ (.head _)
          replace lx := lie_set3 H5 (.bool n1) (.slice ax z1.length cx) (.int .i64 e1) lx
          replace ly := lie_set3 H5 (.bool n1) (.slice ax z1.length cx) (.int .i64 e1) ly
          replace HF := HF.fill3 (by omega) (by simp; omega) (.bool n1) (.slice ax z1.length cx) (.int .i64 e1)
          refine Drawn.one (j := 6) (by kernel_rfl) rfl (fun K hK => ?_)
          go_simp
          refine hK _ _ (HF.sub (by simp)) ?_
          clear hK K f0 f1 f2 r0 r1 r2 H5
          replace HF := HF.sub (L' := [(g6, DO false none 0 0 0), (g5, DO n1 ax z1.length cx e1), (w.heap.size + 1, DO n2 a2 z2.length c2 e2), (w.heap.size, DO n1 a1 z1.length c1 e1)]) (by simp)
          have H5 := HF.head
          obtain ⟨⟨f0, f1, f2⟩, r0, r1, r2⟩ := cells3 HF g6 _ _ _ _ (.head _)
          replace lx := lie_set3 H5 (.bool n2) (.slice ay z2.length cy) (.int .i64 e2) lx
          replace ly := lie_set3 H5 (.bool n2) (.slice ay z2.length cy) (.int .i64 e2) ly
          replace HF := HF.fill3 (by omega) (by simp; omega) (.bool n2) (.slice ay z2.length cy) (.int .i64 e2)
          refine Drawn.one (j := 7) (by kernel_rfl) rfl (fun K hK => ?_)
          go_simp
          refine hK _ _ (HF.sub (by simp)) ?_
          clear hK K f0 f1 f2 r0 r1 r2 H5
          refine Drawn.done (by kernel_rfl) ?_
          try go_simp
          generalize hWf : ((((((W28.setCell ⟨g5, 0, none⟩ (.bool n1)).setCell ⟨g5, 1, none⟩ (.slice ax z1.length cx)).setCell ⟨g5, 2, none⟩ (.int .i64 e1)).setCell ⟨g6, 0, none⟩ (.bool n2)).setCell ⟨g6, 1, none⟩ (.slice ay z2.length cy)).setCell ⟨g6, 2, none⟩ (.int .i64 e2)) = Wf at *
          exact Rest g5 g6 Wf ax cx ay cy ⟨HF, lx, ly⟩
        · go_simp
          refine hK _ _ (HI.grown (DO false none 0 0 0)) ?_
          clear hK K
          have o5 : w.heap.size + 1 < W26.heap.size := HF.lt (p := (w.heap.size + 1, DO n2 a2 z2.length c2 e2)) (by simp)
          have o56 : g6 < W26.heap.size := HF.lt (p := (g6, DO false none 0 0 0)) (by simp)
          replace HI := HI.grown (DO false none 0 0 0)
          replace HF := HF.push (DO false none 0 0 0)
          replace lx := lx.below (below_alloc W26 (DO false none 0 0 0)) (Nat.le_refl _)
          generalize hg5 : W26.alloc (DO false none 0 0 0) = W29 at *
          clear hg5
          generalize hh5 : W26.heap.size = g5 at *
          clear hh5
          refine Drawn.one (j := 3) (by kernel_rfl) rfl (fun K hK => ?_)
          go_simp
          refine (dlent35 n2 a2 c2 z2 e2 _ (l2.below HF.bel (Nat.le_refl _)) hm2 hn2).mono ?_
          rintro e W30 ⟨ay, cy, rfl, ly, hn, _⟩
          refine hK _ _ (HI.keep hn) ?_
          clear hK K
          replace HI := HI.keep hn
          replace HF := HF.keep hn
          replace lx := lx.below hn (Nat.le_refl _)
          clear hn
          replace HF := HF.sub (L' := [(g5, DO false none 0 0 0), (g6, DO false none 0 0 0), (w.heap.size + 1, DO n2 a2 z2.length c2 e2), (w.heap.size, DO n1 a1 z1.length c1 e1)]) (by simp)
          have H5 := HF.head
          obtain ⟨⟨f0, f1, f2⟩, r0, r1, r2⟩ := cells3 HF g5 _ _ _ _ (.head _)
          replace lx := lie_set3 H5 (.bool n1) (.slice ax z1.length cx) (.int .i64 e1) lx
          replace ly := lie_set3 H5 (.bool n1) (.slice ax z1.length cx) (.int .i64 e1) ly
          replace HF := HF.fill3 (by omega) (by simp; omega) (.bool n1) (.slice ax z1.length cx) (.int .i64 e1)
          refine Drawn.one (j := 6) (by kernel_rfl) rfl (fun K hK => ?_)
          go_simp
          refine hK _ _ (HF.sub (by simp)) ?_
          clear hK K f0 f1 f2 r0 r1 r2 H5
          replace HF := HF.sub (L' := [(g6, DO false none 0 0 0), (g5, DO n1 ax z1.length cx e1), (w.heap.size + 1, DO n2 a2 z2.length c2 e2), (w.heap.size, DO n1 a1 z1.length c1 e1)]) (by simp)
          have H5 := HF.head
          obtain ⟨⟨f0, f1, f2⟩, r0, r1, r2⟩ := cells3 HF g6 _ _ _ _ (.head _)
          replace lx := lie_set3 H5 (.bool n2) (.slice ay z2.length cy) (.int .i64 e2) lx
          replace ly := lie_set3 H5 (.bool n2) (.slice ay z2.length cy) (.int .i64 e2) ly
          replace HF := HF.fill3 (by omega) (by simp; omega) (.bool n2) (.slice ay z2.length cy) (.int .i64 e2)
          refine Drawn.one (j := 7) (by kernel_rfl) rfl (fun K hK => ?_)
          go_simp
          refine hK _ _ (HF.sub (by simp)) ?_
          clear hK K f0 f1 f2 r0 r1 r2 H5
          refine Drawn.done (by kernel_rfl) ?_
          try go_simp
          generalize hWf : ((((((W30.setCell ⟨g5, 0, none⟩ (.bool n1)).setCell ⟨g5, 1, none⟩ (.slice ax z1.length cx)).setCell ⟨g5, 2, none⟩ (.int .i64 e1)).setCell ⟨g6, 0, none⟩ (.bool n2)).setCell ⟨g6, 1, none⟩ (.slice ay z2.length cy)).setCell ⟨g6, 2, none⟩ (.int .i64 e2)) = Wf at *
          exact Rest g5 g6 Wf ax cx ay cy ⟨HF, lx, ly⟩
      · go_simp
        refine hK _ _ (HI.grown (DO false none 0 0 0)) ?_
        clear hK K
        have o5 : w.heap.size + 1 < W25.heap.size := HF.lt (p := (w.heap.size + 1, DO n2 a2 z2.length c2 e2)) (by simp)
        have o56 : g6 < W25.heap.size := HF.lt (p := (g6, DO false none 0 0 0)) (by simp)
        replace HI := HI.grown (DO false none 0 0 0)
        replace HF := HF.push (DO false none 0 0 0)
        generalize hg5 : W25.alloc (DO false none 0 0 0) = W31 at *
        clear hg5
        generalize hh5 : W25.heap.size = g5 at *
        clear hh5
        refine Drawn.one (j := 1) (by kernel_rfl) rfl (fun K hK => ?_)
        go_simp
        refine (dlent35 n1 a1 c1 z1 e1 _ (l1.below HF.bel (Nat.le_refl _)) hm1 hn1).mono ?_
        rintro e W32 ⟨ax, cx, rfl, lx, hn, _⟩
        refine hK _ _ (HI.keep hn) ?_
        clear hK K
        replace HI := HI.keep hn
        replace HF := HF.keep hn
        clear hn
        refine Drawn.one (j := 3) (by kernel_rfl) rfl (fun K hK => ?_)
        go_simp
        refine (dlent35 n2 a2 c2 z2 e2 _ (l2.below HF.bel (Nat.le_refl _)) hm2 hn2).mono ?_
        rintro e W33 ⟨ay, cy, rfl, ly, hn, _⟩
        refine hK _ _ (HI.keep hn) ?_
        clear hK K
        replace HI := HI.keep hn
        replace HF := HF.keep hn
        replace lx := lx.below hn (Nat.le_refl _)
        clear hn
        replace HF := HF.sub (L' := [(g5, DO false none 0 0 0), (g6, DO false none 0 0 0), (w.heap.size + 1, DO n2 a2 z2.length c2 e2), (w.heap.size, DO n1 a1 z1.length c1 e1)]) (by simp)
        have H5 := HF.head
        obtain ⟨⟨f0, f1, f2⟩, r0, r1, r2⟩ := cells3 HF g5 _ _ _ _ (.head _)
        replace lx := lie_set3 H5 (.bool n1) (.slice ax z1.length cx) (.int .i64 e1) lx
        replace ly := lie_set3 H5 (.bool n1) (.slice ax z1.length cx) (.int .i64 e1) ly
        replace HF := HF.fill3 (by omega) (by simp; omega) (.bool n1) (.slice ax z1.length cx) (.int .i64 e1)
        refine Drawn.one (j := 6) (by kernel_rfl) rfl (fun K hK => ?_)
        go_simp
        refine hK _ _ (HF.sub (by simp)) ?_
        clear hK K f0 f1 f2 r0 r1 r2 H5
        replace HF := HF.sub (L' := [(g6, DO false none 0 0 0), (g5, DO n1 ax z1.length cx e1), (w.heap.size + 1, DO n2 a2 z2.length c2 e2), (w.heap.size, DO n1 a1 z1.length c1 e1)]) (by simp)
        have H5 := HF.head
        obtain ⟨⟨f0, f1, f2⟩, r0, r1, r2⟩ := cells3 HF g6 _ _ _ _ (.head _)
        replace lx := lie_set3 H5 (.bool n2) (.slice ay z2.length cy) (.int .i64 e2) lx
        replace ly := lie_set3 H5 (.bool n2) (.slice ay z2.length cy) (.int .i64 e2) ly
        replace HF := HF.fill3 (by omega) (by simp; omega) (.bool n2) (.slice ay z2.length cy) (.int .i64 e2)
        refine Drawn.one (j := 7) (by kernel_rfl) rfl (fun K hK => ?_)
        go_simp
        refine hK _ _ (HF.sub (by simp)) ?_
        clear hK K f0 f1 f2 r0 r1 r2 H5
        refine Drawn.done (by kernel_rfl) ?_
        try go_simp
        generalize hWf : ((((((W33.setCell ⟨g5, 0, none⟩ (.bool n1)).setCell ⟨g5, 1, none⟩ (.slice ax z1.length cx)).setCell ⟨g5, 2, none⟩ (.int .i64 e1)).setCell ⟨g6, 0, none⟩ (.bool n2)).setCell ⟨g6, 1, none⟩ (.slice ay z2.length cy)).setCell ⟨g6, 2, none⟩ (.int .i64 e2)) = Wf at *
        exact Rest g5 g6 Wf ax cx ay cy ⟨HF, lx, ly⟩
  case rest =>
    intro g5 g6 W ax cx ay cy ⟨HF, lx, ly⟩
    have BX := HF
    have HB := Below.refl W.heap.size W
    have la := l1.below HF.bel (Nat.le_refl _)
    have lb := l2.below HF.bel (Nat.le_refl _)
    have lx0 := lx
    have ly0 := ly
    have la0 := la
    have lb0 := lb
    have hTW := hT.below HF.bel (Nat.le_refl _)
    rcases HC9.out with ⟨hq1, hq, hC, _⟩ | ⟨g1, hC, hq2, _⟩ | ⟨g1, g2, hC, _⟩
    · clear HC9
      obtain ⟨⟨fx0, fx1, fx2⟩, _⟩ := cells3 BX g5 _ _ _ _ (show (g5, DO n1 ax z1.length cx e1) ∈ _ by simp)
      obtain ⟨⟨fy0, fy1, fy2⟩, _⟩ := cells3 BX g6 _ _ _ _ (show (g6, DO n2 ay z2.length cy e2) ∈ _ by simp)
      go_wp2_with fail
      refine (quo_bad n1 n2 ax ay cx cy z1 z2 e1 e2 bits 2 _ ⟨lx, u1.len, u1.rng⟩ ⟨ly, u2.len, u2.rng⟩ (by unfold askB; simp [hq]) (by decide)).mono ?_
      rintro e uQ ⟨rfl, hQ⟩
      replace BX := BX.keep hQ
      replace HB := below_then HB hQ
      replace la := la.below hQ (Nat.le_refl _)
      replace lb := lb.below hQ (Nat.le_refl _)
      replace lx := lx.below hQ (Nat.le_refl _)
      replace ly := ly.below hQ (Nat.le_refl _)
      clear hQ
      have haQ := below_alloc uQ (DO false none 0 0 0)
      replace BX := BX.push (DO false none 0 0 0)
      replace HB := below_then HB haQ
      replace la := la.below haQ (Nat.le_refl _)
      replace lb := lb.below haQ (Nat.le_refl _)
      replace lx := lx.below haQ (Nat.le_refl _)
      replace ly := ly.below haQ (Nat.le_refl _)
      clear haQ
      obtain ⟨⟨fx0, fx1, fx2⟩, _⟩ := cells3 BX g5 _ _ _ _ (show (g5, DO n1 ax z1.length cx e1) ∈ _ by simp)
      go_wp2_with fail
      generalize hvQ : uQ.alloc (DO false none 0 0 0) = vQ at *
      clear hvQ
      refine (root_bad n1 ax cx z1 e1 bits 2 _ ⟨lx, u1.len, u1.rng⟩ (by rw [hq1]; unfold askB; rw [if_pos (.inr rfl)]) (by decide)).mono ?_
      rintro e uR ⟨rfl, hR⟩
      replace BX := BX.keep hR
      replace HB := below_then HB hR
      replace la := la.below hR (Nat.le_refl _)
      replace lb := lb.below hR (Nat.le_refl _)
      replace lx := lx.below hR (Nat.le_refl _)
      replace ly := ly.below hR (Nat.le_refl _)
      clear hR
      have haR := below_alloc uR (DO false none 0 0 0)
      replace BX := BX.push (DO false none 0 0 0)
      replace HB := below_then HB haR
      replace la := la.below haR (Nat.le_refl _)
      replace lb := lb.below haR (Nat.le_refl _)
      replace lx := lx.below haR (Nat.le_refl _)
      replace ly := ly.below haR (Nat.le_refl _)
      clear haR
      obtain ⟨⟨fa0, fa1, fa2⟩, _⟩ := cells3 BX w.heap.size _ _ _ _ (show (w.heap.size, DO n1 a1 z1.length c1 e1) ∈ _ by simp)
      go_wp2_with fail
      generalize hvR : uR.alloc (DO false none 0 0 0) = vR at *
      clear hvR
      refine (drefmay37 n1 a1 c1 z1 e1 _ ⟨la, u1.len, u1.rng⟩ false hq1).mono ?_
      rintro e k1w ⟨rfl, k1⟩
      replace BX := BX.keep k1
      replace HB := below_then HB k1
      replace la := la.below k1 (Nat.le_refl _)
      replace lb := lb.below k1 (Nat.le_refl _)
      replace lx := lx.below k1 (Nat.le_refl _)
      replace ly := ly.below k1 (Nat.le_refl _)
      clear k1
      obtain ⟨⟨fQ0, fQ1, fQ2⟩, _⟩ := cells3 BX uQ.heap.size _ _ _ _ (show (uQ.heap.size, DO false none 0 0 0) ∈ _ by simp)
      go_wp2_with fail
      refine (dnone_yes _ 2).mono ?_
      rintro e k2w ⟨rfl, k2⟩
      replace BX := BX.keep k2
      replace HB := below_then HB k2
      replace la := la.below k2 (Nat.le_refl _)
      replace lb := lb.below k2 (Nat.le_refl _)
      replace lx := lx.below k2 (Nat.le_refl _)
      replace ly := ly.below k2 (Nat.le_refl _)
      clear k2
      obtain ⟨⟨fR0, fR1, fR2⟩, _⟩ := cells3 BX uR.heap.size _ _ _ _ (show (uR.heap.size, DO false none 0 0 0) ∈ _ by simp)
      go_wp2_with fail
      refine (dnone_yes _ 2).mono ?_
      rintro e k3w ⟨rfl, k3⟩
      replace BX := BX.keep k3
      replace HB := below_then HB k3
      replace la := la.below k3 (Nat.le_refl _)
      replace lb := lb.below k3 (Nat.le_refl _)
      replace lx := lx.below k3 (Nat.le_refl _)
      replace ly := ly.below k3 (Nat.le_refl _)
      clear k3
      go_wp2_with fail
      refine (dknown34 _ (hT.below BX.bel (Nat.le_refl _))).mono ?_
      rintro e k4w ⟨rfl, k4⟩
      replace BX := BX.keep k4
      replace HB := below_then HB k4
      replace la := la.below k4 (Nat.le_refl _)
      replace lb := lb.below k4 (Nat.le_refl _)
      replace lx := lx.below k4 (Nat.le_refl _)
      replace ly := ly.below k4 (Nat.le_refl _)
      clear k4
      go_wp2
      go_ret
      exact ⟨rfl, BX.bel⟩
    · clear HC9
      obtain ⟨⟨fx0, fx1, fx2⟩, _⟩ := cells3 BX g5 _ _ _ _ (show (g5, DO n1 ax z1.length cx e1) ∈ _ by simp)
      obtain ⟨⟨fy0, fy1, fy2⟩, _⟩ := cells3 BX g6 _ _ _ _ (show (g6, DO n2 ay z2.length cy e2) ∈ _ by simp)
      go_wp2_with fail
      refine (quo_bad n1 n2 ax ay cx cy z1 z2 e1 e2 bits 2 _ ⟨lx, u1.len, u1.rng⟩ ⟨ly, u2.len, u2.rng⟩ (by rw [g1.may, hq2]; unfold askB; rw [if_pos (.inr rfl)]) (by decide)).mono ?_
      rintro e uQ ⟨rfl, hQ⟩
      replace BX := BX.keep hQ
      replace HB := below_then HB hQ
      replace la := la.below hQ (Nat.le_refl _)
      replace lb := lb.below hQ (Nat.le_refl _)
      replace lx := lx.below hQ (Nat.le_refl _)
      replace ly := ly.below hQ (Nat.le_refl _)
      clear hQ
      have haQ := below_alloc uQ (DO false none 0 0 0)
      replace BX := BX.push (DO false none 0 0 0)
      replace HB := below_then HB haQ
      replace la := la.below haQ (Nat.le_refl _)
      replace lb := lb.below haQ (Nat.le_refl _)
      replace lx := lx.below haQ (Nat.le_refl _)
      replace ly := ly.below haQ (Nat.le_refl _)
      clear haQ
      obtain ⟨⟨fx0, fx1, fx2⟩, _⟩ := cells3 BX g5 _ _ _ _ (show (g5, DO n1 ax z1.length cx e1) ∈ _ by simp)
      go_wp2_with fail
      generalize hvQ : uQ.alloc (DO false none 0 0 0) = vQ at *
      clear hvQ
      refine (root_bad n1 ax cx z1 e1 bits 3 _ ⟨lx, u1.len, u1.rng⟩ (by rw [g1.may]; unfold askB; rw [if_neg (by simp; omega), if_pos hC]) (by decide)).mono ?_
      rintro e uR ⟨rfl, hR⟩
      replace BX := BX.keep hR
      replace HB := below_then HB hR
      replace la := la.below hR (Nat.le_refl _)
      replace lb := lb.below hR (Nat.le_refl _)
      replace lx := lx.below hR (Nat.le_refl _)
      replace ly := ly.below hR (Nat.le_refl _)
      clear hR
      have haR := below_alloc uR (DO false none 0 0 0)
      replace BX := BX.push (DO false none 0 0 0)
      replace HB := below_then HB haR
      replace la := la.below haR (Nat.le_refl _)
      replace lb := lb.below haR (Nat.le_refl _)
      replace lx := lx.below haR (Nat.le_refl _)
      replace ly := ly.below haR (Nat.le_refl _)
      clear haR
      obtain ⟨⟨fa0, fa1, fa2⟩, _⟩ := cells3 BX w.heap.size _ _ _ _ (show (w.heap.size, DO n1 a1 z1.length c1 e1) ∈ _ by simp)
      go_wp2_with fail
      generalize hvR : uR.alloc (DO false none 0 0 0) = vR at *
      clear hvR
      refine (drefmay37 n1 a1 c1 z1 e1 _ ⟨la, u1.len, u1.rng⟩ true g1.may).mono ?_
      rintro e k1w ⟨rfl, k1⟩
      replace BX := BX.keep k1
      replace HB := below_then HB k1
      replace la := la.below k1 (Nat.le_refl _)
      replace lb := lb.below k1 (Nat.le_refl _)
      replace lx := lx.below k1 (Nat.le_refl _)
      replace ly := ly.below k1 (Nat.le_refl _)
      clear k1
      obtain ⟨⟨fR0, fR1, fR2⟩, _⟩ := cells3 BX uR.heap.size _ _ _ _ (show (uR.heap.size, DO false none 0 0 0) ∈ _ by simp)
      go_wp2_with fail
      refine (dnone_yes _ 3).mono ?_
      rintro e k2w ⟨rfl, k2⟩
      replace BX := BX.keep k2
      replace HB := below_then HB k2
      replace la := la.below k2 (Nat.le_refl _)
      replace lb := lb.below k2 (Nat.le_refl _)
      replace lx := lx.below k2 (Nat.le_refl _)
      replace ly := ly.below k2 (Nat.le_refl _)
      clear k2
      obtain ⟨⟨fb0, fb1, fb2⟩, _⟩ := cells3 BX (w.heap.size + 1) _ _ _ _ (show ((w.heap.size + 1), DO n2 a2 z2.length c2 e2) ∈ _ by simp)
      go_wp2_with fail
      refine (drefmay37 n2 a2 c2 z2 e2 _ ⟨lb, u2.len, u2.rng⟩ false hq2).mono ?_
      rintro e k3w ⟨rfl, k3⟩
      replace BX := BX.keep k3
      replace HB := below_then HB k3
      replace la := la.below k3 (Nat.le_refl _)
      replace lb := lb.below k3 (Nat.le_refl _)
      replace lx := lx.below k3 (Nat.le_refl _)
      replace ly := ly.below k3 (Nat.le_refl _)
      clear k3
      obtain ⟨⟨fQ0, fQ1, fQ2⟩, _⟩ := cells3 BX uQ.heap.size _ _ _ _ (show (uQ.heap.size, DO false none 0 0 0) ∈ _ by simp)
      go_wp2_with fail
      refine (dnone_yes _ 2).mono ?_
      rintro e k4w ⟨rfl, k4⟩
      replace BX := BX.keep k4
      replace HB := below_then HB k4
      replace la := la.below k4 (Nat.le_refl _)
      replace lb := lb.below k4 (Nat.le_refl _)
      replace lx := lx.below k4 (Nat.le_refl _)
      replace ly := ly.below k4 (Nat.le_refl _)
      clear k4
      go_wp2_with fail
      refine (dknown34 _ (hT.below BX.bel (Nat.le_refl _))).mono ?_
      rintro e k5w ⟨rfl, k5⟩
      replace BX := BX.keep k5
      replace HB := below_then HB k5
      replace la := la.below k5 (Nat.le_refl _)
      replace lb := lb.below k5 (Nat.le_refl _)
      replace lx := lx.below k5 (Nat.le_refl _)
      replace ly := ly.below k5 (Nat.le_refl _)
      clear k5
      go_wp2
      go_ret
      exact ⟨rfl, BX.bel⟩
    · clear HC9
      obtain ⟨⟨fx0, fx1, fx2⟩, _⟩ := cells3 BX g5 _ _ _ _ (show (g5, DO n1 ax z1.length cx e1) ∈ _ by simp)
      obtain ⟨⟨fy0, fy1, fy2⟩, _⟩ := cells3 BX g6 _ _ _ _ (show (g6, DO n2 ay z2.length cy e2) ∈ _ by simp)
      go_wp2_with fail
      refine (quo_bad n1 n2 ax ay cx cy z1 z2 e1 e2 bits 3 _ ⟨lx, u1.len, u1.rng⟩ ⟨ly, u2.len, u2.rng⟩ (by rw [g1.may, g2.may]; unfold askB; rw [if_neg (by simp; omega), if_pos hC]) (by decide)).mono ?_
      rintro e uQ ⟨rfl, hQ⟩
      replace BX := BX.keep hQ
      replace HB := below_then HB hQ
      replace la := la.below hQ (Nat.le_refl _)
      replace lb := lb.below hQ (Nat.le_refl _)
      replace lx := lx.below hQ (Nat.le_refl _)
      replace ly := ly.below hQ (Nat.le_refl _)
      clear hQ
      have haQ := below_alloc uQ (DO false none 0 0 0)
      replace BX := BX.push (DO false none 0 0 0)
      replace HB := below_then HB haQ
      replace la := la.below haQ (Nat.le_refl _)
      replace lb := lb.below haQ (Nat.le_refl _)
      replace lx := lx.below haQ (Nat.le_refl _)
      replace ly := ly.below haQ (Nat.le_refl _)
      clear haQ
      obtain ⟨⟨fx0, fx1, fx2⟩, _⟩ := cells3 BX g5 _ _ _ _ (show (g5, DO n1 ax z1.length cx e1) ∈ _ by simp)
      go_wp2_with fail
      generalize hvQ : uQ.alloc (DO false none 0 0 0) = vQ at *
      clear hvQ
      refine (root_bad n1 ax cx z1 e1 bits 3 _ ⟨lx, u1.len, u1.rng⟩ (by rw [g1.may]; unfold askB; rw [if_neg (by simp; omega), if_pos hC]) (by decide)).mono ?_
      rintro e uR ⟨rfl, hR⟩
      replace BX := BX.keep hR
      replace HB := below_then HB hR
      replace la := la.below hR (Nat.le_refl _)
      replace lb := lb.below hR (Nat.le_refl _)
      replace lx := lx.below hR (Nat.le_refl _)
      replace ly := ly.below hR (Nat.le_refl _)
      clear hR
      have haR := below_alloc uR (DO false none 0 0 0)
      replace BX := BX.push (DO false none 0 0 0)
      replace HB := below_then HB haR
      replace la := la.below haR (Nat.le_refl _)
      replace lb := lb.below haR (Nat.le_refl _)
      replace lx := lx.below haR (Nat.le_refl _)
      replace ly := ly.below haR (Nat.le_refl _)
      clear haR
      obtain ⟨⟨fa0, fa1, fa2⟩, _⟩ := cells3 BX w.heap.size _ _ _ _ (show (w.heap.size, DO n1 a1 z1.length c1 e1) ∈ _ by simp)
      go_wp2_with fail
      generalize hvR : uR.alloc (DO false none 0 0 0) = vR at *
      clear hvR
      refine (drefmay37 n1 a1 c1 z1 e1 _ ⟨la, u1.len, u1.rng⟩ true g1.may).mono ?_
      rintro e k1w ⟨rfl, k1⟩
      replace BX := BX.keep k1
      replace HB := below_then HB k1
      replace la := la.below k1 (Nat.le_refl _)
      replace lb := lb.below k1 (Nat.le_refl _)
      replace lx := lx.below k1 (Nat.le_refl _)
      replace ly := ly.below k1 (Nat.le_refl _)
      clear k1
      obtain ⟨⟨fR0, fR1, fR2⟩, _⟩ := cells3 BX uR.heap.size _ _ _ _ (show (uR.heap.size, DO false none 0 0 0) ∈ _ by simp)
      go_wp2_with fail
      refine (dnone_yes _ 3).mono ?_
      rintro e k2w ⟨rfl, k2⟩
      replace BX := BX.keep k2
      replace HB := below_then HB k2
      replace la := la.below k2 (Nat.le_refl _)
      replace lb := lb.below k2 (Nat.le_refl _)
      replace lx := lx.below k2 (Nat.le_refl _)
      replace ly := ly.below k2 (Nat.le_refl _)
      clear k2
      obtain ⟨⟨fb0, fb1, fb2⟩, _⟩ := cells3 BX (w.heap.size + 1) _ _ _ _ (show ((w.heap.size + 1), DO n2 a2 z2.length c2 e2) ∈ _ by simp)
      go_wp2_with fail
      refine (drefmay37 n2 a2 c2 z2 e2 _ ⟨lb, u2.len, u2.rng⟩ true g2.may).mono ?_
      rintro e k3w ⟨rfl, k3⟩
      replace BX := BX.keep k3
      replace HB := below_then HB k3
      replace la := la.below k3 (Nat.le_refl _)
      replace lb := lb.below k3 (Nat.le_refl _)
      replace lx := lx.below k3 (Nat.le_refl _)
      replace ly := ly.below k3 (Nat.le_refl _)
      clear k3
      obtain ⟨⟨fQ0, fQ1, fQ2⟩, _⟩ := cells3 BX uQ.heap.size _ _ _ _ (show (uQ.heap.size, DO false none 0 0 0) ∈ _ by simp)
      go_wp2_with fail
      refine (dnone_yes _ 3).mono ?_
      rintro e k4w ⟨rfl, k4⟩
      replace BX := BX.keep k4
      replace HB := below_then HB k4
      replace la := la.below k4 (Nat.le_refl _)
      replace lb := lb.below k4 (Nat.le_refl _)
      replace lx := lx.below k4 (Nat.le_refl _)
      replace ly := ly.below k4 (Nat.le_refl _)
      clear k4
      go_wp2_with fail
      refine (dknown34 _ (hT.below BX.bel (Nat.le_refl _))).mono ?_
      rintro e k5w ⟨rfl, k5⟩
      replace BX := BX.keep k5
      replace HB := below_then HB k5
      replace la := la.below k5 (Nat.le_refl _)
      replace lb := lb.below k5 (Nat.le_refl _)
      replace lx := lx.below k5 (Nat.le_refl _)
      replace ly := ly.below k5 (Nat.le_refl _)
      clear k5
      go_wp2
      go_ret
      exact ⟨rfl, BX.bel⟩
theorem quots_bad1h (n1 n2 : Bool) (a1 a2 : Option Addr) (c1 c2 : Nat) (z1 z2 : List Int) (e1 e2 bits : Int) (w : World) (u1 : DLie w a1 z1) (u2 : DLie w a2 z2) (hl1 : (z1.length : Int) ≤ 40) (hl2 : (z2.length : Int) ≤ 40) (hm1 : z1.length ≤ 1000000) (hm2 : z2.length ≤ 1000000) (hn1 : a1 = none → c1 = 0) (hn2 : a2 = none → c2 = 0) (hT : Tab w) (hq1 : dmayB n1 z1 e1 = false) (hq : (dmayB n1 z1 e1 && dmayB n2 z2 e2) = false) (hC : 8192 < bits) :
    Calls Tryd.prog 7 #[dV n1 a1 z1.length c1 e1, dV n2 a2 z2.length c2 e2, .int .i64 bits] w fun e w' => e = .returned (.bool true) ∧ Below w.heap.size w w' := quots_gc n1 n2 a1 a2 c1 c2 z1 z2 e1 e2 bits w u1 u2 hl1 hl2 hm1 hm2 hn1 hn2 hT (by omega) ⟨(.inl ⟨hq1, hq, hC, trivial⟩)⟩
theorem quots_highb (n1 n2 : Bool) (a1 a2 : Option Addr) (c1 c2 : Nat) (z1 z2 : List Int) (e1 e2 bits : Int) (w : World) (u1 : DLie w a1 z1) (u2 : DLie w a2 z2) (hl1 : (z1.length : Int) ≤ 40) (hl2 : (z2.length : Int) ≤ 40) (hm1 : z1.length ≤ 1000000) (hm2 : z2.length ≤ 1000000) (hn1 : a1 = none → c1 = 0) (hn2 : a2 = none → c2 = 0) (hT : Tab w) (g1 : DG n1 z1 e1) (hC : 8192 < bits) (hq2 : dmayB n2 z2 e2 = false) :
    Calls Tryd.prog 7 #[dV n1 a1 z1.length c1 e1, dV n2 a2 z2.length c2 e2, .int .i64 bits] w fun e w' => e = .returned (.bool true) ∧ Below w.heap.size w w' := quots_gc n1 n2 a1 a2 c1 c2 z1 z2 e1 e2 bits w u1 u2 hl1 hl2 hm1 hm2 hn1 hn2 hT (by omega) ⟨(.inr (.inl ⟨g1, hC, hq2, trivial⟩))⟩
theorem quots_high (n1 n2 : Bool) (a1 a2 : Option Addr) (c1 c2 : Nat) (z1 z2 : List Int) (e1 e2 bits : Int) (w : World) (u1 : DLie w a1 z1) (u2 : DLie w a2 z2) (hl1 : (z1.length : Int) ≤ 40) (hl2 : (z2.length : Int) ≤ 40) (hm1 : z1.length ≤ 1000000) (hm2 : z2.length ≤ 1000000) (hn1 : a1 = none → c1 = 0) (hn2 : a2 = none → c2 = 0) (hT : Tab w) (g1 : DG n1 z1 e1) (g2 : DG n2 z2 e2) (hC : 8192 < bits) :
    Calls Tryd.prog 7 #[dV n1 a1 z1.length c1 e1, dV n2 a2 z2.length c2 e2, .int .i64 bits] w fun e w' => e = .returned (.bool true) ∧ Below w.heap.size w w' := quots_gc n1 n2 a1 a2 c1 c2 z1 z2 e1 e2 bits w u1 u2 hl1 hl2 hm1 hm2 hn1 hn2 hT (by omega) ⟨(.inr (.inr ⟨g1, g2, hC, trivial⟩))⟩
end Go.Proofs.YteejaghimppcgaaDoor
