import Derived.Test.YtdnghibkagcbcaaGreatDoorRoundQuotientsPart23
namespace Go.Proofs.YtdnghibkagcbcaaGreatDoor
open Go.RowKit Go.Wd Go.Box
set_option linter.unusedVariables false
set_option maxRecDepth 3000
set_option maxHeartbeats 20000000 in
theorem rq_refused (m : Int) (n1 n2 : Bool) (a1 a2 : Option Addr) (c1 c2 : Nat) (z1 z2 : List Int) (e1 e2 : Int) (f code : Int) (hc : (code == 0) = false) (KQ : ∀ W ax cx ay cy, Lie W ax z1 → Lie W ay z2 → Tab W → Calls Tryz.prog 22 #[.int .u8 f, .int .u8 m, dV n1 ax z1.length cx e1, dV n2 ay z2.length cy e2] W fun e w' => e = .returned (.tuple #[.int .u64 0, .int .u8 0, .int .i64 code]) ∧ Below W.heap.size W w') (KO : ∀ W g, DLie W a1 z1 → DLie W a2 z2 → At3 W g 0 n1 a1 z1.length c1 e1 → At3 W g 3 n2 a2 z2.length c2 e2 → Calls Tryz.prog 16 #[.int .u8 f, .int .u8 m, .slice (some ⟨g, 0, none⟩) 2 2] W fun e w' => e = .returned (.int .i64 code) ∧ Below W.heap.size W w') (hl1 : (z1.length : Int) ≤ 300) (hl2 : (z2.length : Int) ≤ 300) (w : World) (u1 : DLie w a1 z1) (u2 : DLie w a2 z2) (hT : Tab w) (hm1 : z1.length ≤ 1000000) (hm2 : z2.length ≤ 1000000) (hn1 : a1 = none → c1 = 0) (hn2 : a2 = none → c2 = 0) :
    Calls Tryz.prog 4 #[.int .u8 f, .int .u8 m, dV n1 a1 z1.length c1 e1, dV n2 a2 z2.length c2 e2] w fun e w' => e = .returned (.bool true) ∧ Below w.heap.size w w' := by
  have l1 := u1.lie
  have l2 := u2.lie
  have BX := ((Bx.nil w).push (DO n1 a1 z1.length c1 e1)).push (DO n2 a2 z2.length c2 e2)
  rw [show (w.alloc (DO n1 a1 z1.length c1 e1)).heap.size = w.heap.size + 1 by simp] at BX
  obtain ⟨⟨q0, q1, q2⟩, _⟩ := cells3 BX w.heap.size _ _ _ _ (show (w.heap.size, DO n1 a1 z1.length c1 e1) ∈ _ by simp)
  obtain ⟨⟨s0, s1, s2⟩, _⟩ := cells3 BX (w.heap.size + 1) _ _ _ _ (show (w.heap.size + 1, DO n2 a2 z2.length c2 e2) ∈ _ by simp)
  have HQ := fun W ax cx ay cy h1 h2 h3 => Hide.mk (KQ W ax cx ay cy h1 h2 h3)
  have HO := fun W g h1 h2 h3 h4 => Hide.mk (KO W g h1 h2 h3 h4)
  clear KQ KO
  go_enter Tryz.func4, Tryz.ntmps4
  go_wp2_with fail
  refine (lLong4 n1 a1 z1.length c1 e1 _ false (decide_eq_false (by omega))).mono ?_
  rintro e v6 ⟨rfl, hk⟩
  replace BX := BX.keep hk
  clear hk q0 q1 q2 s0 s1 s2
  obtain ⟨⟨q0, q1, q2⟩, _⟩ := cells3 BX w.heap.size _ _ _ _ (show (w.heap.size, DO n1 a1 z1.length c1 e1) ∈ _ by simp)
  obtain ⟨⟨s0, s1, s2⟩, _⟩ := cells3 BX (w.heap.size + 1) _ _ _ _ (show (w.heap.size + 1, DO n2 a2 z2.length c2 e2) ∈ _ by simp)
  go_wp2_with fail
  refine (lLong4 n2 a2 z2.length c2 e2 _ false (decide_eq_false (by omega))).mono ?_
  rintro e v7 ⟨rfl, hk⟩
  replace BX := BX.keep hk
  clear hk q0 q1 q2 s0 s1 s2
  obtain ⟨⟨q0, q1, q2⟩, _⟩ := cells3 BX w.heap.size _ _ _ _ (show (w.heap.size, DO n1 a1 z1.length c1 e1) ∈ _ by simp)
  obtain ⟨⟨s0, s1, s2⟩, _⟩ := cells3 BX (w.heap.size + 1) _ _ _ _ (show (w.heap.size + 1, DO n2 a2 z2.length c2 e2) ∈ _ by simp)
  go_wp2_with fail
  clear q0 q1 q2 s0 s1 s2
  have B1 := BX
  clear BX
  generalize v7 = w1 at *
  have HF := B1.drew
  have HI := HF
  have sh := fun W (hW : Bx w [(w.heap.size + 1, DO n2 a2 z2.length c2 e2), (w.heap.size, DO n1 a1 z1.length c1 e1)] W) => And.intro (cells3 hW (w.heap.size + 1) _ _ _ _ (.head _)).1 (cells3 hW w.heap.size _ _ _ _ (.tail _ (.head _))).1
  refine Drawn.enter (Bx w [(w.heap.size + 1, DO n2 a2 z2.length c2 e2), (w.heap.size, DO n1 a1 z1.length c1 e1)]) (by kernel_rfl) ?_
  refine Drawn.tk (i := 0) (v := ?v546) rfl (fun W hW => ?_) HI ?_
  rotate_left
  · have ⟨⟨s0, s1, s2⟩, q0, q3, q4⟩ := sh W hW
    go_simp <;> exact rfl
  refine Drawn.tk (i := 2) (v := ?v547) rfl (fun W hW => ?_) HI ?_
  rotate_left
  · have ⟨⟨s0, s1, s2⟩, q0, q3, q4⟩ := sh W hW
    go_simp <;> exact rfl
  generalize hdr : w1.drew = W00 at *
  clear hdr
  refine suppose7Q (F := fun g5 g6 W ax cx ay cy => Bx w [(g6, DO n2 ay z2.length cy e2), (g5, DO n1 ax z1.length cx e1), (w.heap.size + 1, DO n2 a2 z2.length c2 e2), (w.heap.size, DO n1 a1 z1.length c1 e1)] W ∧ Lie W ax z1 ∧ Lie W ay z2) (G := ?G) (fun Rest => ?main) ?rest
  case main =>
    refine Drawn.trioQ (i := 1) (j := 4) (k := 5) (by kernel_rfl) rfl rfl rfl (fun K hK => ?_) (fun K hK => ?_) (fun K hK => ?_)
    · go_simp
      refine (lent4 n1 a1 c1 z1 e1 _ (l1.below HF.bel (Nat.le_refl _)) hm1 hn1).mono ?_
      rintro e W0 ⟨ax, cx, rfl, lx, hn, _⟩
      refine hK _ _ (HI.keep hn) ?_
      clear hK K
      replace HI := HI.keep hn
      replace HF := HF.keep hn
      clear hn
      refine Drawn.trioQ (i := 3) (j := 4) (k := 5) (by kernel_rfl) rfl rfl rfl (fun K hK => ?_) (fun K hK => ?_) (fun K hK => ?_)
      · go_simp
        refine (lent4 n2 a2 c2 z2 e2 _ (l2.below HF.bel (Nat.le_refl _)) hm2 hn2).mono ?_
        rintro e W1 ⟨ay, cy, rfl, ly, hn, _⟩
        refine hK _ _ (HI.keep hn) ?_
        clear hK K
        replace HI := HI.keep hn
        replace HF := HF.keep hn
        replace lx := lx.below hn (Nat.le_refl _)
        clear hn
        refine Drawn.pair (i := 4) (j := 5) (by kernel_rfl) rfl rfl (fun K hK => ?_) (fun K hK => ?_)
        · go_simp
          refine hK _ _ (HI.grownP (DO false none 0 0 0)) ?_
          clear hK K
          have o5 : w.heap.size + 1 < W1.heap.size := HF.lt (p := (w.heap.size + 1, DO n2 a2 z2.length c2 e2)) (by simp)
          replace HI := HI.grownP (DO false none 0 0 0)
          replace HF := HF.push (DO false none 0 0 0)
          replace lx := lx.below (below_alloc W1 (DO false none 0 0 0)) (Nat.le_refl _)
          replace ly := ly.below (below_alloc W1 (DO false none 0 0 0)) (Nat.le_refl _)
          generalize hg5 : W1.alloc (DO false none 0 0 0) = W2 at *
          clear hg5
          generalize hh5 : W1.heap.size = g5 at *
          clear hh5
          refine Drawn.one (j := 5) (by kernel_rfl) rfl (fun K hK => ?_)
          go_simp
          refine hK _ _ (HI.grownP (DO false none 0 0 0)) ?_
          clear hK K
          have o6 : w.heap.size + 1 < W2.heap.size := HF.lt (p := (w.heap.size + 1, DO n2 a2 z2.length c2 e2)) (by simp)
          have o56 : g5 < W2.heap.size := HF.lt (p := (g5, DO false none 0 0 0)) (by simp)
          replace HI := HI.grownP (DO false none 0 0 0)
          replace HF := HF.push (DO false none 0 0 0)
          replace lx := lx.below (below_alloc W2 (DO false none 0 0 0)) (Nat.le_refl _)
          replace ly := ly.below (below_alloc W2 (DO false none 0 0 0)) (Nat.le_refl _)
          generalize hg6 : W2.alloc (DO false none 0 0 0) = W3 at *
          clear hg6
          generalize hh6 : W2.heap.size = g6 at *
          clear hh6
          replace HF := HF.sub (L' := [(g5, DO false none 0 0 0), (g6, DO false none 0 0 0), (w.heap.size + 1, DO n2 a2 z2.length c2 e2), (w.heap.size, DO n1 a1 z1.length c1 e1)]) (by simp)
          have H5 := HF.head
          obtain ⟨⟨f0, f1, f2⟩, r0, r1, r2⟩ := cells3 HF g5 _ _ _ _ (.head _)
          replace lx := lie_set3P H5 (.bool n1) (.slice ax z1.length cx) (.int .i64 e1) lx
          replace ly := lie_set3P H5 (.bool n1) (.slice ax z1.length cx) (.int .i64 e1) ly
          replace HF := HF.fill3 (by omega) (by simp; omega) (.bool n1) (.slice ax z1.length cx) (.int .i64 e1)
          refine Drawn.one (j := 6) (by kernel_rfl) rfl (fun K hK => ?_)
          go_simp
          refine hK _ _ (HF.sub (by simp)) ?_
          clear hK K f0 f1 f2 r0 r1 r2 H5
          replace HF := HF.sub (L' := [(g6, DO false none 0 0 0), (g5, DO n1 ax z1.length cx e1), (w.heap.size + 1, DO n2 a2 z2.length c2 e2), (w.heap.size, DO n1 a1 z1.length c1 e1)]) (by simp)
          have H5 := HF.head
          obtain ⟨⟨f0, f1, f2⟩, r0, r1, r2⟩ := cells3 HF g6 _ _ _ _ (.head _)
          replace lx := lie_set3P H5 (.bool n2) (.slice ay z2.length cy) (.int .i64 e2) lx
          replace ly := lie_set3P H5 (.bool n2) (.slice ay z2.length cy) (.int .i64 e2) ly
          replace HF := HF.fill3 (by omega) (by simp; omega) (.bool n2) (.slice ay z2.length cy) (.int .i64 e2)
          refine Drawn.one (j := 7) (by kernel_rfl) rfl (fun K hK => ?_)
          go_simp
          refine hK _ _ (HF.sub (by simp)) ?_
          clear hK K f0 f1 f2 r0 r1 r2 H5
          refine Drawn.done (by kernel_rfl) ?_
          try go_simp
          generalize hWf : ((((((W3.setCell ⟨g5, 0, none⟩ (.bool n1)).setCell ⟨g5, 1, none⟩ (.slice ax z1.length cx)).setCell ⟨g5, 2, none⟩ (.int .i64 e1)).setCell ⟨g6, 0, none⟩ (.bool n2)).setCell ⟨g6, 1, none⟩ (.slice ay z2.length cy)).setCell ⟨g6, 2, none⟩ (.int .i64 e2)) = Wf at *
          exact Rest g5 g6 Wf ax cx ay cy ⟨HF, lx, ly⟩
        · go_simp
          refine hK _ _ (HI.grownP (DO false none 0 0 0)) ?_
          clear hK K
          have o6 : w.heap.size + 1 < W1.heap.size := HF.lt (p := (w.heap.size + 1, DO n2 a2 z2.length c2 e2)) (by simp)
          replace HI := HI.grownP (DO false none 0 0 0)
          replace HF := HF.push (DO false none 0 0 0)
          replace lx := lx.below (below_alloc W1 (DO false none 0 0 0)) (Nat.le_refl _)
          replace ly := ly.below (below_alloc W1 (DO false none 0 0 0)) (Nat.le_refl _)
          generalize hg6 : W1.alloc (DO false none 0 0 0) = W4 at *
          clear hg6
          generalize hh6 : W1.heap.size = g6 at *
          clear hh6
          refine Drawn.one (j := 4) (by kernel_rfl) rfl (fun K hK => ?_)
          go_simp
          refine hK _ _ (HI.grownP (DO false none 0 0 0)) ?_
          clear hK K
          have o5 : w.heap.size + 1 < W4.heap.size := HF.lt (p := (w.heap.size + 1, DO n2 a2 z2.length c2 e2)) (by simp)
          have o56 : g6 < W4.heap.size := HF.lt (p := (g6, DO false none 0 0 0)) (by simp)
          replace HI := HI.grownP (DO false none 0 0 0)
          replace HF := HF.push (DO false none 0 0 0)
          replace lx := lx.below (below_alloc W4 (DO false none 0 0 0)) (Nat.le_refl _)
          replace ly := ly.below (below_alloc W4 (DO false none 0 0 0)) (Nat.le_refl _)
          generalize hg5 : W4.alloc (DO false none 0 0 0) = W5 at *
          clear hg5
          generalize hh5 : W4.heap.size = g5 at *
          clear hh5
          replace HF := HF.sub (L' := [(g5, DO false none 0 0 0), (g6, DO false none 0 0 0), (w.heap.size + 1, DO n2 a2 z2.length c2 e2), (w.heap.size, DO n1 a1 z1.length c1 e1)]) (by simp)
          have H5 := HF.head
          obtain ⟨⟨f0, f1, f2⟩, r0, r1, r2⟩ := cells3 HF g5 _ _ _ _ (.head _)
          replace lx := lie_set3P H5 (.bool n1) (.slice ax z1.length cx) (.int .i64 e1) lx
          replace ly := lie_set3P H5 (.bool n1) (.slice ax z1.length cx) (.int .i64 e1) ly
          replace HF := HF.fill3 (by omega) (by simp; omega) (.bool n1) (.slice ax z1.length cx) (.int .i64 e1)
          refine Drawn.one (j := 6) (by kernel_rfl) rfl (fun K hK => ?_)
          go_simp
          refine hK _ _ (HF.sub (by simp)) ?_
          clear hK K f0 f1 f2 r0 r1 r2 H5
          replace HF := HF.sub (L' := [(g6, DO false none 0 0 0), (g5, DO n1 ax z1.length cx e1), (w.heap.size + 1, DO n2 a2 z2.length c2 e2), (w.heap.size, DO n1 a1 z1.length c1 e1)]) (by simp)
          have H5 := HF.head
          obtain ⟨⟨f0, f1, f2⟩, r0, r1, r2⟩ := cells3 HF g6 _ _ _ _ (.head _)
          replace lx := lie_set3P H5 (.bool n2) (.slice ay z2.length cy) (.int .i64 e2) lx
          replace ly := lie_set3P H5 (.bool n2) (.slice ay z2.length cy) (.int .i64 e2) ly
          replace HF := HF.fill3 (by omega) (by simp; omega) (.bool n2) (.slice ay z2.length cy) (.int .i64 e2)
          refine Drawn.one (j := 7) (by kernel_rfl) rfl (fun K hK => ?_)
          go_simp
          refine hK _ _ (HF.sub (by simp)) ?_
          clear hK K f0 f1 f2 r0 r1 r2 H5
          refine Drawn.done (by kernel_rfl) ?_
          try go_simp
          generalize hWf : ((((((W5.setCell ⟨g5, 0, none⟩ (.bool n1)).setCell ⟨g5, 1, none⟩ (.slice ax z1.length cx)).setCell ⟨g5, 2, none⟩ (.int .i64 e1)).setCell ⟨g6, 0, none⟩ (.bool n2)).setCell ⟨g6, 1, none⟩ (.slice ay z2.length cy)).setCell ⟨g6, 2, none⟩ (.int .i64 e2)) = Wf at *
          exact Rest g5 g6 Wf ax cx ay cy ⟨HF, lx, ly⟩
      · go_simp
        refine hK _ _ (HI.grownP (DO false none 0 0 0)) ?_
        clear hK K
        have o5 : w.heap.size + 1 < W0.heap.size := HF.lt (p := (w.heap.size + 1, DO n2 a2 z2.length c2 e2)) (by simp)
        replace HI := HI.grownP (DO false none 0 0 0)
        replace HF := HF.push (DO false none 0 0 0)
        replace lx := lx.below (below_alloc W0 (DO false none 0 0 0)) (Nat.le_refl _)
        generalize hg5 : W0.alloc (DO false none 0 0 0) = W6 at *
        clear hg5
        generalize hh5 : W0.heap.size = g5 at *
        clear hh5
        refine Drawn.pair (i := 3) (j := 5) (by kernel_rfl) rfl rfl (fun K hK => ?_) (fun K hK => ?_)
        · go_simp
          refine (lent4 n2 a2 c2 z2 e2 _ (l2.below HF.bel (Nat.le_refl _)) hm2 hn2).mono ?_
          rintro e W7 ⟨ay, cy, rfl, ly, hn, _⟩
          refine hK _ _ (HI.keep hn) ?_
          clear hK K
          replace HI := HI.keep hn
          replace HF := HF.keep hn
          replace lx := lx.below hn (Nat.le_refl _)
          clear hn
          refine Drawn.one (j := 5) (by kernel_rfl) rfl (fun K hK => ?_)
          go_simp
          refine hK _ _ (HI.grownP (DO false none 0 0 0)) ?_
          clear hK K
          have o6 : w.heap.size + 1 < W7.heap.size := HF.lt (p := (w.heap.size + 1, DO n2 a2 z2.length c2 e2)) (by simp)
          have o56 : g5 < W7.heap.size := HF.lt (p := (g5, DO false none 0 0 0)) (by simp)
          replace HI := HI.grownP (DO false none 0 0 0)
          replace HF := HF.push (DO false none 0 0 0)
          replace lx := lx.below (below_alloc W7 (DO false none 0 0 0)) (Nat.le_refl _)
          replace ly := ly.below (below_alloc W7 (DO false none 0 0 0)) (Nat.le_refl _)
          generalize hg6 : W7.alloc (DO false none 0 0 0) = W8 at *
          clear hg6
          generalize hh6 : W7.heap.size = g6 at *
          clear hh6
          replace HF := HF.sub (L' := [(g5, DO false none 0 0 0), (g6, DO false none 0 0 0), (w.heap.size + 1, DO n2 a2 z2.length c2 e2), (w.heap.size, DO n1 a1 z1.length c1 e1)]) (by simp)
          have H5 := HF.head
          obtain ⟨⟨f0, f1, f2⟩, r0, r1, r2⟩ := cells3 HF g5 _ _ _ _ (.head _)
          replace lx := lie_set3P H5 (.bool n1) (.slice ax z1.length cx) (.int .i64 e1) lx
          replace ly := lie_set3P H5 (.bool n1) (.slice ax z1.length cx) (.int .i64 e1) ly
          replace HF := HF.fill3 (by omega) (by simp; omega) (.bool n1) (.slice ax z1.length cx) (.int .i64 e1)
          refine Drawn.one (j := 6) (by kernel_rfl) rfl (fun K hK => ?_)
          go_simp
          refine hK _ _ (HF.sub (by simp)) ?_
          clear hK K f0 f1 f2 r0 r1 r2 H5
          replace HF := HF.sub (L' := [(g6, DO false none 0 0 0), (g5, DO n1 ax z1.length cx e1), (w.heap.size + 1, DO n2 a2 z2.length c2 e2), (w.heap.size, DO n1 a1 z1.length c1 e1)]) (by simp)
          have H5 := HF.head
          obtain ⟨⟨f0, f1, f2⟩, r0, r1, r2⟩ := cells3 HF g6 _ _ _ _ (.head _)
          replace lx := lie_set3P H5 (.bool n2) (.slice ay z2.length cy) (.int .i64 e2) lx
          replace ly := lie_set3P H5 (.bool n2) (.slice ay z2.length cy) (.int .i64 e2) ly
          replace HF := HF.fill3 (by omega) (by simp; omega) (.bool n2) (.slice ay z2.length cy) (.int .i64 e2)
          refine Drawn.one (j := 7) (by kernel_rfl) rfl (fun K hK => ?_)
          go_simp
          refine hK _ _ (HF.sub (by simp)) ?_
          clear hK K f0 f1 f2 r0 r1 r2 H5
          refine Drawn.done (by kernel_rfl) ?_
          try go_simp
          generalize hWf : ((((((W8.setCell ⟨g5, 0, none⟩ (.bool n1)).setCell ⟨g5, 1, none⟩ (.slice ax z1.length cx)).setCell ⟨g5, 2, none⟩ (.int .i64 e1)).setCell ⟨g6, 0, none⟩ (.bool n2)).setCell ⟨g6, 1, none⟩ (.slice ay z2.length cy)).setCell ⟨g6, 2, none⟩ (.int .i64 e2)) = Wf at *
          exact Rest g5 g6 Wf ax cx ay cy ⟨HF, lx, ly⟩
        · go_simp
          refine hK _ _ (HI.grownP (DO false none 0 0 0)) ?_
          clear hK K
          have o6 : w.heap.size + 1 < W6.heap.size := HF.lt (p := (w.heap.size + 1, DO n2 a2 z2.length c2 e2)) (by simp)
          have o56 : g5 < W6.heap.size := HF.lt (p := (g5, DO false none 0 0 0)) (by simp)
          replace HI := HI.grownP (DO false none 0 0 0)
          replace HF := HF.push (DO false none 0 0 0)
          replace lx := lx.below (below_alloc W6 (DO false none 0 0 0)) (Nat.le_refl _)
          generalize hg6 : W6.alloc (DO false none 0 0 0) = W9 at *
          clear hg6
          generalize hh6 : W6.heap.size = g6 at *
          clear hh6
          refine Drawn.one (j := 3) (by kernel_rfl) rfl (fun K hK => ?_)
          go_simp
          refine (lent4 n2 a2 c2 z2 e2 _ (l2.below HF.bel (Nat.le_refl _)) hm2 hn2).mono ?_
          rintro e W10 ⟨ay, cy, rfl, ly, hn, _⟩
          refine hK _ _ (HI.keep hn) ?_
          clear hK K
          replace HI := HI.keep hn
          replace HF := HF.keep hn
          replace lx := lx.below hn (Nat.le_refl _)
          clear hn
          replace HF := HF.sub (L' := [(g5, DO false none 0 0 0), (g6, DO false none 0 0 0), (w.heap.size + 1, DO n2 a2 z2.length c2 e2), (w.heap.size, DO n1 a1 z1.length c1 e1)]) (by simp)
          have H5 := HF.head
          obtain ⟨⟨f0, f1, f2⟩, r0, r1, r2⟩ := cells3 HF g5 _ _ _ _ (.head _)
          replace lx := lie_set3P H5 (.bool n1) (.slice ax z1.length cx) (.int .i64 e1) lx
          replace ly := lie_set3P H5 (.bool n1) (.slice ax z1.length cx) (.int .i64 e1) ly
          replace HF := HF.fill3 (by omega) (by simp; omega) (.bool n1) (.slice ax z1.length cx) (.int .i64 e1)
          refine Drawn.one (j := 6) (by kernel_rfl) rfl (fun K hK => ?_)
          go_simp
          refine hK _ _ (HF.sub (by simp)) ?_
          clear hK K f0 f1 f2 r0 r1 r2 H5
          replace HF := HF.sub (L' := [(g6, DO false none 0 0 0), (g5, DO n1 ax z1.length cx e1), (w.heap.size + 1, DO n2 a2 z2.length c2 e2), (w.heap.size, DO n1 a1 z1.length c1 e1)]) (by simp)
          have H5 := HF.head
          obtain ⟨⟨f0, f1, f2⟩, r0, r1, r2⟩ := cells3 HF g6 _ _ _ _ (.head _)
          replace lx := lie_set3P H5 (.bool n2) (.slice ay z2.length cy) (.int .i64 e2) lx
          replace ly := lie_set3P H5 (.bool n2) (.slice ay z2.length cy) (.int .i64 e2) ly
          replace HF := HF.fill3 (by omega) (by simp; omega) (.bool n2) (.slice ay z2.length cy) (.int .i64 e2)
          refine Drawn.one (j := 7) (by kernel_rfl) rfl (fun K hK => ?_)
          go_simp
          refine hK _ _ (HF.sub (by simp)) ?_
          clear hK K f0 f1 f2 r0 r1 r2 H5
          refine Drawn.done (by kernel_rfl) ?_
          try go_simp
          generalize hWf : ((((((W10.setCell ⟨g5, 0, none⟩ (.bool n1)).setCell ⟨g5, 1, none⟩ (.slice ax z1.length cx)).setCell ⟨g5, 2, none⟩ (.int .i64 e1)).setCell ⟨g6, 0, none⟩ (.bool n2)).setCell ⟨g6, 1, none⟩ (.slice ay z2.length cy)).setCell ⟨g6, 2, none⟩ (.int .i64 e2)) = Wf at *
          exact Rest g5 g6 Wf ax cx ay cy ⟨HF, lx, ly⟩
      · go_simp
        refine hK _ _ (HI.grownP (DO false none 0 0 0)) ?_
        clear hK K
        have o6 : w.heap.size + 1 < W0.heap.size := HF.lt (p := (w.heap.size + 1, DO n2 a2 z2.length c2 e2)) (by simp)
        replace HI := HI.grownP (DO false none 0 0 0)
        replace HF := HF.push (DO false none 0 0 0)
        replace lx := lx.below (below_alloc W0 (DO false none 0 0 0)) (Nat.le_refl _)
        generalize hg6 : W0.alloc (DO false none 0 0 0) = W11 at *
        clear hg6
        generalize hh6 : W0.heap.size = g6 at *
        clear hh6
        refine Drawn.pair (i := 3) (j := 4) (by kernel_rfl) rfl rfl (fun K hK => ?_) (fun K hK => ?_)
        · go_simp
          refine (lent4 n2 a2 c2 z2 e2 _ (l2.below HF.bel (Nat.le_refl _)) hm2 hn2).mono ?_
          rintro e W12 ⟨ay, cy, rfl, ly, hn, _⟩
          refine hK _ _ (HI.keep hn) ?_
          clear hK K
          replace HI := HI.keep hn
          replace HF := HF.keep hn
          replace lx := lx.below hn (Nat.le_refl _)
          clear hn
          refine Drawn.one (j := 4) (by kernel_rfl) rfl (fun K hK => ?_)
          go_simp
          refine hK _ _ (HI.grownP (DO false none 0 0 0)) ?_
          clear hK K
          have o5 : w.heap.size + 1 < W12.heap.size := HF.lt (p := (w.heap.size + 1, DO n2 a2 z2.length c2 e2)) (by simp)
          have o56 : g6 < W12.heap.size := HF.lt (p := (g6, DO false none 0 0 0)) (by simp)
          replace HI := HI.grownP (DO false none 0 0 0)
          replace HF := HF.push (DO false none 0 0 0)
          replace lx := lx.below (below_alloc W12 (DO false none 0 0 0)) (Nat.le_refl _)
          replace ly := ly.below (below_alloc W12 (DO false none 0 0 0)) (Nat.le_refl _)
          generalize hg5 : W12.alloc (DO false none 0 0 0) = W13 at *
          clear hg5
          generalize hh5 : W12.heap.size = g5 at *
          clear hh5
          replace HF := HF.sub (L' := [(g5, DO false none 0 0 0), (g6, DO false none 0 0 0), (w.heap.size + 1, DO n2 a2 z2.length c2 e2), (w.heap.size, DO n1 a1 z1.length c1 e1)]) (by simp)
          have H5 := HF.head
          obtain ⟨⟨f0, f1, f2⟩, r0, r1, r2⟩ := cells3 HF g5 _ _ _ _ (.head _)
          replace lx := lie_set3P H5 (.bool n1) (.slice ax z1.length cx) (.int .i64 e1) lx
          replace ly := lie_set3P H5 (.bool n1) (.slice ax z1.length cx) (.int .i64 e1) ly
          replace HF := HF.fill3 (by omega) (by simp; omega) (.bool n1) (.slice ax z1.length cx) (.int .i64 e1)
          refine Drawn.one (j := 6) (by kernel_rfl) rfl (fun K hK => ?_)
          go_simp
          refine hK _ _ (HF.sub (by simp)) ?_
          clear hK K f0 f1 f2 r0 r1 r2 H5
          replace HF := HF.sub (L' := [(g6, DO false none 0 0 0), (g5, DO n1 ax z1.length cx e1), (w.heap.size + 1, DO n2 a2 z2.length c2 e2), (w.heap.size, DO n1 a1 z1.length c1 e1)]) (by simp)
          have H5 := HF.head
          obtain ⟨⟨f0, f1, f2⟩, r0, r1, r2⟩ := cells3 HF g6 _ _ _ _ (.head _)
          replace lx := lie_set3P H5 (.bool n2) (.slice ay z2.length cy) (.int .i64 e2) lx
          replace ly := lie_set3P H5 (.bool n2) (.slice ay z2.length cy) (.int .i64 e2) ly
          replace HF := HF.fill3 (by omega) (by simp; omega) (.bool n2) (.slice ay z2.length cy) (.int .i64 e2)
          refine Drawn.one (j := 7) (by kernel_rfl) rfl (fun K hK => ?_)
          go_simp
          refine hK _ _ (HF.sub (by simp)) ?_
          clear hK K f0 f1 f2 r0 r1 r2 H5
          refine Drawn.done (by kernel_rfl) ?_
          try go_simp
          generalize hWf : ((((((W13.setCell ⟨g5, 0, none⟩ (.bool n1)).setCell ⟨g5, 1, none⟩ (.slice ax z1.length cx)).setCell ⟨g5, 2, none⟩ (.int .i64 e1)).setCell ⟨g6, 0, none⟩ (.bool n2)).setCell ⟨g6, 1, none⟩ (.slice ay z2.length cy)).setCell ⟨g6, 2, none⟩ (.int .i64 e2)) = Wf at *
          exact Rest g5 g6 Wf ax cx ay cy ⟨HF, lx, ly⟩
        · go_simp
          refine hK _ _ (HI.grownP (DO false none 0 0 0)) ?_
          clear hK K
          have o5 : w.heap.size + 1 < W11.heap.size := HF.lt (p := (w.heap.size + 1, DO n2 a2 z2.length c2 e2)) (by simp)
          have o56 : g6 < W11.heap.size := HF.lt (p := (g6, DO false none 0 0 0)) (by simp)
          replace HI := HI.grownP (DO false none 0 0 0)
          replace HF := HF.push (DO false none 0 0 0)
          replace lx := lx.below (below_alloc W11 (DO false none 0 0 0)) (Nat.le_refl _)
          generalize hg5 : W11.alloc (DO false none 0 0 0) = W14 at *
          clear hg5
          generalize hh5 : W11.heap.size = g5 at *
          clear hh5
          refine Drawn.one (j := 3) (by kernel_rfl) rfl (fun K hK => ?_)
          go_simp
          refine (lent4 n2 a2 c2 z2 e2 _ (l2.below HF.bel (Nat.le_refl _)) hm2 hn2).mono ?_
          rintro e W15 ⟨ay, cy, rfl, ly, hn, _⟩
          refine hK _ _ (HI.keep hn) ?_
          clear hK K
          replace HI := HI.keep hn
          replace HF := HF.keep hn
          replace lx := lx.below hn (Nat.le_refl _)
          clear hn
          replace HF := HF.sub (L' := [(g5, DO false none 0 0 0), (g6, DO false none 0 0 0), (w.heap.size + 1, DO n2 a2 z2.length c2 e2), (w.heap.size, DO n1 a1 z1.length c1 e1)]) (by simp)
          have H5 := HF.head
          obtain ⟨⟨f0, f1, f2⟩, r0, r1, r2⟩ := cells3 HF g5 _ _ _ _ (.head _)
          replace lx := lie_set3P H5 (.bool n1) (.slice ax z1.length cx) (.int .i64 e1) lx
          replace ly := lie_set3P H5 (.bool n1) (.slice ax z1.length cx) (.int .i64 e1) ly
          replace HF := HF.fill3 (by omega) (by simp; omega) (.bool n1) (.slice ax z1.length cx) (.int .i64 e1)
          refine Drawn.one (j := 6) (by kernel_rfl) rfl (fun K hK => ?_)
          go_simp
          refine hK _ _ (HF.sub (by simp)) ?_
          clear hK K f0 f1 f2 r0 r1 r2 H5
          replace HF := HF.sub (L' := [(g6, DO false none 0 0 0), (g5, DO n1 ax z1.length cx e1), (w.heap.size + 1, DO n2 a2 z2.length c2 e2), (w.heap.size, DO n1 a1 z1.length c1 e1)]) (by simp)
          have H5 := HF.head
          obtain ⟨⟨f0, f1, f2⟩, r0, r1, r2⟩ := cells3 HF g6 _ _ _ _ (.head _)
          replace lx := lie_set3P H5 (.bool n2) (.slice ay z2.length cy) (.int .i64 e2) lx
          replace ly := lie_set3P H5 (.bool n2) (.slice ay z2.length cy) (.int .i64 e2) ly
          replace HF := HF.fill3 (by omega) (by simp; omega) (.bool n2) (.slice ay z2.length cy) (.int .i64 e2)
          refine Drawn.one (j := 7) (by kernel_rfl) rfl (fun K hK => ?_)
          go_simp
          refine hK _ _ (HF.sub (by simp)) ?_
          clear hK K f0 f1 f2 r0 r1 r2 H5
          refine Drawn.done (by kernel_rfl) ?_
          try go_simp
          generalize hWf : ((((((W15.setCell ⟨g5, 0, none⟩ (.bool n1)).setCell ⟨g5, 1, none⟩ (.slice ax z1.length cx)).setCell ⟨g5, 2, none⟩ (.int .i64 e1)).setCell ⟨g6, 0, none⟩ (.bool n2)).setCell ⟨g6, 1, none⟩ (.slice ay z2.length cy)).setCell ⟨g6, 2, none⟩ (.int .i64 e2)) = Wf at *
          exact Rest g5 g6 Wf ax cx ay cy ⟨HF, lx, ly⟩
    · go_simp
      refine hK _ _ (HI.grownP (DO false none 0 0 0)) ?_
      clear hK K
      have o5 : w.heap.size + 1 < W00.heap.size := HF.lt (p := (w.heap.size + 1, DO n2 a2 z2.length c2 e2)) (by simp)
      replace HI := HI.grownP (DO false none 0 0 0)
      replace HF := HF.push (DO false none 0 0 0)
      generalize hg5 : W00.alloc (DO false none 0 0 0) = W16 at *
      clear hg5
      generalize hh5 : W00.heap.size = g5 at *
      clear hh5
      refine Drawn.pair (i := 1) (j := 5) (by kernel_rfl) rfl rfl (fun K hK => ?_) (fun K hK => ?_)
      · go_simp
        refine (lent4 n1 a1 c1 z1 e1 _ (l1.below HF.bel (Nat.le_refl _)) hm1 hn1).mono ?_
        rintro e W17 ⟨ax, cx, rfl, lx, hn, _⟩
        refine hK _ _ (HI.keep hn) ?_
        clear hK K
        replace HI := HI.keep hn
        replace HF := HF.keep hn
        clear hn
        refine Drawn.pair (i := 3) (j := 5) (by kernel_rfl) rfl rfl (fun K hK => ?_) (fun K hK => ?_)
        · go_simp
          refine (lent4 n2 a2 c2 z2 e2 _ (l2.below HF.bel (Nat.le_refl _)) hm2 hn2).mono ?_
          rintro e W18 ⟨ay, cy, rfl, ly, hn, _⟩
          refine hK _ _ (HI.keep hn) ?_
          clear hK K
          replace HI := HI.keep hn
          replace HF := HF.keep hn
          replace lx := lx.below hn (Nat.le_refl _)
          clear hn
          refine Drawn.one (j := 5) (by kernel_rfl) rfl (fun K hK => ?_)
          go_simp
          refine hK _ _ (HI.grownP (DO false none 0 0 0)) ?_
          clear hK K
          have o6 : w.heap.size + 1 < W18.heap.size := HF.lt (p := (w.heap.size + 1, DO n2 a2 z2.length c2 e2)) (by simp)
          have o56 : g5 < W18.heap.size := HF.lt (p := (g5, DO false none 0 0 0)) (by simp)
          replace HI := HI.grownP (DO false none 0 0 0)
          replace HF := HF.push (DO false none 0 0 0)
          replace lx := lx.below (below_alloc W18 (DO false none 0 0 0)) (Nat.le_refl _)
          replace ly := ly.below (below_alloc W18 (DO false none 0 0 0)) (Nat.le_refl _)
          generalize hg6 : W18.alloc (DO false none 0 0 0) = W19 at *
          clear hg6
          generalize hh6 : W18.heap.size = g6 at *
          clear hh6
          replace HF := HF.sub (L' := [(g5, DO false none 0 0 0), (g6, DO false none 0 0 0), (w.heap.size + 1, DO n2 a2 z2.length c2 e2), (w.heap.size, DO n1 a1 z1.length c1 e1)]) (by simp)
          have H5 := HF.head
          obtain ⟨⟨f0, f1, f2⟩, r0, r1, r2⟩ := cells3 HF g5 _ _ _ _ (.head _)
          replace lx := lie_set3P H5 (.bool n1) (.slice ax z1.length cx) (.int .i64 e1) lx
          replace ly := lie_set3P H5 (.bool n1) (.slice ax z1.length cx) (.int .i64 e1) ly
          replace HF := HF.fill3 (by omega) (by simp; omega) (.bool n1) (.slice ax z1.length cx) (.int .i64 e1)
          refine Drawn.one (j := 6) (by kernel_rfl) rfl (fun K hK => ?_)
          go_simp
          refine hK _ _ (HF.sub (by simp)) ?_
          clear hK K f0 f1 f2 r0 r1 r2 H5
          replace HF := HF.sub (L' := [(g6, DO false none 0 0 0), (g5, DO n1 ax z1.length cx e1), (w.heap.size + 1, DO n2 a2 z2.length c2 e2), (w.heap.size, DO n1 a1 z1.length c1 e1)]) (by simp)
          have H5 := HF.head
          obtain ⟨⟨f0, f1, f2⟩, r0, r1, r2⟩ := cells3 HF g6 _ _ _ _ (.head _)
          replace lx := lie_set3P H5 (.bool n2) (.slice ay z2.length cy) (.int .i64 e2) lx
          replace ly := lie_set3P H5 (.bool n2) (.slice ay z2.length cy) (.int .i64 e2) ly
          replace HF := HF.fill3 (by omega) (by simp; omega) (.bool n2) (.slice ay z2.length cy) (.int .i64 e2)
          refine Drawn.one (j := 7) (by kernel_rfl) rfl (fun K hK => ?_)
          go_simp
          refine hK _ _ (HF.sub (by simp)) ?_
          clear hK K f0 f1 f2 r0 r1 r2 H5
          refine Drawn.done (by kernel_rfl) ?_
          try go_simp
          generalize hWf : ((((((W19.setCell ⟨g5, 0, none⟩ (.bool n1)).setCell ⟨g5, 1, none⟩ (.slice ax z1.length cx)).setCell ⟨g5, 2, none⟩ (.int .i64 e1)).setCell ⟨g6, 0, none⟩ (.bool n2)).setCell ⟨g6, 1, none⟩ (.slice ay z2.length cy)).setCell ⟨g6, 2, none⟩ (.int .i64 e2)) = Wf at *
          exact Rest g5 g6 Wf ax cx ay cy ⟨HF, lx, ly⟩
        · go_simp
          refine hK _ _ (HI.grownP (DO false none 0 0 0)) ?_
          clear hK K
          have o6 : w.heap.size + 1 < W17.heap.size := HF.lt (p := (w.heap.size + 1, DO n2 a2 z2.length c2 e2)) (by simp)
          have o56 : g5 < W17.heap.size := HF.lt (p := (g5, DO false none 0 0 0)) (by simp)
          replace HI := HI.grownP (DO false none 0 0 0)
          replace HF := HF.push (DO false none 0 0 0)
          replace lx := lx.below (below_alloc W17 (DO false none 0 0 0)) (Nat.le_refl _)
          generalize hg6 : W17.alloc (DO false none 0 0 0) = W20 at *
          clear hg6
          generalize hh6 : W17.heap.size = g6 at *
          clear hh6
          refine Drawn.one (j := 3) (by kernel_rfl) rfl (fun K hK => ?_)
          go_simp
          refine (lent4 n2 a2 c2 z2 e2 _ (l2.below HF.bel (Nat.le_refl _)) hm2 hn2).mono ?_
          rintro e W21 ⟨ay, cy, rfl, ly, hn, _⟩
          refine hK _ _ (HI.keep hn) ?_
          clear hK K
          replace HI := HI.keep hn
          replace HF := HF.keep hn
          replace lx := lx.below hn (Nat.le_refl _)
          clear hn
          replace HF := HF.sub (L' := [(g5, DO false none 0 0 0), (g6, DO false none 0 0 0), (w.heap.size + 1, DO n2 a2 z2.length c2 e2), (w.heap.size, DO n1 a1 z1.length c1 e1)]) (by simp)
          have H5 := HF.head
          obtain ⟨⟨f0, f1, f2⟩, r0, r1, r2⟩ := cells3 HF g5 _ _ _ _ (.head _)
          replace lx := lie_set3P H5 (.bool n1) (.slice ax z1.length cx) (.int .i64 e1) lx
          replace ly := lie_set3P H5 (.bool n1) (.slice ax z1.length cx) (.int .i64 e1) ly
          replace HF := HF.fill3 (by omega) (by simp; omega) (.bool n1) (.slice ax z1.length cx) (.int .i64 e1)
          refine Drawn.one (j := 6) (by kernel_rfl) rfl (fun K hK => ?_)
          go_simp
          refine hK _ _ (HF.sub (by simp)) ?_
          clear hK K f0 f1 f2 r0 r1 r2 H5
          replace HF := HF.sub (L' := [(g6, DO false none 0 0 0), (g5, DO n1 ax z1.length cx e1), (w.heap.size + 1, DO n2 a2 z2.length c2 e2), (w.heap.size, DO n1 a1 z1.length c1 e1)]) (by simp)
          have H5 := HF.head
          obtain ⟨⟨f0, f1, f2⟩, r0, r1, r2⟩ := cells3 HF g6 _ _ _ _ (.head _)
          replace lx := lie_set3P H5 (.bool n2) (.slice ay z2.length cy) (.int .i64 e2) lx
          replace ly := lie_set3P H5 (.bool n2) (.slice ay z2.length cy) (.int .i64 e2) ly
          replace HF := HF.fill3 (by omega) (by simp; omega) (.bool n2) (.slice ay z2.length cy) (.int .i64 e2)
          refine Drawn.one (j := 7) (by kernel_rfl) rfl (fun K hK => ?_)
          go_simp
          refine hK _ _ (HF.sub (by simp)) ?_
          clear hK K f0 f1 f2 r0 r1 r2 H5
          refine Drawn.done (by kernel_rfl) ?_
          try go_simp
          generalize hWf : ((((((W21.setCell ⟨g5, 0, none⟩ (.bool n1)).setCell ⟨g5, 1, none⟩ (.slice ax z1.length cx)).setCell ⟨g5, 2, none⟩ (.int .i64 e1)).setCell ⟨g6, 0, none⟩ (.bool n2)).setCell ⟨g6, 1, none⟩ (.slice ay z2.length cy)).setCell ⟨g6, 2, none⟩ (.int .i64 e2)) = Wf at *
          exact Rest g5 g6 Wf ax cx ay cy ⟨HF, lx, ly⟩
      · go_simp
        refine hK _ _ (HI.grownP (DO false none 0 0 0)) ?_
        clear hK K
        have o6 : w.heap.size + 1 < W16.heap.size := HF.lt (p := (w.heap.size + 1, DO n2 a2 z2.length c2 e2)) (by simp)
        have o56 : g5 < W16.heap.size := HF.lt (p := (g5, DO false none 0 0 0)) (by simp)
        replace HI := HI.grownP (DO false none 0 0 0)
        replace HF := HF.push (DO false none 0 0 0)
        generalize hg6 : W16.alloc (DO false none 0 0 0) = W22 at *
        clear hg6
        generalize hh6 : W16.heap.size = g6 at *
        clear hh6
        refine Drawn.one (j := 1) (by kernel_rfl) rfl (fun K hK => ?_)
        go_simp
        refine (lent4 n1 a1 c1 z1 e1 _ (l1.below HF.bel (Nat.le_refl _)) hm1 hn1).mono ?_
        rintro e W23 ⟨ax, cx, rfl, lx, hn, _⟩
        refine hK _ _ (HI.keep hn) ?_
        clear hK K
        replace HI := HI.keep hn
        replace HF := HF.keep hn
        clear hn
        refine Drawn.one (j := 3) (by kernel_rfl) rfl (fun K hK => ?_)
        go_simp
        refine (lent4 n2 a2 c2 z2 e2 _ (l2.below HF.bel (Nat.le_refl _)) hm2 hn2).mono ?_
        rintro e W24 ⟨ay, cy, rfl, ly, hn, _⟩
        refine hK _ _ (HI.keep hn) ?_
        clear hK K
        replace HI := HI.keep hn
        replace HF := HF.keep hn
        replace lx := lx.below hn (Nat.le_refl _)
        clear hn
        replace HF := HF.sub (L' := [(g5, DO false none 0 0 0), (g6, DO false none 0 0 0), (w.heap.size + 1, DO n2 a2 z2.length c2 e2), (w.heap.size, DO n1 a1 z1.length c1 e1)]) (by simp)
        have H5 := HF.head
        obtain ⟨⟨f0, f1, f2⟩, r0, r1, r2⟩ := cells3 HF g5 _ _ _ _ (.head _)
        replace lx := lie_set3P H5 (.bool n1) (.slice ax z1.length cx) (.int .i64 e1) lx
        replace ly := lie_set3P H5 (.bool n1) (.slice ax z1.length cx) (.int .i64 e1) ly
        replace HF := HF.fill3 (by omega) (by simp; omega) (.bool n1) (.slice ax z1.length cx) (.int .i64 e1)
        refine Drawn.one (j := 6) (by kernel_rfl) rfl (fun K hK => ?_)
        go_simp
        refine hK _ _ (HF.sub (by simp)) ?_
        clear hK K f0 f1 f2 r0 r1 r2 H5
        replace HF := HF.sub (L' := [(g6, DO false none 0 0 0), (g5, DO n1 ax z1.length cx e1), (w.heap.size + 1, DO n2 a2 z2.length c2 e2), (w.heap.size, DO n1 a1 z1.length c1 e1)]) (by simp)
        have H5 := HF.head
        obtain ⟨⟨f0, f1, f2⟩, r0, r1, r2⟩ := cells3 HF g6 _ _ _ _ (.head _)
        replace lx := lie_set3P H5 (.bool n2) (.slice ay z2.length cy) (.int .i64 e2) lx
        replace ly := lie_set3P H5 (.bool n2) (.slice ay z2.length cy) (.int .i64 e2) ly
        replace HF := HF.fill3 (by omega) (by simp; omega) (.bool n2) (.slice ay z2.length cy) (.int .i64 e2)
        refine Drawn.one (j := 7) (by kernel_rfl) rfl (fun K hK => ?_)
        go_simp
        refine hK _ _ (HF.sub (by simp)) ?_
        clear hK K f0 f1 f2 r0 r1 r2 H5
        refine Drawn.done (by kernel_rfl) ?_
        try go_simp
        generalize hWf : ((((((W24.setCell ⟨g5, 0, none⟩ (.bool n1)).setCell ⟨g5, 1, none⟩ (.slice ax z1.length cx)).setCell ⟨g5, 2, none⟩ (.int .i64 e1)).setCell ⟨g6, 0, none⟩ (.bool n2)).setCell ⟨g6, 1, none⟩ (.slice ay z2.length cy)).setCell ⟨g6, 2, none⟩ (.int .i64 e2)) = Wf at *
        exact Rest g5 g6 Wf ax cx ay cy ⟨HF, lx, ly⟩
    · go_simp
      refine hK _ _ (HI.grownP (DO false none 0 0 0)) ?_
      clear hK K
      have o6 : w.heap.size + 1 < W00.heap.size := HF.lt (p := (w.heap.size + 1, DO n2 a2 z2.length c2 e2)) (by simp)
      replace HI := HI.grownP (DO false none 0 0 0)
      replace HF := HF.push (DO false none 0 0 0)
      generalize hg6 : W00.alloc (DO false none 0 0 0) = W25 at *
      clear hg6
      generalize hh6 : W00.heap.size = g6 at *
      clear hh6
      refine Drawn.pair (i := 1) (j := 4) (by kernel_rfl) rfl rfl (fun K hK => ?_) (fun K hK => ?_)
      · go_simp
        refine (lent4 n1 a1 c1 z1 e1 _ (l1.below HF.bel (Nat.le_refl _)) hm1 hn1).mono ?_
        rintro e W26 ⟨ax, cx, rfl, lx, hn, _⟩
        refine hK _ _ (HI.keep hn) ?_
        clear hK K
        replace HI := HI.keep hn
        replace HF := HF.keep hn
        clear hn
        refine Drawn.pair (i := 3) (j := 4) (by kernel_rfl) rfl rfl (fun K hK => ?_) (fun K hK => ?_)
        · go_simp
          refine (lent4 n2 a2 c2 z2 e2 _ (l2.below HF.bel (Nat.le_refl _)) hm2 hn2).mono ?_
          rintro e W27 ⟨ay, cy, rfl, ly, hn, _⟩
          refine hK _ _ (HI.keep hn) ?_
          clear hK K
          replace HI := HI.keep hn
          replace HF := HF.keep hn
          replace lx := lx.below hn (Nat.le_refl _)
          clear hn
          refine Drawn.one (j := 4) (by kernel_rfl) rfl (fun K hK => ?_)
          go_simp
          refine hK _ _ (HI.grownP (DO false none 0 0 0)) ?_
          clear hK K
          have o5 : w.heap.size + 1 < W27.heap.size := HF.lt (p := (w.heap.size + 1, DO n2 a2 z2.length c2 e2)) (by simp)
          have o56 : g6 < W27.heap.size := HF.lt (p := (g6, DO false none 0 0 0)) (by simp)
          replace HI := HI.grownP (DO false none 0 0 0)
          replace HF := HF.push (DO false none 0 0 0)
          replace lx := lx.below (below_alloc W27 (DO false none 0 0 0)) (Nat.le_refl _)
          replace ly := ly.below (below_alloc W27 (DO false none 0 0 0)) (Nat.le_refl _)
          generalize hg5 : W27.alloc (DO false none 0 0 0) = W28 at *
          clear hg5
          generalize hh5 : W27.heap.size = g5 at *
          clear hh5
          replace HF := HF.sub (L' := [(g5, DO false none 0 0 0), (g6, DO false none 0 0 0), (w.heap.size + 1, DO n2 a2 z2.length c2 e2), (w.heap.size, DO n1 a1 z1.length c1 e1)]) (by simp)
          have H5 := HF.head
          obtain ⟨⟨f0, f1, f2⟩, r0, r1, r2⟩ := cells3 HF g5 _ _ _ _ (.head _)
          replace lx := lie_set3P H5 (.bool n1) (.slice ax z1.length cx) (.int .i64 e1) lx
          replace ly := lie_set3P H5 (.bool n1) (.slice ax z1.length cx) (.int .i64 e1) ly
          replace HF := HF.fill3 (by omega) (by simp; omega) (.bool n1) (.slice ax z1.length cx) (.int .i64 e1)
          refine Drawn.one (j := 6) (by kernel_rfl) rfl (fun K hK => ?_)
          go_simp
          refine hK _ _ (HF.sub (by simp)) ?_
          clear hK K f0 f1 f2 r0 r1 r2 H5
          replace HF := HF.sub (L' := [(g6, DO false none 0 0 0), (g5, DO n1 ax z1.length cx e1), (w.heap.size + 1, DO n2 a2 z2.length c2 e2), (w.heap.size, DO n1 a1 z1.length c1 e1)]) (by simp)
          have H5 := HF.head
          obtain ⟨⟨f0, f1, f2⟩, r0, r1, r2⟩ := cells3 HF g6 _ _ _ _ (.head _)
          replace lx := lie_set3P H5 (.bool n2) (.slice ay z2.length cy) (.int .i64 e2) lx
          replace ly := lie_set3P H5 (.bool n2) (.slice ay z2.length cy) (.int .i64 e2) ly
          replace HF := HF.fill3 (by omega) (by simp; omega) (.bool n2) (.slice ay z2.length cy) (.int .i64 e2)
          refine Drawn.one (j := 7) (by kernel_rfl) rfl (fun K hK => ?_)
          go_simp
          refine hK _ _ (HF.sub (by simp)) ?_
          clear hK K f0 f1 f2 r0 r1 r2 H5
          refine Drawn.done (by kernel_rfl) ?_
          try go_simp
          generalize hWf : ((((((W28.setCell ⟨g5, 0, none⟩ (.bool n1)).setCell ⟨g5, 1, none⟩ (.slice ax z1.length cx)).setCell ⟨g5, 2, none⟩ (.int .i64 e1)).setCell ⟨g6, 0, none⟩ (.bool n2)).setCell ⟨g6, 1, none⟩ (.slice ay z2.length cy)).setCell ⟨g6, 2, none⟩ (.int .i64 e2)) = Wf at *
          exact Rest g5 g6 Wf ax cx ay cy ⟨HF, lx, ly⟩
        · go_simp
          refine hK _ _ (HI.grownP (DO false none 0 0 0)) ?_
          clear hK K
          have o5 : w.heap.size + 1 < W26.heap.size := HF.lt (p := (w.heap.size + 1, DO n2 a2 z2.length c2 e2)) (by simp)
          have o56 : g6 < W26.heap.size := HF.lt (p := (g6, DO false none 0 0 0)) (by simp)
          replace HI := HI.grownP (DO false none 0 0 0)
          replace HF := HF.push (DO false none 0 0 0)
          replace lx := lx.below (below_alloc W26 (DO false none 0 0 0)) (Nat.le_refl _)
          generalize hg5 : W26.alloc (DO false none 0 0 0) = W29 at *
          clear hg5
          generalize hh5 : W26.heap.size = g5 at *
          clear hh5
          refine Drawn.one (j := 3) (by kernel_rfl) rfl (fun K hK => ?_)
          go_simp
          refine (lent4 n2 a2 c2 z2 e2 _ (l2.below HF.bel (Nat.le_refl _)) hm2 hn2).mono ?_
          rintro e W30 ⟨ay, cy, rfl, ly, hn, _⟩
          refine hK _ _ (HI.keep hn) ?_
          clear hK K
          replace HI := HI.keep hn
          replace HF := HF.keep hn
          replace lx := lx.below hn (Nat.le_refl _)
          clear hn
          replace HF := HF.sub (L' := [(g5, DO false none 0 0 0), (g6, DO false none 0 0 0), (w.heap.size + 1, DO n2 a2 z2.length c2 e2), (w.heap.size, DO n1 a1 z1.length c1 e1)]) (by simp)
          have H5 := HF.head
          obtain ⟨⟨f0, f1, f2⟩, r0, r1, r2⟩ := cells3 HF g5 _ _ _ _ (.head _)
          replace lx := lie_set3P H5 (.bool n1) (.slice ax z1.length cx) (.int .i64 e1) lx
          replace ly := lie_set3P H5 (.bool n1) (.slice ax z1.length cx) (.int .i64 e1) ly
          replace HF := HF.fill3 (by omega) (by simp; omega) (.bool n1) (.slice ax z1.length cx) (.int .i64 e1)
          refine Drawn.one (j := 6) (by kernel_rfl) rfl (fun K hK => ?_)
          go_simp
          refine hK _ _ (HF.sub (by simp)) ?_
          clear hK K f0 f1 f2 r0 r1 r2 H5
          replace HF := HF.sub (L' := [(g6, DO false none 0 0 0), (g5, DO n1 ax z1.length cx e1), (w.heap.size + 1, DO n2 a2 z2.length c2 e2), (w.heap.size, DO n1 a1 z1.length c1 e1)]) (by simp)
          have H5 := HF.head
          obtain ⟨⟨f0, f1, f2⟩, r0, r1, r2⟩ := cells3 HF g6 _ _ _ _ (.head _)
          replace lx := lie_set3P H5 (.bool n2) (.slice ay z2.length cy) (.int .i64 e2) lx
          replace ly := lie_set3P H5 (.bool n2) (.slice ay z2.length cy) (.int .i64 e2) ly
          replace HF := HF.fill3 (by omega) (by simp; omega) (.bool n2) (.slice ay z2.length cy) (.int .i64 e2)
          refine Drawn.one (j := 7) (by kernel_rfl) rfl (fun K hK => ?_)
          go_simp
          refine hK _ _ (HF.sub (by simp)) ?_
          clear hK K f0 f1 f2 r0 r1 r2 H5
          refine Drawn.done (by kernel_rfl) ?_
          try go_simp
          generalize hWf : ((((((W30.setCell ⟨g5, 0, none⟩ (.bool n1)).setCell ⟨g5, 1, none⟩ (.slice ax z1.length cx)).setCell ⟨g5, 2, none⟩ (.int .i64 e1)).setCell ⟨g6, 0, none⟩ (.bool n2)).setCell ⟨g6, 1, none⟩ (.slice ay z2.length cy)).setCell ⟨g6, 2, none⟩ (.int .i64 e2)) = Wf at *
          exact Rest g5 g6 Wf ax cx ay cy ⟨HF, lx, ly⟩
      · go_simp
        refine hK _ _ (HI.grownP (DO false none 0 0 0)) ?_
        clear hK K
        have o5 : w.heap.size + 1 < W25.heap.size := HF.lt (p := (w.heap.size + 1, DO n2 a2 z2.length c2 e2)) (by simp)
        have o56 : g6 < W25.heap.size := HF.lt (p := (g6, DO false none 0 0 0)) (by simp)
        replace HI := HI.grownP (DO false none 0 0 0)
        replace HF := HF.push (DO false none 0 0 0)
        generalize hg5 : W25.alloc (DO false none 0 0 0) = W31 at *
        clear hg5
        generalize hh5 : W25.heap.size = g5 at *
        clear hh5
        refine Drawn.one (j := 1) (by kernel_rfl) rfl (fun K hK => ?_)
        go_simp
        refine (lent4 n1 a1 c1 z1 e1 _ (l1.below HF.bel (Nat.le_refl _)) hm1 hn1).mono ?_
        rintro e W32 ⟨ax, cx, rfl, lx, hn, _⟩
        refine hK _ _ (HI.keep hn) ?_
        clear hK K
        replace HI := HI.keep hn
        replace HF := HF.keep hn
        clear hn
        refine Drawn.one (j := 3) (by kernel_rfl) rfl (fun K hK => ?_)
        go_simp
        refine (lent4 n2 a2 c2 z2 e2 _ (l2.below HF.bel (Nat.le_refl _)) hm2 hn2).mono ?_
        rintro e W33 ⟨ay, cy, rfl, ly, hn, _⟩
        refine hK _ _ (HI.keep hn) ?_
        clear hK K
        replace HI := HI.keep hn
        replace HF := HF.keep hn
        replace lx := lx.below hn (Nat.le_refl _)
        clear hn
        replace HF := HF.sub (L' := [(g5, DO false none 0 0 0), (g6, DO false none 0 0 0), (w.heap.size + 1, DO n2 a2 z2.length c2 e2), (w.heap.size, DO n1 a1 z1.length c1 e1)]) (by simp)
        have H5 := HF.head
        obtain ⟨⟨f0, f1, f2⟩, r0, r1, r2⟩ := cells3 HF g5 _ _ _ _ (.head _)
        replace lx := lie_set3P H5 (.bool n1) (.slice ax z1.length cx) (.int .i64 e1) lx
        replace ly := lie_set3P H5 (.bool n1) (.slice ax z1.length cx) (.int .i64 e1) ly
        replace HF := HF.fill3 (by omega) (by simp; omega) (.bool n1) (.slice ax z1.length cx) (.int .i64 e1)
        refine Drawn.one (j := 6) (by kernel_rfl) rfl (fun K hK => ?_)
        go_simp
        refine hK _ _ (HF.sub (by simp)) ?_
        clear hK K f0 f1 f2 r0 r1 r2 H5
        replace HF := HF.sub (L' := [(g6, DO false none 0 0 0), (g5, DO n1 ax z1.length cx e1), (w.heap.size + 1, DO n2 a2 z2.length c2 e2), (w.heap.size, DO n1 a1 z1.length c1 e1)]) (by simp)
        have H5 := HF.head
        obtain ⟨⟨f0, f1, f2⟩, r0, r1, r2⟩ := cells3 HF g6 _ _ _ _ (.head _)
        replace lx := lie_set3P H5 (.bool n2) (.slice ay z2.length cy) (.int .i64 e2) lx
        replace ly := lie_set3P H5 (.bool n2) (.slice ay z2.length cy) (.int .i64 e2) ly
        replace HF := HF.fill3 (by omega) (by simp; omega) (.bool n2) (.slice ay z2.length cy) (.int .i64 e2)
        refine Drawn.one (j := 7) (by kernel_rfl) rfl (fun K hK => ?_)
        go_simp
        refine hK _ _ (HF.sub (by simp)) ?_
        clear hK K f0 f1 f2 r0 r1 r2 H5
        refine Drawn.done (by kernel_rfl) ?_
        try go_simp
        generalize hWf : ((((((W33.setCell ⟨g5, 0, none⟩ (.bool n1)).setCell ⟨g5, 1, none⟩ (.slice ax z1.length cx)).setCell ⟨g5, 2, none⟩ (.int .i64 e1)).setCell ⟨g6, 0, none⟩ (.bool n2)).setCell ⟨g6, 1, none⟩ (.slice ay z2.length cy)).setCell ⟨g6, 2, none⟩ (.int .i64 e2)) = Wf at *
        exact Rest g5 g6 Wf ax cx ay cy ⟨HF, lx, ly⟩
  case rest =>
  intro g5 g6 W9 ax cx ay cy h
  obtain ⟨BX, lx, ly⟩ := h
  clear sh
  obtain ⟨⟨q0, q1, q2⟩, _⟩ := cells3 BX w.heap.size _ _ _ _ (show (w.heap.size, DO n1 a1 z1.length c1 e1) ∈ _ by simp)
  obtain ⟨⟨s0, s1, s2⟩, _⟩ := cells3 BX (w.heap.size + 1) _ _ _ _ (show (w.heap.size + 1, DO n2 a2 z2.length c2 e2) ∈ _ by simp)
  obtain ⟨⟨p0, p1, p2⟩, _⟩ := cells3 BX g5 _ _ _ _ (show (g5, DO n1 ax z1.length cx e1) ∈ _ by simp)
  obtain ⟨⟨t0, t1, t2⟩, _⟩ := cells3 BX g6 _ _ _ _ (show (g6, DO n2 ay z2.length cy e2) ∈ _ by simp)
  go_wp2_with fail
  refine ((HQ _ ax cx ay cy lx ly (hT.below BX.bel (Nat.le_refl _))).out).mono ?_
  rintro e v8 ⟨rfl, hk⟩
  replace BX := BX.keep hk
  replace lx := lx.below hk (Nat.le_refl _)
  replace ly := ly.below hk (Nat.le_refl _)
  clear hk q0 q1 q2 s0 s1 s2 p0 p1 p2 t0 t1 t2
  obtain ⟨⟨q0, q1, q2⟩, _⟩ := cells3 BX w.heap.size _ _ _ _ (show (w.heap.size, DO n1 a1 z1.length c1 e1) ∈ _ by simp)
  obtain ⟨⟨s0, s1, s2⟩, _⟩ := cells3 BX (w.heap.size + 1) _ _ _ _ (show (w.heap.size + 1, DO n2 a2 z2.length c2 e2) ∈ _ by simp)
  obtain ⟨⟨p0, p1, p2⟩, _⟩ := cells3 BX g5 _ _ _ _ (show (g5, DO n1 ax z1.length cx e1) ∈ _ by simp)
  obtain ⟨⟨t0, t1, t2⟩, _⟩ := cells3 BX g6 _ _ _ _ (show (g6, DO n2 ay z2.length cy e2) ∈ _ by simp)
  go_wp2_with fail
  replace BX := BX.push (.cells #[.bool n1, .slice a1 z1.length c1, .int .i64 e1, .bool n2, .slice a2 z2.length c2, .int .i64 e2] 26 (0, 0))
  replace lx := lx.below (below_alloc _ (.cells #[.bool n1, .slice a1 z1.length c1, .int .i64 e1, .bool n2, .slice a2 z2.length c2, .int .i64 e2] 26 (0, 0))) (Nat.le_refl _)
  replace ly := ly.below (below_alloc _ (.cells #[.bool n1, .slice a1 z1.length c1, .int .i64 e1, .bool n2, .slice a2 z2.length c2, .int .i64 e2] 26 (0, 0))) (Nat.le_refl _)
  clear q0 q1 q2 s0 s1 s2 p0 p1 p2 t0 t1 t2
  obtain ⟨⟨q0, q1, q2⟩, _⟩ := cells3 BX w.heap.size _ _ _ _ (show (w.heap.size, DO n1 a1 z1.length c1 e1) ∈ _ by simp)
  obtain ⟨⟨s0, s1, s2⟩, _⟩ := cells3 BX (w.heap.size + 1) _ _ _ _ (show (w.heap.size + 1, DO n2 a2 z2.length c2 e2) ∈ _ by simp)
  obtain ⟨⟨p0, p1, p2⟩, _⟩ := cells3 BX g5 _ _ _ _ (show (g5, DO n1 ax z1.length cx e1) ∈ _ by simp)
  obtain ⟨⟨t0, t1, t2⟩, _⟩ := cells3 BX g6 _ _ _ _ (show (g6, DO n2 ay z2.length cy e2) ∈ _ by simp)
  have A1 : At3 _ _ 0 n1 a1 z1.length c1 e1 := ⟨BX.cell _ _ _ (.head _) 0, BX.cell _ _ _ (.head _) 1, BX.cell _ _ _ (.head _) 2⟩
  have A2 : At3 _ _ 3 n2 a2 z2.length c2 e2 := ⟨BX.cell _ _ _ (.head _) 3, BX.cell _ _ _ (.head _) 4, BX.cell _ _ _ (.head _) 5⟩
  refine ((HO _ _ (u1.below BX.bel) (u2.below BX.bel) A1 A2).out).mono ?_
  rintro e v9 ⟨rfl, hk⟩
  replace BX := BX.keep hk
  replace lx := lx.below hk (Nat.le_refl _)
  replace ly := ly.below hk (Nat.le_refl _)
  clear hk A1 A2 q0 q1 q2 s0 s1 s2 p0 p1 p2 t0 t1 t2
  obtain ⟨⟨q0, q1, q2⟩, _⟩ := cells3 BX w.heap.size _ _ _ _ (show (w.heap.size, DO n1 a1 z1.length c1 e1) ∈ _ by simp)
  obtain ⟨⟨s0, s1, s2⟩, _⟩ := cells3 BX (w.heap.size + 1) _ _ _ _ (show (w.heap.size + 1, DO n2 a2 z2.length c2 e2) ∈ _ by simp)
  obtain ⟨⟨p0, p1, p2⟩, _⟩ := cells3 BX g5 _ _ _ _ (show (g5, DO n1 ax z1.length cx e1) ∈ _ by simp)
  obtain ⟨⟨t0, t1, t2⟩, _⟩ := cells3 BX g6 _ _ _ _ (show (g6, DO n2 ay z2.length cy e2) ∈ _ by simp)
  go_wp2_with fail
  refine (lRefused code _).mono ?_
  rintro e v10 ⟨rfl, hk⟩
  replace BX := BX.keep hk
  replace lx := lx.below hk (Nat.le_refl _)
  replace ly := ly.below hk (Nat.le_refl _)
  clear hk q0 q1 q2 s0 s1 s2 p0 p1 p2 t0 t1 t2
  obtain ⟨⟨q0, q1, q2⟩, _⟩ := cells3 BX w.heap.size _ _ _ _ (show (w.heap.size, DO n1 a1 z1.length c1 e1) ∈ _ by simp)
  obtain ⟨⟨s0, s1, s2⟩, _⟩ := cells3 BX (w.heap.size + 1) _ _ _ _ (show (w.heap.size + 1, DO n2 a2 z2.length c2 e2) ∈ _ by simp)
  obtain ⟨⟨p0, p1, p2⟩, _⟩ := cells3 BX g5 _ _ _ _ (show (g5, DO n1 ax z1.length cx e1) ∈ _ by simp)
  obtain ⟨⟨t0, t1, t2⟩, _⟩ := cells3 BX g6 _ _ _ _ (show (g6, DO n2 ay z2.length cy e2) ∈ _ by simp)
  go_wp2_with fail
  refine (lKnown4 _ (hT.below BX.bel (Nat.le_refl _))).mono ?_
  rintro e v11 ⟨rfl, hk⟩
  replace BX := BX.keep hk
  replace lx := lx.below hk (Nat.le_refl _)
  replace ly := ly.below hk (Nat.le_refl _)
  clear hk q0 q1 q2 s0 s1 s2 p0 p1 p2 t0 t1 t2
  obtain ⟨⟨q0, q1, q2⟩, _⟩ := cells3 BX w.heap.size _ _ _ _ (show (w.heap.size, DO n1 a1 z1.length c1 e1) ∈ _ by simp)
  obtain ⟨⟨s0, s1, s2⟩, _⟩ := cells3 BX (w.heap.size + 1) _ _ _ _ (show (w.heap.size + 1, DO n2 a2 z2.length c2 e2) ∈ _ by simp)
  obtain ⟨⟨p0, p1, p2⟩, _⟩ := cells3 BX g5 _ _ _ _ (show (g5, DO n1 ax z1.length cx e1) ∈ _ by simp)
  obtain ⟨⟨t0, t1, t2⟩, _⟩ := cells3 BX g6 _ _ _ _ (show (g6, DO n2 ay z2.length cy e2) ∈ _ by simp)
  go_wp2
  go_ret
  exact ⟨rfl, BX.bel⟩
end Go.Proofs.YtdnghibkagcbcaaGreatDoor
