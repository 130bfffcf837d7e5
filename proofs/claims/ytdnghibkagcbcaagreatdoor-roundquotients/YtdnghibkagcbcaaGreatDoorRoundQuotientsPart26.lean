import Derived.Test.YtdnghibkagcbcaaGreatDoorRoundQuotientsPart23
import Derived.Test.YtdnghibkagcbcaaGreatDoorRUr
import Derived.Test.YtdnghibkagcbcaaGreatDoorRUn
namespace Go.Proofs.YtdnghibkagcbcaaGreatDoor
open Go.RowKit Go.Wd Go.Box
set_option linter.unusedVariables false
set_option maxRecDepth 3000
set_option maxHeartbeats 20000000 in
theorem rq_told (m : Int) (n1 n2 : Bool) (a1 a2 : Option Addr) (c1 c2 : Nat) (z1 z2 : List Int) (e1 e2 : Int) (b : Bool) (W0 X0 s : Int) (hs : (s == 0) = false) (KQ : ∀ W ax cx ay cy, Lie W ax z1 → Lie W ay z2 → Tab W → Calls Tryz.prog 22 #[.int .u8 (fm b), .int .u8 m, dV n1 ax z1.length cx e1, dV n2 ay z2.length cy e2] W fun e w' => e = .returned (.tuple #[.int .u64 W0, .int .u8 X0, .int .i64 0]) ∧ Below W.heap.size W w') (KO : ∀ W g, DLie W a1 z1 → DLie W a2 z2 → At3 W g 0 n1 a1 z1.length c1 e1 → At3 W g 3 n2 a2 z2.length c2 e2 → Calls Tryz.prog 16 #[.int .u8 (fm b), .int .u8 m, .slice (some ⟨g, 0, none⟩) 2 2] W fun e w' => e = .returned (.int .i64 0) ∧ Below W.heap.size W w') (KS : ∀ W, Calls Tryz.prog 23 #[dV n2 a2 z2.length c2 e2] W fun e w' => e = .returned (.int .i64 s) ∧ Below W.heap.size W w') (KR : ∀ W, Lie W a1 z1 → Lie W a2 z2 → Calls Tryz.prog 24 #[.int .u8 (fm b), .int .u8 m, dV n1 a1 z1.length c1 e1, dV n2 a2 z2.length c2 e2] W fun e w' => e = .returned (.tuple #[.int .u64 W0, .int .u8 X0]) ∧ Below W.heap.size W w') (hl1 : (z1.length : Int) ≤ 300) (hl2 : (z2.length : Int) ≤ 300) (w : World) (u1 : DLie w a1 z1) (u2 : DLie w a2 z2) (hT : Tab w) (hm1 : z1.length ≤ 1000000) (hm2 : z2.length ≤ 1000000) (hn1 : a1 = none → c1 = 0) (hn2 : a2 = none → c2 = 0) :
    Calls Tryz.prog 4 #[.int .u8 (fm b), .int .u8 m, dV n1 a1 z1.length c1 e1, dV n2 a2 z2.length c2 e2] w fun e w' => e = .returned (.bool true) ∧ Below w.heap.size w w' := by
  have l1 := u1.lie
  have l2 := u2.lie
  have BX := ((Bx.nil w).push (DO n1 a1 z1.length c1 e1)).push (DO n2 a2 z2.length c2 e2)
  rw [show (w.alloc (DO n1 a1 z1.length c1 e1)).heap.size = w.heap.size + 1 by simp] at BX
  obtain ⟨⟨q0, q1, q2⟩, _⟩ := cells3 BX w.heap.size _ _ _ _ (show (w.heap.size, DO n1 a1 z1.length c1 e1) ∈ _ by simp)
  obtain ⟨⟨s0, s1, s2⟩, _⟩ := cells3 BX (w.heap.size + 1) _ _ _ _ (show (w.heap.size + 1, DO n2 a2 z2.length c2 e2) ∈ _ by simp)
  have HQ := fun W ax cx ay cy h1 h2 h3 => Hide.mk (KQ W ax cx ay cy h1 h2 h3)
  have HO := fun W g h1 h2 h3 h4 => Hide.mk (KO W g h1 h2 h3 h4)
  have HS := fun W => Hide.mk (KS W)
  have HR := fun W h1 h2 => Hide.mk (KR W h1 h2)
  clear KQ KO KS KR
  go_enter Tryz.func4, Tryz.ntmps4
  go_wp2_with fail
  refine (lLong4 n1 a1 z1.length c1 e1 _ false (decide_eq_false (by omega))).mono ?_
  rintro e v19 ⟨rfl, hk⟩
  replace BX := BX.keep hk
  clear hk q0 q1 q2 s0 s1 s2
  obtain ⟨⟨q0, q1, q2⟩, _⟩ := cells3 BX w.heap.size _ _ _ _ (show (w.heap.size, DO n1 a1 z1.length c1 e1) ∈ _ by simp)
  obtain ⟨⟨s0, s1, s2⟩, _⟩ := cells3 BX (w.heap.size + 1) _ _ _ _ (show (w.heap.size + 1, DO n2 a2 z2.length c2 e2) ∈ _ by simp)
  go_wp2_with fail
  refine (lLong4 n2 a2 z2.length c2 e2 _ false (decide_eq_false (by omega))).mono ?_
  rintro e v20 ⟨rfl, hk⟩
  replace BX := BX.keep hk
  clear hk q0 q1 q2 s0 s1 s2
  obtain ⟨⟨q0, q1, q2⟩, _⟩ := cells3 BX w.heap.size _ _ _ _ (show (w.heap.size, DO n1 a1 z1.length c1 e1) ∈ _ by simp)
  obtain ⟨⟨s0, s1, s2⟩, _⟩ := cells3 BX (w.heap.size + 1) _ _ _ _ (show (w.heap.size + 1, DO n2 a2 z2.length c2 e2) ∈ _ by simp)
  go_wp2_with fail
  clear q0 q1 q2 s0 s1 s2
  have B1 := BX
  clear BX
  generalize v20 = w1 at *
  have HF := B1.drew
  have HI := HF
  have sh := fun W (hW : Bx w [(w.heap.size + 1, DO n2 a2 z2.length c2 e2), (w.heap.size, DO n1 a1 z1.length c1 e1)] W) => And.intro (cells3 hW (w.heap.size + 1) _ _ _ _ (.head _)).1 (cells3 hW w.heap.size _ _ _ _ (.tail _ (.head _))).1
  refine Drawn.enter (Bx w [(w.heap.size + 1, DO n2 a2 z2.length c2 e2), (w.heap.size, DO n1 a1 z1.length c1 e1)]) (by kernel_rfl) ?_
  refine Drawn.tk (i := 0) (v := ?v550) rfl (fun W hW => ?_) HI ?_
  rotate_left
  · have ⟨⟨s0, s1, s2⟩, q0, q3, q4⟩ := sh W hW
    go_simp <;> exact rfl
  refine Drawn.tk (i := 2) (v := ?v551) rfl (fun W hW => ?_) HI ?_
  rotate_left
  · have ⟨⟨s0, s1, s2⟩, q0, q3, q4⟩ := sh W hW
    go_simp <;> exact rfl
  generalize hdr : w1.drew = W00 at *
  clear hdr
  refine suppose7Q (F := fun g5 g6 W ax cx ay cy => Bx w [(g6, DO n2 ay z2.length cy e2), (g5, DO n1 ax z1.length cx e1), (w.heap.size + 1, DO n2 a2 z2.length c2 e2), (w.heap.size, DO n1 a1 z1.length c1 e1)] W ∧ Lie W ax z1 ∧ Lie W ay z2) (G := ?G) (fun Rest => ?main) ?rest
  case main =>
    refine Drawn.trioQ (i := 1) (j := 4) (k := 5) (by kernel_rfl) rfl rfl rfl (fun K hK => ?_) (fun K hK => ?_) (fun K hK => ?_)
    · go_simp
      refine (lent4 n1 a1 c1 z1 e1 _ (l1.below HF.bel (Nat.le_refl _)) hm1 hn1).mono ?_
      rintro e W0 ⟨ax, cx, rfl, lx, hn, _⟩
      refine hK _ _ (HI.keep hn) ?_
      clear hK K
      replace HI := HI.keep hn
      replace HF := HF.keep hn
      clear hn
      refine Drawn.trioQ (i := 3) (j := 4) (k := 5) (by kernel_rfl) rfl rfl rfl (fun K hK => ?_) (fun K hK => ?_) (fun K hK => ?_)
      · go_simp
        refine (lent4 n2 a2 c2 z2 e2 _ (l2.below HF.bel (Nat.le_refl _)) hm2 hn2).mono ?_
        rintro e W1 ⟨ay, cy, rfl, ly, hn, _⟩
        refine hK _ _ (HI.keep hn) ?_
        clear hK K
        replace HI := HI.keep hn
        replace HF := HF.keep hn
        replace lx := lx.below hn (Nat.le_refl _)
        clear hn
        refine Drawn.pair (i := 4) (j := 5) (by kernel_rfl) rfl rfl (fun K hK => ?_) (fun K hK => ?_)
        · go_simp
          refine hK _ _ (HI.grownP (DO false none 0 0 0)) ?_
          clear hK K
          have o5 : w.heap.size + 1 < W1.heap.size := HF.lt (p := (w.heap.size + 1, DO n2 a2 z2.length c2 e2)) (by simp)
          replace HI := HI.grownP (DO false none 0 0 0)
          replace HF := HF.push (DO false none 0 0 0)
          replace lx := lx.below (below_alloc W1 (DO false none 0 0 0)) (Nat.le_refl _)
          replace ly := ly.below (below_alloc W1 (DO false none 0 0 0)) (Nat.le_refl _)
          generalize hg5 : W1.alloc (DO false none 0 0 0) = W2 at *
          clear hg5
          generalize hh5 : W1.heap.size = g5 at *
          clear hh5
          refine Drawn.one (j := 5) (by kernel_rfl) rfl (fun K hK => ?_)
          go_simp
          refine hK _ _ (HI.grownP (DO false none 0 0 0)) ?_
          clear hK K
          have o6 : w.heap.size + 1 < W2.heap.size := HF.lt (p := (w.heap.size + 1, DO n2 a2 z2.length c2 e2)) (by simp)
          have o56 : g5 < W2.heap.size := HF.lt (p := (g5, DO false none 0 0 0)) (by simp)
          replace HI := HI.grownP (DO false none 0 0 0)
          replace HF := HF.push (DO false none 0 0 0)
          replace lx := lx.below (below_alloc W2 (DO false none 0 0 0)) (Nat.le_refl _)
          replace ly := ly.below (below_alloc W2 (DO false none 0 0 0)) (Nat.le_refl _)
          generalize hg6 : W2.alloc (DO false none 0 0 0) = W3 at *
          clear hg6
          generalize hh6 : W2.heap.size = g6 at *
          clear hh6
          replace HF := HF.sub (L' := [(g5, DO false none 0 0 0), (g6, DO false none 0 0 0), (w.heap.size + 1, DO n2 a2 z2.length c2 e2), (w.heap.size, DO n1 a1 z1.length c1 e1)]) (by simp)
          have H5 := HF.head
          obtain ⟨⟨f0, f1, f2⟩, r0, r1, r2⟩ := cells3 HF g5 _ _ _ _ (.head _)
          replace lx := lie_set3P H5 (.bool n1) (.slice ax z1.length cx) (.int .i64 e1) lx
          replace ly := lie_set3P H5 (.bool n1) (.slice ax z1.length cx) (.int .i64 e1) ly
          replace HF := HF.fill3 (by omega) (by simp; omega) (.bool n1) (.slice ax z1.length cx) (.int .i64 e1)
          refine Drawn.one (j := 6) (by kernel_rfl) rfl (fun K hK => ?_)
          go_simp
          refine hK _ _ (HF.sub (by simp)) ?_
          clear hK K f0 f1 f2 r0 r1 r2 H5
          replace HF := HF.sub (L' := [(g6, DO false none 0 0 0), (g5, DO n1 ax z1.length cx e1), (w.heap.size + 1, DO n2 a2 z2.length c2 e2), (w.heap.size, DO n1 a1 z1.length c1 e1)]) (by simp)
          have H5 := HF.head
          obtain ⟨⟨f0, f1, f2⟩, r0, r1, r2⟩ := cells3 HF g6 _ _ _ _ (.head _)
          replace lx := lie_set3P H5 (.bool n2) (.slice ay z2.length cy) (.int .i64 e2) lx
          replace ly := lie_set3P H5 (.bool n2) (.slice ay z2.length cy) (.int .i64 e2) ly
          replace HF := HF.fill3 (by omega) (by simp; omega) (.bool n2) (.slice ay z2.length cy) (.int .i64 e2)
          refine Drawn.one (j := 7) (by kernel_rfl) rfl (fun K hK => ?_)
          go_simp
          refine hK _ _ (HF.sub (by simp)) ?_
          clear hK K f0 f1 f2 r0 r1 r2 H5
          refine Drawn.done (by kernel_rfl) ?_
          try go_simp
          generalize hWf : ((((((W3.setCell ⟨g5, 0, none⟩ (.bool n1)).setCell ⟨g5, 1, none⟩ (.slice ax z1.length cx)).setCell ⟨g5, 2, none⟩ (.int .i64 e1)).setCell ⟨g6, 0, none⟩ (.bool n2)).setCell ⟨g6, 1, none⟩ (.slice ay z2.length cy)).setCell ⟨g6, 2, none⟩ (.int .i64 e2)) = Wf at *
          exact Rest g5 g6 Wf ax cx ay cy ⟨HF, lx, ly⟩
        · go_simp
          refine hK _ _ (HI.grownP (DO false none 0 0 0)) ?_
          clear hK K
          have o6 : w.heap.size + 1 < W1.heap.size := HF.lt (p := (w.heap.size + 1, DO n2 a2 z2.length c2 e2)) (by simp)
          replace HI := HI.grownP (DO false none 0 0 0)
          replace HF := HF.push (DO false none 0 0 0)
          replace lx := lx.below (below_alloc W1 (DO false none 0 0 0)) (Nat.le_refl _)
          replace ly := ly.below (below_alloc W1 (DO false none 0 0 0)) (Nat.le_refl _)
          generalize hg6 : W1.alloc (DO false none 0 0 0) = W4 at *
          clear hg6
          generalize hh6 : W1.heap.size = g6 at *
          clear hh6
          refine Drawn.one (j := 4) (by kernel_rfl) rfl (fun K hK => ?_)
          go_simp
          refine hK _ _ (HI.grownP (DO false none 0 0 0)) ?_
          clear hK K
          have o5 : w.heap.size + 1 < W4.heap.size := HF.lt (p := (w.heap.size + 1, DO n2 a2 z2.length c2 e2)) (by simp)
          have o56 : g6 < W4.heap.size := HF.lt (p := (g6, DO false none 0 0 0)) (by simp)
          replace HI := HI.grownP (DO false none 0 0 0)
          replace HF := HF.push (DO false none 0 0 0)
          replace lx := lx.below (below_alloc W4 (DO false none 0 0 0)) (Nat.le_refl _)
          replace ly := ly.below (below_alloc W4 (DO false none 0 0 0)) (Nat.le_refl _)
          generalize hg5 : W4.alloc (DO false none 0 0 0) = W5 at *
          clear hg5
          generalize hh5 : W4.heap.size = g5 at *
          clear hh5
          replace HF := HF.sub (L' := [(g5, DO false none 0 0 0), (g6, DO false none 0 0 0), (w.heap.size + 1, DO n2 a2 z2.length c2 e2), (w.heap.size, DO n1 a1 z1.length c1 e1)]) (by simp)
          have H5 := HF.head
          obtain ⟨⟨f0, f1, f2⟩, r0, r1, r2⟩ := cells3 HF g5 _ _ _ _ (.head _)
          replace lx := lie_set3P H5 (.bool n1) (.slice ax z1.length cx) (.int .i64 e1) lx
          replace ly := lie_set3P H5 (.bool n1) (.slice ax z1.length cx) (.int .i64 e1) ly
          replace HF := HF.fill3 (by omega) (by simp; omega) (.bool n1) (.slice ax z1.length cx) (.int .i64 e1)
          refine Drawn.one (j := 6) (by kernel_rfl) rfl (fun K hK => ?_)
          go_simp
          refine hK _ _ (HF.sub (by simp)) ?_
          clear hK K f0 f1 f2 r0 r1 r2 H5
          replace HF := HF.sub (L' := [(g6, DO false none 0 0 0), (g5, DO n1 ax z1.length cx e1), (w.heap.size + 1, DO n2 a2 z2.length c2 e2), (w.heap.size, DO n1 a1 z1.length c1 e1)]) (by simp)
          have H5 := HF.head
          obtain ⟨⟨f0, f1, f2⟩, r0, r1, r2⟩ := cells3 HF g6 _ _ _ _ (.head _)
          replace lx := lie_set3P H5 (.bool n2) (.slice ay z2.length cy) (.int .i64 e2) lx
          replace ly := lie_set3P H5 (.bool n2) (.slice ay z2.length cy) (.int .i64 e2) ly
          replace HF := HF.fill3 (by omega) (by simp; omega) (.bool n2) (.slice ay z2.length cy) (.int .i64 e2)
          refine Drawn.one (j := 7) (by kernel_rfl) rfl (fun K hK => ?_)
          go_simp
          refine hK _ _ (HF.sub (by simp)) ?_
          clear hK K f0 f1 f2 r0 r1 r2 H5
          refine Drawn.done (by kernel_rfl) ?_
          try go_simp
          generalize hWf : ((((((W5.setCell ⟨g5, 0, none⟩ (.bool n1)).setCell ⟨g5, 1, none⟩ (.slice ax z1.length cx)).setCell ⟨g5, 2, none⟩ (.int .i64 e1)).setCell ⟨g6, 0, none⟩ (.bool n2)).setCell ⟨g6, 1, none⟩ (.slice ay z2.length cy)).setCell ⟨g6, 2, none⟩ (.int .i64 e2)) = Wf at *
          exact Rest g5 g6 Wf ax cx ay cy ⟨HF, lx, ly⟩
      · go_simp
        refine hK _ _ (HI.grownP (DO false none 0 0 0)) ?_
        clear hK K
        have o5 : w.heap.size + 1 < W0.heap.size := HF.lt (p := (w.heap.size + 1, DO n2 a2 z2.length c2 e2)) (by simp)
        replace HI := HI.grownP (DO false none 0 0 0)
        replace HF := HF.push (DO false none 0 0 0)
        replace lx := lx.below (below_alloc W0 (DO false none 0 0 0)) (Nat.le_refl _)
        generalize hg5 : W0.alloc (DO false none 0 0 0) = W6 at *
        clear hg5
        generalize hh5 : W0.heap.size = g5 at *
        clear hh5
        refine Drawn.pair (i := 3) (j := 5) (by kernel_rfl) rfl rfl (fun K hK => ?_) (fun K hK => ?_)
        · go_simp
          refine (lent4 n2 a2 c2 z2 e2 _ (l2.below HF.bel (Nat.le_refl _)) hm2 hn2).mono ?_
          rintro e W7 ⟨ay, cy, rfl, ly, hn, _⟩
          refine hK _ _ (HI.keep hn) ?_
          clear hK K
          replace HI := HI.keep hn
          replace HF := HF.keep hn
          replace lx := lx.below hn (Nat.le_refl _)
          clear hn
          refine Drawn.one (j := 5) (by kernel_rfl) rfl (fun K hK => ?_)
          go_simp
          refine hK _ _ (HI.grownP (DO false none 0 0 0)) ?_
          clear hK K
          have o6 : w.heap.size + 1 < W7.heap.size := HF.lt (p := (w.heap.size + 1, DO n2 a2 z2.length c2 e2)) (by simp)
          have o56 : g5 < W7.heap.size := HF.lt (p := (g5, DO false none 0 0 0)) (by simp)
          replace HI := HI.grownP (DO false none 0 0 0)
          replace HF := HF.push (DO false none 0 0 0)
          replace lx := lx.below (below_alloc W7 (DO false none 0 0 0)) (Nat.le_refl _)
          replace ly := ly.below (below_alloc W7 (DO false none 0 0 0)) (Nat.le_refl _)
          generalize hg6 : W7.alloc (DO false none 0 0 0) = W8 at *
          clear hg6
          generalize hh6 : W7.heap.size = g6 at *
          clear hh6
          replace HF := HF.sub (L' := [(g5, DO false none 0 0 0), (g6, DO false none 0 0 0), (w.heap.size + 1, DO n2 a2 z2.length c2 e2), (w.heap.size, DO n1 a1 z1.length c1 e1)]) (by simp)
          have H5 := HF.head
          obtain ⟨⟨f0, f1, f2⟩, r0, r1, r2⟩ := cells3 HF g5 _ _ _ _ (.head _)
          replace lx := lie_set3P H5 (.bool n1) (.slice ax z1.length cx) (.int .i64 e1) lx
          replace ly := lie_set3P H5 (.bool n1) (.slice ax z1.length cx) (.int .i64 e1) ly
          replace HF := HF.fill3 (by omega) (by simp; omega) (.bool n1) (.slice ax z1.length cx) (.int .i64 e1)
          refine Drawn.one (j := 6) (by kernel_rfl) rfl (fun K hK => ?_)
          go_simp
          refine hK _ _ (HF.sub (by simp)) ?_
          clear hK K f0 f1 f2 r0 r1 r2 H5
          replace HF := HF.sub (L' := [(g6, DO false none 0 0 0), (g5, DO n1 ax z1.length cx e1), (w.heap.size + 1, DO n2 a2 z2.length c2 e2), (w.heap.size, DO n1 a1 z1.length c1 e1)]) (by simp)
          have H5 := HF.head
          obtain ⟨⟨f0, f1, f2⟩, r0, r1, r2⟩ := cells3 HF g6 _ _ _ _ (.head _)
          replace lx := lie_set3P H5 (.bool n2) (.slice ay z2.length cy) (.int .i64 e2) lx
          replace ly := lie_set3P H5 (.bool n2) (.slice ay z2.length cy) (.int .i64 e2) ly
          replace HF := HF.fill3 (by omega) (by simp; omega) (.bool n2) (.slice ay z2.length cy) (.int .i64 e2)
          refine Drawn.one (j := 7) (by kernel_rfl) rfl (fun K hK => ?_)
          go_simp
          refine hK _ _ (HF.sub (by simp)) ?_
          clear hK K f0 f1 f2 r0 r1 r2 H5
          refine Drawn.done (by kernel_rfl) ?_
          try go_simp
          generalize hWf : ((((((W8.setCell ⟨g5, 0, none⟩ (.bool n1)).setCell ⟨g5, 1, none⟩ (.slice ax z1.length cx)).setCell ⟨g5, 2, none⟩ (.int .i64 e1)).setCell ⟨g6, 0, none⟩ (.bool n2)).setCell ⟨g6, 1, none⟩ (.slice ay z2.length cy)).setCell ⟨g6, 2, none⟩ (.int .i64 e2)) = Wf at *
          exact Rest g5 g6 Wf ax cx ay cy ⟨HF, lx, ly⟩
        · go_simp
          refine hK _ _ (HI.grownP (DO false none 0 0 0)) ?_
          clear hK K
          have o6 : w.heap.size + 1 < W6.heap.size := HF.lt (p := (w.heap.size + 1, DO n2 a2 z2.length c2 e2)) (by simp)
          have o56 : g5 < W6.heap.size := HF.lt (p := (g5, DO false none 0 0 0)) (by simp)
          replace HI := HI.grownP (DO false none 0 0 0)
          replace HF := HF.push (DO false none 0 0 0)
          replace lx := lx.below (below_alloc W6 (DO false none 0 0 0)) (Nat.le_refl _)
          generalize hg6 : W6.alloc (DO false none 0 0 0) = W9 at *
          clear hg6
          generalize hh6 : W6.heap.size = g6 at *
          clear hh6
          refine Drawn.one (j := 3) (by kernel_rfl) rfl (fun K hK => ?_)
          go_simp
          refine (lent4 n2 a2 c2 z2 e2 _ (l2.below HF.bel (Nat.le_refl _)) hm2 hn2).mono ?_
          rintro e W10 ⟨ay, cy, rfl, ly, hn, _⟩
          refine hK _ _ (HI.keep hn) ?_
          clear hK K
          replace HI := HI.keep hn
          replace HF := HF.keep hn
          replace lx := lx.below hn (Nat.le_refl _)
          clear hn
          replace HF := HF.sub (L' := [(g5, DO false none 0 0 0), (g6, DO false none 0 0 0), (w.heap.size + 1, DO n2 a2 z2.length c2 e2), (w.heap.size, DO n1 a1 z1.length c1 e1)]) (by simp)
          have H5 := HF.head
          obtain ⟨⟨f0, f1, f2⟩, r0, r1, r2⟩ := cells3 HF g5 _ _ _ _ (.head _)
          replace lx := lie_set3P H5 (.bool n1) (.slice ax z1.length cx) (.int .i64 e1) lx
          replace ly := lie_set3P H5 (.bool n1) (.slice ax z1.length cx) (.int .i64 e1) ly
          replace HF := HF.fill3 (by omega) (by simp; omega) (.bool n1) (.slice ax z1.length cx) (.int .i64 e1)
          refine Drawn.one (j := 6) (by kernel_rfl) rfl (fun K hK => ?_)
          go_simp
          refine hK _ _ (HF.sub (by simp)) ?_
          clear hK K f0 f1 f2 r0 r1 r2 H5
          replace HF := HF.sub (L' := [(g6, DO false none 0 0 0), (g5, DO n1 ax z1.length cx e1), (w.heap.size + 1, DO n2 a2 z2.length c2 e2), (w.heap.size, DO n1 a1 z1.length c1 e1)]) (by simp)
          have H5 := HF.head
          obtain ⟨⟨f0, f1, f2⟩, r0, r1, r2⟩ := cells3 HF g6 _ _ _ _ (.head _)
          replace lx := lie_set3P H5 (.bool n2) (.slice ay z2.length cy) (.int .i64 e2) lx
          replace ly := lie_set3P H5 (.bool n2) (.slice ay z2.length cy) (.int .i64 e2) ly
          replace HF := HF.fill3 (by omega) (by simp; omega) (.bool n2) (.slice ay z2.length cy) (.int .i64 e2)
          refine Drawn.one (j := 7) (by kernel_rfl) rfl (fun K hK => ?_)
          go_simp
          refine hK _ _ (HF.sub (by simp)) ?_
          clear hK K f0 f1 f2 r0 r1 r2 H5
          refine Drawn.done (by kernel_rfl) ?_
          try go_simp
          generalize hWf : ((((((W10.setCell ⟨g5, 0, none⟩ (.bool n1)).setCell ⟨g5, 1, none⟩ (.slice ax z1.length cx)).setCell ⟨g5, 2, none⟩ (.int .i64 e1)).setCell ⟨g6, 0, none⟩ (.bool n2)).setCell ⟨g6, 1, none⟩ (.slice ay z2.length cy)).setCell ⟨g6, 2, none⟩ (.int .i64 e2)) = Wf at *
          exact Rest g5 g6 Wf ax cx ay cy ⟨HF, lx, ly⟩
      · go_simp
        refine hK _ _ (HI.grownP (DO false none 0 0 0)) ?_
        clear hK K
        have o6 : w.heap.size + 1 < W0.heap.size := HF.lt (p := (w.heap.size + 1, DO n2 a2 z2.length c2 e2)) (by simp)
        replace HI := HI.grownP (DO false none 0 0 0)
        replace HF := HF.push (DO false none 0 0 0)
        replace lx := lx.below (below_alloc W0 (DO false none 0 0 0)) (Nat.le_refl _)
        generalize hg6 : W0.alloc (DO false none 0 0 0) = W11 at *
        clear hg6
        generalize hh6 : W0.heap.size = g6 at *
        clear hh6
        refine Drawn.pair (i := 3) (j := 4) (by kernel_rfl) rfl rfl (fun K hK => ?_) (fun K hK => ?_)
        · go_simp
          refine (lent4 n2 a2 c2 z2 e2 _ (l2.below HF.bel (Nat.le_refl _)) hm2 hn2).mono ?_
          rintro e W12 ⟨ay, cy, rfl, ly, hn, _⟩
          refine hK _ _ (HI.keep hn) ?_
          clear hK K
          replace HI := HI.keep hn
          replace HF := HF.keep hn
          replace lx := lx.below hn (Nat.le_refl _)
          clear hn
          refine Drawn.one (j := 4) (by kernel_rfl) rfl (fun K hK => ?_)
          go_simp
          refine hK _ _ (HI.grownP (DO false none 0 0 0)) ?_
          clear hK K
          have o5 : w.heap.size + 1 < W12.heap.size := HF.lt (p := (w.heap.size + 1, DO n2 a2 z2.length c2 e2)) (by simp)
          have o56 : g6 < W12.heap.size := HF.lt (p := (g6, DO false none 0 0 0)) (by simp)
          replace HI := HI.grownP (DO false none 0 0 0)
          replace HF := HF.push (DO false none 0 0 0)
          replace lx := lx.below (below_alloc W12 (DO false none 0 0 0)) (Nat.le_refl _)
          replace ly := ly.below (below_alloc W12 (DO false none 0 0 0)) (Nat.le_refl _)
          generalize hg5 : W12.alloc (DO false none 0 0 0) = W13 at *
          clear hg5
          generalize hh5 : W12.heap.size = g5 at *
          clear hh5
          replace HF := HF.sub (L' := [(g5, DO false none 0 0 0), (g6, DO false none 0 0 0), (w.heap.size + 1, DO n2 a2 z2.length c2 e2), (w.heap.size, DO n1 a1 z1.length c1 e1)]) (by simp)
          have H5 := HF.head
          obtain ⟨⟨f0, f1, f2⟩, r0, r1, r2⟩ := cells3 HF g5 _ _ _ _ (.head _)
          replace lx := lie_set3P H5 (.bool n1) (.slice ax z1.length cx) (.int .i64 e1) lx
          replace ly := lie_set3P H5 (.bool n1) (.slice ax z1.length cx) (.int .i64 e1) ly
          replace HF := HF.fill3 (by omega) (by simp; omega) (.bool n1) (.slice ax z1.length cx) (.int .i64 e1)
          refine Drawn.one (j := 6) (by kernel_rfl) rfl (fun K hK => ?_)
          go_simp
          refine hK _ _ (HF.sub (by simp)) ?_
          clear hK K f0 f1 f2 r0 r1 r2 H5
          replace HF := HF.sub (L' := [(g6, DO false none 0 0 0), (g5, DO n1 ax z1.length cx e1), (w.heap.size + 1, DO n2 a2 z2.length c2 e2), (w.heap.size, DO n1 a1 z1.length c1 e1)]) (by simp)
          have H5 := HF.head
          obtain ⟨⟨f0, f1, f2⟩, r0, r1, r2⟩ := cells3 HF g6 _ _ _ _ (.head _)
          replace lx := lie_set3P H5 (.bool n2) (.slice ay z2.length cy) (.int .i64 e2) lx
          replace ly := lie_set3P H5 (.bool n2) (.slice ay z2.length cy) (.int .i64 e2) ly
          replace HF := HF.fill3 (by omega) (by simp; omega) (.bool n2) (.slice ay z2.length cy) (.int .i64 e2)
          refine Drawn.one (j := 7) (by kernel_rfl) rfl (fun K hK => ?_)
          go_simp
          refine hK _ _ (HF.sub (by simp)) ?_
          clear hK K f0 f1 f2 r0 r1 r2 H5
          refine Drawn.done (by kernel_rfl) ?_
          try go_simp
          generalize hWf : ((((((W13.setCell ⟨g5, 0, none⟩ (.bool n1)).setCell ⟨g5, 1, none⟩ (.slice ax z1.length cx)).setCell ⟨g5, 2, none⟩ (.int .i64 e1)).setCell ⟨g6, 0, none⟩ (.bool n2)).setCell ⟨g6, 1, none⟩ (.slice ay z2.length cy)).setCell ⟨g6, 2, none⟩ (.int .i64 e2)) = Wf at *
          exact Rest g5 g6 Wf ax cx ay cy ⟨HF, lx, ly⟩
        · go_simp
          refine hK _ _ (HI.grownP (DO false none 0 0 0)) ?_
          clear hK K
          have o5 : w.heap.size + 1 < W11.heap.size := HF.lt (p := (w.heap.size + 1, DO n2 a2 z2.length c2 e2)) (by simp)
          have o56 : g6 < W11.heap.size := HF.lt (p := (g6, DO false none 0 0 0)) (by simp)
          replace HI := HI.grownP (DO false none 0 0 0)
          replace HF := HF.push (DO false none 0 0 0)
          replace lx := lx.below (below_alloc W11 (DO false none 0 0 0)) (Nat.le_refl _)
          generalize hg5 : W11.alloc (DO false none 0 0 0) = W14 at *
          clear hg5
          generalize hh5 : W11.heap.size = g5 at *
          clear hh5
          refine Drawn.one (j := 3) (by kernel_rfl) rfl (fun K hK => ?_)
          go_simp
          refine (lent4 n2 a2 c2 z2 e2 _ (l2.below HF.bel (Nat.le_refl _)) hm2 hn2).mono ?_
          rintro e W15 ⟨ay, cy, rfl, ly, hn, _⟩
          refine hK _ _ (HI.keep hn) ?_
          clear hK K
          replace HI := HI.keep hn
          replace HF := HF.keep hn
          replace lx := lx.below hn (Nat.le_refl _)
          clear hn
          replace HF := HF.sub (L' := [(g5, DO false none 0 0 0), (g6, DO false none 0 0 0), (w.heap.size + 1, DO n2 a2 z2.length c2 e2), (w.heap.size, DO n1 a1 z1.length c1 e1)]) (by simp)
          have H5 := HF.head
          obtain ⟨⟨f0, f1, f2⟩, r0, r1, r2⟩ := cells3 HF g5 _ _ _ _ (.head _)
          replace lx := lie_set3P H5 (.bool n1) (.slice ax z1.length cx) (.int .i64 e1) lx
          replace ly := lie_set3P H5 (.bool n1) (.slice ax z1.length cx) (.int .i64 e1) ly
          replace HF := HF.fill3 (by omega) (by simp; omega) (.bool n1) (.slice ax z1.length cx) (.int .i64 e1)
          refine Drawn.one (j := 6) (by kernel_rfl) rfl (fun K hK => ?_)
          go_simp
          refine hK _ _ (HF.sub (by simp)) ?_
          clear hK K f0 f1 f2 r0 r1 r2 H5
          replace HF := HF.sub (L' := [(g6, DO false none 0 0 0), (g5, DO n1 ax z1.length cx e1), (w.heap.size + 1, DO n2 a2 z2.length c2 e2), (w.heap.size, DO n1 a1 z1.length c1 e1)]) (by simp)
          have H5 := HF.head
          obtain ⟨⟨f0, f1, f2⟩, r0, r1, r2⟩ := cells3 HF g6 _ _ _ _ (.head _)
          replace lx := lie_set3P H5 (.bool n2) (.slice ay z2.length cy) (.int .i64 e2) lx
          replace ly := lie_set3P H5 (.bool n2) (.slice ay z2.length cy) (.int .i64 e2) ly
          replace HF := HF.fill3 (by omega) (by simp; omega) (.bool n2) (.slice ay z2.length cy) (.int .i64 e2)
          refine Drawn.one (j := 7) (by kernel_rfl) rfl (fun K hK => ?_)
          go_simp
          refine hK _ _ (HF.sub (by simp)) ?_
          clear hK K f0 f1 f2 r0 r1 r2 H5
          refine Drawn.done (by kernel_rfl) ?_
          try go_simp
          generalize hWf : ((((((W15.setCell ⟨g5, 0, none⟩ (.bool n1)).setCell ⟨g5, 1, none⟩ (.slice ax z1.length cx)).setCell ⟨g5, 2, none⟩ (.int .i64 e1)).setCell ⟨g6, 0, none⟩ (.bool n2)).setCell ⟨g6, 1, none⟩ (.slice ay z2.length cy)).setCell ⟨g6, 2, none⟩ (.int .i64 e2)) = Wf at *
          exact Rest g5 g6 Wf ax cx ay cy ⟨HF, lx, ly⟩
    · go_simp
      refine hK _ _ (HI.grownP (DO false none 0 0 0)) ?_
      clear hK K
      have o5 : w.heap.size + 1 < W00.heap.size := HF.lt (p := (w.heap.size + 1, DO n2 a2 z2.length c2 e2)) (by simp)
      replace HI := HI.grownP (DO false none 0 0 0)
      replace HF := HF.push (DO false none 0 0 0)
      generalize hg5 : W00.alloc (DO false none 0 0 0) = W16 at *
      clear hg5
      generalize hh5 : W00.heap.size = g5 at *
      clear hh5
      refine Drawn.pair (i := 1) (j := 5) (by kernel_rfl) rfl rfl (fun K hK => ?_) (fun K hK => ?_)
      · go_simp
        refine (lent4 n1 a1 c1 z1 e1 _ (l1.below HF.bel (Nat.le_refl _)) hm1 hn1).mono ?_
        rintro e W17 ⟨ax, cx, rfl, lx, hn, _⟩
        refine hK _ _ (HI.keep hn) ?_
        clear hK K
        replace HI := HI.keep hn
        replace HF := HF.keep hn
        clear hn
        refine Drawn.pair (i := 3) (j := 5) (by kernel_rfl) rfl rfl (fun K hK => ?_) (fun K hK => ?_)
        · go_simp
          refine (lent4 n2 a2 c2 z2 e2 _ (l2.below HF.bel (Nat.le_refl _)) hm2 hn2).mono ?_
          rintro e W18 ⟨ay, cy, rfl, ly, hn, _⟩
          refine hK _ _ (HI.keep hn) ?_
          clear hK K
          replace HI := HI.keep hn
          replace HF := HF.keep hn
          replace lx := lx.below hn (Nat.le_refl _)
          clear hn
          refine Drawn.one (j := 5) (by kernel_rfl) rfl (fun K hK => ?_)
          go_simp
          refine hK _ _ (HI.grownP (DO false none 0 0 0)) ?_
          clear hK K
          have o6 : w.heap.size + 1 < W18.heap.size := HF.lt (p := (w.heap.size + 1, DO n2 a2 z2.length c2 e2)) (by simp)
          have o56 : g5 < W18.heap.size := HF.lt (p := (g5, DO false none 0 0 0)) (by simp)
          replace HI := HI.grownP (DO false none 0 0 0)
          replace HF := HF.push (DO false none 0 0 0)
          replace lx := lx.below (below_alloc W18 (DO false none 0 0 0)) (Nat.le_refl _)
          replace ly := ly.below (below_alloc W18 (DO false none 0 0 0)) (Nat.le_refl _)
          generalize hg6 : W18.alloc (DO false none 0 0 0) = W19 at *
          clear hg6
          generalize hh6 : W18.heap.size = g6 at *
          clear hh6
          replace HF := HF.sub (L' := [(g5, DO false none 0 0 0), (g6, DO false none 0 0 0), (w.heap.size + 1, DO n2 a2 z2.length c2 e2), (w.heap.size, DO n1 a1 z1.length c1 e1)]) (by simp)
          have H5 := HF.head
          obtain ⟨⟨f0, f1, f2⟩, r0, r1, r2⟩ := cells3 HF g5 _ _ _ _ (.head _)
          replace lx := lie_set3P H5 (.bool n1) (.slice ax z1.length cx) (.int .i64 e1) lx
          replace ly := lie_set3P H5 (.bool n1) (.slice ax z1.length cx) (.int .i64 e1) ly
          replace HF := HF.fill3 (by omega) (by simp; omega) (.bool n1) (.slice ax z1.length cx) (.int .i64 e1)
          refine Drawn.one (j := 6) (by kernel_rfl) rfl (fun K hK => ?_)
          go_simp
          refine hK _ _ (HF.sub (by simp)) ?_
          clear hK K f0 f1 f2 r0 r1 r2 H5
          replace HF := HF.sub (L' := [(g6, DO false none 0 0 0), (g5, DO n1 ax z1.length cx e1), (w.heap.size + 1, DO n2 a2 z2.length c2 e2), (w.heap.size, DO n1 a1 z1.length c1 e1)]) (by simp)
          have H5 := HF.head
          obtain ⟨⟨f0, f1, f2⟩, r0, r1, r2⟩ := cells3 HF g6 _ _ _ _ (.head _)
          replace lx := lie_set3P H5 (.bool n2) (.slice ay z2.length cy) (.int .i64 e2) lx
          replace ly := lie_set3P H5 (.bool n2) (.slice ay z2.length cy) (.int .i64 e2) ly
          replace HF := HF.fill3 (by omega) (by simp; omega) (.bool n2) (.slice ay z2.length cy) (.int .i64 e2)
          refine Drawn.one (j := 7) (by kernel_rfl) rfl (fun K hK => ?_)
          go_simp
          refine hK _ _ (HF.sub (by simp)) ?_
          clear hK K f0 f1 f2 r0 r1 r2 H5
          refine Drawn.done (by kernel_rfl) ?_
          try go_simp
          generalize hWf : ((((((W19.setCell ⟨g5, 0, none⟩ (.bool n1)).setCell ⟨g5, 1, none⟩ (.slice ax z1.length cx)).setCell ⟨g5, 2, none⟩ (.int .i64 e1)).setCell ⟨g6, 0, none⟩ (.bool n2)).setCell ⟨g6, 1, none⟩ (.slice ay z2.length cy)).setCell ⟨g6, 2, none⟩ (.int .i64 e2)) = Wf at *
          exact Rest g5 g6 Wf ax cx ay cy ⟨HF, lx, ly⟩
        · go_simp
          refine hK _ _ (HI.grownP (DO false none 0 0 0)) ?_
          clear hK K
          have o6 : w.heap.size + 1 < W17.heap.size := HF.lt (p := (w.heap.size + 1, DO n2 a2 z2.length c2 e2)) (by simp)
          have o56 : g5 < W17.heap.size := HF.lt (p := (g5, DO false none 0 0 0)) (by simp)
          replace HI := HI.grownP (DO false none 0 0 0)
          replace HF := HF.push (DO false none 0 0 0)
          replace lx := lx.below (below_alloc W17 (DO false none 0 0 0)) (Nat.le_refl _)
          generalize hg6 : W17.alloc (DO false none 0 0 0) = W20 at *
          clear hg6
          generalize hh6 : W17.heap.size = g6 at *
          clear hh6
          refine Drawn.one (j := 3) (by kernel_rfl) rfl (fun K hK => ?_)
          go_simp
          refine (lent4 n2 a2 c2 z2 e2 _ (l2.below HF.bel (Nat.le_refl _)) hm2 hn2).mono ?_
          rintro e W21 ⟨ay, cy, rfl, ly, hn, _⟩
          refine hK _ _ (HI.keep hn) ?_
          clear hK K
          replace HI := HI.keep hn
          replace HF := HF.keep hn
          replace lx := lx.below hn (Nat.le_refl _)
          clear hn
          replace HF := HF.sub (L' := [(g5, DO false none 0 0 0), (g6, DO false none 0 0 0), (w.heap.size + 1, DO n2 a2 z2.length c2 e2), (w.heap.size, DO n1 a1 z1.length c1 e1)]) (by simp)
          have H5 := HF.head
          obtain ⟨⟨f0, f1, f2⟩, r0, r1, r2⟩ := cells3 HF g5 _ _ _ _ (.head _)
          replace lx := lie_set3P H5 (.bool n1) (.slice ax z1.length cx) (.int .i64 e1) lx
          replace ly := lie_set3P H5 (.bool n1) (.slice ax z1.length cx) (.int .i64 e1) ly
          replace HF := HF.fill3 (by omega) (by simp; omega) (.bool n1) (.slice ax z1.length cx) (.int .i64 e1)
          refine Drawn.one (j := 6) (by kernel_rfl) rfl (fun K hK => ?_)
          go_simp
          refine hK _ _ (HF.sub (by simp)) ?_
          clear hK K f0 f1 f2 r0 r1 r2 H5
          replace HF := HF.sub (L' := [(g6, DO false none 0 0 0), (g5, DO n1 ax z1.length cx e1), (w.heap.size + 1, DO n2 a2 z2.length c2 e2), (w.heap.size, DO n1 a1 z1.length c1 e1)]) (by simp)
          have H5 := HF.head
          obtain ⟨⟨f0, f1, f2⟩, r0, r1, r2⟩ := cells3 HF g6 _ _ _ _ (.head _)
          replace lx := lie_set3P H5 (.bool n2) (.slice ay z2.length cy) (.int .i64 e2) lx
          replace ly := lie_set3P H5 (.bool n2) (.slice ay z2.length cy) (.int .i64 e2) ly
          replace HF := HF.fill3 (by omega) (by simp; omega) (.bool n2) (.slice ay z2.length cy) (.int .i64 e2)
          refine Drawn.one (j := 7) (by kernel_rfl) rfl (fun K hK => ?_)
          go_simp
          refine hK _ _ (HF.sub (by simp)) ?_
          clear hK K f0 f1 f2 r0 r1 r2 H5
          refine Drawn.done (by kernel_rfl) ?_
          try go_simp
          generalize hWf : ((((((W21.setCell ⟨g5, 0, none⟩ (.bool n1)).setCell ⟨g5, 1, none⟩ (.slice ax z1.length cx)).setCell ⟨g5, 2, none⟩ (.int .i64 e1)).setCell ⟨g6, 0, none⟩ (.bool n2)).setCell ⟨g6, 1, none⟩ (.slice ay z2.length cy)).setCell ⟨g6, 2, none⟩ (.int .i64 e2)) = Wf at *
          exact Rest g5 g6 Wf ax cx ay cy ⟨HF, lx, ly⟩
      · go_simp
        refine hK _ _ (HI.grownP (DO false none 0 0 0)) ?_
        clear hK K
        have o6 : w.heap.size + 1 < W16.heap.size := HF.lt (p := (w.heap.size + 1, DO n2 a2 z2.length c2 e2)) (by simp)
        have o56 : g5 < W16.heap.size := HF.lt (p := (g5, DO false none 0 0 0)) (by simp)
        replace HI := HI.grownP (DO false none 0 0 0)
        replace HF := HF.push (DO false none 0 0 0)
        generalize hg6 : W16.alloc (DO false none 0 0 0) = W22 at *
        clear hg6
        generalize hh6 : W16.heap.size = g6 at *
        clear hh6
        refine Drawn.one (j := 1) (by kernel_rfl) rfl (fun K hK => ?_)
        go_simp
        refine (lent4 n1 a1 c1 z1 e1 _ (l1.below HF.bel (Nat.le_refl _)) hm1 hn1).mono ?_
        rintro e W23 ⟨ax, cx, rfl, lx, hn, _⟩
        refine hK _ _ (HI.keep hn) ?_
        clear hK K
        replace HI := HI.keep hn
        replace HF := HF.keep hn
        clear hn
        refine Drawn.one (j := 3) (by kernel_rfl) rfl (fun K hK => ?_)
        go_simp
        refine (lent4 n2 a2 c2 z2 e2 _ (l2.below HF.bel (Nat.le_refl _)) hm2 hn2).mono ?_
        rintro e W24 ⟨ay, cy, rfl, ly, hn, _⟩
        refine hK _ _ (HI.keep hn) ?_
        clear hK K
        replace HI := HI.keep hn
        replace HF := HF.keep hn
        replace lx := lx.below hn (Nat.le_refl _)
        clear hn
        replace HF := HF.sub (L' := [(g5, DO false none 0 0 0), (g6, DO false none 0 0 0), (w.heap.size + 1, DO n2 a2 z2.length c2 e2), (w.heap.size, DO n1 a1 z1.length c1 e1)]) (by simp)
        have H5 := HF.head
        obtain ⟨⟨f0, f1, f2⟩, r0, r1, r2⟩ := cells3 HF g5 _ _ _ _ (.head _)
        replace lx := lie_set3P H5 (.bool n1) (.slice ax z1.length cx) (.int .i64 e1) lx
        replace ly := lie_set3P H5 (.bool n1) (.slice ax z1.length cx) (.int .i64 e1) ly
        replace HF := HF.fill3 (by omega) (by simp; omega) (.bool n1) (.slice ax z1.length cx) (.int .i64 e1)
        refine Drawn.one (j := 6) (by kernel_rfl) rfl (fun K hK => ?_)
        go_simp
        refine hK _ _ (HF.sub (by simp)) ?_
        clear hK K f0 f1 f2 r0 r1 r2 H5
        replace HF := HF.sub (L' := [(g6, DO false none 0 0 0), (g5, DO n1 ax z1.length cx e1), (w.heap.size + 1, DO n2 a2 z2.length c2 e2), (w.heap.size, DO n1 a1 z1.length c1 e1)]) (by simp)
        have H5 := HF.head
        obtain ⟨⟨f0, f1, f2⟩, r0, r1, r2⟩ := cells3 HF g6 _ _ _ _ (.head _)
        replace lx := lie_set3P H5 (.bool n2) (.slice ay z2.length cy) (.int .i64 e2) lx
        replace ly := lie_set3P H5 (.bool n2) (.slice ay z2.length cy) (.int .i64 e2) ly
        replace HF := HF.fill3 (by omega) (by simp; omega) (.bool n2) (.slice ay z2.length cy) (.int .i64 e2)
        refine Drawn.one (j := 7) (by kernel_rfl) rfl (fun K hK => ?_)
        go_simp
        refine hK _ _ (HF.sub (by simp)) ?_
        clear hK K f0 f1 f2 r0 r1 r2 H5
        refine Drawn.done (by kernel_rfl) ?_
        try go_simp
        generalize hWf : ((((((W24.setCell ⟨g5, 0, none⟩ (.bool n1)).setCell ⟨g5, 1, none⟩ (.slice ax z1.length cx)).setCell ⟨g5, 2, none⟩ (.int .i64 e1)).setCell ⟨g6, 0, none⟩ (.bool n2)).setCell ⟨g6, 1, none⟩ (.slice ay z2.length cy)).setCell ⟨g6, 2, none⟩ (.int .i64 e2)) = Wf at *
        exact Rest g5 g6 Wf ax cx ay cy ⟨HF, lx, ly⟩
    · go_simp
      refine hK _ _ (HI.grownP (DO false none 0 0 0)) ?_
      clear hK K
      have o6 : w.heap.size + 1 < W00.heap.size := HF.lt (p := (w.heap.size + 1, DO n2 a2 z2.length c2 e2)) (by simp)
      replace HI := HI.grownP (DO false none 0 0 0)
      replace HF := HF.push (DO false none 0 0 0)
      generalize hg6 : W00.alloc (DO false none 0 0 0) = W25 at *
      clear hg6
      generalize hh6 : W00.heap.size = g6 at *
      clear hh6
      refine Drawn.pair (i := 1) (j := 4) (by kernel_rfl) rfl rfl (fun K hK => ?_) (fun K hK => ?_)
      · go_simp
        refine (lent4 n1 a1 c1 z1 e1 _ (l1.below HF.bel (Nat.le_refl _)) hm1 hn1).mono ?_
        rintro e W26 ⟨ax, cx, rfl, lx, hn, _⟩
        refine hK _ _ (HI.keep hn) ?_
        clear hK K
        replace HI := HI.keep hn
        replace HF := HF.keep hn
        clear hn
        refine Drawn.pair (i := 3) (j := 4) (by kernel_rfl) rfl rfl (fun K hK => ?_) (fun K hK => ?_)
        · go_simp
          refine (lent4 n2 a2 c2 z2 e2 _ (l2.below HF.bel (Nat.le_refl _)) hm2 hn2).mono ?_
          rintro e W27 ⟨ay, cy, rfl, ly, hn, _⟩
          refine hK _ _ (HI.keep hn) ?_
          clear hK K
          replace HI := HI.keep hn
          replace HF := HF.keep hn
          replace lx := lx.below hn (Nat.le_refl _)
          clear hn
          refine Drawn.one (j := 4) (by kernel_rfl) rfl (fun K hK => ?_)
          go_simp
          refine hK _ _ (HI.grownP (DO false none 0 0 0)) ?_
          clear hK K
          have o5 : w.heap.size + 1 < W27.heap.size := HF.lt (p := (w.heap.size + 1, DO n2 a2 z2.length c2 e2)) (by simp)
          have o56 : g6 < W27.heap.size := HF.lt (p := (g6, DO false none 0 0 0)) (by simp)
          replace HI := HI.grownP (DO false none 0 0 0)
          replace HF := HF.push (DO false none 0 0 0)
          replace lx := lx.below (below_alloc W27 (DO false none 0 0 0)) (Nat.le_refl _)
          replace ly := ly.below (below_alloc W27 (DO false none 0 0 0)) (Nat.le_refl _)
          generalize hg5 : W27.alloc (DO false none 0 0 0) = W28 at *
          clear hg5
          generalize hh5 : W27.heap.size = g5 at *
          clear hh5
          replace HF := HF.sub (L' := [(g5, DO false none 0 0 0), (g6, DO false none 0 0 0), (w.heap.size + 1, DO n2 a2 z2.length c2 e2), (w.heap.size, DO n1 a1 z1.length c1 e1)]) (by simp)
          have H5 := HF.head
          obtain ⟨⟨f0, f1, f2⟩, r0, r1, r2⟩ := cells3 HF g5 _ _ _ _ (.head _)
          replace lx := lie_set3P H5 (.bool n1) (.slice ax z1.length cx) (.int .i64 e1) lx
          replace ly := lie_set3P H5 (.bool n1) (.slice ax z1.length cx) (.int .i64 e1) ly
          replace HF := HF.fill3 (by omega) (by simp; omega) (.bool n1) (.slice ax z1.length cx) (.int .i64 e1)
          refine Drawn.one (j := 6) (by kernel_rfl) rfl (fun K hK => ?_)
          go_simp
          refine hK _ _ (HF.sub (by simp)) ?_
          clear hK K f0 f1 f2 r0 r1 r2 H5
          replace HF := HF.sub (L' := [(g6, DO false none 0 0 0), (g5, DO n1 ax z1.length cx e1), (w.heap.size + 1, DO n2 a2 z2.length c2 e2), (w.heap.size, DO n1 a1 z1.length c1 e1)]) (by simp)
          have H5 := HF.head
          obtain ⟨⟨f0, f1, f2⟩, r0, r1, r2⟩ := cells3 HF g6 _ _ _ _ (.head _)
          replace lx := lie_set3P H5 (.bool n2) (.slice ay z2.length cy) (.int .i64 e2) lx
          replace ly := lie_set3P H5 (.bool n2) (.slice ay z2.length cy) (.int .i64 e2) ly
          replace HF := HF.fill3 (by omega) (by simp; omega) (.bool n2) (.slice ay z2.length cy) (.int .i64 e2)
          refine Drawn.one (j := 7) (by kernel_rfl) rfl (fun K hK => ?_)
          go_simp
          refine hK _ _ (HF.sub (by simp)) ?_
          clear hK K f0 f1 f2 r0 r1 r2 H5
          refine Drawn.done (by kernel_rfl) ?_
          try go_simp
          generalize hWf : ((((((W28.setCell ⟨g5, 0, none⟩ (.bool n1)).setCell ⟨g5, 1, none⟩ (.slice ax z1.length cx)).setCell ⟨g5, 2, none⟩ (.int .i64 e1)).setCell ⟨g6, 0, none⟩ (.bool n2)).setCell ⟨g6, 1, none⟩ (.slice ay z2.length cy)).setCell ⟨g6, 2, none⟩ (.int .i64 e2)) = Wf at *
          exact Rest g5 g6 Wf ax cx ay cy ⟨HF, lx, ly⟩
        · go_simp
          refine hK _ _ (HI.grownP (DO false none 0 0 0)) ?_
          clear hK K
          have o5 : w.heap.size + 1 < W26.heap.size := HF.lt (p := (w.heap.size + 1, DO n2 a2 z2.length c2 e2)) (by simp)
          have o56 : g6 < W26.heap.size := HF.lt (p := (g6, DO false none 0 0 0)) (by simp)
          replace HI := HI.grownP (DO false none 0 0 0)
          replace HF := HF.push (DO false none 0 0 0)
          replace lx := lx.below (below_alloc W26 (DO false none 0 0 0)) (Nat.le_refl _)
          generalize hg5 : W26.alloc (DO false none 0 0 0) = W29 at *
          clear hg5
          generalize hh5 : W26.heap.size = g5 at *
          clear hh5
          refine Drawn.one (j := 3) (by kernel_rfl) rfl (fun K hK => ?_)
          go_simp
          refine (lent4 n2 a2 c2 z2 e2 _ (l2.below HF.bel (Nat.le_refl _)) hm2 hn2).mono ?_
          rintro e W30 ⟨ay, cy, rfl, ly, hn, _⟩
          refine hK _ _ (HI.keep hn) ?_
          clear hK K
          replace HI := HI.keep hn
          replace HF := HF.keep hn
          replace lx := lx.below hn (Nat.le_refl _)
          clear hn
          replace HF := HF.sub (L' := [(g5, DO false none 0 0 0), (g6, DO false none 0 0 0), (w.heap.size + 1, DO n2 a2 z2.length c2 e2), (w.heap.size, DO n1 a1 z1.length c1 e1)]) (by simp)
          have H5 := HF.head
          obtain ⟨⟨f0, f1, f2⟩, r0, r1, r2⟩ := cells3 HF g5 _ _ _ _ (.head _)
          replace lx := lie_set3P H5 (.bool n1) (.slice ax z1.length cx) (.int .i64 e1) lx
          replace ly := lie_set3P H5 (.bool n1) (.slice ax z1.length cx) (.int .i64 e1) ly
          replace HF := HF.fill3 (by omega) (by simp; omega) (.bool n1) (.slice ax z1.length cx) (.int .i64 e1)
          refine Drawn.one (j := 6) (by kernel_rfl) rfl (fun K hK => ?_)
          go_simp
          refine hK _ _ (HF.sub (by simp)) ?_
          clear hK K f0 f1 f2 r0 r1 r2 H5
          replace HF := HF.sub (L' := [(g6, DO false none 0 0 0), (g5, DO n1 ax z1.length cx e1), (w.heap.size + 1, DO n2 a2 z2.length c2 e2), (w.heap.size, DO n1 a1 z1.length c1 e1)]) (by simp)
          have H5 := HF.head
          obtain ⟨⟨f0, f1, f2⟩, r0, r1, r2⟩ := cells3 HF g6 _ _ _ _ (.head _)
          replace lx := lie_set3P H5 (.bool n2) (.slice ay z2.length cy) (.int .i64 e2) lx
          replace ly := lie_set3P H5 (.bool n2) (.slice ay z2.length cy) (.int .i64 e2) ly
          replace HF := HF.fill3 (by omega) (by simp; omega) (.bool n2) (.slice ay z2.length cy) (.int .i64 e2)
          refine Drawn.one (j := 7) (by kernel_rfl) rfl (fun K hK => ?_)
          go_simp
          refine hK _ _ (HF.sub (by simp)) ?_
          clear hK K f0 f1 f2 r0 r1 r2 H5
          refine Drawn.done (by kernel_rfl) ?_
          try go_simp
          generalize hWf : ((((((W30.setCell ⟨g5, 0, none⟩ (.bool n1)).setCell ⟨g5, 1, none⟩ (.slice ax z1.length cx)).setCell ⟨g5, 2, none⟩ (.int .i64 e1)).setCell ⟨g6, 0, none⟩ (.bool n2)).setCell ⟨g6, 1, none⟩ (.slice ay z2.length cy)).setCell ⟨g6, 2, none⟩ (.int .i64 e2)) = Wf at *
          exact Rest g5 g6 Wf ax cx ay cy ⟨HF, lx, ly⟩
      · go_simp
        refine hK _ _ (HI.grownP (DO false none 0 0 0)) ?_
        clear hK K
        have o5 : w.heap.size + 1 < W25.heap.size := HF.lt (p := (w.heap.size + 1, DO n2 a2 z2.length c2 e2)) (by simp)
        have o56 : g6 < W25.heap.size := HF.lt (p := (g6, DO false none 0 0 0)) (by simp)
        replace HI := HI.grownP (DO false none 0 0 0)
        replace HF := HF.push (DO false none 0 0 0)
        generalize hg5 : W25.alloc (DO false none 0 0 0) = W31 at *
        clear hg5
        generalize hh5 : W25.heap.size = g5 at *
        clear hh5
        refine Drawn.one (j := 1) (by kernel_rfl) rfl (fun K hK => ?_)
        go_simp
        refine (lent4 n1 a1 c1 z1 e1 _ (l1.below HF.bel (Nat.le_refl _)) hm1 hn1).mono ?_
        rintro e W32 ⟨ax, cx, rfl, lx, hn, _⟩
        refine hK _ _ (HI.keep hn) ?_
        clear hK K
        replace HI := HI.keep hn
        replace HF := HF.keep hn
        clear hn
        refine Drawn.one (j := 3) (by kernel_rfl) rfl (fun K hK => ?_)
        go_simp
        refine (lent4 n2 a2 c2 z2 e2 _ (l2.below HF.bel (Nat.le_refl _)) hm2 hn2).mono ?_
        rintro e W33 ⟨ay, cy, rfl, ly, hn, _⟩
        refine hK _ _ (HI.keep hn) ?_
        clear hK K
        replace HI := HI.keep hn
        replace HF := HF.keep hn
        replace lx := lx.below hn (Nat.le_refl _)
        clear hn
        replace HF := HF.sub (L' := [(g5, DO false none 0 0 0), (g6, DO false none 0 0 0), (w.heap.size + 1, DO n2 a2 z2.length c2 e2), (w.heap.size, DO n1 a1 z1.length c1 e1)]) (by simp)
        have H5 := HF.head
        obtain ⟨⟨f0, f1, f2⟩, r0, r1, r2⟩ := cells3 HF g5 _ _ _ _ (.head _)
        replace lx := lie_set3P H5 (.bool n1) (.slice ax z1.length cx) (.int .i64 e1) lx
        replace ly := lie_set3P H5 (.bool n1) (.slice ax z1.length cx) (.int .i64 e1) ly
        replace HF := HF.fill3 (by omega) (by simp; omega) (.bool n1) (.slice ax z1.length cx) (.int .i64 e1)
        refine Drawn.one (j := 6) (by kernel_rfl) rfl (fun K hK => ?_)
        go_simp
        refine hK _ _ (HF.sub (by simp)) ?_
        clear hK K f0 f1 f2 r0 r1 r2 H5
        replace HF := HF.sub (L' := [(g6, DO false none 0 0 0), (g5, DO n1 ax z1.length cx e1), (w.heap.size + 1, DO n2 a2 z2.length c2 e2), (w.heap.size, DO n1 a1 z1.length c1 e1)]) (by simp)
        have H5 := HF.head
        obtain ⟨⟨f0, f1, f2⟩, r0, r1, r2⟩ := cells3 HF g6 _ _ _ _ (.head _)
        replace lx := lie_set3P H5 (.bool n2) (.slice ay z2.length cy) (.int .i64 e2) lx
        replace ly := lie_set3P H5 (.bool n2) (.slice ay z2.length cy) (.int .i64 e2) ly
        replace HF := HF.fill3 (by omega) (by simp; omega) (.bool n2) (.slice ay z2.length cy) (.int .i64 e2)
        refine Drawn.one (j := 7) (by kernel_rfl) rfl (fun K hK => ?_)
        go_simp
        refine hK _ _ (HF.sub (by simp)) ?_
        clear hK K f0 f1 f2 r0 r1 r2 H5
        refine Drawn.done (by kernel_rfl) ?_
        try go_simp
        generalize hWf : ((((((W33.setCell ⟨g5, 0, none⟩ (.bool n1)).setCell ⟨g5, 1, none⟩ (.slice ax z1.length cx)).setCell ⟨g5, 2, none⟩ (.int .i64 e1)).setCell ⟨g6, 0, none⟩ (.bool n2)).setCell ⟨g6, 1, none⟩ (.slice ay z2.length cy)).setCell ⟨g6, 2, none⟩ (.int .i64 e2)) = Wf at *
        exact Rest g5 g6 Wf ax cx ay cy ⟨HF, lx, ly⟩
  case rest =>
  intro g5 g6 W9 ax cx ay cy h
  obtain ⟨BX, lx, ly⟩ := h
  clear sh
  obtain ⟨⟨q0, q1, q2⟩, _⟩ := cells3 BX w.heap.size _ _ _ _ (show (w.heap.size, DO n1 a1 z1.length c1 e1) ∈ _ by simp)
  obtain ⟨⟨s0, s1, s2⟩, _⟩ := cells3 BX (w.heap.size + 1) _ _ _ _ (show (w.heap.size + 1, DO n2 a2 z2.length c2 e2) ∈ _ by simp)
  obtain ⟨⟨p0, p1, p2⟩, _⟩ := cells3 BX g5 _ _ _ _ (show (g5, DO n1 ax z1.length cx e1) ∈ _ by simp)
  obtain ⟨⟨t0, t1, t2⟩, _⟩ := cells3 BX g6 _ _ _ _ (show (g6, DO n2 ay z2.length cy e2) ∈ _ by simp)
  go_wp2_with fail
  refine ((HQ _ ax cx ay cy lx ly (hT.below BX.bel (Nat.le_refl _))).out).mono ?_
  rintro e v21 ⟨rfl, hk⟩
  replace BX := BX.keep hk
  replace lx := lx.below hk (Nat.le_refl _)
  replace ly := ly.below hk (Nat.le_refl _)
  clear hk q0 q1 q2 s0 s1 s2 p0 p1 p2 t0 t1 t2
  obtain ⟨⟨q0, q1, q2⟩, _⟩ := cells3 BX w.heap.size _ _ _ _ (show (w.heap.size, DO n1 a1 z1.length c1 e1) ∈ _ by simp)
  obtain ⟨⟨s0, s1, s2⟩, _⟩ := cells3 BX (w.heap.size + 1) _ _ _ _ (show (w.heap.size + 1, DO n2 a2 z2.length c2 e2) ∈ _ by simp)
  obtain ⟨⟨p0, p1, p2⟩, _⟩ := cells3 BX g5 _ _ _ _ (show (g5, DO n1 ax z1.length cx e1) ∈ _ by simp)
  obtain ⟨⟨t0, t1, t2⟩, _⟩ := cells3 BX g6 _ _ _ _ (show (g6, DO n2 ay z2.length cy e2) ∈ _ by simp)
  go_wp2_with fail
  replace BX := BX.push (.cells #[.bool n1, .slice a1 z1.length c1, .int .i64 e1, .bool n2, .slice a2 z2.length c2, .int .i64 e2] 26 (0, 0))
  replace lx := lx.below (below_alloc _ (.cells #[.bool n1, .slice a1 z1.length c1, .int .i64 e1, .bool n2, .slice a2 z2.length c2, .int .i64 e2] 26 (0, 0))) (Nat.le_refl _)
  replace ly := ly.below (below_alloc _ (.cells #[.bool n1, .slice a1 z1.length c1, .int .i64 e1, .bool n2, .slice a2 z2.length c2, .int .i64 e2] 26 (0, 0))) (Nat.le_refl _)
  clear q0 q1 q2 s0 s1 s2 p0 p1 p2 t0 t1 t2
  obtain ⟨⟨q0, q1, q2⟩, _⟩ := cells3 BX w.heap.size _ _ _ _ (show (w.heap.size, DO n1 a1 z1.length c1 e1) ∈ _ by simp)
  obtain ⟨⟨s0, s1, s2⟩, _⟩ := cells3 BX (w.heap.size + 1) _ _ _ _ (show (w.heap.size + 1, DO n2 a2 z2.length c2 e2) ∈ _ by simp)
  obtain ⟨⟨p0, p1, p2⟩, _⟩ := cells3 BX g5 _ _ _ _ (show (g5, DO n1 ax z1.length cx e1) ∈ _ by simp)
  obtain ⟨⟨t0, t1, t2⟩, _⟩ := cells3 BX g6 _ _ _ _ (show (g6, DO n2 ay z2.length cy e2) ∈ _ by simp)
  have A1 : At3 _ _ 0 n1 a1 z1.length c1 e1 := ⟨BX.cell _ _ _ (.head _) 0, BX.cell _ _ _ (.head _) 1, BX.cell _ _ _ (.head _) 2⟩
  have A2 : At3 _ _ 3 n2 a2 z2.length c2 e2 := ⟨BX.cell _ _ _ (.head _) 3, BX.cell _ _ _ (.head _) 4, BX.cell _ _ _ (.head _) 5⟩
  refine ((HO _ _ (u1.below BX.bel) (u2.below BX.bel) A1 A2).out).mono ?_
  rintro e v22 ⟨rfl, hk⟩
  replace BX := BX.keep hk
  replace lx := lx.below hk (Nat.le_refl _)
  replace ly := ly.below hk (Nat.le_refl _)
  clear hk A1 A2 q0 q1 q2 s0 s1 s2 p0 p1 p2 t0 t1 t2
  obtain ⟨⟨q0, q1, q2⟩, _⟩ := cells3 BX w.heap.size _ _ _ _ (show (w.heap.size, DO n1 a1 z1.length c1 e1) ∈ _ by simp)
  obtain ⟨⟨s0, s1, s2⟩, _⟩ := cells3 BX (w.heap.size + 1) _ _ _ _ (show (w.heap.size + 1, DO n2 a2 z2.length c2 e2) ∈ _ by simp)
  obtain ⟨⟨p0, p1, p2⟩, _⟩ := cells3 BX g5 _ _ _ _ (show (g5, DO n1 ax z1.length cx e1) ∈ _ by simp)
  obtain ⟨⟨t0, t1, t2⟩, _⟩ := cells3 BX g6 _ _ _ _ (show (g6, DO n2 ay z2.length cy e2) ∈ _ by simp)
  go_wp2_with fail
  refine ((HS _).out).mono ?_
  rintro e v23 ⟨rfl, hk⟩
  replace BX := BX.keep hk
  replace lx := lx.below hk (Nat.le_refl _)
  replace ly := ly.below hk (Nat.le_refl _)
  clear hk q0 q1 q2 s0 s1 s2 p0 p1 p2 t0 t1 t2
  obtain ⟨⟨q0, q1, q2⟩, _⟩ := cells3 BX w.heap.size _ _ _ _ (show (w.heap.size, DO n1 a1 z1.length c1 e1) ∈ _ by simp)
  obtain ⟨⟨s0, s1, s2⟩, _⟩ := cells3 BX (w.heap.size + 1) _ _ _ _ (show (w.heap.size + 1, DO n2 a2 z2.length c2 e2) ∈ _ by simp)
  obtain ⟨⟨p0, p1, p2⟩, _⟩ := cells3 BX g5 _ _ _ _ (show (g5, DO n1 ax z1.length cx e1) ∈ _ by simp)
  obtain ⟨⟨t0, t1, t2⟩, _⟩ := cells3 BX g6 _ _ _ _ (show (g6, DO n2 ay z2.length cy e2) ∈ _ by simp)
  go_wp2_with fail
  refine ((HR _ (u1.below BX.bel).lie (u2.below BX.bel).lie).out).mono ?_
  rintro e v24 ⟨rfl, hk⟩
  replace BX := BX.keep hk
  replace lx := lx.below hk (Nat.le_refl _)
  replace ly := ly.below hk (Nat.le_refl _)
  clear hk q0 q1 q2 s0 s1 s2 p0 p1 p2 t0 t1 t2
  obtain ⟨⟨q0, q1, q2⟩, _⟩ := cells3 BX w.heap.size _ _ _ _ (show (w.heap.size, DO n1 a1 z1.length c1 e1) ∈ _ by simp)
  obtain ⟨⟨s0, s1, s2⟩, _⟩ := cells3 BX (w.heap.size + 1) _ _ _ _ (show (w.heap.size + 1, DO n2 a2 z2.length c2 e2) ∈ _ by simp)
  obtain ⟨⟨p0, p1, p2⟩, _⟩ := cells3 BX g5 _ _ _ _ (show (g5, DO n1 ax z1.length cx e1) ∈ _ by simp)
  obtain ⟨⟨t0, t1, t2⟩, _⟩ := cells3 BX g6 _ _ _ _ (show (g6, DO n2 ay z2.length cy e2) ∈ _ by simp)
  go_wp2_with fail
  refine (lTold W0 X0 _).mono ?_
  rintro e v25 ⟨rfl, hk⟩
  replace BX := BX.keep hk
  replace lx := lx.below hk (Nat.le_refl _)
  replace ly := ly.below hk (Nat.le_refl _)
  clear hk q0 q1 q2 s0 s1 s2 p0 p1 p2 t0 t1 t2
  obtain ⟨⟨q0, q1, q2⟩, _⟩ := cells3 BX w.heap.size _ _ _ _ (show (w.heap.size, DO n1 a1 z1.length c1 e1) ∈ _ by simp)
  obtain ⟨⟨s0, s1, s2⟩, _⟩ := cells3 BX (w.heap.size + 1) _ _ _ _ (show (w.heap.size + 1, DO n2 a2 z2.length c2 e2) ∈ _ by simp)
  obtain ⟨⟨p0, p1, p2⟩, _⟩ := cells3 BX g5 _ _ _ _ (show (g5, DO n1 ax z1.length cx e1) ∈ _ by simp)
  obtain ⟨⟨t0, t1, t2⟩, _⟩ := cells3 BX g6 _ _ _ _ (show (g6, DO n2 ay z2.length cy e2) ∈ _ by simp)
  go_wp2_with fail
  refine (sameP n1 ax a1 cx c1 z1 e1 _ ⟨lx, u1.len, u1.rng⟩ (u1.below BX.bel)).mono ?_
  rintro e v26 ⟨rfl, hk⟩
  replace BX := BX.keep hk
  replace lx := lx.below hk (Nat.le_refl _)
  replace ly := ly.below hk (Nat.le_refl _)
  clear hk q0 q1 q2 s0 s1 s2 p0 p1 p2 t0 t1 t2
  obtain ⟨⟨q0, q1, q2⟩, _⟩ := cells3 BX w.heap.size _ _ _ _ (show (w.heap.size, DO n1 a1 z1.length c1 e1) ∈ _ by simp)
  obtain ⟨⟨s0, s1, s2⟩, _⟩ := cells3 BX (w.heap.size + 1) _ _ _ _ (show (w.heap.size + 1, DO n2 a2 z2.length c2 e2) ∈ _ by simp)
  obtain ⟨⟨p0, p1, p2⟩, _⟩ := cells3 BX g5 _ _ _ _ (show (g5, DO n1 ax z1.length cx e1) ∈ _ by simp)
  obtain ⟨⟨t0, t1, t2⟩, _⟩ := cells3 BX g6 _ _ _ _ (show (g6, DO n2 ay z2.length cy e2) ∈ _ by simp)
  go_wp2_with fail
  refine (sameP n2 ay a2 cy c2 z2 e2 _ ⟨ly, u2.len, u2.rng⟩ (u2.below BX.bel)).mono ?_
  rintro e v27 ⟨rfl, hk⟩
  replace BX := BX.keep hk
  replace lx := lx.below hk (Nat.le_refl _)
  replace ly := ly.below hk (Nat.le_refl _)
  clear hk q0 q1 q2 s0 s1 s2 p0 p1 p2 t0 t1 t2
  obtain ⟨⟨q0, q1, q2⟩, _⟩ := cells3 BX w.heap.size _ _ _ _ (show (w.heap.size, DO n1 a1 z1.length c1 e1) ∈ _ by simp)
  obtain ⟨⟨s0, s1, s2⟩, _⟩ := cells3 BX (w.heap.size + 1) _ _ _ _ (show (w.heap.size + 1, DO n2 a2 z2.length c2 e2) ∈ _ by simp)
  obtain ⟨⟨p0, p1, p2⟩, _⟩ := cells3 BX g5 _ _ _ _ (show (g5, DO n1 ax z1.length cx e1) ∈ _ by simp)
  obtain ⟨⟨t0, t1, t2⟩, _⟩ := cells3 BX g6 _ _ _ _ (show (g6, DO n2 ay z2.length cy e2) ∈ _ by simp)
  go_wp2_with fail
  refine (lKnown4 _ (hT.below BX.bel (Nat.le_refl _))).mono ?_
  rintro e v28 ⟨rfl, hk⟩
  replace BX := BX.keep hk
  replace lx := lx.below hk (Nat.le_refl _)
  replace ly := ly.below hk (Nat.le_refl _)
  clear hk q0 q1 q2 s0 s1 s2 p0 p1 p2 t0 t1 t2
  obtain ⟨⟨q0, q1, q2⟩, _⟩ := cells3 BX w.heap.size _ _ _ _ (show (w.heap.size, DO n1 a1 z1.length c1 e1) ∈ _ by simp)
  obtain ⟨⟨s0, s1, s2⟩, _⟩ := cells3 BX (w.heap.size + 1) _ _ _ _ (show (w.heap.size + 1, DO n2 a2 z2.length c2 e2) ∈ _ by simp)
  obtain ⟨⟨p0, p1, p2⟩, _⟩ := cells3 BX g5 _ _ _ _ (show (g5, DO n1 ax z1.length cx e1) ∈ _ by simp)
  obtain ⟨⟨t0, t1, t2⟩, _⟩ := cells3 BX g6 _ _ _ _ (show (g6, DO n2 ay z2.length cy e2) ∈ _ by simp)
  go_wp2
  go_ret
  exact ⟨rfl, BX.bel⟩

theorem rQuo_zero (b : Bool) (m : Int) (hm : Mode m) (n2 : Bool) (a1 a2 : Option Addr) (c1 c2 : Nat) (z2 : List Int) (e2 : Int) (w : World) (l2 : Lie w a2 z2) :
    Calls Tryz.prog 24 #[.int .u8 (fm b), .int .u8 m, dV false a1 0 c1 0, dV n2 a2 z2.length c2 e2] w fun e w' => e = .returned (.tuple #[.int .u64 0, .int .u8 0]) ∧ Below w.heap.size w w' := by
  have KQ : ∀ W, Calls Tryz.prog 62 #[dV false a1 0 c1 0, dV n2 a2 z2.length c2 e2, .int .i64 60] W fun e w' => e = .returned (.tuple #[noD, .bool false]) ∧ Below W.heap.size W w' := fun W => by
    have B1 := (((Bx.nil W).push (DO false a1 0 c1 0)).push (DO n2 a2 z2.length c2 e2)).push (DO false none 0 0 0)
    go_enter Tryz.func62, Tryz.ntmps62
    go_wp2
    refine bodyPost_ret (results_D2 rfl _ _ (W.heap.size + 1 + 1) _ rfl ⟨by simpa using B1.head, rfl⟩) rfl ?_
    exact ⟨rfl, B1.bel⟩
  have KB : ∀ W, Calls Tryz.prog 63 #[noD, .bool false] W fun e w' => e = .returned noD ∧ Below W.heap.size W w' := fun W => by
    have B1 := ((Bx.nil W).push (DO false none 0 0 0)).push (DO false none 0 0 0)
    go_enter Tryz.func63, Tryz.ntmps63
    go_wp2
    refine bodyPost_ret (results_D1 rfl _ _ (W.heap.size + 1) _ rfl ⟨by simpa using B1.head, rfl⟩) rfl ?_
    exact ⟨rfl, B1.bel⟩
  have KF := fun W => Hide.mk (rRound_zero (fm b) m false none 0 0 0 W (fun V => rSgnAny false none 0 0 0 0 (.inl ⟨rfl, rfl⟩) V))
  have HQ := fun W => Hide.mk (KQ W)
  have HB := fun W => Hide.mk (KB W)
  clear KQ KB
  have B2 := ((Bx.nil w).push (DO false a1 0 c1 0)).push (DO n2 a2 z2.length c2 e2)
  rw [show (w.alloc (DO false a1 0 c1 0)).heap.size = w.heap.size + 1 by simp] at B2
  obtain ⟨⟨s0, s1, s2⟩, _⟩ := cells3 B2 w.heap.size _ _ _ _ (.tail _ (.head _))
  obtain ⟨⟨t0, t1, t2⟩, _⟩ := cells3 B2 (w.heap.size + 1) _ _ _ _ (.head _)
  go_enter Tryz.func24, Tryz.ntmps24
  go_wp2_with fail
  refine (HQ _).out.mono ?_
  rintro e w3 ⟨rfl, h3⟩
  have B3 := (B2.keep h3).push (DO false none 0 0 0)
  clear h3 B2 s0 s1 s2 t0 t1 t2
  obtain ⟨⟨s0, s1, s2⟩, _⟩ := cells3 B3 w3.heap.size _ _ _ _ (.head _)
  go_wp2_with fail
  refine (HB _).out.mono ?_
  rintro e w4 ⟨rfl, h4⟩
  have B4 := B3.keep h4
  clear h4 B3 s0 s1 s2
  go_wp2_with fail
  refine (KF _).out.mono ?_
  rintro e w5 ⟨rfl, h5⟩
  have B5 := B4.keep h5
  clear h5 B4
  go_wp2
  go_ret2
  exact ⟨rfl, B5.bel⟩
theorem rq_any (f m : Int) (n1 n2 : Bool) (a1 a2 : Option Addr) (c1 c2 : Nat) (z1 z2 : List Int) (e1 e2 : Int) (w : World) (u1 : DLie w a1 z1) (u2 : DLie w a2 z2) (hT : Tab w) (hn1 : a1 = none → c1 = 0) (hn2 : a2 = none → c2 = 0) :
    Calls Tryz.prog 4 #[.int .u8 f, .int .u8 m, dV n1 a1 z1.length c1 e1, dV n2 a2 z2.length c2 e2] w fun e w' => e = .returned (.bool true) ∧ Below w.heap.size w w' := by
  by_cases hl : (300 : Int) < (z1.length : Int)
  · exact rq_long1 m n1 n2 a1 a2 c1 c2 z1 z2 e1 e2 f hl w u1 u2 hT
  · have hl1 : (z1.length : Int) ≤ 300 := by omega
    by_cases hl' : (300 : Int) < (z2.length : Int)
    · exact rq_long2 m n1 n2 a1 a2 c1 c2 z1 z2 e1 e2 f hl1 hl' w u1 u2 hT
    · have hl2 : (z2.length : Int) ≤ 300 := by omega
      have hm1 : z1.length ≤ 1000000 := by omega
      have hm2 : z2.length ≤ 1000000 := by omega
      have bad : ∀ code, Opn f m code → (code == 0) = false → Calls Tryz.prog 4 #[.int .u8 f, .int .u8 m, dV n1 a1 z1.length c1 e1, dV n2 a2 z2.length c2 e2] w fun e w' => e = .returned (.bool true) ∧ Below w.heap.size w w' := fun code ho hc =>
        rq_refused m n1 n2 a1 a2 c1 c2 z1 z2 e1 e2 f code hc (fun W ax cx ay cy _ _ _ => wQuo_bad f m n1 ax cx z1.length e1 n2 ay cy z2.length e2 code W hc (fun g V _ _ _ => wWayFor_bad f m code 2 g V hc (way_bad ho hc))) (fun W g _ _ _ _ => lOpens_bad f m code _ ho hc W) hl1 hl2 w u1 u2 hT hm1 hm2 hn1 hn2
      rcases fm_or_bad f with ⟨b, rfl⟩ | hf
      · by_cases hm : Mode m
        · have arg : ∀ q1 q2, dmayB n1 z1 e1 = q1 → dmayB n2 z2 e2 = q2 → (q1 && q2) = false → Calls Tryz.prog 4 #[.int .u8 (fm b), .int .u8 m, dV n1 a1 z1.length c1 e1, dV n2 a2 z2.length c2 e2] w fun e w' => e = .returned (.bool true) ∧ Below w.heap.size w w' := by
            intro q1 q2 h1 h2 hq
            refine rq_refused m n1 n2 a1 a2 c1 c2 z1 z2 e1 e2 (fm b) 2 rfl (fun W ax cx ay cy lx ly _ => wQuo_bad (fm b) m n1 ax cx z1.length e1 n2 ay cy z2.length e2 2 W rfl (fun g V hV k1 k2 => ?_)) (fun W g v1 v2 k1 k2 => ?_) hl1 hl2 w u1 u2 hT hm1 hm2 hn1 hn2
            · have := wWayFor2 b m hm g n1 ax cx z1 e1 n2 ay cy z2 e2 V ⟨lx.below hV (Nat.le_refl _), u1.len, u1.rng⟩ ⟨ly.below hV (Nat.le_refl _), u2.len, u2.rng⟩ q1 q2 h1 h2 k1 k2
              rw [hq] at this
              exact this
            · cases q1
              · exact lOpens2_no b m hm g n1 a1 c1 z1 e1 n2 a2 c2 z2 e2 W v1 h1 k1
              · cases q2
                · exact lOpens2_no2 b m hm g n1 a1 c1 z1 e1 n2 a2 c2 z2 e2 W v1 h1 k1 v2 h2 k2
                · exact absurd hq (by decide)
          cases hq1 : dmayB n1 z1 e1 with
          | false => exact arg false _ hq1 rfl rfl
          | true =>
            cases hq2 : dmayB n2 z2 e2 with
            | false => exact arg true false hq1 hq2 rfl
            | true =>
              have g1 := DG.of u1.rng hq1
              have g2 := DG.of u2.rng hq2
              have KO : ∀ W g, DLie W a1 z1 → DLie W a2 z2 → At3 W g 0 n1 a1 z1.length c1 e1 → At3 W g 3 n2 a2 z2.length c2 e2 → Calls Tryz.prog 16 #[.int .u8 (fm b), .int .u8 m, .slice (some ⟨g, 0, none⟩) 2 2] W fun e w' => e = .returned (.int .i64 0) ∧ Below W.heap.size W w' := fun W g v1 v2 k1 k2 => lOpens2 b m hm g n1 a1 c1 z1 e1 n2 a2 c2 z2 e2 W v1 hq1 k1 v2 hq2 k2
              have way : ∀ W ax cx ay cy, Lie W ax z1 → Lie W ay z2 → ∀ g V, Below W.heap.size W V → At3 V g 0 n1 ax z1.length cx e1 → At3 V g 3 n2 ay z2.length cy e2 → Calls Tryz.prog 43 #[.int .u8 (fm b), .int .u8 m, .slice (some ⟨g, 0, none⟩) 2 2] V fun e w' => e = .returned (.tuple #[wyV b m, .int .i64 0]) ∧ Below V.heap.size V w' := fun W ax cx ay cy lx ly g V hV k1 k2 => by
                have := wWayFor2 b m hm g n1 ax cx z1 e1 n2 ay cy z2 e2 V ⟨lx.below hV (Nat.le_refl _), u1.len, u1.rng⟩ ⟨ly.below hV (Nat.le_refl _), u2.len, u2.rng⟩ true true hq1 hq2 k1 k2
                exact this
              by_cases hz2 : 0 < z2.length
              · obtain ⟨s2, hs2, hs22⟩ := sgn_dv g2 hz2
                have KS2 : ∀ W, Calls Tryz.prog 23 #[dV n2 a2 z2.length c2 e2] W fun e w' => e = .returned (.int .i64 s2) ∧ Below W.heap.size W w' := fun W => rSignD n2 a2 c2 z2 e2 ⟨g2, rfl⟩ s2 hs2 W
                by_cases hz1 : 0 < z1.length
                · obtain ⟨W0, X0, HP, HR⟩ := quo_both b m hm n1 n2 z1 z2 e1 e2 g1 g2 hz1 hz2 (by omega) (by omega)
                  exact rq_told m n1 n2 a1 a2 c1 c2 z1 z2 e1 e2 b W0 X0 s2 hs22 HP KO KS2 (fun W h1 h2 => HR W a1 c1 a2 c2 h1 h2) hl1 hl2 w u1 u2 hT hm1 hm2 hn1 hn2
                · obtain ⟨rfl, rfl, rfl⟩ := g1.nil (by omega)
                  refine rq_told m false n2 a1 a2 c1 c2 [] z2 0 e2 b 0 0 s2 hs22 (fun W ax cx ay cy lx ly _ => ?_) KO KS2 (fun W h1 h2 => rQuo_zero b m hm n2 a1 a2 c1 c2 z2 e2 W h2) hl1 hl2 w u1 u2 hT hm1 hm2 hn1 hn2
                  exact wQuo_zero b m false ax cx ([] : List Int).length 0 n2 ay cy z2.length e2 s2 W hs22 (way W ax cx ay cy lx ly) (fun V hV => dsign49 n2 ay cy z2 e2 _ V (ly.below hV (Nat.le_refl _)) ⟨g2, rfl⟩ s2 hs2) (fun V hV => dsign49 false ax cx [] 0 0 V (.inl rfl) ⟨zeroDG, zero_dv _ _⟩ 0 rfl)
              · obtain ⟨rfl, rfl, rfl⟩ := g2.nil (by omega)
                refine rq_none m n1 false a1 a2 c1 c2 z1 [] e1 0 b (fun W ax cx ay cy lx ly _ => ?_) KO (fun W => rSgnAny false a2 c2 0 0 0 (.inl ⟨rfl, rfl⟩) W) hl1 hl2 w u1 u2 hT hm1 hm2 hn1 hn2
                exact wQuo_none b m n1 ax cx z1.length e1 false ay cy ([] : List Int).length 0 W (way W ax cx ay cy lx ly) (fun V hV => dsign49 false ay cy [] 0 0 V (.inl rfl) ⟨zeroDG, zero_dv _ _⟩ 0 rfl)
        · exact bad 5 (.inr ⟨b, rfl, .inl ⟨hm, rfl⟩⟩) rfl
      · exact bad 4 (.inl ⟨hf, rfl⟩) rfl
end Go.Proofs.YtdnghibkagcbcaaGreatDoor
