import Derived.Test.YtdnghibkagcbcaaGreatDoorRoundQuotientsPart14
namespace Go.Proofs.YtdnghibkagcbcaaGreatDoor
open Go.RowKit Go.Wd Go.Box
set_option linter.unusedVariables false
set_option maxRecDepth 3000
set_option maxHeartbeats 4000000 in
theorem tk2t  (lf : Int) (n : Bool) (a : Option Addr) (c : Nat) (z : List Int) (ex e E : Int) (s lo hi : Int) (w : World) (l : Lie w a z) (he1 : -60000000 ≤ e) (he2 : e ≤ 60000000)
    (K1 : ∀ W, Calls Tryz.prog 90 #[dV n a z.length c ex, .int .i64 (-e)] W fun e' w' => e' = .returned (dV n a z.length c (ex + -e)) ∧ Below W.heap.size W w')
    (K2 : ∀ W, Lie W a z → Calls Tryz.prog 91 #[dV n a z.length c (ex + -e)] W fun e' w' => RF W w' lf 0 e')
    (K3 : ∀ n0 z0 x0 a0 c0 W, Fm lf 0 n0 z0 x0 → Calls Tryz.prog 90 #[dV n0 a0 (List.length z0) c0 x0, .int .i64 e] W fun e' w' => ∃ x', e' = .returned (dV n0 a0 z0.length c0 x') ∧ Fm lo E n0 z0 x' ∧ Below W.heap.size W w')
    (K4 : ∀ n0 z0 x0 a0 c0 W, Fm lo E n0 z0 x0 → Lie W a0 z0 → Lie W a z → Calls Tryz.prog 21 #[dV n0 a0 (List.length z0) c0 x0, dV n a z.length c ex] W fun e' w' => e' = .returned (.bool false) ∧ Below W.heap.size W w')
    (K6 : ∀ n0 z0 x0 a0 c0 a1 c1 W, Fm lo E n0 z0 x0 → Lie W a0 z0 → Lie W a1 [1] → Calls Tryz.prog 69 #[dV n0 a0 (List.length z0) c0 x0, dV false a1 ([1] : List Int).length c1 e] W fun e' w' => RF W w' hi E e')
    (K7 : ∀ n0 z0 x0 a0 c0 W, Fm lo E n0 z0 x0 → Lie W a0 z0 → Lie W a z → Calls Tryz.prog 35 #[dV n a z.length c ex, dV n0 a0 (List.length z0) c0 x0] W fun e' w' => RF W w' (s - lo) E e')
    (K8 : ∀ n0 z0 x0 a0 c0 W, Fm hi E n0 z0 x0 → Lie W a0 z0 → Lie W a z → Calls Tryz.prog 35 #[dV n0 a0 (List.length z0) c0 x0, dV n a z.length c ex] W fun e' w' => RF W w' (hi - s) E e')
    (K9 : ∀ n1 z1 x1 a1 c1 n2 z2 x2 a2 c2 W, Fm (s - lo) E n1 z1 x1 → Fm (hi - s) E n2 z2 x2 → Lie W a1 z1 → Lie W a2 z2 → Calls Tryz.prog 38 #[dV n1 a1 (List.length z1) c1 x1, dV n2 a2 (List.length z2) c2 x2] W fun e' w' => e' = .returned (.int .i64 (0)) ∧ Below W.heap.size W w') (R : Int) (hR : R = if n then lo else hi) :
    Calls Tryz.prog 57 #[.int .u8 2, dV n a z.length c ex, .int .i64 e] w fun e' w' => ∃ n' z' x' a' c', e' = .returned (dV n' a' (List.length z') c' x') ∧ Fm R E n' z' x' ∧ Lie w' a' z' ∧ Below w.heap.size w w' := by
  have HR := Hide.mk hR
  clear hR
  have H1 := fun W => Hide.mk (K1 W)
  have H2 := fun W l => Hide.mk (K2 W l)
  have H3 := fun n0 z0 x0 a0 c0 W f => Hide.mk (K3 n0 z0 x0 a0 c0 W f)
  have H4 := fun n0 z0 x0 a0 c0 W f l1 l2 => Hide.mk (K4 n0 z0 x0 a0 c0 W f l1 l2)
  have H6 := fun n0 z0 x0 a0 c0 a1 c1 W f l1 l2 => Hide.mk (K6 n0 z0 x0 a0 c0 a1 c1 W f l1 l2)
  have H7 := fun n0 z0 x0 a0 c0 W f l1 l2 => Hide.mk (K7 n0 z0 x0 a0 c0 W f l1 l2)
  have H8 := fun n0 z0 x0 a0 c0 W f l1 l2 => Hide.mk (K8 n0 z0 x0 a0 c0 W f l1 l2)
  have H9 := fun n1 z1 x1 a1 c1 n2 z2 x2 a2 c2 W f1 f2 l1 l2 => Hide.mk (K9 n1 z1 x1 a1 c1 n2 z2 x2 a2 c2 W f1 f2 l1 l2)
  clear K1 K2 K3 K4 K6 K7 K8 K9
  have B1 := ((Bx.nil w).push (DO n a z.length c ex)).push (DO false none 0 0 0)
  rw [show (w.alloc (DO n a z.length c ex)).heap.size = w.heap.size + 1 by simp] at B1
  obtain ⟨⟨s0, s1, s2⟩, _⟩ := cells3 B1 w.heap.size _ _ _ _ (.tail _ (.head _))
  go_enter Tryz.func57, Tryz.ntmps57
  go_wp2_with fail
  refine (H1 _).out.mono ?_
  rintro e' w2 ⟨rfl, h2⟩
  have B2 := B1.keep h2
  clear h2 B1 s0 s1 s2 H1
  go_wp2_with fail
  refine (H2 _ (l.below B2.bel (Nat.le_refl _))).out.mono ?_
  rintro e' w3 ⟨n0, z0, x00, a0, c0, rfl, f00, l00, h3⟩
  have B3 := B2.keep h3
  clear h3 B2 H2
  go_wp2_with fail
  refine (H3 n0 z0 x00 a0 c0 _ f00).out.mono ?_
  rintro e' w4 ⟨x0, rfl, f0, h4⟩
  have B4 := (B3.keep h4).push (DO n0 a0 z0.length c0 x0)
  have l0 := (l00.below h4 (Nat.le_refl _)).below (below_alloc w4 (DO n0 a0 z0.length c0 x0)) (Nat.le_refl _)
  have HF0 := Hide.mk f0
  have o7 : w.heap.size + 1 < w4.heap.size := (B3.keep h4).lt (p := (w.heap.size + 1, DO false none 0 0 0)) (by simp)
  clear h4 B3 H3 f00 l00 f0
  obtain ⟨⟨f0, f1, f2⟩, _⟩ := cells3 B4 w4.heap.size _ _ _ _ (.head _)
  obtain ⟨⟨s0, s1, s2⟩, _⟩ := cells3 B4 w.heap.size _ _ _ _ (.tail _ (.tail _ (.head _)))
  go_wp2_with fail
  refine (H4 n0 z0 x0 a0 c0 _ HF0.out l0 (l.below B4.bel (Nat.le_refl _))).out.mono ?_
  rintro e' w5 ⟨rfl, h5⟩
  have B5 := B4.keep h5
  replace l0 := l0.below h5 (Nat.le_refl _)
  clear h5 B4 H4 f0 f1 f2 s0 s1 s2
  generalize w4.heap.size = g7 at *
  obtain ⟨⟨f0, f1, f2⟩, _⟩ := cells3 B5 g7 _ _ _ _ (.head _)
  obtain ⟨⟨s0, s1, s2⟩, _⟩ := cells3 B5 w.heap.size _ _ _ _ (.tail _ (.tail _ (.head _)))
  go_wp2_with fail
  clear f0 f1 f2 s0 s1 s2
  have HF := B5.drew
  replace l0 := l0.below (Below.refl _ _).drew (Nat.le_refl _)
  clear B5
  have HI := HF.sub (L' := [(g7, DO n0 a0 z0.length c0 x0), (w.heap.size, DO n a z.length c ex)]) (by simp)
  have sh := fun W (hW : Bx w [(g7, DO n0 a0 z0.length c0 x0), (w.heap.size, DO n a z.length c ex)] W) => And.intro (cells3 hW g7 _ _ _ _ (.head _)).1 (cells3 hW w.heap.size _ _ _ _ (.tail _ (.head _))).1
  refine Drawn.enter (Bx w [(g7, DO n0 a0 z0.length c0 x0), (w.heap.size, DO n a z.length c ex)]) (by kernel_rfl) ?_
  refine Drawn.tk (i := 0) (v := ?v490) rfl (fun W hW => ?_) HI ?_
  rotate_left
  · have ⟨⟨f0, f1, f2⟩, s0, s1, s2⟩ := sh W hW
    go_simp <;> exact rfl
  refine Drawn.tk (i := 1) (v := ?v491) rfl (fun W hW => ?_) HI ?_
  rotate_left
  · have ⟨⟨f0, f1, f2⟩, s0, s1, s2⟩ := sh W hW
    go_simp <;> exact rfl
  generalize w5.drew = W5 at *
  refine suppose9P (F := fun g W n' z' x' a' c' a1 c1 => (w.heap.size + 1 < g ∧ g7 < g) ∧ Bx w ((g, DO false none 0 0 0) :: [(g7, DO n0 a0 z0.length c0 x0), (w.heap.size + 1, DO false none 0 0 0), (w.heap.size, DO n a z.length c ex)]) W ∧ Bx w [(g7, DO n0 a0 z0.length c0 x0), (w.heap.size, DO n a z.length c ex)] W ∧ Lie W a0 z0 ∧ Lie W a' z' ∧ Fm hi E n' z' x') (G := ?G) (fun REST => ?h) ?k
  case h =>
    refine Drawn.pair (i := 2) (j := 4) (by kernel_rfl) rfl rfl (fun K hK => ?_) (fun K hK => ?_)
    · go_simp
      refine (rTwo e _).mono ?_
      rintro e' W6 ⟨a1, c1, rfl, l1, hn⟩
      refine hK _ _ (HI.keep hn) ?_
      clear hK K
      replace HI := HI.keep hn
      replace HF := HF.keep hn
      replace l0 := l0.below hn (Nat.le_refl _)
      clear hn
      refine Drawn.pair (i := 3) (j := 4) (by kernel_rfl) rfl rfl (fun K hK => ?_) (fun K hK => ?_)
      · go_simp
        refine (H6 n0 z0 x0 a0 c0 a1 c1 _ HF0.out l0 l1).out.mono ?_
        rintro e' W7 ⟨n8, z8, x8, a8, c8, rfl, f8, l8, hn⟩
        refine hK _ _ (HI.keep hn) ?_
        clear hK K
        replace HI := HI.keep hn
        replace HF := HF.keep hn
        replace l0 := l0.below hn (Nat.le_refl _)
        clear hn
        refine Drawn.one (j := 4) (by kernel_rfl) rfl (fun K hK => ?_)
        go_simp
        refine hK _ _ (HI.grownP (DO false none 0 0 0)) ?_
        clear hK K
        have o5 : w.heap.size + 1 < _ := HF.lt (p := (w.heap.size + 1, DO false none 0 0 0)) (by simp)
        have o6 : g7 < _ := HF.lt (p := (g7, DO n0 a0 z0.length c0 x0)) (by simp)
        replace HI := HI.grownP (DO false none 0 0 0)
        replace HF := HF.push (DO false none 0 0 0)
        replace l0 := l0.below (below_alloc _ (DO false none 0 0 0)) (Nat.le_refl _)
        replace l8 := l8.below (below_alloc _ (DO false none 0 0 0)) (Nat.le_refl _)
        generalize hg5 : World.alloc W7 (DO false none 0 0 0) = W8 at *
        clear hg5
        generalize hg5 : W7.heap.size = g8 at *
        clear hg5
        exact REST g8 W8 n8 z8 x8 a8 c8 a1 c1 ⟨⟨o5, o6⟩, HF, HI, l0, l8, f8⟩
      · go_simp
        refine hK _ _ (HI.grownP (DO false none 0 0 0)) ?_
        clear hK K
        have o5 : w.heap.size + 1 < _ := HF.lt (p := (w.heap.size + 1, DO false none 0 0 0)) (by simp)
        have o6 : g7 < _ := HF.lt (p := (g7, DO n0 a0 z0.length c0 x0)) (by simp)
        replace HI := HI.grownP (DO false none 0 0 0)
        replace HF := HF.push (DO false none 0 0 0)
        replace l0 := l0.below (below_alloc _ (DO false none 0 0 0)) (Nat.le_refl _)
        replace l1 := l1.below (below_alloc _ (DO false none 0 0 0)) (Nat.le_refl _)
        generalize hg5 : World.alloc W6 (DO false none 0 0 0) = W9 at *
        clear hg5
        generalize hg5 : W6.heap.size = g8 at *
        clear hg5
        refine Drawn.one (j := 3) (by kernel_rfl) rfl (fun K hK => ?_)
        go_simp
        refine (H6 n0 z0 x0 a0 c0 a1 c1 _ HF0.out l0 l1).out.mono ?_
        rintro e' W10 ⟨n8, z8, x8, a8, c8, rfl, f8, l8, hn⟩
        refine hK _ _ (HI.keep hn) ?_
        clear hK K
        replace HI := HI.keep hn
        replace HF := HF.keep hn
        replace l0 := l0.below hn (Nat.le_refl _)
        clear hn
        exact REST g8 W10 n8 z8 x8 a8 c8 a1 c1 ⟨⟨o5, o6⟩, HF, HI, l0, l8, f8⟩
    · go_simp
      refine hK _ _ (HI.grownP (DO false none 0 0 0)) ?_
      clear hK K
      have o5 : w.heap.size + 1 < _ := HF.lt (p := (w.heap.size + 1, DO false none 0 0 0)) (by simp)
      have o6 : g7 < _ := HF.lt (p := (g7, DO n0 a0 z0.length c0 x0)) (by simp)
      replace HI := HI.grownP (DO false none 0 0 0)
      replace HF := HF.push (DO false none 0 0 0)
      replace l0 := l0.below (below_alloc _ (DO false none 0 0 0)) (Nat.le_refl _)
      generalize hg5 : World.alloc W5 (DO false none 0 0 0) = W11 at *
      clear hg5
      generalize hg5 : W5.heap.size = g8 at *
      clear hg5
      refine Drawn.one (j := 2) (by kernel_rfl) rfl (fun K hK => ?_)
      go_simp
      refine (rTwo e _).mono ?_
      rintro e' W12 ⟨a1, c1, rfl, l1, hn⟩
      refine hK _ _ (HI.keep hn) ?_
      clear hK K
      replace HI := HI.keep hn
      replace HF := HF.keep hn
      replace l0 := l0.below hn (Nat.le_refl _)
      clear hn
      refine Drawn.one (j := 3) (by kernel_rfl) rfl (fun K hK => ?_)
      go_simp
      refine (H6 n0 z0 x0 a0 c0 a1 c1 _ HF0.out l0 l1).out.mono ?_
      rintro e' W13 ⟨n8, z8, x8, a8, c8, rfl, f8, l8, hn⟩
      refine hK _ _ (HI.keep hn) ?_
      clear hK K
      replace HI := HI.keep hn
      replace HF := HF.keep hn
      replace l0 := l0.below hn (Nat.le_refl _)
      clear hn
      exact REST g8 W13 n8 z8 x8 a8 c8 a1 c1 ⟨⟨o5, o6⟩, HF, HI, l0, l8, f8⟩
  intro g8 W6 n8 z8 x8 a8 c8 a1 c1 h
  obtain ⟨⟨o5, o6⟩, HF, HI, l0, l8, f8⟩ := h
  have HF8 := Hide.mk f8
  clear f8
  obtain ⟨⟨f0, f1, f2⟩, r0, r1, r2⟩ := cells3 HF g8 _ _ _ _ (.head _)
  have HF2 := HF.fill3 (by omega) (by simp; omega) (.bool n8) (.slice a8 z8.length c8) (.int .i64 x8)
  replace l0 := lie_set3P (g := g8) HF.head (.bool n8) (.slice a8 z8.length c8) (.int .i64 x8) l0
  replace l8 := lie_set3P (g := g8) HF.head (.bool n8) (.slice a8 z8.length c8) (.int .i64 x8) l8
  refine Drawn.one (j := 5) (by kernel_rfl) rfl (fun K hK => ?_)
  go_simp
  replace HI := HF2.sub (L' := [(g7, DO n0 a0 z0.length c0 x0), (w.heap.size, DO n a z.length c ex)]) (by simp)
  refine hK _ _ HI ?_
  clear hK K f0 f1 f2 r0 r1 r2 HF
  generalize ((W6.setCell ⟨g8, 0, none⟩ (.bool n8)).setCell ⟨g8, 1, none⟩ (.slice a8 z8.length c8)).setCell ⟨g8, 2, none⟩ (.int .i64 x8) = W7 at *
  refine Drawn.done (by kernel_rfl) ?_
  try go_simp
  clear sh HI
  obtain ⟨⟨f0, f1, f2⟩, _⟩ := cells3 HF2 g8 _ _ _ _ (.head _)
  obtain ⟨⟨t0, t1, t2⟩, _⟩ := cells3 HF2 g7 _ _ _ _ (.tail _ (.head _))
  go_wp2_with fail
  clear f0 f1 f2 t0 t1 t2
  have HF := HF2.drew
  replace l0 := l0.below (Below.refl _ _).drew (Nat.le_refl _)
  replace l8 := l8.below (Below.refl _ _).drew (Nat.le_refl _)
  clear HF2
  have HI := HF.sub (L' := [(g8, DO n8 a8 z8.length c8 x8), (g7, DO n0 a0 z0.length c0 x0), (w.heap.size, DO n a z.length c ex)]) (by simp)
  have sh := fun W (hW : Bx w [(g8, DO n8 a8 z8.length c8 x8), (g7, DO n0 a0 z0.length c0 x0), (w.heap.size, DO n a z.length c ex)] W) => And.intro (cells3 hW g8 _ _ _ _ (.head _)).1 (And.intro (cells3 hW g7 _ _ _ _ (.tail _ (.head _))).1 (cells3 hW w.heap.size _ _ _ _ (.tail _ (.tail _ (.head _)))).1)
  refine Drawn.enter (Bx w [(g8, DO n8 a8 z8.length c8 x8), (g7, DO n0 a0 z0.length c0 x0), (w.heap.size, DO n a z.length c ex)]) (by kernel_rfl) ?_
  refine Drawn.tk (i := 0) (v := ?v492) rfl (fun W hW => ?_) HI ?_
  rotate_left
  · have ⟨⟨f0, f1, f2⟩, ⟨t0, t1, t2⟩, s0, s1, s2⟩ := sh W hW
    go_simp <;> exact rfl
  refine Drawn.tk (i := 1) (v := ?v493) rfl (fun W hW => ?_) HI ?_
  rotate_left
  · have ⟨⟨f0, f1, f2⟩, ⟨t0, t1, t2⟩, s0, s1, s2⟩ := sh W hW
    go_simp <;> exact rfl
  generalize W7.drew = W8 at *
  refine suppose3P (F := fun g9 g10 W => (g8 < g9 ∧ g8 < g10 ∧ g9 ≠ g10) ∧ Bx w ((g9, DO false none 0 0 0) :: (g10, DO false none 0 0 0) :: [(g8, DO n8 a8 z8.length c8 x8), (g7, DO n0 a0 z0.length c0 x0), (w.heap.size + 1, DO false none 0 0 0), (w.heap.size, DO n a z.length c ex)]) W ∧ Bx w [(g8, DO n8 a8 z8.length c8 x8), (g7, DO n0 a0 z0.length c0 x0), (w.heap.size, DO n a z.length c ex)] W ∧ Lie W a0 z0 ∧ Lie W a8 z8) (G := ?G5) (fun REST => ?h5) ?k5
  case h5 =>
    refine Drawn.pair (i := 2) (j := 3) (by kernel_rfl) rfl rfl (fun K hK => ?_) (fun K hK => ?_)
    · go_simp
      refine hK _ _ (HI.grownP (DO false none 0 0 0)) ?_
      clear hK K
      have og9 : g8 < _ := HF.lt (p := (g8, DO n8 a8 z8.length c8 x8)) (by simp)
      replace HI := HI.grownP (DO false none 0 0 0)
      replace HF := HF.push (DO false none 0 0 0)
      replace l0 := l0.below (below_alloc _ (DO false none 0 0 0)) (Nat.le_refl _)
      replace l8 := l8.below (below_alloc _ (DO false none 0 0 0)) (Nat.le_refl _)
      generalize hg5 : World.alloc W8 (DO false none 0 0 0) = W9 at *
      clear hg5
      generalize hg5 : W8.heap.size = g9 at *
      clear hg5
      refine Drawn.one (j := 3) (by kernel_rfl) rfl (fun K hK => ?_)
      go_simp
      refine hK _ _ (HI.grownP (DO false none 0 0 0)) ?_
      clear hK K
      have og10 : g8 < _ := HF.lt (p := (g8, DO n8 a8 z8.length c8 x8)) (by simp)
      have oo : g9 < _ := HF.lt (p := (g9, DO false none 0 0 0)) (by simp)
      replace HI := HI.grownP (DO false none 0 0 0)
      replace HF := HF.push (DO false none 0 0 0)
      replace l0 := l0.below (below_alloc _ (DO false none 0 0 0)) (Nat.le_refl _)
      replace l8 := l8.below (below_alloc _ (DO false none 0 0 0)) (Nat.le_refl _)
      generalize hg5 : World.alloc W9 (DO false none 0 0 0) = W10 at *
      clear hg5
      generalize hg5 : W9.heap.size = g10 at *
      clear hg5
      exact REST g9 g10 W10 ⟨⟨og9, og10, by omega⟩, HF.swap, HI, l0, l8⟩
    · go_simp
      refine hK _ _ (HI.grownP (DO false none 0 0 0)) ?_
      clear hK K
      have og10 : g8 < _ := HF.lt (p := (g8, DO n8 a8 z8.length c8 x8)) (by simp)
      replace HI := HI.grownP (DO false none 0 0 0)
      replace HF := HF.push (DO false none 0 0 0)
      replace l0 := l0.below (below_alloc _ (DO false none 0 0 0)) (Nat.le_refl _)
      replace l8 := l8.below (below_alloc _ (DO false none 0 0 0)) (Nat.le_refl _)
      generalize hg5 : World.alloc W8 (DO false none 0 0 0) = W9 at *
      clear hg5
      generalize hg5 : W8.heap.size = g10 at *
      clear hg5
      refine Drawn.one (j := 2) (by kernel_rfl) rfl (fun K hK => ?_)
      go_simp
      refine hK _ _ (HI.grownP (DO false none 0 0 0)) ?_
      clear hK K
      have og9 : g8 < _ := HF.lt (p := (g8, DO n8 a8 z8.length c8 x8)) (by simp)
      have oo : g10 < _ := HF.lt (p := (g10, DO false none 0 0 0)) (by simp)
      replace HI := HI.grownP (DO false none 0 0 0)
      replace HF := HF.push (DO false none 0 0 0)
      replace l0 := l0.below (below_alloc _ (DO false none 0 0 0)) (Nat.le_refl _)
      replace l8 := l8.below (below_alloc _ (DO false none 0 0 0)) (Nat.le_refl _)
      generalize hg5 : World.alloc W9 (DO false none 0 0 0) = W10 at *
      clear hg5
      generalize hg5 : W9.heap.size = g9 at *
      clear hg5
      exact REST g9 g10 W10 ⟨⟨og9, og10, by omega⟩, HF, HI, l0, l8⟩
  intro g9 g10 W10 h
  obtain ⟨⟨og9, og10, ogg⟩, HF, HI, l0, l8⟩ := h
  obtain ⟨⟨f0, f1, f2⟩, r0, r1, r2⟩ := cells3 HF g9 _ _ _ _ (.head _)
  have HF3 := HF.fill3 (by omega) (by simp; omega) (.bool n8) (.slice a8 z8.length c8) (.int .i64 x8)
  replace l0 := lie_set3P (g := g9) HF.head (.bool n8) (.slice a8 z8.length c8) (.int .i64 x8) l0
  replace l8 := lie_set3P (g := g9) HF.head (.bool n8) (.slice a8 z8.length c8) (.int .i64 x8) l8
  refine Drawn.one (j := 4) (by kernel_rfl) rfl (fun K hK => ?_)
  go_simp
  replace HI := HF3.sub (L' := [(g8, DO n8 a8 z8.length c8 x8), (g7, DO n0 a0 z0.length c0 x0), (w.heap.size, DO n a z.length c ex)]) (by simp)
  refine hK _ _ HI ?_
  clear hK K f0 f1 f2 r0 r1 r2 HF
  generalize ((W10.setCell ⟨g9, 0, none⟩ (.bool n8)).setCell ⟨g9, 1, none⟩ (.slice a8 z8.length c8)).setCell ⟨g9, 2, none⟩ (.int .i64 x8) = W11 at *
  have HF4 := HF3.swap
  clear HF3
  obtain ⟨⟨f0, f1, f2⟩, r0, r1, r2⟩ := cells3 HF4 g10 _ _ _ _ (.head _)
  have HF5 := HF4.fill3 (by omega) (by simp; omega) (.bool n0) (.slice a0 z0.length c0) (.int .i64 x0)
  replace l0 := lie_set3P (g := g10) HF4.head (.bool n0) (.slice a0 z0.length c0) (.int .i64 x0) l0
  replace l8 := lie_set3P (g := g10) HF4.head (.bool n0) (.slice a0 z0.length c0) (.int .i64 x0) l8
  refine Drawn.one (j := 5) (by kernel_rfl) rfl (fun K hK => ?_)
  go_simp
  replace HI := HF5.sub (L' := [(g8, DO n8 a8 z8.length c8 x8), (g7, DO n0 a0 z0.length c0 x0), (w.heap.size, DO n a z.length c ex)]) (by simp)
  refine hK _ _ HI ?_
  clear hK K f0 f1 f2 r0 r1 r2 HF4
  generalize ((W11.setCell ⟨g10, 0, none⟩ (.bool n0)).setCell ⟨g10, 1, none⟩ (.slice a0 z0.length c0)).setCell ⟨g10, 2, none⟩ (.int .i64 x0) = W12 at *
  refine Drawn.done (by kernel_rfl) ?_
  try go_simp
  clear sh HI
  cases n
  · obtain ⟨⟨p0, p1, p2⟩, _⟩ := cells3 HF5 g10 _ _ _ _ (.head _)
    obtain ⟨⟨q0, q1, q2⟩, _⟩ := cells3 HF5 g9 _ _ _ _ (.tail _ (.head _))
    obtain ⟨⟨f0, f1, f2⟩, _⟩ := cells3 HF5 g8 _ _ _ _ (.tail _ (.tail _ (.head _)))
    obtain ⟨⟨t0, t1, t2⟩, _⟩ := cells3 HF5 g7 _ _ _ _ (.tail _ (.tail _ (.tail _ (.head _))))
    obtain ⟨⟨u0, u1, u2⟩, _⟩ := cells3 HF5 w.heap.size _ _ _ _ (.tail _ (.tail _ (.tail _ (.tail _ (.tail _ (.head _))))))
    obtain ⟨⟨v0, v1, v2⟩, r0, r1, r2⟩ := cells3 HF5 (w.heap.size + 1) _ _ _ _ (.tail _ (.tail _ (.tail _ (.tail _ (.head _)))))
    go_wp2_with fail
    clear p0 p1 p2 q0 q1 q2 f0 f1 f2 t0 t1 t2 u0 u1 u2 v0 v1 v2 r0 r1 r2
    have HF := HF5.drew
    replace l0 := l0.below (Below.refl _ _).drew (Nat.le_refl _)
    replace l8 := l8.below (Below.refl _ _).drew (Nat.le_refl _)
    clear HF5
    have HI := HF.sub (L' := [(g8, DO n8 a8 z8.length c8 x8), (g7, DO n0 a0 z0.length c0 x0), (w.heap.size, DO false a z.length c ex)]) (by simp)
    have sh := fun W (hW : Bx w [(g8, DO n8 a8 z8.length c8 x8), (g7, DO n0 a0 z0.length c0 x0), (w.heap.size, DO false a z.length c ex)] W) => And.intro (cells3 hW g8 _ _ _ _ (.head _)).1 (And.intro (cells3 hW g7 _ _ _ _ (.tail _ (.head _))).1 (cells3 hW w.heap.size _ _ _ _ (.tail _ (.tail _ (.head _)))).1)
    refine Drawn.enter (Bx w [(g8, DO n8 a8 z8.length c8 x8), (g7, DO n0 a0 z0.length c0 x0), (w.heap.size, DO false a z.length c ex)]) (by kernel_rfl) ?_
    refine Drawn.tk (i := 0) (v := ?v494) rfl (fun W hW => ?_) HI ?_
    rotate_left
    · have ⟨⟨f0, f1, f2⟩, ⟨t0, t1, t2⟩, s0, s1, s2⟩ := sh W hW
      go_simp <;> exact rfl
    refine Drawn.tk (i := 1) (v := ?v495) rfl (fun W hW => ?_) HI ?_
    rotate_left
    · have ⟨⟨f0, f1, f2⟩, ⟨t0, t1, t2⟩, s0, s1, s2⟩ := sh W hW
      go_simp <;> exact rfl
    refine Drawn.tk (i := 3) (v := ?v496) rfl (fun W hW => ?_) HI ?_
    rotate_left
    · have ⟨⟨f0, f1, f2⟩, ⟨t0, t1, t2⟩, s0, s1, s2⟩ := sh W hW
      go_simp <;> exact rfl
    refine Drawn.tk (i := 4) (v := ?v497) rfl (fun W hW => ?_) HI ?_
    rotate_left
    · have ⟨⟨f0, f1, f2⟩, ⟨t0, t1, t2⟩, s0, s1, s2⟩ := sh W hW
      go_simp <;> exact rfl
    refine Drawn.one (j := 2) (by kernel_rfl) rfl (fun K hK => ?_)
    go_simp
    refine (H7 n0 z0 x0 a0 c0 _ HF0.out l0 (l.below HF.bel (Nat.le_refl _))).out.mono ?_
    rintro e' W20 ⟨n5, z5, x5, a5, c5, rfl, f5, l5, hn⟩
    refine hK _ _ (HI.keep hn) ?_
    clear hK K
    replace HI := HI.keep hn
    replace HF := HF.keep hn
    replace l0 := l0.below hn (Nat.le_refl _)
    replace l8 := l8.below hn (Nat.le_refl _)
    clear hn
    refine Drawn.one (j := 5) (by kernel_rfl) rfl (fun K hK => ?_)
    go_simp
    refine (H8 n8 z8 x8 a8 c8 _ HF8.out l8 (l.below HF.bel (Nat.le_refl _))).out.mono ?_
    rintro e' W20 ⟨n6, z6, x6, a6, c6, rfl, f6, l6, hn⟩
    refine hK _ _ (HI.keep hn) ?_
    clear hK K
    replace HI := HI.keep hn
    replace HF := HF.keep hn
    replace l0 := l0.below hn (Nat.le_refl _)
    replace l8 := l8.below hn (Nat.le_refl _)
    replace l5 := l5.below hn (Nat.le_refl _)
    clear hn
    refine Drawn.one (j := 6) (by kernel_rfl) rfl (fun K hK => ?_)
    go_simp
    refine (H9 n5 z5 x5 a5 c5 n6 z6 x6 a6 c6 _ f5 f6 l5 l6).out.mono ?_
    rintro e' W20 ⟨rfl, hn⟩
    refine hK _ _ (HI.keep hn) ?_
    clear hK K
    replace HI := HI.keep hn
    replace HF := HF.keep hn
    replace l0 := l0.below hn (Nat.le_refl _)
    replace l8 := l8.below hn (Nat.le_refl _)
    clear hn
    refine Drawn.tk (i := 7) (v := ?v498) rfl (fun W hW => ?_) HI ?_
    rotate_left
    · have ⟨⟨f0, f1, f2⟩, ⟨t0, t1, t2⟩, s0, s1, s2⟩ := sh W hW
      go_simp <;> exact rfl
    refine Drawn.done (by kernel_rfl) ?_
    try go_simp
    clear sh HI l5 l6 f5 f6 H7 H8 H9
    have HF5 := HF
    clear HF
    obtain ⟨⟨p0, p1, p2⟩, _⟩ := cells3 HF5 g10 _ _ _ _ (.head _)
    obtain ⟨⟨q0, q1, q2⟩, _⟩ := cells3 HF5 g9 _ _ _ _ (.tail _ (.head _))
    obtain ⟨⟨f0, f1, f2⟩, _⟩ := cells3 HF5 g8 _ _ _ _ (.tail _ (.tail _ (.head _)))
    obtain ⟨⟨t0, t1, t2⟩, _⟩ := cells3 HF5 g7 _ _ _ _ (.tail _ (.tail _ (.tail _ (.head _))))
    obtain ⟨⟨u0, u1, u2⟩, _⟩ := cells3 HF5 w.heap.size _ _ _ _ (.tail _ (.tail _ (.tail _ (.tail _ (.tail _ (.head _))))))
    obtain ⟨⟨v0, v1, v2⟩, r0, r1, r2⟩ := cells3 HF5 (w.heap.size + 1) _ _ _ _ (.tail _ (.tail _ (.tail _ (.tail _ (.head _)))))
    go_wp2
    have Br := HF5.sub (L' := [(w.heap.size + 1, DO false none 0 0 0)]) (by simp)
    have Bf := Br.fill3 (by omega) (by simp) (.bool n8) (.slice a8 z8.length c8) (.int .i64 x8)
    refine bodyPost_ret (results_D1 rfl _ _ (w.heap.size + 1) _ rfl ⟨Bf.head, rfl⟩) rfl ?_
    exact ⟨n8, z8, x8, a8, c8, rfl, (by rw [show R = hi from by simpa using HR.out]; exact HF8.out), lie_set3P (g := w.heap.size + 1) Br.head _ _ _ l8, Bf.bel⟩
  · obtain ⟨⟨u0, u1, u2⟩, _⟩ := cells3 HF5 w.heap.size _ _ _ _ (.tail _ (.tail _ (.tail _ (.tail _ (.tail _ (.head _))))))
    go_wp2_with fail
    clear u0 u1 u2
    have HF := HF5.drew
    replace l0 := l0.below (Below.refl _ _).drew (Nat.le_refl _)
    replace l8 := l8.below (Below.refl _ _).drew (Nat.le_refl _)
    clear HF5
    have HI := HF.sub (L' := [(g8, DO n8 a8 z8.length c8 x8), (g7, DO n0 a0 z0.length c0 x0), (w.heap.size, DO true a z.length c ex)]) (by simp)
    have sh := fun W (hW : Bx w [(g8, DO n8 a8 z8.length c8 x8), (g7, DO n0 a0 z0.length c0 x0), (w.heap.size, DO true a z.length c ex)] W) => And.intro (cells3 hW g8 _ _ _ _ (.head _)).1 (cells3 hW g7 _ _ _ _ (.tail _ (.head _))).1
    refine Drawn.enter (Bx w [(g8, DO n8 a8 z8.length c8 x8), (g7, DO n0 a0 z0.length c0 x0), (w.heap.size, DO true a z.length c ex)]) (by kernel_rfl) ?_
    refine Drawn.tk (i := 0) (v := ?v499) rfl (fun W hW => ?_) HI ?_
    rotate_left
    · have ⟨⟨f0, f1, f2⟩, t0, t1, t2⟩ := sh W hW
      go_simp <;> exact rfl
    refine Drawn.tk (i := 1) (v := ?v500) rfl (fun W hW => ?_) HI ?_
    rotate_left
    · have ⟨⟨f0, f1, f2⟩, t0, t1, t2⟩ := sh W hW
      go_simp <;> exact rfl
    generalize W12.drew = W13 at *
    replace HF := HF.swap
    obtain ⟨⟨f0, f1, f2⟩, r0, r1, r2⟩ := cells3 HF g9 _ _ _ _ (.head _)
    have HF6 := HF.fill3 (by omega) (by simp; omega) (.bool n0) (.slice a0 z0.length c0) (.int .i64 x0)
    replace l0 := lie_set3Q (g := g9) HF.head (.bool n0) (.slice a0 z0.length c0) (.int .i64 x0) l0
    replace l8 := lie_set3Q (g := g9) HF.head (.bool n0) (.slice a0 z0.length c0) (.int .i64 x0) l8
    refine Drawn.one (j := 2) (by kernel_rfl) rfl (fun K hK => ?_)
    go_simp
    replace HI := HF6.sub (L' := [(g8, DO n8 a8 z8.length c8 x8), (g7, DO n0 a0 z0.length c0 x0), (w.heap.size, DO true a z.length c ex)]) (by simp)
    refine hK _ _ HI ?_
    clear hK K f0 f1 f2 r0 r1 r2 HF
    generalize ((W13.setCell ⟨g9, 0, none⟩ (.bool n0)).setCell ⟨g9, 1, none⟩ (.slice a0 z0.length c0)).setCell ⟨g9, 2, none⟩ (.int .i64 x0) = W14 at *
    have HF7 := HF6.swap
    clear HF6
    obtain ⟨⟨f0, f1, f2⟩, r0, r1, r2⟩ := cells3 HF7 g10 _ _ _ _ (.head _)
    have HF5 := HF7.fill3 (by omega) (by simp; omega) (.bool n8) (.slice a8 z8.length c8) (.int .i64 x8)
    replace l0 := lie_set3Q (g := g10) HF7.head (.bool n8) (.slice a8 z8.length c8) (.int .i64 x8) l0
    replace l8 := lie_set3Q (g := g10) HF7.head (.bool n8) (.slice a8 z8.length c8) (.int .i64 x8) l8
    refine Drawn.one (j := 3) (by kernel_rfl) rfl (fun K hK => ?_)
    go_simp
    replace HI := HF5.sub (L' := [(g8, DO n8 a8 z8.length c8 x8), (g7, DO n0 a0 z0.length c0 x0), (w.heap.size, DO true a z.length c ex)]) (by simp)
    refine hK _ _ HI ?_
    clear hK K f0 f1 f2 r0 r1 r2 HF7
    generalize ((W14.setCell ⟨g10, 0, none⟩ (.bool n8)).setCell ⟨g10, 1, none⟩ (.slice a8 z8.length c8)).setCell ⟨g10, 2, none⟩ (.int .i64 x8) = W12 at *
    refine Drawn.done (by kernel_rfl) ?_
    try go_simp
    clear sh HI
    obtain ⟨⟨p0, p1, p2⟩, _⟩ := cells3 HF5 g10 _ _ _ _ (.head _)
    obtain ⟨⟨q0, q1, q2⟩, _⟩ := cells3 HF5 g9 _ _ _ _ (.tail _ (.head _))
    obtain ⟨⟨f0, f1, f2⟩, _⟩ := cells3 HF5 g8 _ _ _ _ (.tail _ (.tail _ (.head _)))
    obtain ⟨⟨t0, t1, t2⟩, _⟩ := cells3 HF5 g7 _ _ _ _ (.tail _ (.tail _ (.tail _ (.head _))))
    obtain ⟨⟨u0, u1, u2⟩, _⟩ := cells3 HF5 w.heap.size _ _ _ _ (.tail _ (.tail _ (.tail _ (.tail _ (.tail _ (.head _))))))
    obtain ⟨⟨v0, v1, v2⟩, r0, r1, r2⟩ := cells3 HF5 (w.heap.size + 1) _ _ _ _ (.tail _ (.tail _ (.tail _ (.tail _ (.head _)))))
    go_wp2_with fail
    clear p0 p1 p2 q0 q1 q2 f0 f1 f2 t0 t1 t2 u0 u1 u2 v0 v1 v2 r0 r1 r2
    have HF := HF5.drew
    replace l0 := l0.below (Below.refl _ _).drew (Nat.le_refl _)
    replace l8 := l8.below (Below.refl _ _).drew (Nat.le_refl _)
    clear HF5
    have HI := HF.sub (L' := [(g8, DO n8 a8 z8.length c8 x8), (g7, DO n0 a0 z0.length c0 x0), (w.heap.size, DO true a z.length c ex)]) (by simp)
    have sh := fun W (hW : Bx w [(g8, DO n8 a8 z8.length c8 x8), (g7, DO n0 a0 z0.length c0 x0), (w.heap.size, DO true a z.length c ex)] W) => And.intro (cells3 hW g8 _ _ _ _ (.head _)).1 (And.intro (cells3 hW g7 _ _ _ _ (.tail _ (.head _))).1 (cells3 hW w.heap.size _ _ _ _ (.tail _ (.tail _ (.head _)))).1)
    refine Drawn.enter (Bx w [(g8, DO n8 a8 z8.length c8 x8), (g7, DO n0 a0 z0.length c0 x0), (w.heap.size, DO true a z.length c ex)]) (by kernel_rfl) ?_
    refine Drawn.tk (i := 0) (v := ?v501) rfl (fun W hW => ?_) HI ?_
    rotate_left
    · have ⟨⟨f0, f1, f2⟩, ⟨t0, t1, t2⟩, s0, s1, s2⟩ := sh W hW
      go_simp <;> exact rfl
    refine Drawn.tk (i := 1) (v := ?v502) rfl (fun W hW => ?_) HI ?_
    rotate_left
    · have ⟨⟨f0, f1, f2⟩, ⟨t0, t1, t2⟩, s0, s1, s2⟩ := sh W hW
      go_simp <;> exact rfl
    refine Drawn.tk (i := 3) (v := ?v503) rfl (fun W hW => ?_) HI ?_
    rotate_left
    · have ⟨⟨f0, f1, f2⟩, ⟨t0, t1, t2⟩, s0, s1, s2⟩ := sh W hW
      go_simp <;> exact rfl
    refine Drawn.tk (i := 4) (v := ?v504) rfl (fun W hW => ?_) HI ?_
    rotate_left
    · have ⟨⟨f0, f1, f2⟩, ⟨t0, t1, t2⟩, s0, s1, s2⟩ := sh W hW
      go_simp <;> exact rfl
    refine Drawn.one (j := 2) (by kernel_rfl) rfl (fun K hK => ?_)
    go_simp
    refine (H7 n0 z0 x0 a0 c0 _ HF0.out l0 (l.below HF.bel (Nat.le_refl _))).out.mono ?_
    rintro e' W20 ⟨n5, z5, x5, a5, c5, rfl, f5, l5, hn⟩
    refine hK _ _ (HI.keep hn) ?_
    clear hK K
    replace HI := HI.keep hn
    replace HF := HF.keep hn
    replace l0 := l0.below hn (Nat.le_refl _)
    replace l8 := l8.below hn (Nat.le_refl _)
    clear hn
    refine Drawn.one (j := 5) (by kernel_rfl) rfl (fun K hK => ?_)
    go_simp
    refine (H8 n8 z8 x8 a8 c8 _ HF8.out l8 (l.below HF.bel (Nat.le_refl _))).out.mono ?_
    rintro e' W20 ⟨n6, z6, x6, a6, c6, rfl, f6, l6, hn⟩
    refine hK _ _ (HI.keep hn) ?_
    clear hK K
    replace HI := HI.keep hn
    replace HF := HF.keep hn
    replace l0 := l0.below hn (Nat.le_refl _)
    replace l8 := l8.below hn (Nat.le_refl _)
    replace l5 := l5.below hn (Nat.le_refl _)
    clear hn
    refine Drawn.one (j := 6) (by kernel_rfl) rfl (fun K hK => ?_)
    go_simp
    refine (H9 n5 z5 x5 a5 c5 n6 z6 x6 a6 c6 _ f5 f6 l5 l6).out.mono ?_
    rintro e' W20 ⟨rfl, hn⟩
    refine hK _ _ (HI.keep hn) ?_
    clear hK K
    replace HI := HI.keep hn
    replace HF := HF.keep hn
    replace l0 := l0.below hn (Nat.le_refl _)
    replace l8 := l8.below hn (Nat.le_refl _)
    clear hn
    refine Drawn.tk (i := 7) (v := ?v505) rfl (fun W hW => ?_) HI ?_
    rotate_left
    · have ⟨⟨f0, f1, f2⟩, ⟨t0, t1, t2⟩, s0, s1, s2⟩ := sh W hW
      go_simp <;> exact rfl
    refine Drawn.done (by kernel_rfl) ?_
    try go_simp
    clear sh HI l5 l6 f5 f6 H7 H8 H9
    have HF5 := HF
    clear HF
    obtain ⟨⟨p0, p1, p2⟩, _⟩ := cells3 HF5 g10 _ _ _ _ (.head _)
    obtain ⟨⟨q0, q1, q2⟩, _⟩ := cells3 HF5 g9 _ _ _ _ (.tail _ (.head _))
    obtain ⟨⟨f0, f1, f2⟩, _⟩ := cells3 HF5 g8 _ _ _ _ (.tail _ (.tail _ (.head _)))
    obtain ⟨⟨t0, t1, t2⟩, _⟩ := cells3 HF5 g7 _ _ _ _ (.tail _ (.tail _ (.tail _ (.head _))))
    obtain ⟨⟨u0, u1, u2⟩, _⟩ := cells3 HF5 w.heap.size _ _ _ _ (.tail _ (.tail _ (.tail _ (.tail _ (.tail _ (.head _))))))
    obtain ⟨⟨v0, v1, v2⟩, r0, r1, r2⟩ := cells3 HF5 (w.heap.size + 1) _ _ _ _ (.tail _ (.tail _ (.tail _ (.tail _ (.head _)))))
    go_wp2
    have Br := HF5.sub (L' := [(w.heap.size + 1, DO false none 0 0 0)]) (by simp)
    have Bf := Br.fill3 (by omega) (by simp) (.bool n0) (.slice a0 z0.length c0) (.int .i64 x0)
    refine bodyPost_ret (results_D1 rfl _ _ (w.heap.size + 1) _ rfl ⟨Bf.head, rfl⟩) rfl ?_
    exact ⟨n0, z0, x0, a0, c0, rfl, (by rw [show R = lo from by simpa using HR.out]; exact HF0.out), lie_set3P (g := w.heap.size + 1) Br.head _ _ _ l0, Bf.bel⟩
end Go.Proofs.YtdnghibkagcbcaaGreatDoor
