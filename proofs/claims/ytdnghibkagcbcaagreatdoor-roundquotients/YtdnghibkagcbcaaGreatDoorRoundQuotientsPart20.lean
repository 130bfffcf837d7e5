import Derived.Test.YtdnghibkagcbcaaGreatDoorRoundQuotientsPart14
import Derived.Test.YtdnghibkagcbcaaGreatDoorRoundQuotientsPart15
import Derived.Test.YtdnghibkagcbcaaGreatDoorRoundQuotientsPart16
import Derived.Test.YtdnghibkagcbcaaGreatDoorRoundQuotientsPart17
import Derived.Test.YtdnghibkagcbcaaGreatDoorPS2t
import Derived.Test.YtdnghibkagcbcaaGreatDoorPS1e
namespace Go.Proofs.YtdnghibkagcbcaaGreatDoor
open Go.RowKit Go.Wd Go.Box
set_option linter.unusedVariables false
set_option maxRecDepth 3000
set_option maxHeartbeats 4000000 in
theorem tk1o  (lf : Int) (n : Bool) (a : Option Addr) (c : Nat) (z : List Int) (ex e E : Int) (s lo hi : Int) (w : World) (l : Lie w a z) (he1 : -60000000 ≤ e) (he2 : e ≤ 60000000)
    (K1 : ∀ W, Calls Tryz.prog 90 #[dV n a z.length c ex, .int .i64 (-e)] W fun e' w' => e' = .returned (dV n a z.length c (ex + -e)) ∧ Below W.heap.size W w')
    (K2 : ∀ W, Lie W a z → Calls Tryz.prog 91 #[dV n a z.length c (ex + -e)] W fun e' w' => RF W w' lf 0 e')
    (K3 : ∀ n0 z0 x0 a0 c0 W, Fm lf 0 n0 z0 x0 → Calls Tryz.prog 90 #[dV n0 a0 (List.length z0) c0 x0, .int .i64 e] W fun e' w' => ∃ x', e' = .returned (dV n0 a0 z0.length c0 x') ∧ Fm lo E n0 z0 x' ∧ Below W.heap.size W w')
    (K4 : ∀ n0 z0 x0 a0 c0 W, Fm lo E n0 z0 x0 → Lie W a0 z0 → Lie W a z → Calls Tryz.prog 21 #[dV n0 a0 (List.length z0) c0 x0, dV n a z.length c ex] W fun e' w' => e' = .returned (.bool false) ∧ Below W.heap.size W w')
    (K6 : ∀ n0 z0 x0 a0 c0 a1 c1 W, Fm lo E n0 z0 x0 → Lie W a0 z0 → Lie W a1 [1] → Calls Tryz.prog 69 #[dV n0 a0 (List.length z0) c0 x0, dV false a1 ([1] : List Int).length c1 e] W fun e' w' => RF W w' hi E e')
    (K7 : ∀ n0 z0 x0 a0 c0 W, Fm lo E n0 z0 x0 → Lie W a0 z0 → Lie W a z → Calls Tryz.prog 35 #[dV n a z.length c ex, dV n0 a0 (List.length z0) c0 x0] W fun e' w' => RF W w' (s - lo) E e')
    (K8 : ∀ n0 z0 x0 a0 c0 W, Fm hi E n0 z0 x0 → Lie W a0 z0 → Lie W a z → Calls Tryz.prog 35 #[dV n0 a0 (List.length z0) c0 x0, dV n a z.length c ex] W fun e' w' => RF W w' (hi - s) E e')
    (K9 : ∀ n1 z1 x1 a1 c1 n2 z2 x2 a2 c2 W, Fm (s - lo) E n1 z1 x1 → Fm (hi - s) E n2 z2 x2 → Lie W a1 z1 → Lie W a2 z2 → Calls Tryz.prog 38 #[dV n1 a1 (List.length z1) c1 x1, dV n2 a2 (List.length z2) c2 x2] W fun e' w' => e' = .returned (.int .i64 (0)) ∧ Below W.heap.size W w')
    (K10 : ∀ n0 z0 x0 a0 c0 W, Fm lo E n0 z0 x0 → Calls Tryz.prog 90 #[dV n0 a0 (List.length z0) c0 x0, .int .i64 (-e)] W fun e' w' => ∃ x', e' = .returned (dV n0 a0 z0.length c0 x') ∧ Fm lf 0 n0 z0 x' ∧ Below W.heap.size W w')
    (K11 : ∀ n0 z0 x0 a0 c0 W, Fm lf 0 n0 z0 x0 → Calls Tryz.prog 93 #[dV n0 a0 (List.length z0) c0 x0] W fun e' w' => ∃ x', e' = .returned (dV n0 a0 z0.length c0 x') ∧ Fm lf (-1) n0 z0 x' ∧ Below W.heap.size W w')
    (K12 : ∀ n0 z0 x0 a0 c0 W, Fm lf (-1) n0 z0 x0 → Lie W a0 z0 → Calls Tryz.prog 91 #[dV n0 a0 (List.length z0) c0 x0] W fun e' w' => RF W w' (lf / 2) 0 e')
    (K13 : ∀ n0 z0 x0 a0 c0 n1 z1 x1 a1 c1 W, Fm (lf / 2) 0 n0 z0 x0 → Fm lf (-1) n1 z1 x1 → Lie W a0 z0 → Lie W a1 z1 → Calls Tryz.prog 21 #[dV n0 a0 (List.length z0) c0 x0, dV n1 a1 (List.length z1) c1 x1] W fun e' w' => e' = .returned (.bool false) ∧ Below W.heap.size W w') :
    Calls Tryz.prog 57 #[.int .u8 1, dV n a z.length c ex, .int .i64 e] w fun e' w' => ∃ n' z' x' a' c', e' = .returned (dV n' a' (List.length z') c' x') ∧ Fm hi E n' z' x' ∧ Lie w' a' z' ∧ Below w.heap.size w w' := by
  have H1 := fun W => Hide.mk (K1 W)
  have H2 := fun W l => Hide.mk (K2 W l)
  have H3 := fun n0 z0 x0 a0 c0 W f => Hide.mk (K3 n0 z0 x0 a0 c0 W f)
  have H4 := fun n0 z0 x0 a0 c0 W f l1 l2 => Hide.mk (K4 n0 z0 x0 a0 c0 W f l1 l2)
  have H6 := fun n0 z0 x0 a0 c0 a1 c1 W f l1 l2 => Hide.mk (K6 n0 z0 x0 a0 c0 a1 c1 W f l1 l2)
  have H7 := fun n0 z0 x0 a0 c0 W f l1 l2 => Hide.mk (K7 n0 z0 x0 a0 c0 W f l1 l2)
  have H8 := fun n0 z0 x0 a0 c0 W f l1 l2 => Hide.mk (K8 n0 z0 x0 a0 c0 W f l1 l2)
  have H9 := fun n1 z1 x1 a1 c1 n2 z2 x2 a2 c2 W f1 f2 l1 l2 => Hide.mk (K9 n1 z1 x1 a1 c1 n2 z2 x2 a2 c2 W f1 f2 l1 l2)
  have H10 := fun n0 z0 x0 a0 c0 W f => Hide.mk (K10 n0 z0 x0 a0 c0 W f)
  have H11 := fun n0 z0 x0 a0 c0 W f => Hide.mk (K11 n0 z0 x0 a0 c0 W f)
  have H12 := fun n0 z0 x0 a0 c0 W f l => Hide.mk (K12 n0 z0 x0 a0 c0 W f l)
  have H13 := fun n0 z0 x0 a0 c0 n1 z1 x1 a1 c1 W f1 f2 l1 l2 => Hide.mk (K13 n0 z0 x0 a0 c0 n1 z1 x1 a1 c1 W f1 f2 l1 l2)
  clear K1 K2 K3 K4 K6 K7 K8 K9 K10 K11 K12 K13
  have B1 := ((Bx.nil w).push (DO n a z.length c ex)).push (DO false none 0 0 0)
  rw [show (w.alloc (DO n a z.length c ex)).heap.size = w.heap.size + 1 by simp] at B1
  obtain ⟨⟨s0, s1, s2⟩, _⟩ := cells3 B1 w.heap.size _ _ _ _ (.tail _ (.head _))
  go_enter Tryz.func57, Tryz.ntmps57
  go_wp2_with fail
  refine (H1 _).out.mono ?_
  rintro e' w2 ⟨rfl, h2⟩
  have B2 := B1.keep h2
  clear h2 B1 s0 s1 s2 H1
  go_wp2_with fail
  refine (H2 _ (l.below B2.bel (Nat.le_refl _))).out.mono ?_
  rintro e' w3 ⟨n0, z0, x00, a0, c0, rfl, f00, l00, h3⟩
  have B3 := B2.keep h3
  clear h3 B2 H2
  go_wp2_with fail
  refine (H3 n0 z0 x00 a0 c0 _ f00).out.mono ?_
  rintro e' w4 ⟨x0, rfl, f0, h4⟩
  have B4 := (B3.keep h4).push (DO n0 a0 z0.length c0 x0)
  have l0 := (l00.below h4 (Nat.le_refl _)).below (below_alloc w4 (DO n0 a0 z0.length c0 x0)) (Nat.le_refl _)
  have HF0 := Hide.mk f0
  have o7 : w.heap.size + 1 < w4.heap.size := (B3.keep h4).lt (p := (w.heap.size + 1, DO false none 0 0 0)) (by simp)
  clear h4 B3 H3 f00 l00 f0
  obtain ⟨⟨f0, f1, f2⟩, _⟩ := cells3 B4 w4.heap.size _ _ _ _ (.head _)
  obtain ⟨⟨s0, s1, s2⟩, _⟩ := cells3 B4 w.heap.size _ _ _ _ (.tail _ (.tail _ (.head _)))
  go_wp2_with fail
  refine (H4 n0 z0 x0 a0 c0 _ HF0.out l0 (l.below B4.bel (Nat.le_refl _))).out.mono ?_
  rintro e' w5 ⟨rfl, h5⟩
  have B5 := B4.keep h5
  replace l0 := l0.below h5 (Nat.le_refl _)
  clear h5 B4 H4 f0 f1 f2 s0 s1 s2
  generalize w4.heap.size = g7 at *
  obtain ⟨⟨f0, f1, f2⟩, _⟩ := cells3 B5 g7 _ _ _ _ (.head _)
  obtain ⟨⟨s0, s1, s2⟩, _⟩ := cells3 B5 w.heap.size _ _ _ _ (.tail _ (.tail _ (.head _)))
  go_wp2_with fail
  clear f0 f1 f2 s0 s1 s2
  have HF := B5.drew
  replace l0 := l0.below (Below.refl _ _).drew (Nat.le_refl _)
  clear B5
  have HI := HF.sub (L' := [(g7, DO n0 a0 z0.length c0 x0), (w.heap.size, DO n a z.length c ex)]) (by simp)
  have sh := fun W (hW : Bx w [(g7, DO n0 a0 z0.length c0 x0), (w.heap.size, DO n a z.length c ex)] W) => And.intro (cells3 hW g7 _ _ _ _ (.head _)).1 (cells3 hW w.heap.size _ _ _ _ (.tail _ (.head _))).1
  refine Drawn.enter (Bx w [(g7, DO n0 a0 z0.length c0 x0), (w.heap.size, DO n a z.length c ex)]) (by kernel_rfl) ?_
  refine Drawn.tk (i := 0) (v := ?v526) rfl (fun W hW => ?_) HI ?_
  rotate_left
  · have ⟨⟨f0, f1, f2⟩, s0, s1, s2⟩ := sh W hW
    go_simp <;> exact rfl
  refine Drawn.tk (i := 1) (v := ?v527) rfl (fun W hW => ?_) HI ?_
  rotate_left
  · have ⟨⟨f0, f1, f2⟩, s0, s1, s2⟩ := sh W hW
    go_simp <;> exact rfl
  generalize w5.drew = W5 at *
  refine suppose9P (F := fun g W n' z' x' a' c' a1 c1 => (w.heap.size + 1 < g ∧ g7 < g) ∧ Bx w ((g, DO false none 0 0 0) :: [(g7, DO n0 a0 z0.length c0 x0), (w.heap.size + 1, DO false none 0 0 0), (w.heap.size, DO n a z.length c ex)]) W ∧ Bx w [(g7, DO n0 a0 z0.length c0 x0), (w.heap.size, DO n a z.length c ex)] W ∧ Lie W a0 z0 ∧ Lie W a' z' ∧ Fm hi E n' z' x') (G := ?G) (fun REST => ?h) ?k
  case h =>
    refine Drawn.pair (i := 2) (j := 4) (by kernel_rfl) rfl rfl (fun K hK => ?_) (fun K hK => ?_)
    · go_simp
      refine (rTwo e _).mono ?_
      rintro e' W6 ⟨a1, c1, rfl, l1, hn⟩
      refine hK _ _ (HI.keep hn) ?_
      clear hK K
      replace HI := HI.keep hn
      replace HF := HF.keep hn
      replace l0 := l0.below hn (Nat.le_refl _)
      clear hn
      refine Drawn.pair (i := 3) (j := 4) (by kernel_rfl) rfl rfl (fun K hK => ?_) (fun K hK => ?_)
      · go_simp
        refine (H6 n0 z0 x0 a0 c0 a1 c1 _ HF0.out l0 l1).out.mono ?_
        rintro e' W7 ⟨n8, z8, x8, a8, c8, rfl, f8, l8, hn⟩
        refine hK _ _ (HI.keep hn) ?_
        clear hK K
        replace HI := HI.keep hn
        replace HF := HF.keep hn
        replace l0 := l0.below hn (Nat.le_refl _)
        clear hn
        refine Drawn.one (j := 4) (by kernel_rfl) rfl (fun K hK => ?_)
        go_simp
        refine hK _ _ (HI.grownP (DO false none 0 0 0)) ?_
        clear hK K
        have o5 : w.heap.size + 1 < _ := HF.lt (p := (w.heap.size + 1, DO false none 0 0 0)) (by simp)
        have o6 : g7 < _ := HF.lt (p := (g7, DO n0 a0 z0.length c0 x0)) (by simp)
        replace HI := HI.grownP (DO false none 0 0 0)
        replace HF := HF.push (DO false none 0 0 0)
        replace l0 := l0.below (below_alloc _ (DO false none 0 0 0)) (Nat.le_refl _)
        replace l8 := l8.below (below_alloc _ (DO false none 0 0 0)) (Nat.le_refl _)
        generalize hg5 : World.alloc W7 (DO false none 0 0 0) = W8 at *
        clear hg5
        generalize hg5 : W7.heap.size = g8 at *
        clear hg5
        exact REST g8 W8 n8 z8 x8 a8 c8 a1 c1 ⟨⟨o5, o6⟩, HF, HI, l0, l8, f8⟩
      · go_simp
        refine hK _ _ (HI.grownP (DO false none 0 0 0)) ?_
        clear hK K
        have o5 : w.heap.size + 1 < _ := HF.lt (p := (w.heap.size + 1, DO false none 0 0 0)) (by simp)
        have o6 : g7 < _ := HF.lt (p := (g7, DO n0 a0 z0.length c0 x0)) (by simp)
        replace HI := HI.grownP (DO false none 0 0 0)
        replace HF := HF.push (DO false none 0 0 0)
        replace l0 := l0.below (below_alloc _ (DO false none 0 0 0)) (Nat.le_refl _)
        replace l1 := l1.below (below_alloc _ (DO false none 0 0 0)) (Nat.le_refl _)
        generalize hg5 : World.alloc W6 (DO false none 0 0 0) = W9 at *
        clear hg5
        generalize hg5 : W6.heap.size = g8 at *
        clear hg5
        refine Drawn.one (j := 3) (by kernel_rfl) rfl (fun K hK => ?_)
        go_simp
        refine (H6 n0 z0 x0 a0 c0 a1 c1 _ HF0.out l0 l1).out.mono ?_
        rintro e' W10 ⟨n8, z8, x8, a8, c8, rfl, f8, l8, hn⟩
        refine hK _ _ (HI.keep hn) ?_
        clear hK K
        replace HI := HI.keep hn
        replace HF := HF.keep hn
        replace l0 := l0.below hn (Nat.le_refl _)
        clear hn
        exact REST g8 W10 n8 z8 x8 a8 c8 a1 c1 ⟨⟨o5, o6⟩, HF, HI, l0, l8, f8⟩
    · go_simp
      refine hK _ _ (HI.grownP (DO false none 0 0 0)) ?_
      clear hK K
      have o5 : w.heap.size + 1 < _ := HF.lt (p := (w.heap.size + 1, DO false none 0 0 0)) (by simp)
      have o6 : g7 < _ := HF.lt (p := (g7, DO n0 a0 z0.length c0 x0)) (by simp)
      replace HI := HI.grownP (DO false none 0 0 0)
      replace HF := HF.push (DO false none 0 0 0)
      replace l0 := l0.below (below_alloc _ (DO false none 0 0 0)) (Nat.le_refl _)
      generalize hg5 : World.alloc W5 (DO false none 0 0 0) = W11 at *
      clear hg5
      generalize hg5 : W5.heap.size = g8 at *
      clear hg5
      refine Drawn.one (j := 2) (by kernel_rfl) rfl (fun K hK => ?_)
      go_simp
      refine (rTwo e _).mono ?_
      rintro e' W12 ⟨a1, c1, rfl, l1, hn⟩
      refine hK _ _ (HI.keep hn) ?_
      clear hK K
      replace HI := HI.keep hn
      replace HF := HF.keep hn
      replace l0 := l0.below hn (Nat.le_refl _)
      clear hn
      refine Drawn.one (j := 3) (by kernel_rfl) rfl (fun K hK => ?_)
      go_simp
      refine (H6 n0 z0 x0 a0 c0 a1 c1 _ HF0.out l0 l1).out.mono ?_
      rintro e' W13 ⟨n8, z8, x8, a8, c8, rfl, f8, l8, hn⟩
      refine hK _ _ (HI.keep hn) ?_
      clear hK K
      replace HI := HI.keep hn
      replace HF := HF.keep hn
      replace l0 := l0.below hn (Nat.le_refl _)
      clear hn
      exact REST g8 W13 n8 z8 x8 a8 c8 a1 c1 ⟨⟨o5, o6⟩, HF, HI, l0, l8, f8⟩
  intro g8 W6 n8 z8 x8 a8 c8 a1 c1 h
  obtain ⟨⟨o5, o6⟩, HF, HI, l0, l8, f8⟩ := h
  have HF8 := Hide.mk f8
  clear f8
  obtain ⟨⟨f0, f1, f2⟩, r0, r1, r2⟩ := cells3 HF g8 _ _ _ _ (.head _)
  have HF2 := HF.fill3 (by omega) (by simp; omega) (.bool n8) (.slice a8 z8.length c8) (.int .i64 x8)
  replace l0 := lie_set3P (g := g8) HF.head (.bool n8) (.slice a8 z8.length c8) (.int .i64 x8) l0
  replace l8 := lie_set3P (g := g8) HF.head (.bool n8) (.slice a8 z8.length c8) (.int .i64 x8) l8
  refine Drawn.one (j := 5) (by kernel_rfl) rfl (fun K hK => ?_)
  go_simp
  replace HI := HF2.sub (L' := [(g7, DO n0 a0 z0.length c0 x0), (w.heap.size, DO n a z.length c ex)]) (by simp)
  refine hK _ _ HI ?_
  clear hK K f0 f1 f2 r0 r1 r2 HF
  generalize ((W6.setCell ⟨g8, 0, none⟩ (.bool n8)).setCell ⟨g8, 1, none⟩ (.slice a8 z8.length c8)).setCell ⟨g8, 2, none⟩ (.int .i64 x8) = W7 at *
  refine Drawn.done (by kernel_rfl) ?_
  try go_simp
  clear sh HI
  obtain ⟨⟨f0, f1, f2⟩, _⟩ := cells3 HF2 g8 _ _ _ _ (.head _)
  obtain ⟨⟨t0, t1, t2⟩, _⟩ := cells3 HF2 g7 _ _ _ _ (.tail _ (.head _))
  go_wp2_with fail
  clear f0 f1 f2 t0 t1 t2
  have HF := HF2.drew
  replace l0 := l0.below (Below.refl _ _).drew (Nat.le_refl _)
  replace l8 := l8.below (Below.refl _ _).drew (Nat.le_refl _)
  clear HF2
  have HI := HF.sub (L' := [(g8, DO n8 a8 z8.length c8 x8), (g7, DO n0 a0 z0.length c0 x0), (w.heap.size, DO n a z.length c ex)]) (by simp)
  have sh := fun W (hW : Bx w [(g8, DO n8 a8 z8.length c8 x8), (g7, DO n0 a0 z0.length c0 x0), (w.heap.size, DO n a z.length c ex)] W) => And.intro (cells3 hW g8 _ _ _ _ (.head _)).1 (And.intro (cells3 hW g7 _ _ _ _ (.tail _ (.head _))).1 (cells3 hW w.heap.size _ _ _ _ (.tail _ (.tail _ (.head _)))).1)
  refine Drawn.enter (Bx w [(g8, DO n8 a8 z8.length c8 x8), (g7, DO n0 a0 z0.length c0 x0), (w.heap.size, DO n a z.length c ex)]) (by kernel_rfl) ?_
  refine Drawn.tk (i := 0) (v := ?v528) rfl (fun W hW => ?_) HI ?_
  rotate_left
  · have ⟨⟨f0, f1, f2⟩, ⟨t0, t1, t2⟩, s0, s1, s2⟩ := sh W hW
    go_simp <;> exact rfl
  refine Drawn.tk (i := 1) (v := ?v529) rfl (fun W hW => ?_) HI ?_
  rotate_left
  · have ⟨⟨f0, f1, f2⟩, ⟨t0, t1, t2⟩, s0, s1, s2⟩ := sh W hW
    go_simp <;> exact rfl
  generalize W7.drew = W8 at *
  refine suppose3P (F := fun g9 g10 W => (g8 < g9 ∧ g8 < g10 ∧ g9 ≠ g10) ∧ Bx w ((g9, DO false none 0 0 0) :: (g10, DO false none 0 0 0) :: [(g8, DO n8 a8 z8.length c8 x8), (g7, DO n0 a0 z0.length c0 x0), (w.heap.size + 1, DO false none 0 0 0), (w.heap.size, DO n a z.length c ex)]) W ∧ Bx w [(g8, DO n8 a8 z8.length c8 x8), (g7, DO n0 a0 z0.length c0 x0), (w.heap.size, DO n a z.length c ex)] W ∧ Lie W a0 z0 ∧ Lie W a8 z8) (G := ?G5) (fun REST => ?h5) ?k5
  case h5 =>
    refine Drawn.pair (i := 2) (j := 3) (by kernel_rfl) rfl rfl (fun K hK => ?_) (fun K hK => ?_)
    · go_simp
      refine hK _ _ (HI.grownP (DO false none 0 0 0)) ?_
      clear hK K
      have og9 : g8 < _ := HF.lt (p := (g8, DO n8 a8 z8.length c8 x8)) (by simp)
      replace HI := HI.grownP (DO false none 0 0 0)
      replace HF := HF.push (DO false none 0 0 0)
      replace l0 := l0.below (below_alloc _ (DO false none 0 0 0)) (Nat.le_refl _)
      replace l8 := l8.below (below_alloc _ (DO false none 0 0 0)) (Nat.le_refl _)
      generalize hg5 : World.alloc W8 (DO false none 0 0 0) = W9 at *
      clear hg5
      generalize hg5 : W8.heap.size = g9 at *
      clear hg5
      refine Drawn.one (j := 3) (by kernel_rfl) rfl (fun K hK => ?_)
      go_simp
      refine hK _ _ (HI.grownP (DO false none 0 0 0)) ?_
      clear hK K
      have og10 : g8 < _ := HF.lt (p := (g8, DO n8 a8 z8.length c8 x8)) (by simp)
      have oo : g9 < _ := HF.lt (p := (g9, DO false none 0 0 0)) (by simp)
      replace HI := HI.grownP (DO false none 0 0 0)
      replace HF := HF.push (DO false none 0 0 0)
      replace l0 := l0.below (below_alloc _ (DO false none 0 0 0)) (Nat.le_refl _)
      replace l8 := l8.below (below_alloc _ (DO false none 0 0 0)) (Nat.le_refl _)
      generalize hg5 : World.alloc W9 (DO false none 0 0 0) = W10 at *
      clear hg5
      generalize hg5 : W9.heap.size = g10 at *
      clear hg5
      exact REST g9 g10 W10 ⟨⟨og9, og10, by omega⟩, HF.swap, HI, l0, l8⟩
    · go_simp
      refine hK _ _ (HI.grownP (DO false none 0 0 0)) ?_
      clear hK K
      have og10 : g8 < _ := HF.lt (p := (g8, DO n8 a8 z8.length c8 x8)) (by simp)
      replace HI := HI.grownP (DO false none 0 0 0)
      replace HF := HF.push (DO false none 0 0 0)
      replace l0 := l0.below (below_alloc _ (DO false none 0 0 0)) (Nat.le_refl _)
      replace l8 := l8.below (below_alloc _ (DO false none 0 0 0)) (Nat.le_refl _)
      generalize hg5 : World.alloc W8 (DO false none 0 0 0) = W9 at *
      clear hg5
      generalize hg5 : W8.heap.size = g10 at *
      clear hg5
      refine Drawn.one (j := 2) (by kernel_rfl) rfl (fun K hK => ?_)
      go_simp
      refine hK _ _ (HI.grownP (DO false none 0 0 0)) ?_
      clear hK K
      have og9 : g8 < _ := HF.lt (p := (g8, DO n8 a8 z8.length c8 x8)) (by simp)
      have oo : g10 < _ := HF.lt (p := (g10, DO false none 0 0 0)) (by simp)
      replace HI := HI.grownP (DO false none 0 0 0)
      replace HF := HF.push (DO false none 0 0 0)
      replace l0 := l0.below (below_alloc _ (DO false none 0 0 0)) (Nat.le_refl _)
      replace l8 := l8.below (below_alloc _ (DO false none 0 0 0)) (Nat.le_refl _)
      generalize hg5 : World.alloc W9 (DO false none 0 0 0) = W10 at *
      clear hg5
      generalize hg5 : W9.heap.size = g9 at *
      clear hg5
      exact REST g9 g10 W10 ⟨⟨og9, og10, by omega⟩, HF, HI, l0, l8⟩
  intro g9 g10 W10 h
  obtain ⟨⟨og9, og10, ogg⟩, HF, HI, l0, l8⟩ := h
  obtain ⟨⟨f0, f1, f2⟩, r0, r1, r2⟩ := cells3 HF g9 _ _ _ _ (.head _)
  have HF3 := HF.fill3 (by omega) (by simp; omega) (.bool n8) (.slice a8 z8.length c8) (.int .i64 x8)
  replace l0 := lie_set3P (g := g9) HF.head (.bool n8) (.slice a8 z8.length c8) (.int .i64 x8) l0
  replace l8 := lie_set3P (g := g9) HF.head (.bool n8) (.slice a8 z8.length c8) (.int .i64 x8) l8
  refine Drawn.one (j := 4) (by kernel_rfl) rfl (fun K hK => ?_)
  go_simp
  replace HI := HF3.sub (L' := [(g8, DO n8 a8 z8.length c8 x8), (g7, DO n0 a0 z0.length c0 x0), (w.heap.size, DO n a z.length c ex)]) (by simp)
  refine hK _ _ HI ?_
  clear hK K f0 f1 f2 r0 r1 r2 HF
  generalize ((W10.setCell ⟨g9, 0, none⟩ (.bool n8)).setCell ⟨g9, 1, none⟩ (.slice a8 z8.length c8)).setCell ⟨g9, 2, none⟩ (.int .i64 x8) = W11 at *
  have HF4 := HF3.swap
  clear HF3
  obtain ⟨⟨f0, f1, f2⟩, r0, r1, r2⟩ := cells3 HF4 g10 _ _ _ _ (.head _)
  have HF5 := HF4.fill3 (by omega) (by simp; omega) (.bool n0) (.slice a0 z0.length c0) (.int .i64 x0)
  replace l0 := lie_set3P (g := g10) HF4.head (.bool n0) (.slice a0 z0.length c0) (.int .i64 x0) l0
  replace l8 := lie_set3P (g := g10) HF4.head (.bool n0) (.slice a0 z0.length c0) (.int .i64 x0) l8
  refine Drawn.one (j := 5) (by kernel_rfl) rfl (fun K hK => ?_)
  go_simp
  replace HI := HF5.sub (L' := [(g8, DO n8 a8 z8.length c8 x8), (g7, DO n0 a0 z0.length c0 x0), (w.heap.size, DO n a z.length c ex)]) (by simp)
  refine hK _ _ HI ?_
  clear hK K f0 f1 f2 r0 r1 r2 HF4
  generalize ((W11.setCell ⟨g10, 0, none⟩ (.bool n0)).setCell ⟨g10, 1, none⟩ (.slice a0 z0.length c0)).setCell ⟨g10, 2, none⟩ (.int .i64 x0) = W12 at *
  refine Drawn.done (by kernel_rfl) ?_
  try go_simp
  clear sh HI
  cases n
  · obtain ⟨⟨p0, p1, p2⟩, _⟩ := cells3 HF5 g10 _ _ _ _ (.head _)
    obtain ⟨⟨q0, q1, q2⟩, _⟩ := cells3 HF5 g9 _ _ _ _ (.tail _ (.head _))
    obtain ⟨⟨f0, f1, f2⟩, _⟩ := cells3 HF5 g8 _ _ _ _ (.tail _ (.tail _ (.head _)))
    obtain ⟨⟨t0, t1, t2⟩, _⟩ := cells3 HF5 g7 _ _ _ _ (.tail _ (.tail _ (.tail _ (.head _))))
    obtain ⟨⟨u0, u1, u2⟩, _⟩ := cells3 HF5 w.heap.size _ _ _ _ (.tail _ (.tail _ (.tail _ (.tail _ (.tail _ (.head _))))))
    obtain ⟨⟨v0, v1, v2⟩, r0, r1, r2⟩ := cells3 HF5 (w.heap.size + 1) _ _ _ _ (.tail _ (.tail _ (.tail _ (.tail _ (.head _)))))
    go_wp2_with fail
    clear p0 p1 p2 q0 q1 q2 f0 f1 f2 t0 t1 t2 u0 u1 u2 v0 v1 v2 r0 r1 r2
    have HF := HF5.drew
    replace l0 := l0.below (Below.refl _ _).drew (Nat.le_refl _)
    replace l8 := l8.below (Below.refl _ _).drew (Nat.le_refl _)
    clear HF5
    have HI := HF.sub (L' := [(g8, DO n8 a8 z8.length c8 x8), (g7, DO n0 a0 z0.length c0 x0), (w.heap.size, DO false a z.length c ex)]) (by simp)
    have sh := fun W (hW : Bx w [(g8, DO n8 a8 z8.length c8 x8), (g7, DO n0 a0 z0.length c0 x0), (w.heap.size, DO false a z.length c ex)] W) => And.intro (cells3 hW g8 _ _ _ _ (.head _)).1 (And.intro (cells3 hW g7 _ _ _ _ (.tail _ (.head _))).1 (cells3 hW w.heap.size _ _ _ _ (.tail _ (.tail _ (.head _)))).1)
    refine Drawn.enter (Bx w [(g8, DO n8 a8 z8.length c8 x8), (g7, DO n0 a0 z0.length c0 x0), (w.heap.size, DO false a z.length c ex)]) (by kernel_rfl) ?_
    refine Drawn.tk (i := 0) (v := ?v530) rfl (fun W hW => ?_) HI ?_
    rotate_left
    · have ⟨⟨f0, f1, f2⟩, ⟨t0, t1, t2⟩, s0, s1, s2⟩ := sh W hW
      go_simp <;> exact rfl
    refine Drawn.tk (i := 1) (v := ?v531) rfl (fun W hW => ?_) HI ?_
    rotate_left
    · have ⟨⟨f0, f1, f2⟩, ⟨t0, t1, t2⟩, s0, s1, s2⟩ := sh W hW
      go_simp <;> exact rfl
    refine Drawn.tk (i := 3) (v := ?v532) rfl (fun W hW => ?_) HI ?_
    rotate_left
    · have ⟨⟨f0, f1, f2⟩, ⟨t0, t1, t2⟩, s0, s1, s2⟩ := sh W hW
      go_simp <;> exact rfl
    refine Drawn.tk (i := 4) (v := ?v533) rfl (fun W hW => ?_) HI ?_
    rotate_left
    · have ⟨⟨f0, f1, f2⟩, ⟨t0, t1, t2⟩, s0, s1, s2⟩ := sh W hW
      go_simp <;> exact rfl
    refine Drawn.one (j := 2) (by kernel_rfl) rfl (fun K hK => ?_)
    go_simp
    refine (H7 n0 z0 x0 a0 c0 _ HF0.out l0 (l.below HF.bel (Nat.le_refl _))).out.mono ?_
    rintro e' W20 ⟨n5, z5, x5, a5, c5, rfl, f5, l5, hn⟩
    refine hK _ _ (HI.keep hn) ?_
    clear hK K
    replace HI := HI.keep hn
    replace HF := HF.keep hn
    replace l0 := l0.below hn (Nat.le_refl _)
    replace l8 := l8.below hn (Nat.le_refl _)
    clear hn
    refine Drawn.one (j := 5) (by kernel_rfl) rfl (fun K hK => ?_)
    go_simp
    refine (H8 n8 z8 x8 a8 c8 _ HF8.out l8 (l.below HF.bel (Nat.le_refl _))).out.mono ?_
    rintro e' W20 ⟨n6, z6, x6, a6, c6, rfl, f6, l6, hn⟩
    refine hK _ _ (HI.keep hn) ?_
    clear hK K
    replace HI := HI.keep hn
    replace HF := HF.keep hn
    replace l0 := l0.below hn (Nat.le_refl _)
    replace l8 := l8.below hn (Nat.le_refl _)
    replace l5 := l5.below hn (Nat.le_refl _)
    clear hn
    refine Drawn.one (j := 6) (by kernel_rfl) rfl (fun K hK => ?_)
    go_simp
    refine (H9 n5 z5 x5 a5 c5 n6 z6 x6 a6 c6 _ f5 f6 l5 l6).out.mono ?_
    rintro e' W20 ⟨rfl, hn⟩
    refine hK _ _ (HI.keep hn) ?_
    clear hK K
    replace HI := HI.keep hn
    replace HF := HF.keep hn
    replace l0 := l0.below hn (Nat.le_refl _)
    replace l8 := l8.below hn (Nat.le_refl _)
    clear hn
    refine Drawn.tk (i := 7) (v := ?v534) rfl (fun W hW => ?_) HI ?_
    rotate_left
    · have ⟨⟨f0, f1, f2⟩, ⟨t0, t1, t2⟩, s0, s1, s2⟩ := sh W hW
      go_simp <;> exact rfl
    refine Drawn.done (by kernel_rfl) ?_
    try go_simp
    clear sh HI l5 l6 f5 f6 H7 H8 H9
    have HF5 := HF
    clear HF
    obtain ⟨⟨p0, p1, p2⟩, _⟩ := cells3 HF5 g10 _ _ _ _ (.head _)
    obtain ⟨⟨q0, q1, q2⟩, _⟩ := cells3 HF5 g9 _ _ _ _ (.tail _ (.head _))
    obtain ⟨⟨f0, f1, f2⟩, _⟩ := cells3 HF5 g8 _ _ _ _ (.tail _ (.tail _ (.head _)))
    obtain ⟨⟨t0, t1, t2⟩, _⟩ := cells3 HF5 g7 _ _ _ _ (.tail _ (.tail _ (.tail _ (.head _))))
    obtain ⟨⟨u0, u1, u2⟩, _⟩ := cells3 HF5 w.heap.size _ _ _ _ (.tail _ (.tail _ (.tail _ (.tail _ (.tail _ (.head _))))))
    obtain ⟨⟨v0, v1, v2⟩, r0, r1, r2⟩ := cells3 HF5 (w.heap.size + 1) _ _ _ _ (.tail _ (.tail _ (.tail _ (.tail _ (.head _)))))
    go_wp2_with fail
    refine (H10 n0 z0 x0 a0 c0 _ HF0.out).out.mono ?_
    rintro e' W20 ⟨x9, rfl, f9, hn⟩
    clear p0 p1 p2 q0 q1 q2 f0 f1 f2 t0 t1 t2 u0 u1 u2 v0 v1 v2 r0 r1 r2
    have HF := (HF5.keep hn).push (DO n0 a0 z0.length c0 x9)
    replace l0 := l0.below hn (Nat.le_refl _)
    replace l8 := l8.below hn (Nat.le_refl _)
    replace l0 := l0.below (below_alloc W20 (DO n0 a0 z0.length c0 x9)) (Nat.le_refl _)
    replace l8 := l8.below (below_alloc W20 (DO n0 a0 z0.length c0 x9)) (Nat.le_refl _)
    clear hn HF5
    have K9 := Hide.mk f9
    clear f9
    obtain ⟨⟨k0, k1, k2⟩, _⟩ := cells3 HF W20.heap.size _ _ _ _ (.head _)
    go_wp2_with fail
    clear k0 k1 k2
    generalize W20.alloc (DO n0 a0 z0.length c0 x9) = W21 at *
    generalize W20.heap.size = g12 at *
    replace HF := HF.drew
    replace l0 := l0.below (Below.refl _ _).drew (Nat.le_refl _)
    replace l8 := l8.below (Below.refl _ _).drew (Nat.le_refl _)
    have HI := HF.sub (L' := [(g12, DO n0 a0 z0.length c0 x9)]) (by simp)
    have sh := fun W (hW : Bx w [(g12, DO n0 a0 z0.length c0 x9)] W) => (cells3 hW g12 _ _ _ _ (.head _)).1
    refine Drawn.enter (Bx w [(g12, DO n0 a0 z0.length c0 x9)]) (by kernel_rfl) ?_
    refine Drawn.tk (i := 0) (v := ?v535) rfl (fun W hW => ?_) HI ?_
    rotate_left
    · have ⟨k0, k1, k2⟩ := sh W hW
      go_simp <;> exact rfl
    refine Drawn.tk (i := 3) (v := ?v536) rfl (fun W hW => ?_) HI ?_
    rotate_left
    · have ⟨k0, k1, k2⟩ := sh W hW
      go_simp <;> exact rfl
    refine Drawn.one (j := 1) (by kernel_rfl) rfl (fun K hK => ?_)
    go_simp
    refine (H11 n0 z0 x9 a0 c0 _ K9.out).out.mono ?_
    rintro e' W22 ⟨x10, rfl, f10, hn⟩
    refine hK _ _ (HI.keep hn) ?_
    clear hK K
    replace HI := HI.keep hn
    replace HF := HF.keep hn
    replace l0 := l0.below hn (Nat.le_refl _)
    replace l8 := l8.below hn (Nat.le_refl _)
    clear hn
    refine Drawn.one (j := 2) (by kernel_rfl) rfl (fun K hK => ?_)
    go_simp
    refine (H12 n0 z0 x10 a0 c0 _ f10 l0).out.mono ?_
    rintro e' W22 ⟨n11, z11, x11, a11, c11, rfl, f11, l11, hn⟩
    refine hK _ _ (HI.keep hn) ?_
    clear hK K
    replace HI := HI.keep hn
    replace HF := HF.keep hn
    replace l0 := l0.below hn (Nat.le_refl _)
    replace l8 := l8.below hn (Nat.le_refl _)
    clear hn
    refine Drawn.one (j := 4) (by kernel_rfl) rfl (fun K hK => ?_)
    go_simp
    refine (H11 n0 z0 x9 a0 c0 _ K9.out).out.mono ?_
    rintro e' W22 ⟨x12, rfl, f12, hn⟩
    refine hK _ _ (HI.keep hn) ?_
    clear hK K
    replace HI := HI.keep hn
    replace HF := HF.keep hn
    replace l0 := l0.below hn (Nat.le_refl _)
    replace l8 := l8.below hn (Nat.le_refl _)
    replace l11 := l11.below hn (Nat.le_refl _)
    clear hn
    refine Drawn.one (j := 5) (by kernel_rfl) rfl (fun K hK => ?_)
    go_simp
    refine (H13 n11 z11 x11 a11 c11 n0 z0 x12 a0 c0 _ f11 f12 l11 l0).out.mono ?_
    rintro e' W22 ⟨rfl, hn⟩
    refine hK _ _ (HI.keep hn) ?_
    clear hK K
    replace HI := HI.keep hn
    replace HF := HF.keep hn
    replace l0 := l0.below hn (Nat.le_refl _)
    replace l8 := l8.below hn (Nat.le_refl _)
    clear hn
    refine Drawn.done (by kernel_rfl) ?_
    try go_simp
    clear sh HI l11 f10 f11 f12 H10 H11 H12 H13 K9
    have HF5 := HF.tail
    clear HF
    obtain ⟨⟨p0, p1, p2⟩, _⟩ := cells3 HF5 g10 _ _ _ _ (.head _)
    obtain ⟨⟨q0, q1, q2⟩, _⟩ := cells3 HF5 g9 _ _ _ _ (.tail _ (.head _))
    obtain ⟨⟨f0, f1, f2⟩, _⟩ := cells3 HF5 g8 _ _ _ _ (.tail _ (.tail _ (.head _)))
    obtain ⟨⟨t0, t1, t2⟩, _⟩ := cells3 HF5 g7 _ _ _ _ (.tail _ (.tail _ (.tail _ (.head _))))
    obtain ⟨⟨u0, u1, u2⟩, _⟩ := cells3 HF5 w.heap.size _ _ _ _ (.tail _ (.tail _ (.tail _ (.tail _ (.tail _ (.head _))))))
    obtain ⟨⟨v0, v1, v2⟩, r0, r1, r2⟩ := cells3 HF5 (w.heap.size + 1) _ _ _ _ (.tail _ (.tail _ (.tail _ (.tail _ (.head _)))))
    go_wp2
    have Br := HF5.sub (L' := [(w.heap.size + 1, DO false none 0 0 0)]) (by simp)
    have Bf := Br.fill3 (by omega) (by simp) (.bool n8) (.slice a8 z8.length c8) (.int .i64 x8)
    refine bodyPost_ret (results_D1 rfl _ _ (w.heap.size + 1) _ rfl ⟨Bf.head, rfl⟩) rfl ?_
    exact ⟨n8, z8, x8, a8, c8, rfl, HF8.out, lie_set3P (g := w.heap.size + 1) Br.head _ _ _ l8, Bf.bel⟩
  · obtain ⟨⟨u0, u1, u2⟩, _⟩ := cells3 HF5 w.heap.size _ _ _ _ (.tail _ (.tail _ (.tail _ (.tail _ (.tail _ (.head _))))))
    go_wp2_with fail
    clear u0 u1 u2
    have HF := HF5.drew
    replace l0 := l0.below (Below.refl _ _).drew (Nat.le_refl _)
    replace l8 := l8.below (Below.refl _ _).drew (Nat.le_refl _)
    clear HF5
    have HI := HF.sub (L' := [(g8, DO n8 a8 z8.length c8 x8), (g7, DO n0 a0 z0.length c0 x0), (w.heap.size, DO true a z.length c ex)]) (by simp)
    have sh := fun W (hW : Bx w [(g8, DO n8 a8 z8.length c8 x8), (g7, DO n0 a0 z0.length c0 x0), (w.heap.size, DO true a z.length c ex)] W) => And.intro (cells3 hW g8 _ _ _ _ (.head _)).1 (cells3 hW g7 _ _ _ _ (.tail _ (.head _))).1
    refine Drawn.enter (Bx w [(g8, DO n8 a8 z8.length c8 x8), (g7, DO n0 a0 z0.length c0 x0), (w.heap.size, DO true a z.length c ex)]) (by kernel_rfl) ?_
    refine Drawn.tk (i := 0) (v := ?v537) rfl (fun W hW => ?_) HI ?_
    rotate_left
    · have ⟨⟨f0, f1, f2⟩, t0, t1, t2⟩ := sh W hW
      go_simp <;> exact rfl
    refine Drawn.tk (i := 1) (v := ?v538) rfl (fun W hW => ?_) HI ?_
    rotate_left
    · have ⟨⟨f0, f1, f2⟩, t0, t1, t2⟩ := sh W hW
      go_simp <;> exact rfl
    generalize W12.drew = W13 at *
    replace HF := HF.swap
    obtain ⟨⟨f0, f1, f2⟩, r0, r1, r2⟩ := cells3 HF g9 _ _ _ _ (.head _)
    have HF6 := HF.fill3 (by omega) (by simp; omega) (.bool n0) (.slice a0 z0.length c0) (.int .i64 x0)
    replace l0 := lie_set3Q (g := g9) HF.head (.bool n0) (.slice a0 z0.length c0) (.int .i64 x0) l0
    replace l8 := lie_set3Q (g := g9) HF.head (.bool n0) (.slice a0 z0.length c0) (.int .i64 x0) l8
    refine Drawn.one (j := 2) (by kernel_rfl) rfl (fun K hK => ?_)
    go_simp
    replace HI := HF6.sub (L' := [(g8, DO n8 a8 z8.length c8 x8), (g7, DO n0 a0 z0.length c0 x0), (w.heap.size, DO true a z.length c ex)]) (by simp)
    refine hK _ _ HI ?_
    clear hK K f0 f1 f2 r0 r1 r2 HF
    generalize ((W13.setCell ⟨g9, 0, none⟩ (.bool n0)).setCell ⟨g9, 1, none⟩ (.slice a0 z0.length c0)).setCell ⟨g9, 2, none⟩ (.int .i64 x0) = W14 at *
    have HF7 := HF6.swap
    clear HF6
    obtain ⟨⟨f0, f1, f2⟩, r0, r1, r2⟩ := cells3 HF7 g10 _ _ _ _ (.head _)
    have HF5 := HF7.fill3 (by omega) (by simp; omega) (.bool n8) (.slice a8 z8.length c8) (.int .i64 x8)
    replace l0 := lie_set3Q (g := g10) HF7.head (.bool n8) (.slice a8 z8.length c8) (.int .i64 x8) l0
    replace l8 := lie_set3Q (g := g10) HF7.head (.bool n8) (.slice a8 z8.length c8) (.int .i64 x8) l8
    refine Drawn.one (j := 3) (by kernel_rfl) rfl (fun K hK => ?_)
    go_simp
    replace HI := HF5.sub (L' := [(g8, DO n8 a8 z8.length c8 x8), (g7, DO n0 a0 z0.length c0 x0), (w.heap.size, DO true a z.length c ex)]) (by simp)
    refine hK _ _ HI ?_
    clear hK K f0 f1 f2 r0 r1 r2 HF7
    generalize ((W14.setCell ⟨g10, 0, none⟩ (.bool n8)).setCell ⟨g10, 1, none⟩ (.slice a8 z8.length c8)).setCell ⟨g10, 2, none⟩ (.int .i64 x8) = W12 at *
    refine Drawn.done (by kernel_rfl) ?_
    try go_simp
    clear sh HI
    obtain ⟨⟨p0, p1, p2⟩, _⟩ := cells3 HF5 g10 _ _ _ _ (.head _)
    obtain ⟨⟨q0, q1, q2⟩, _⟩ := cells3 HF5 g9 _ _ _ _ (.tail _ (.head _))
    obtain ⟨⟨f0, f1, f2⟩, _⟩ := cells3 HF5 g8 _ _ _ _ (.tail _ (.tail _ (.head _)))
    obtain ⟨⟨t0, t1, t2⟩, _⟩ := cells3 HF5 g7 _ _ _ _ (.tail _ (.tail _ (.tail _ (.head _))))
    obtain ⟨⟨u0, u1, u2⟩, _⟩ := cells3 HF5 w.heap.size _ _ _ _ (.tail _ (.tail _ (.tail _ (.tail _ (.tail _ (.head _))))))
    obtain ⟨⟨v0, v1, v2⟩, r0, r1, r2⟩ := cells3 HF5 (w.heap.size + 1) _ _ _ _ (.tail _ (.tail _ (.tail _ (.tail _ (.head _)))))
    go_wp2_with fail
    clear p0 p1 p2 q0 q1 q2 f0 f1 f2 t0 t1 t2 u0 u1 u2 v0 v1 v2 r0 r1 r2
    have HF := HF5.drew
    replace l0 := l0.below (Below.refl _ _).drew (Nat.le_refl _)
    replace l8 := l8.below (Below.refl _ _).drew (Nat.le_refl _)
    clear HF5
    have HI := HF.sub (L' := [(g8, DO n8 a8 z8.length c8 x8), (g7, DO n0 a0 z0.length c0 x0), (w.heap.size, DO true a z.length c ex)]) (by simp)
    have sh := fun W (hW : Bx w [(g8, DO n8 a8 z8.length c8 x8), (g7, DO n0 a0 z0.length c0 x0), (w.heap.size, DO true a z.length c ex)] W) => And.intro (cells3 hW g8 _ _ _ _ (.head _)).1 (And.intro (cells3 hW g7 _ _ _ _ (.tail _ (.head _))).1 (cells3 hW w.heap.size _ _ _ _ (.tail _ (.tail _ (.head _)))).1)
    refine Drawn.enter (Bx w [(g8, DO n8 a8 z8.length c8 x8), (g7, DO n0 a0 z0.length c0 x0), (w.heap.size, DO true a z.length c ex)]) (by kernel_rfl) ?_
    refine Drawn.tk (i := 0) (v := ?v539) rfl (fun W hW => ?_) HI ?_
    rotate_left
    · have ⟨⟨f0, f1, f2⟩, ⟨t0, t1, t2⟩, s0, s1, s2⟩ := sh W hW
      go_simp <;> exact rfl
    refine Drawn.tk (i := 1) (v := ?v540) rfl (fun W hW => ?_) HI ?_
    rotate_left
    · have ⟨⟨f0, f1, f2⟩, ⟨t0, t1, t2⟩, s0, s1, s2⟩ := sh W hW
      go_simp <;> exact rfl
    refine Drawn.tk (i := 3) (v := ?v541) rfl (fun W hW => ?_) HI ?_
    rotate_left
    · have ⟨⟨f0, f1, f2⟩, ⟨t0, t1, t2⟩, s0, s1, s2⟩ := sh W hW
      go_simp <;> exact rfl
    refine Drawn.tk (i := 4) (v := ?v542) rfl (fun W hW => ?_) HI ?_
    rotate_left
    · have ⟨⟨f0, f1, f2⟩, ⟨t0, t1, t2⟩, s0, s1, s2⟩ := sh W hW
      go_simp <;> exact rfl
    refine Drawn.one (j := 2) (by kernel_rfl) rfl (fun K hK => ?_)
    go_simp
    refine (H7 n0 z0 x0 a0 c0 _ HF0.out l0 (l.below HF.bel (Nat.le_refl _))).out.mono ?_
    rintro e' W20 ⟨n5, z5, x5, a5, c5, rfl, f5, l5, hn⟩
    refine hK _ _ (HI.keep hn) ?_
    clear hK K
    replace HI := HI.keep hn
    replace HF := HF.keep hn
    replace l0 := l0.below hn (Nat.le_refl _)
    replace l8 := l8.below hn (Nat.le_refl _)
    clear hn
    refine Drawn.one (j := 5) (by kernel_rfl) rfl (fun K hK => ?_)
    go_simp
    refine (H8 n8 z8 x8 a8 c8 _ HF8.out l8 (l.below HF.bel (Nat.le_refl _))).out.mono ?_
    rintro e' W20 ⟨n6, z6, x6, a6, c6, rfl, f6, l6, hn⟩
    refine hK _ _ (HI.keep hn) ?_
    clear hK K
    replace HI := HI.keep hn
    replace HF := HF.keep hn
    replace l0 := l0.below hn (Nat.le_refl _)
    replace l8 := l8.below hn (Nat.le_refl _)
    replace l5 := l5.below hn (Nat.le_refl _)
    clear hn
    refine Drawn.one (j := 6) (by kernel_rfl) rfl (fun K hK => ?_)
    go_simp
    refine (H9 n5 z5 x5 a5 c5 n6 z6 x6 a6 c6 _ f5 f6 l5 l6).out.mono ?_
    rintro e' W20 ⟨rfl, hn⟩
    refine hK _ _ (HI.keep hn) ?_
    clear hK K
    replace HI := HI.keep hn
    replace HF := HF.keep hn
    replace l0 := l0.below hn (Nat.le_refl _)
    replace l8 := l8.below hn (Nat.le_refl _)
    clear hn
    refine Drawn.tk (i := 7) (v := ?v543) rfl (fun W hW => ?_) HI ?_
    rotate_left
    · have ⟨⟨f0, f1, f2⟩, ⟨t0, t1, t2⟩, s0, s1, s2⟩ := sh W hW
      go_simp <;> exact rfl
    refine Drawn.done (by kernel_rfl) ?_
    try go_simp
    clear sh HI l5 l6 f5 f6 H7 H8 H9
    have HF5 := HF
    clear HF
    obtain ⟨⟨p0, p1, p2⟩, _⟩ := cells3 HF5 g10 _ _ _ _ (.head _)
    obtain ⟨⟨q0, q1, q2⟩, _⟩ := cells3 HF5 g9 _ _ _ _ (.tail _ (.head _))
    obtain ⟨⟨f0, f1, f2⟩, _⟩ := cells3 HF5 g8 _ _ _ _ (.tail _ (.tail _ (.head _)))
    obtain ⟨⟨t0, t1, t2⟩, _⟩ := cells3 HF5 g7 _ _ _ _ (.tail _ (.tail _ (.tail _ (.head _))))
    obtain ⟨⟨u0, u1, u2⟩, _⟩ := cells3 HF5 w.heap.size _ _ _ _ (.tail _ (.tail _ (.tail _ (.tail _ (.tail _ (.head _))))))
    obtain ⟨⟨v0, v1, v2⟩, r0, r1, r2⟩ := cells3 HF5 (w.heap.size + 1) _ _ _ _ (.tail _ (.tail _ (.tail _ (.tail _ (.head _)))))
    go_wp2_with fail
    refine (H10 n0 z0 x0 a0 c0 _ HF0.out).out.mono ?_
    rintro e' W20 ⟨x9, rfl, f9, hn⟩
    clear p0 p1 p2 q0 q1 q2 f0 f1 f2 t0 t1 t2 u0 u1 u2 v0 v1 v2 r0 r1 r2
    have HF := (HF5.keep hn).push (DO n0 a0 z0.length c0 x9)
    replace l0 := l0.below hn (Nat.le_refl _)
    replace l8 := l8.below hn (Nat.le_refl _)
    replace l0 := l0.below (below_alloc W20 (DO n0 a0 z0.length c0 x9)) (Nat.le_refl _)
    replace l8 := l8.below (below_alloc W20 (DO n0 a0 z0.length c0 x9)) (Nat.le_refl _)
    clear hn HF5
    have K9 := Hide.mk f9
    clear f9
    obtain ⟨⟨k0, k1, k2⟩, _⟩ := cells3 HF W20.heap.size _ _ _ _ (.head _)
    go_wp2_with fail
    clear k0 k1 k2
    generalize W20.alloc (DO n0 a0 z0.length c0 x9) = W21 at *
    generalize W20.heap.size = g12 at *
    replace HF := HF.drew
    replace l0 := l0.below (Below.refl _ _).drew (Nat.le_refl _)
    replace l8 := l8.below (Below.refl _ _).drew (Nat.le_refl _)
    have HI := HF.sub (L' := [(g12, DO n0 a0 z0.length c0 x9)]) (by simp)
    have sh := fun W (hW : Bx w [(g12, DO n0 a0 z0.length c0 x9)] W) => (cells3 hW g12 _ _ _ _ (.head _)).1
    refine Drawn.enter (Bx w [(g12, DO n0 a0 z0.length c0 x9)]) (by kernel_rfl) ?_
    refine Drawn.tk (i := 0) (v := ?v544) rfl (fun W hW => ?_) HI ?_
    rotate_left
    · have ⟨k0, k1, k2⟩ := sh W hW
      go_simp <;> exact rfl
    refine Drawn.tk (i := 3) (v := ?v545) rfl (fun W hW => ?_) HI ?_
    rotate_left
    · have ⟨k0, k1, k2⟩ := sh W hW
      go_simp <;> exact rfl
    refine Drawn.one (j := 1) (by kernel_rfl) rfl (fun K hK => ?_)
    go_simp
    refine (H11 n0 z0 x9 a0 c0 _ K9.out).out.mono ?_
    rintro e' W22 ⟨x10, rfl, f10, hn⟩
    refine hK _ _ (HI.keep hn) ?_
    clear hK K
    replace HI := HI.keep hn
    replace HF := HF.keep hn
    replace l0 := l0.below hn (Nat.le_refl _)
    replace l8 := l8.below hn (Nat.le_refl _)
    clear hn
    refine Drawn.one (j := 2) (by kernel_rfl) rfl (fun K hK => ?_)
    go_simp
    refine (H12 n0 z0 x10 a0 c0 _ f10 l0).out.mono ?_
    rintro e' W22 ⟨n11, z11, x11, a11, c11, rfl, f11, l11, hn⟩
    refine hK _ _ (HI.keep hn) ?_
    clear hK K
    replace HI := HI.keep hn
    replace HF := HF.keep hn
    replace l0 := l0.below hn (Nat.le_refl _)
    replace l8 := l8.below hn (Nat.le_refl _)
    clear hn
    refine Drawn.one (j := 4) (by kernel_rfl) rfl (fun K hK => ?_)
    go_simp
    refine (H11 n0 z0 x9 a0 c0 _ K9.out).out.mono ?_
    rintro e' W22 ⟨x12, rfl, f12, hn⟩
    refine hK _ _ (HI.keep hn) ?_
    clear hK K
    replace HI := HI.keep hn
    replace HF := HF.keep hn
    replace l0 := l0.below hn (Nat.le_refl _)
    replace l8 := l8.below hn (Nat.le_refl _)
    replace l11 := l11.below hn (Nat.le_refl _)
    clear hn
    refine Drawn.one (j := 5) (by kernel_rfl) rfl (fun K hK => ?_)
    go_simp
    refine (H13 n11 z11 x11 a11 c11 n0 z0 x12 a0 c0 _ f11 f12 l11 l0).out.mono ?_
    rintro e' W22 ⟨rfl, hn⟩
    refine hK _ _ (HI.keep hn) ?_
    clear hK K
    replace HI := HI.keep hn
    replace HF := HF.keep hn
    replace l0 := l0.below hn (Nat.le_refl _)
    replace l8 := l8.below hn (Nat.le_refl _)
    clear hn
    refine Drawn.done (by kernel_rfl) ?_
    try go_simp
    clear sh HI l11 f10 f11 f12 H10 H11 H12 H13 K9
    have HF5 := HF.tail
    clear HF
    obtain ⟨⟨p0, p1, p2⟩, _⟩ := cells3 HF5 g10 _ _ _ _ (.head _)
    obtain ⟨⟨q0, q1, q2⟩, _⟩ := cells3 HF5 g9 _ _ _ _ (.tail _ (.head _))
    obtain ⟨⟨f0, f1, f2⟩, _⟩ := cells3 HF5 g8 _ _ _ _ (.tail _ (.tail _ (.head _)))
    obtain ⟨⟨t0, t1, t2⟩, _⟩ := cells3 HF5 g7 _ _ _ _ (.tail _ (.tail _ (.tail _ (.head _))))
    obtain ⟨⟨u0, u1, u2⟩, _⟩ := cells3 HF5 w.heap.size _ _ _ _ (.tail _ (.tail _ (.tail _ (.tail _ (.tail _ (.head _))))))
    obtain ⟨⟨v0, v1, v2⟩, r0, r1, r2⟩ := cells3 HF5 (w.heap.size + 1) _ _ _ _ (.tail _ (.tail _ (.tail _ (.tail _ (.head _)))))
    go_wp2
    have Br := HF5.sub (L' := [(w.heap.size + 1, DO false none 0 0 0)]) (by simp)
    have Bf := Br.fill3 (by omega) (by simp) (.bool n8) (.slice a8 z8.length c8) (.int .i64 x8)
    refine bodyPost_ret (results_D1 rfl _ _ (w.heap.size + 1) _ rfl ⟨Bf.head, rfl⟩) rfl ?_
    exact ⟨n8, z8, x8, a8, c8, rfl, HF8.out, lie_set3P (g := w.heap.size + 1) Br.head _ _ _ l8, Bf.bel⟩

theorem Fm.shiftN {s E : Int} {n : Bool} {z : List Int} {x : Int} (F : Fm s E n z x) (hz : z.length ≠ 0) (c : Int) : Fm s (E + c) n z (x + c) := by
  rcases F with ⟨rfl, rfl, rfl, rfl⟩ | ⟨h, t, ht, hn, rfl, hc, hv⟩
  · simp at hz
  · exact .inr ⟨h, t, ht, hn, by omega, hc, hv⟩
theorem fm_len32 {s E : Int} {n : Bool} {z : List Int} {x : Int} (F : Fm s E n z x) {N : Nat} (r : Rm s E N) : 32 * z.length ≤ N + 31 := by
  by_cases h : s = 0
  · subst h
    obtain ⟨rfl, rfl, rfl⟩ := F.zero
    simp
  · obtain ⟨L, hL, hN⟩ := bl_of r.lo r.hi
    obtain ⟨t, rfl, k, _, _, _, _, _, g⟩ := F.data h hL
    omega
theorem two_fm (e : Int) : Fm 1 e false [1] e := .inr ⟨by decide, 0, ⟨by decide, by decide⟩, by decide, by omega, by
  refine can_cons (by decide) (by decide) Nt.can_nil (by intro _; decide), by decide⟩
theorem dg_of_fm {s E : Int} {n : Bool} {z : List Int} {x : Int} (F : Fm s E n z x) (r : Rm s E 64) (h1 : -1000000 ≤ E) (h2 : E ≤ 1000000) : DG n z x := by
  by_cases h : s = 0
  · subst h
    obtain ⟨rfl, rfl, rfl⟩ := F.zero
    exact zeroDG
  · have hl := fm_len32 F r
    obtain ⟨L, hL, hN⟩ := bl_of r.lo r.hi
    obtain ⟨t, rfl, k, hc, hz, _, _, _, g⟩ := F.data h hL
    rcases F with ⟨rfl, _⟩ | ⟨_, t', ht, hn, hx, _, hv⟩
    · exact absurd rfl h
    · exact ⟨hc, by omega, .inr ⟨hz, by rw [hv]; exact ht.one, by omega, by omega⟩⟩
theorem rHalf (n : Bool) (a : Option Addr) (c k : Nat) (x : Int) (P : Int → Prop) (w : World)
    (HS : ∀ W, Calls Tryz.prog 90 #[dV n a k c x, .int .i64 (-1)] W fun e' w' => ∃ x', e' = .returned (dV n a k c x') ∧ P x' ∧ Below W.heap.size W w') :
    Calls Tryz.prog 93 #[dV n a k c x] w fun e' w' => ∃ x', e' = .returned (dV n a k c x') ∧ P x' ∧ Below w.heap.size w w' := by
  have H := fun W => Hide.mk (HS W)
  clear HS
  have B1 := ((Bx.nil w).push (DO n a k c x)).push (DO false none 0 0 0)
  rw [show (w.alloc (DO n a k c x)).heap.size = w.heap.size + 1 by simp] at B1
  obtain ⟨⟨s0, s1, s2⟩, _⟩ := cells3 B1 w.heap.size _ _ _ _ (.tail _ (.head _))
  go_enter Tryz.func93, Tryz.ntmps93
  go_wp2_with fail
  refine (H _).out.mono ?_
  rintro e' w2 ⟨x', rfl, hp, h2⟩
  have B2 := (B1.keep h2).sub (L' := [(w.heap.size + 1, DO false none 0 0 0)]) (by simp)
  have HP := Hide.mk hp
  clear h2 hp B1 s0 s1 s2 H
  obtain ⟨⟨t0, t1, t2⟩, r0, r1, r2⟩ := cells3 B2 (w.heap.size + 1) _ _ _ _ (.head _)
  go_wp2
  have Bf := B2.fill3 (by omega) (by simp) (.bool n) (.slice a k c) (.int .i64 x')
  refine bodyPost_ret (results_D1 rfl _ _ (w.heap.size + 1) _ rfl ⟨Bf.head, rfl⟩) rfl ?_
  exact ⟨x', rfl, HP.out, Bf.bel⟩
theorem rTaken (m : Int) (hm : Mode m) (n : Bool) (a : Option Addr) (c : Nat) (z : List Int) (ex e : Int) (w : World) (l : Lie w a z) {X E h : Int} {g : Bool} {k M : Nat} (hE : E + k = e) (hc : Nt.Can z) (hlen : z.length ≤ 4096) (hx1 : -60000000 ≤ ex + -e) (hx2 : ex + -e ≤ 60000000) (hz : z.length ≠ 0) (F : Fm (sv n X) E n z ex) (H : HalfAt X (2 ^ k) h g) (hX : X < 2 ^ M) (hkM : k ≤ M) (hM : M + 2 ≤ 68000000) (hE1 : -60000000 ≤ E) (hE2 : E + M + 2 ≤ 60000000) (hh : h < 2 ^ 62) (he1 : -40000000 ≤ e) (he2 : e ≤ 40000000) :
    Calls Tryz.prog 57 #[.int .u8 m, dV n a z.length c ex, .int .i64 e] w fun e' w' => RF w w' (sv n (tk m n h g)) e e' := by
  obtain ⟨b0, b1, b2, b3, b4, b5, b6⟩ := H.between
  obtain ⟨d1, d2, d3⟩ := H.flr_bd n
  have hfl := H.floor n
  have xp := H.xp
  have hU := p2pos k
  have hUM := p2le hkM
  have hlf : -(2 ^ 62) < flr n h g ∧ flr n h g < 2 ^ 62 := by unfold flr; split <;> (try split) <;> omega
  obtain ⟨lf, hlf0⟩ : ∃ lf, flr n h g = lf := ⟨_, rfl⟩
  obtain ⟨s, hs⟩ : ∃ s, sv n X = s := ⟨_, rfl⟩
  rw [hlf0] at d1 d2 d3 hfl hlf
  rw [hs] at d1 d2 d3 hfl F
  have hsb : -(2 ^ M) < s ∧ s < 2 ^ M := by rw [← hs]; cases n <;> simp only [sv_t, sv_f] <;> omega
  have eM : (2 : Int) ^ (M + 2) = 4 * 2 ^ M := by rw [Int.pow_add]; omega
  have hpM := p2pos M
  have hlo : s < lf * 2 ^ k + 2 ^ k ∧ lf * 2 ^ k ≤ s := by
    by_cases q : plc h g = 0
    · have := d1.1 q; omega
    · have := d2 q; omega
  have eU : (2 : Int) ^ (M + 2) ≥ 4 * 2 ^ k := by omega
  have rs : Rm s E (M + 2) := ⟨by omega, by omega⟩
  have rlo : Rm (lf * 2 ^ k) E (M + 2) := ⟨by omega, by omega⟩
  have rhi : Rm (lf * 2 ^ k + 2 ^ k) E (M + 2) := ⟨by omega, by omega⟩
  have rU : Rm (1 * 2 ^ k) E (M + 2) := ⟨by omega, by omega⟩
  have rd1 : Rm (s - lf * 2 ^ k) E (M + 2) := ⟨by omega, by omega⟩
  have rd2 : Rm (lf * 2 ^ k + 2 ^ k - s) E (M + 2) := ⟨by omega, by omega⟩
  have rlf : ∀ E', Rm lf E' 64 := fun E' => ⟨by omega, by omega⟩
  have K1 : ∀ W, Calls Tryz.prog 90 #[dV n a z.length c ex, .int .i64 (-e)] W fun e' w' => e' = .returned (dV n a z.length c (ex + -e)) ∧ Below W.heap.size W w' := fun W => by
    exact rShiftX n a c z.length ex (-e) (by omega) (by omega) (by omega) W
  have K2 : ∀ W, Lie W a z → Calls Tryz.prog 91 #[dV n a z.length c (ex + -e)] W fun e' w' => RF W w' lf 0 e' := fun W hW => by
    have F1 := F.shiftN hz (-e)
    rw [show E + -e = -(k : Int) by omega] at F1
    have := floorW n a c z (ex + -e) W hW hc hlen hx1 F1
    rw [hfl] at this
    exact this
  have K3 : ∀ n0 z0 x0 a0 c0 W, Fm lf 0 n0 z0 x0 → Calls Tryz.prog 90 #[dV n0 a0 (List.length z0) c0 x0, .int .i64 e] W fun e' w' => ∃ x', e' = .returned (dV n0 a0 z0.length c0 x') ∧ Fm (lf * 2 ^ k) E n0 z0 x' ∧ Below W.heap.size W w' := fun n0 z0 x0 a0 c0 W f => by
    refine (shiftM 64 n0 a0 c0 z0 x0 e W f (rlf 0) (by omega) (by omega) (by omega) (by omega) (by omega)).mono ?_
    rintro e' w' ⟨x', rfl, f', hb⟩
    rw [show 0 + e = E + (k : Int) by omega] at f'
    exact ⟨x', rfl, f'.scale, hb⟩
  have K4 : ∀ q, decide (lf * 2 ^ k = s) = q → ∀ n0 z0 x0 a0 c0 W, Fm (lf * 2 ^ k) E n0 z0 x0 → Lie W a0 z0 → Lie W a z → Calls Tryz.prog 21 #[dV n0 a0 (List.length z0) c0 x0, dV n a z.length c ex] W fun e' w' => e' = .returned (.bool q) ∧ Below W.heap.size W w' := fun q hq n0 z0 x0 a0 c0 W f l0 l1 => by
    have a1 := fm_len32 f rlo
    have a2 := fm_len32 F rs
    exact sameF n0 n a0 a c0 c z0 z x0 ex W l0 l1 f F (by omega) (by omega) q hq
  have K6 : ∀ n0 z0 x0 a0 c0 a1 c1 W, Fm (lf * 2 ^ k) E n0 z0 x0 → Lie W a0 z0 → Lie W a1 [1] → Calls Tryz.prog 69 #[dV n0 a0 (List.length z0) c0 x0, dV false a1 ([1] : List Int).length c1 e] W fun e' w' => RF W w' (lf * 2 ^ k + 2 ^ k) E e' := fun n0 z0 x0 a0 c0 a1 c1 W f l0 l1 => by
    have f2 := two_fm e
    rw [← hE] at f2
    have f3 := f2.scale
    have := addM (M + 2) n0 false a0 a1 c0 c1 z0 [1] x0 (E + k) W l0 l1 f f3 rlo rU hM hE1 (by omega)
    rw [Int.one_mul, hE] at this
    exact this
  have K7 : ∀ n0 z0 x0 a0 c0 W, Fm (lf * 2 ^ k) E n0 z0 x0 → Lie W a0 z0 → Lie W a z → Calls Tryz.prog 35 #[dV n a z.length c ex, dV n0 a0 (List.length z0) c0 x0] W fun e' w' => RF W w' (s - lf * 2 ^ k) E e' := fun n0 z0 x0 a0 c0 W f l0 l1 =>
    subM (M + 2) n n0 a a0 c c0 z z0 ex x0 W l1 l0 F f rs rlo hM hE1 (by omega)
  have K8 : ∀ n0 z0 x0 a0 c0 W, Fm (lf * 2 ^ k + 2 ^ k) E n0 z0 x0 → Lie W a0 z0 → Lie W a z → Calls Tryz.prog 35 #[dV n0 a0 (List.length z0) c0 x0, dV n a z.length c ex] W fun e' w' => RF W w' (lf * 2 ^ k + 2 ^ k - s) E e' := fun n0 z0 x0 a0 c0 W f l0 l1 =>
    subM (M + 2) n0 n a0 a c0 c z0 z x0 ex W l0 l1 f F rhi rs hM hE1 (by omega)
  have K9 : plc h g ≠ 0 → ∀ cv, sgn (s - lf * 2 ^ k) (lf * 2 ^ k + 2 ^ k - s) = cv → ∀ n1 z1 x1 a1 c1 n2 z2 x2 a2 c2 W, Fm (s - lf * 2 ^ k) E n1 z1 x1 → Fm (lf * 2 ^ k + 2 ^ k - s) E n2 z2 x2 → Lie W a1 z1 → Lie W a2 z2 → Calls Tryz.prog 38 #[dV n1 a1 (List.length z1) c1 x1, dV n2 a2 (List.length z2) c2 x2] W fun e' w' => e' = .returned (.int .i64 cv) ∧ Below W.heap.size W w' := fun hp cv hcv n1 z1 x1 a1 c1 n2 z2 x2 a2 c2 W f1 f2 l1 l2 => by
    have := d2 hp
    rw [← hcv]
    exact cmpM (M + 2) n1 n2 a1 a2 c1 c2 z1 z2 x1 x2 W l1 l2 f1 f2 (by omega) (by omega) rd1 rd2 hM hE1 (by omega)
  have K10 : ∀ n0 z0 x0 a0 c0 W, Fm (lf * 2 ^ k) E n0 z0 x0 → Calls Tryz.prog 90 #[dV n0 a0 (List.length z0) c0 x0, .int .i64 (-e)] W fun e' w' => ∃ x', e' = .returned (dV n0 a0 z0.length c0 x') ∧ Fm lf 0 n0 z0 x' ∧ Below W.heap.size W w' := fun n0 z0 x0 a0 c0 W f => by
    have f2 := f.unscale
    rw [hE] at f2
    refine (shiftM 64 n0 a0 c0 z0 x0 (-e) W f2 (rlf e) (by omega) (by omega) (by omega) (by omega) (by omega)).mono ?_
    rintro e' w' ⟨x', rfl, f', hb⟩
    rw [show e + -e = 0 by omega] at f'
    exact ⟨x', rfl, f', hb⟩
  have K11 : ∀ n0 z0 x0 a0 c0 W, Fm lf 0 n0 z0 x0 → Calls Tryz.prog 93 #[dV n0 a0 (List.length z0) c0 x0] W fun e' w' => ∃ x', e' = .returned (dV n0 a0 z0.length c0 x') ∧ Fm lf (-1) n0 z0 x' ∧ Below W.heap.size W w' := fun n0 z0 x0 a0 c0 W f => by
    refine rHalf n0 a0 c0 z0.length x0 (fun x' => Fm lf (-1) n0 z0 x') W (fun V => ?_)
    exact shiftM 64 n0 a0 c0 z0 x0 (-1) V f (rlf 0) (by omega) (by omega) (by omega) (by omega) (by omega)
  have K12 : ∀ n0 z0 x0 a0 c0 W, Fm lf (-1) n0 z0 x0 → Lie W a0 z0 → Calls Tryz.prog 91 #[dV n0 a0 (List.length z0) c0 x0] W fun e' w' => RF W w' (lf / 2) 0 e' := fun n0 z0 x0 a0 c0 W f l0 => by
    have := floorF n0 a0 c0 z0 x0 W l0 (dg_of_fm f (rlf _) (by omega) (by omega)) (k := 1) f (by omega)
    exact this
  have K13 : ∀ ev, decide (lf / 2 * 2 = lf) = ev → ∀ n0 z0 x0 a0 c0 n1 z1 x1 a1 c1 W, Fm (lf / 2) 0 n0 z0 x0 → Fm lf (-1) n1 z1 x1 → Lie W a0 z0 → Lie W a1 z1 → Calls Tryz.prog 21 #[dV n0 a0 (List.length z0) c0 x0, dV n1 a1 (List.length z1) c1 x1] W fun e' w' => e' = .returned (.bool ev) ∧ Below W.heap.size W w' := fun ev hev n0 z0 x0 a0 c0 n1 z1 x1 a1 c1 W f1 f2 l1 l2 => by
    have f3 : Fm (lf / 2) (-1 + (1 : Nat)) n0 z0 x0 := f1
    have r2 : Rm (lf / 2) 0 64 := ⟨by omega, by omega⟩
    have a1' := fm_len32 f1 r2
    have a2' := fm_len32 f2 (rlf _)
    exact sameF n0 n1 a0 a1 c0 c1 z0 z1 x0 x1 W l1 l2 f3.scale f2 (by omega) (by omega) ev hev
  have back : ∀ {n' z' x'}, Fm (lf * 2 ^ k) E n' z' x' → Fm lf e n' z' x' := fun f => by rw [← hE]; exact f.unscale
  have back2 : ∀ {n' z' x'}, Fm (lf * 2 ^ k + 2 ^ k) E n' z' x' → Fm (lf + 1) e n' z' x' := fun f => by
    rw [← hE]
    refine Fm.unscale ?_
    rw [Int.add_mul, Int.one_mul]; exact f
  by_cases hp : plc h g = 0
  · have e1 := d1.1 hp
    have et : sv n (tk m n h g) = lf := by
      rw [← hlf0]; unfold tk flr
      rw [if_pos hp, if_pos hp]
      cases n <;> simp [sv_t, sv_f]
    rw [et]
    refine (tkX m lf n a c z ex e E s (lf * 2 ^ k) (lf * 2 ^ k + 2 ^ k) w l (by omega) (by omega) K1 K2 K3 (K4 true (decide_eq_true e1))).mono ?_
    rintro e' w' ⟨n', z', x', a', c', rfl, ⟨rfl, rfl, rfl⟩, l', hb⟩
    exact ⟨n', z', x', a', c', rfl, back (by rw [e1]; exact F), l', hb⟩
  · have q4 := K4 false (decide_eq_false fun q => hp (d1.2 q))
    have et := taken_is m n h g hm hp
    rw [hlf0] at et
    have K9 := K9 hp
    have d3 := d3 hp
    have low : isHigh m n h g = false → ∀ e' w', (∃ n' z' x' a' c', e' = Ending.returned (dV n' a' (List.length z') c' x') ∧ Fm (lf * 2 ^ k) E n' z' x' ∧ Lie w' a' z' ∧ Below w.heap.size w w') → RF w w' (sv n (tk m n h g)) e e' := by
      rintro hi e' w' ⟨n', z', x', a', c', rfl, f', l', hb⟩
      rw [et, hi]
      exact ⟨n', z', x', a', c', rfl, by simpa using back f', l', hb⟩
    have high : isHigh m n h g = true → ∀ e' w', (∃ n' z' x' a' c', e' = Ending.returned (dV n' a' (List.length z') c' x') ∧ Fm (lf * 2 ^ k + 2 ^ k) E n' z' x' ∧ Lie w' a' z' ∧ Below w.heap.size w w') → RF w w' (sv n (tk m n h g)) e e' := by
      rintro hi e' w' ⟨n', z', x', a', c', rfl, f', l', hb⟩
      rw [et, hi]
      exact ⟨n', z', x', a', c', rfl, by simpa using back2 f', l', hb⟩
    have pc := plc_cases h g
    have sel3 : ∀ m : Int, m = 1 ∨ m = 2 → plc h g ≠ 2 → isHigh m n h g = decide ((plc h g = 3) = (n = false)) := by
      rintro m hm h2
      unfold isHigh
      rcases hm with rfl | rfl <;> simp [h2]
    have side : plc h g ≠ 2 → ((sgn (s - lf * 2 ^ k) (lf * 2 ^ k + 2 ^ k - s) = -1 ∧ decide ((plc h g = 3) = (n = false)) = false) ∨ (sgn (s - lf * 2 ^ k) (lf * 2 ^ k + 2 ^ k - s) = 1 ∧ decide ((plc h g = 3) = (n = false)) = true)) := by
      intro h2
      rw [d3, if_neg h2]
      rcases pc with ⟨p, _⟩ | ⟨p, _⟩ | ⟨p, _⟩ | ⟨p, _⟩
      · exact absurd p hp
      · rw [p]; cases n <;> simp
      · exact absurd p h2
      · rw [p]; cases n <;> simp
    rcases hm with rfl | rfl | rfl | rfl | rfl
    · by_cases h2 : plc h g = 2
      · have cv : sgn (s - lf * 2 ^ k) (lf * 2 ^ k + 2 ^ k - s) = 0 := by rw [d3, if_pos h2]
        have ih : isHigh 1 n h g = decide (lf % 2 ≠ 0) := by unfold isHigh; simp [h2, hlf0]
        by_cases ev : lf / 2 * 2 = lf
        · refine (tk1e lf n a c z ex e E s (lf * 2 ^ k) (lf * 2 ^ k + 2 ^ k) w l (by omega) (by omega) K1 K2 K3 q4 K6 K7 K8 (K9 _ cv) K10 K11 K12 (K13 true (decide_eq_true ev))).mono (low (by rw [ih]; exact decide_eq_false (by omega)))
        · refine (tk1o lf n a c z ex e E s (lf * 2 ^ k) (lf * 2 ^ k + 2 ^ k) w l (by omega) (by omega) K1 K2 K3 q4 K6 K7 K8 (K9 _ cv) K10 K11 K12 (K13 false (decide_eq_false ev))).mono (high (by rw [ih]; exact decide_eq_true (by omega)))
      · rcases side h2 with ⟨cv, q⟩ | ⟨cv, q⟩
        · exact (tk1l lf n a c z ex e E s (lf * 2 ^ k) (lf * 2 ^ k + 2 ^ k) w l (by omega) (by omega) K1 K2 K3 q4 K6 K7 K8 (K9 _ cv)).mono (low (by rw [sel3 1 (.inl rfl) h2]; exact q))
        · exact (tk1h lf n a c z ex e E s (lf * 2 ^ k) (lf * 2 ^ k + 2 ^ k) w l (by omega) (by omega) K1 K2 K3 q4 K6 K7 K8 (K9 _ cv)).mono (high (by rw [sel3 1 (.inl rfl) h2]; exact q))
    · by_cases h2 : plc h g = 2
      · have cv : sgn (s - lf * 2 ^ k) (lf * 2 ^ k + 2 ^ k - s) = 0 := by rw [d3, if_pos h2]
        have ih : isHigh 2 n h g = !n := by unfold isHigh; simp [h2]
        refine (tk2t lf n a c z ex e E s (lf * 2 ^ k) (lf * 2 ^ k + 2 ^ k) w l (by omega) (by omega) K1 K2 K3 q4 K6 K7 K8 (K9 _ cv) _ rfl).mono ?_
        cases n
        · exact high (by rw [ih]; rfl)
        · exact low (by rw [ih]; rfl)
      · rcases side h2 with ⟨cv, q⟩ | ⟨cv, q⟩
        · exact (tk2l lf n a c z ex e E s (lf * 2 ^ k) (lf * 2 ^ k + 2 ^ k) w l (by omega) (by omega) K1 K2 K3 q4 K6 K7 K8 (K9 _ cv)).mono (low (by rw [sel3 2 (.inr rfl) h2]; exact q))
        · exact (tk2h lf n a c z ex e E s (lf * 2 ^ k) (lf * 2 ^ k + 2 ^ k) w l (by omega) (by omega) K1 K2 K3 q4 K6 K7 K8 (K9 _ cv)).mono (high (by rw [sel3 2 (.inr rfl) h2]; exact q))
    · have ih : isHigh 3 n h g = n := by unfold isHigh; simp
      refine (tk3 lf n a c z ex e E s (lf * 2 ^ k) (lf * 2 ^ k + 2 ^ k) w l (by omega) (by omega) K1 K2 K3 q4 K6 _ rfl).mono ?_
      cases n
      · exact low (by rw [ih])
      · exact high (by rw [ih])
    · exact (tk4 lf n a c z ex e E s (lf * 2 ^ k) (lf * 2 ^ k + 2 ^ k) w l (by omega) (by omega) K1 K2 K3 q4 K6).mono (high (by unfold isHigh; simp))
    · exact (tk5 lf n a c z ex e E s (lf * 2 ^ k) (lf * 2 ^ k + 2 ^ k) w l (by omega) (by omega) K1 K2 K3 q4 K6).mono (low (by unfold isHigh; simp))

theorem rFracE (b : Bool) (w : World) :
    Calls Tryz.prog 54 #[.int .u8 (fm b)] w fun e w' => e = .returned (.int .i64 (fc b)) ∧ w = w' := by
  cases b
  · rw [show fm false = 1 from rfl]
    go_enter Tryz.func54, Tryz.ntmps54
    go_wp2
    go_ret
    exact ⟨rfl, rfl⟩
  · rw [show fm true = 2 from rfl]
    go_enter Tryz.func54, Tryz.ntmps54
    go_wp2
    go_ret
    exact ⟨rfl, rfl⟩
theorem rLowE (b : Bool) (w : World) :
    Calls Tryz.prog 56 #[.int .u8 (fm b)] w fun e w' => e = .returned (.int .i64 (lo b)) ∧ w = w' := by
  cases b
  · rw [show fm false = 1 from rfl]
    go_enter Tryz.func56, Tryz.ntmps56
    go_wp2
    go_ret
    exact ⟨rfl, rfl⟩
  · rw [show fm true = 2 from rfl]
    go_enter Tryz.func56, Tryz.ntmps56
    go_wp2
    go_ret
    exact ⟨rfl, rfl⟩
theorem shl_one (b : Bool) (W : World) : Sem.run Tryz.prog (Op.shift .shl .u64 1 .i64 (fc b)) W = .ok (.int .u64 (fr b)) W := by
  have := fr_le b
  have := fr_pos b
  rw [shl_fc, Int.one_mul, Int.emod_eq_of_lt (by omega) (by omega)]
theorem rSgn_nil (a : Option Addr) (c : Nat) (n : Bool) (ex : Int) (w : World) :
    Calls Tryz.prog 23 #[dV n a ([] : List Int).length c ex] w fun e w' => e = .returned (.int .i64 0) ∧ Below w.heap.size w w' := by
  go_enter Tryz.func23, Tryz.ntmps23
  go_wp2
  go_ret
  exact ⟨rfl, below_alloc _ _⟩
theorem rSgn (n : Bool) (a : Option Addr) (c k : Nat) (ex : Int) (hk : 0 < k) (w : World) :
    Calls Tryz.prog 23 #[dV n a k c ex] w fun e w' => ∃ s : Int, e = .returned (.int .i64 s) ∧ (s == 0) = false ∧ Below w.heap.size w w' := by
  have hne : ((k : Int) == 0) = false := beq_eq_false_iff_ne.2 (by omega)
  cases n
  · go_enter Tryz.func23, Tryz.ntmps23
    go_wp2
    go_ret
    exact ⟨1, rfl, rfl, below_alloc _ _⟩
  · go_enter Tryz.func23, Tryz.ntmps23
    go_wp2
    go_ret
    exact ⟨-1, rfl, rfl, below_alloc _ _⟩
theorem rOf_zero (b : Bool) (a : Option Addr) (c : Nat) (w : World) :
    Calls Tryz.prog 59 #[.int .u8 (fm b), dV false a ([] : List Int).length c 0] w fun e w' => e = .returned (.tuple #[.int .u64 0, .bool true]) ∧ Below w.heap.size w w' := by
  have B1 := (Bx.nil w).push (DO false a ([] : List Int).length c 0)
  go_enter Tryz.func59, Tryz.ntmps59
  go_wp2_with fail
  refine (rSgn_nil a c false 0 _).mono ?_
  rintro e w2 ⟨rfl, h2⟩
  have B2 := B1.keep h2
  clear h2 B1
  go_wp2
  go_ret2
  exact ⟨rfl, B2.bel⟩
end Go.Proofs.YtdnghibkagcbcaaGreatDoor
