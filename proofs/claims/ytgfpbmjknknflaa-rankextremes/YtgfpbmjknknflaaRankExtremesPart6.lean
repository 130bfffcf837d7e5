import Derived.Test.YtgfpbmjknknflaaRankExtremesPart5
namespace Go.Proofs.Ytgfpbmjknknflaa
open Go.RowKit Go.Wd Go.Box
set_option linter.unusedVariables false
set_option maxRecDepth 3000
set_option maxHeartbeats 2000000 in
theorem addX_ge_same (n : Bool) (a1 a2 : Option Addr) (c1 c2 : Nat) (z1 z2 : List Int) (e1 e2 : Int) (w : World) (l1 : Lie w a1 z1) (l2 : Lie w a2 z2) (q1 : Nt.Can z1) (q2 : Nt.Can z2) (hz1 : 0 < z1.length) (hz2 : 0 < z2.length) (b1 : -60000000 ≤ e1) (b2 : e1 ≤ 60000000) (b3 : -60000000 ≤ e2) (b4 : e2 ≤ 60000000) (k1 k2 : Nat) (hk1 : 32 * z1.length + k1 ≤ 70000000) (hk2 : 32 * z2.length + k2 ≤ 70000000) (ho : e1 ≤ e2) (hh1 : e1 - e1 = k1) (hh2 : e2 - e1 = k2)  :
    Calls Try.prog 74 #[dV n a1 z1.length c1 e1, dV n a2 z2.length c2 e2] w fun e w' => RF w w' (sv n (Nt.val z1 * 2 ^ k1) + sv n (Nt.val z2 * 2 ^ k2)) e1 e := by
  have B1 := (((Bx.nil w).push (DO n a1 z1.length c1 e1)).push (DO n a2 z2.length c2 e2)).push (DO false none 0 0 0)
  have d1 : ((z1.length : Int) == 0) = false := beq_eq_false_iff_ne.2 (by omega)
  have d2 : ((z2.length : Int) == 0) = false := beq_eq_false_iff_ne.2 (by omega)
  have d3 : (n == n) = true := by cases n <;> rfl
  go_enter Try.func74, Try.ntmps74
  go_wp2_with fail
  rw [show ((w.alloc (DO n a1 z1.length c1 e1)).alloc (DO n a2 z2.length c2 e2)).heap.size = w.heap.size + 1 + 1 by simp, show (w.alloc (DO n a1 z1.length c1 e1)).heap.size = w.heap.size + 1 by simp] at B1
  generalize hw1 : ((w.alloc (DO n a1 z1.length c1 e1)).alloc (DO n a2 z2.length c2 e2)).alloc (DO false none 0 0 0) = w1 at *
  clear hw1
  refine (refUpA a1 c1 z1 _ _ k1 (by omega) (by omega) (l1.below B1.bel (Nat.le_refl _)) q1.1).mono ?_
  rintro e w2 ⟨y1, p1, g1, rfl, O1, C1, V1, h2⟩
  have B2 := B1.keep h2
  obtain ⟨x9, x8, he, _, _, m1⟩ := O1.lie
  simp only [Value.slice.injEq, true_and] at he
  obtain ⟨rfl, rfl⟩ := he
  obtain ⟨⟨s0, s1, s2⟩, _⟩ := cells3 B2 (w.heap.size + 1) _ _ _ _ (.tail _ (.head _))
  obtain ⟨⟨r0, r1, r2⟩, _⟩ := cells3 B2 w.heap.size _ _ _ _ (.tail _ (.tail _ (.head _)))
  have Y1 := Hide.mk (len_up q1 hk1 C1 V1)
  have HC1 := Hide.mk (And.intro C1 V1)
  clear O1 h2 B1 C1 V1
  go_wp2_with fail
  refine (refUpA a2 c2 z2 _ _ k2 (by omega) (by omega) (l2.below B2.bel (Nat.le_refl _)) q2.1).mono ?_
  rintro e w3 ⟨y2, p2, g2, rfl, O2, C2, V2, h3⟩
  have HF := B2.keep h3
  replace m1 := m1.below h3 (Nat.le_refl _)
  obtain ⟨x9, x8, he, _, _, m2⟩ := O2.lie
  simp only [Value.slice.injEq, true_and] at he
  obtain ⟨rfl, rfl⟩ := he
  have Y2 := Hide.mk (len_up q2 hk2 C2 V2)
  have HC2 := Hide.mk (And.intro C2 V2)
  clear O2 h3 B2 C2 V2 s0 s1 s2 r0 r1 r2
  obtain ⟨⟨s0, s1, s2⟩, _⟩ := cells3 HF (w.heap.size + 1) _ _ _ _ (.tail _ (.head _))
  obtain ⟨⟨r0, r1, r2⟩, _⟩ := cells3 HF w.heap.size _ _ _ _ (.tail _ (.tail _ (.head _)))
  go_wp2_with fail
  replace HF := HF.drew
  replace m1 := m1.below (Below.refl _ _).drew (Nat.le_refl _)
  replace m2 := m2.below (Below.refl _ _).drew (Nat.le_refl _)
  have HI := HF.sub (L' := [(w.heap.size + 1, DO n a2 z2.length c2 e2), (w.heap.size, DO n a1 z1.length c1 e1)]) (by simp)
  have sh := fun W (hW : Bx w [(w.heap.size + 1, DO n a2 z2.length c2 e2), (w.heap.size, DO n a1 z1.length c1 e1)] W) => (cells3 hW w.heap.size _ _ _ _ (.tail _ (.head _))).1
  refine Drawn.enter (Bx w [(w.heap.size + 1, DO n a2 z2.length c2 e2), (w.heap.size, DO n a1 z1.length c1 e1)]) (by kernel_rfl) ?_
  refine Drawn.tk (i := 0) (v := ?v64) rfl (fun W hW => ?_) HI ?_
  rotate_left
  · have ⟨q0, q3, q4⟩ := sh W hW
    go_simp <;> exact rfl
  refine Drawn.tk (i := 1) (v := ?v65) rfl (fun W hW => ?_) HI ?_
  rotate_left
  · have ⟨q0, q3, q4⟩ := sh W hW
    go_simp <;> exact rfl
  refine Drawn.tk (i := 2) (v := ?v66) rfl (fun W hW => ?_) HI ?_
  rotate_left
  · have ⟨q0, q3, q4⟩ := sh W hW
    go_simp <;> exact rfl
  refine Drawn.tk (i := 3) (v := ?v67) rfl (fun W hW => ?_) HI ?_
  rotate_left
  · have ⟨q0, q3, q4⟩ := sh W hW
    go_simp <;> exact rfl
  refine Drawn.tk (i := 5) (v := ?v68) rfl (fun W hW => ?_) HI ?_
  rotate_left
  · have ⟨q0, q3, q4⟩ := sh W hW
    go_simp <;> exact rfl
  refine Drawn.one (j := 4) (by kernel_rfl) rfl (fun K hK => ?_)
  go_simp
  refine (refAdd23 _ _ _ _ y1 y2 _ m1 m2 HC1.out.1.1 HC2.out.1.1 (by have := Y1.out; omega) (by have := Y2.out; omega)).mono ?_
  rintro e w5 ⟨y5, p5, g5, rfl, O5, C5, V5, h5⟩
  refine hK _ _ (HI.keep h5) ?_
  clear hK K
  replace HI := HI.keep h5
  replace HF := HF.keep h5
  obtain ⟨x9, x8, he, _, _, m5⟩ := O5.lie
  simp only [Value.slice.injEq, true_and] at he
  obtain ⟨rfl, rfl⟩ := he
  have hlen5 : y5.length ≤ 2500000 := by have v1 := (Nt.can_len HC1.out.1 2200000).2 Y1.out; have v2 := (Nt.can_len HC2.out.1 2200000).2 Y2.out; exact Nat.le_trans ((Nt.can_len C5 2200001).1 (by rw [V5]; exact sum_lt88 v1 v2)) (by omega)
  clear O5 h5
  refine Drawn.one (j := 6) (by kernel_rfl) rfl (fun K hK => ?_)
  go_simp
  refine (formXL n _ _ y5 e1 _ m5 C5 hlen5 (by omega) (by omega)).mono ?_
  rintro e w6 ⟨n6, z6, x6, a6, c6, rfl, F6, l6, h6⟩
  refine hK _ _ (HI.keep h6) ?_
  clear hK K
  replace HI := HI.keep h6
  replace HF := HF.keep h6
  have H6 := Hide.mk (And.intro F6 l6)
  rw [V5, HC1.out.2, HC2.out.2, sv_add] at H6
  clear F6 l6 h6 V5 C5 hlen5 m5 m1 m2
  obtain ⟨⟨f0, f1, f2⟩, r0, r1, r2⟩ := cells3 HF (w.heap.size + 1 + 1) _ _ _ _ (.head _)
  have HF2 := HF.fill3 (by omega) (by simp; omega) (.bool n6) (.slice a6 z6.length c6) (.int .i64 x6)
  refine Drawn.one (j := 7) (by kernel_rfl) rfl (fun K hK => ?_)
  go_simp
  replace HI := HF2.sub (L' := [(w.heap.size + 1, DO n a2 z2.length c2 e2), (w.heap.size, DO n a1 z1.length c1 e1)]) (by simp)
  refine hK _ _ HI ?_
  clear hK K f0 f1 f2 r0 r1 r2
  refine Drawn.done (by kernel_rfl) ?_
  try go_simp
  go_wp2
  refine bodyPost_ret (results_D1 rfl _ _ (w.heap.size + 1 + 1) _ rfl ⟨HF2.head, rfl⟩) rfl ?_
  have L := Live.set3 (g := w.heap.size + 1 + 1) ⟨HF.head, rfl⟩ (.bool n6) (.slice a6 z6.length c6) (.int .i64 x6) (Live.one H6.out.2)
  exact ⟨n6, z6, x6, a6, c6, rfl, H6.out.1, L.all (a6, z6) (.head _), HF2.bel⟩
set_option maxHeartbeats 2000000 in
theorem addX_ge_ge (n : Bool) (a1 a2 : Option Addr) (c1 c2 : Nat) (z1 z2 : List Int) (e1 e2 : Int) (w : World) (l1 : Lie w a1 z1) (l2 : Lie w a2 z2) (q1 : Nt.Can z1) (q2 : Nt.Can z2) (hz1 : 0 < z1.length) (hz2 : 0 < z2.length) (b1 : -60000000 ≤ e1) (b2 : e1 ≤ 60000000) (b3 : -60000000 ≤ e2) (b4 : e2 ≤ 60000000) (k1 k2 : Nat) (hk1 : 32 * z1.length + k1 ≤ 70000000) (hk2 : 32 * z2.length + k2 ≤ 70000000) (ho : e1 ≤ e2) (hh1 : e1 - e1 = k1) (hh2 : e2 - e1 = k2) (hv : Nt.val z2 * 2 ^ k2 ≤ Nt.val z1 * 2 ^ k1) :
    Calls Try.prog 74 #[dV n a1 z1.length c1 e1, dV (!n) a2 z2.length c2 e2] w fun e w' => RF w w' (sv n (Nt.val z1 * 2 ^ k1) + sv (!n) (Nt.val z2 * 2 ^ k2)) e1 e := by
  have B1 := (((Bx.nil w).push (DO n a1 z1.length c1 e1)).push (DO (!n) a2 z2.length c2 e2)).push (DO false none 0 0 0)
  have d1 : ((z1.length : Int) == 0) = false := beq_eq_false_iff_ne.2 (by omega)
  have d2 : ((z2.length : Int) == 0) = false := beq_eq_false_iff_ne.2 (by omega)
  have d3 : (n == (!n)) = false := by cases n <;> rfl
  go_enter Try.func74, Try.ntmps74
  go_wp2_with fail
  rw [show ((w.alloc (DO n a1 z1.length c1 e1)).alloc (DO (!n) a2 z2.length c2 e2)).heap.size = w.heap.size + 1 + 1 by simp, show (w.alloc (DO n a1 z1.length c1 e1)).heap.size = w.heap.size + 1 by simp] at B1
  generalize hw1 : ((w.alloc (DO n a1 z1.length c1 e1)).alloc (DO (!n) a2 z2.length c2 e2)).alloc (DO false none 0 0 0) = w1 at *
  clear hw1
  refine (refUpA a1 c1 z1 _ _ k1 (by omega) (by omega) (l1.below B1.bel (Nat.le_refl _)) q1.1).mono ?_
  rintro e w2 ⟨y1, p1, g1, rfl, O1, C1, V1, h2⟩
  have B2 := B1.keep h2
  obtain ⟨x9, x8, he, _, _, m1⟩ := O1.lie
  simp only [Value.slice.injEq, true_and] at he
  obtain ⟨rfl, rfl⟩ := he
  obtain ⟨⟨s0, s1, s2⟩, _⟩ := cells3 B2 (w.heap.size + 1) _ _ _ _ (.tail _ (.head _))
  obtain ⟨⟨r0, r1, r2⟩, _⟩ := cells3 B2 w.heap.size _ _ _ _ (.tail _ (.tail _ (.head _)))
  have Y1 := Hide.mk (len_up q1 hk1 C1 V1)
  have HC1 := Hide.mk (And.intro C1 V1)
  clear O1 h2 B1 C1 V1
  go_wp2_with fail
  refine (refUpA a2 c2 z2 _ _ k2 (by omega) (by omega) (l2.below B2.bel (Nat.le_refl _)) q2.1).mono ?_
  rintro e w3 ⟨y2, p2, g2, rfl, O2, C2, V2, h3⟩
  have HF := B2.keep h3
  replace m1 := m1.below h3 (Nat.le_refl _)
  obtain ⟨x9, x8, he, _, _, m2⟩ := O2.lie
  simp only [Value.slice.injEq, true_and] at he
  obtain ⟨rfl, rfl⟩ := he
  have Y2 := Hide.mk (len_up q2 hk2 C2 V2)
  have HC2 := Hide.mk (And.intro C2 V2)
  clear O2 h3 B2 C2 V2 s0 s1 s2 r0 r1 r2
  obtain ⟨⟨s0, s1, s2⟩, _⟩ := cells3 HF (w.heap.size + 1) _ _ _ _ (.tail _ (.head _))
  obtain ⟨⟨r0, r1, r2⟩, _⟩ := cells3 HF w.heap.size _ _ _ _ (.tail _ (.tail _ (.head _)))
  go_wp2_with fail
  have hsg := sgn_ge (x := Nt.val y1) (y := Nt.val y2) (by rw [HC1.out.2, HC2.out.2]; exact hv)
  refine (refCmp22 _ _ _ _ y1 y2 _ m1 m2 HC1.out.1 HC2.out.1 (by have := Y1.out; unfold maxLen; omega)).mono ?_
  rintro e w4 ⟨rfl, h4⟩
  replace HF := HF.keep h4
  replace m1 := m1.below h4 (Nat.le_refl _)
  replace m2 := m2.below h4 (Nat.le_refl _)
  clear h4 s0 s1 s2 r0 r1 r2
  generalize sgn (Nt.val y1) (Nt.val y2) = sg0 at *
  go_wp2_with fail
  replace HF := HF.drew
  replace m1 := m1.below (Below.refl _ _).drew (Nat.le_refl _)
  replace m2 := m2.below (Below.refl _ _).drew (Nat.le_refl _)
  have HI := HF.sub (L' := [(w.heap.size + 1, DO (!n) a2 z2.length c2 e2), (w.heap.size, DO n a1 z1.length c1 e1)]) (by simp)
  have sh := fun W (hW : Bx w [(w.heap.size + 1, DO (!n) a2 z2.length c2 e2), (w.heap.size, DO n a1 z1.length c1 e1)] W) => (cells3 hW w.heap.size _ _ _ _ (.tail _ (.head _))).1
  refine Drawn.enter (Bx w [(w.heap.size + 1, DO (!n) a2 z2.length c2 e2), (w.heap.size, DO n a1 z1.length c1 e1)]) (by kernel_rfl) ?_
  refine Drawn.tk (i := 0) (v := ?v69) rfl (fun W hW => ?_) HI ?_
  rotate_left
  · have ⟨q0, q3, q4⟩ := sh W hW
    go_simp <;> exact rfl
  refine Drawn.tk (i := 1) (v := ?v70) rfl (fun W hW => ?_) HI ?_
  rotate_left
  · have ⟨q0, q3, q4⟩ := sh W hW
    go_simp <;> exact rfl
  refine Drawn.tk (i := 2) (v := ?v71) rfl (fun W hW => ?_) HI ?_
  rotate_left
  · have ⟨q0, q3, q4⟩ := sh W hW
    go_simp <;> exact rfl
  refine Drawn.tk (i := 3) (v := ?v72) rfl (fun W hW => ?_) HI ?_
  rotate_left
  · have ⟨q0, q3, q4⟩ := sh W hW
    go_simp <;> exact rfl
  refine Drawn.tk (i := 5) (v := ?v73) rfl (fun W hW => ?_) HI ?_
  rotate_left
  · have ⟨q0, q3, q4⟩ := sh W hW
    go_simp <;> exact rfl
  refine Drawn.one (j := 4) (by kernel_rfl) rfl (fun K hK => ?_)
  go_simp
  refine (refSub24 _ _ _ _ y1 y2 _ m1 m2 HC1.out.1.1 HC2.out.1.1 (by have := Y1.out; omega) (can_len_le HC2.out.1 HC1.out.1 (by rw [HC1.out.2, HC2.out.2]; exact hv)) (by rw [HC1.out.2, HC2.out.2]; exact hv)).mono ?_
  rintro e w5 ⟨y5, p5, g5, rfl, O5, C5, V5, h5⟩
  refine hK _ _ (HI.keep h5) ?_
  clear hK K
  replace HI := HI.keep h5
  replace HF := HF.keep h5
  obtain ⟨x9, x8, he, _, _, m5⟩ := O5.lie
  simp only [Value.slice.injEq, true_and] at he
  obtain ⟨rfl, rfl⟩ := he
  have hlen5 : y5.length ≤ 2500000 := by exact Nat.le_trans (can_len_le C5 HC1.out.1 (by rw [V5]; have := (Nt.val_bd HC2.out.1.1).1; omega)) (Nat.le_trans Y1.out (by omega))
  clear O5 h5
  refine Drawn.one (j := 6) (by kernel_rfl) rfl (fun K hK => ?_)
  go_simp
  refine (formXL n _ _ y5 e1 _ m5 C5 hlen5 (by omega) (by omega)).mono ?_
  rintro e w6 ⟨n6, z6, x6, a6, c6, rfl, F6, l6, h6⟩
  refine hK _ _ (HI.keep h6) ?_
  clear hK K
  replace HI := HI.keep h6
  replace HF := HF.keep h6
  have H6 := Hide.mk (And.intro F6 l6)
  rw [V5, HC1.out.2, HC2.out.2, sv_sub] at H6
  clear F6 l6 h6 V5 C5 hlen5 m5 m1 m2
  obtain ⟨⟨f0, f1, f2⟩, r0, r1, r2⟩ := cells3 HF (w.heap.size + 1 + 1) _ _ _ _ (.head _)
  have HF2 := HF.fill3 (by omega) (by simp; omega) (.bool n6) (.slice a6 z6.length c6) (.int .i64 x6)
  refine Drawn.one (j := 7) (by kernel_rfl) rfl (fun K hK => ?_)
  go_simp
  replace HI := HF2.sub (L' := [(w.heap.size + 1, DO (!n) a2 z2.length c2 e2), (w.heap.size, DO n a1 z1.length c1 e1)]) (by simp)
  refine hK _ _ HI ?_
  clear hK K f0 f1 f2 r0 r1 r2
  refine Drawn.done (by kernel_rfl) ?_
  try go_simp
  go_wp2
  refine bodyPost_ret (results_D1 rfl _ _ (w.heap.size + 1 + 1) _ rfl ⟨HF2.head, rfl⟩) rfl ?_
  have L := Live.set3 (g := w.heap.size + 1 + 1) ⟨HF.head, rfl⟩ (.bool n6) (.slice a6 z6.length c6) (.int .i64 x6) (Live.one H6.out.2)
  exact ⟨n6, z6, x6, a6, c6, rfl, H6.out.1, L.all (a6, z6) (.head _), HF2.bel⟩
set_option maxHeartbeats 2000000 in
theorem addX_ge_lt (n : Bool) (a1 a2 : Option Addr) (c1 c2 : Nat) (z1 z2 : List Int) (e1 e2 : Int) (w : World) (l1 : Lie w a1 z1) (l2 : Lie w a2 z2) (q1 : Nt.Can z1) (q2 : Nt.Can z2) (hz1 : 0 < z1.length) (hz2 : 0 < z2.length) (b1 : -60000000 ≤ e1) (b2 : e1 ≤ 60000000) (b3 : -60000000 ≤ e2) (b4 : e2 ≤ 60000000) (k1 k2 : Nat) (hk1 : 32 * z1.length + k1 ≤ 70000000) (hk2 : 32 * z2.length + k2 ≤ 70000000) (ho : e1 ≤ e2) (hh1 : e1 - e1 = k1) (hh2 : e2 - e1 = k2) (hv : Nt.val z1 * 2 ^ k1 < Nt.val z2 * 2 ^ k2) :
    Calls Try.prog 74 #[dV n a1 z1.length c1 e1, dV (!n) a2 z2.length c2 e2] w fun e w' => RF w w' (sv n (Nt.val z1 * 2 ^ k1) + sv (!n) (Nt.val z2 * 2 ^ k2)) e1 e := by
  have B1 := (((Bx.nil w).push (DO n a1 z1.length c1 e1)).push (DO (!n) a2 z2.length c2 e2)).push (DO false none 0 0 0)
  have d1 : ((z1.length : Int) == 0) = false := beq_eq_false_iff_ne.2 (by omega)
  have d2 : ((z2.length : Int) == 0) = false := beq_eq_false_iff_ne.2 (by omega)
  have d3 : (n == (!n)) = false := by cases n <;> rfl
  go_enter Try.func74, Try.ntmps74
  go_wp2_with fail
  rw [show ((w.alloc (DO n a1 z1.length c1 e1)).alloc (DO (!n) a2 z2.length c2 e2)).heap.size = w.heap.size + 1 + 1 by simp, show (w.alloc (DO n a1 z1.length c1 e1)).heap.size = w.heap.size + 1 by simp] at B1
  generalize hw1 : ((w.alloc (DO n a1 z1.length c1 e1)).alloc (DO (!n) a2 z2.length c2 e2)).alloc (DO false none 0 0 0) = w1 at *
  clear hw1
  refine (refUpA a1 c1 z1 _ _ k1 (by omega) (by omega) (l1.below B1.bel (Nat.le_refl _)) q1.1).mono ?_
  rintro e w2 ⟨y1, p1, g1, rfl, O1, C1, V1, h2⟩
  have B2 := B1.keep h2
  obtain ⟨x9, x8, he, _, _, m1⟩ := O1.lie
  simp only [Value.slice.injEq, true_and] at he
  obtain ⟨rfl, rfl⟩ := he
  obtain ⟨⟨s0, s1, s2⟩, _⟩ := cells3 B2 (w.heap.size + 1) _ _ _ _ (.tail _ (.head _))
  obtain ⟨⟨r0, r1, r2⟩, _⟩ := cells3 B2 w.heap.size _ _ _ _ (.tail _ (.tail _ (.head _)))
  have Y1 := Hide.mk (len_up q1 hk1 C1 V1)
  have HC1 := Hide.mk (And.intro C1 V1)
  clear O1 h2 B1 C1 V1
  go_wp2_with fail
  refine (refUpA a2 c2 z2 _ _ k2 (by omega) (by omega) (l2.below B2.bel (Nat.le_refl _)) q2.1).mono ?_
  rintro e w3 ⟨y2, p2, g2, rfl, O2, C2, V2, h3⟩
  have HF := B2.keep h3
  replace m1 := m1.below h3 (Nat.le_refl _)
  obtain ⟨x9, x8, he, _, _, m2⟩ := O2.lie
  simp only [Value.slice.injEq, true_and] at he
  obtain ⟨rfl, rfl⟩ := he
  have Y2 := Hide.mk (len_up q2 hk2 C2 V2)
  have HC2 := Hide.mk (And.intro C2 V2)
  clear O2 h3 B2 C2 V2 s0 s1 s2 r0 r1 r2
  obtain ⟨⟨s0, s1, s2⟩, _⟩ := cells3 HF (w.heap.size + 1) _ _ _ _ (.tail _ (.head _))
  obtain ⟨⟨r0, r1, r2⟩, _⟩ := cells3 HF w.heap.size _ _ _ _ (.tail _ (.tail _ (.head _)))
  go_wp2_with fail
  have hsg := sgn_less (x := Nt.val y1) (y := Nt.val y2) (by rw [HC1.out.2, HC2.out.2]; exact hv)
  refine (refCmp22 _ _ _ _ y1 y2 _ m1 m2 HC1.out.1 HC2.out.1 (by have := Y1.out; unfold maxLen; omega)).mono ?_
  rintro e w4 ⟨rfl, h4⟩
  replace HF := HF.keep h4
  replace m1 := m1.below h4 (Nat.le_refl _)
  replace m2 := m2.below h4 (Nat.le_refl _)
  clear h4 s0 s1 s2 r0 r1 r2
  generalize sgn (Nt.val y1) (Nt.val y2) = sg0 at *
  go_wp2_with fail
  replace HF := HF.drew
  replace m1 := m1.below (Below.refl _ _).drew (Nat.le_refl _)
  replace m2 := m2.below (Below.refl _ _).drew (Nat.le_refl _)
  have HI := HF.sub (L' := [(w.heap.size + 1, DO (!n) a2 z2.length c2 e2), (w.heap.size, DO n a1 z1.length c1 e1)]) (by simp)
  have sh := fun W (hW : Bx w [(w.heap.size + 1, DO (!n) a2 z2.length c2 e2), (w.heap.size, DO n a1 z1.length c1 e1)] W) => (cells3 hW (w.heap.size + 1) _ _ _ _ (.head _)).1
  refine Drawn.enter (Bx w [(w.heap.size + 1, DO (!n) a2 z2.length c2 e2), (w.heap.size, DO n a1 z1.length c1 e1)]) (by kernel_rfl) ?_
  refine Drawn.tk (i := 0) (v := ?v74) rfl (fun W hW => ?_) HI ?_
  rotate_left
  · have ⟨q0, q3, q4⟩ := sh W hW
    go_simp <;> exact rfl
  refine Drawn.tk (i := 1) (v := ?v75) rfl (fun W hW => ?_) HI ?_
  rotate_left
  · have ⟨q0, q3, q4⟩ := sh W hW
    go_simp <;> exact rfl
  refine Drawn.tk (i := 2) (v := ?v76) rfl (fun W hW => ?_) HI ?_
  rotate_left
  · have ⟨q0, q3, q4⟩ := sh W hW
    go_simp <;> exact rfl
  refine Drawn.tk (i := 3) (v := ?v77) rfl (fun W hW => ?_) HI ?_
  rotate_left
  · have ⟨q0, q3, q4⟩ := sh W hW
    go_simp <;> exact rfl
  refine Drawn.tk (i := 5) (v := ?v78) rfl (fun W hW => ?_) HI ?_
  rotate_left
  · have ⟨q0, q3, q4⟩ := sh W hW
    go_simp <;> exact rfl
  refine Drawn.one (j := 4) (by kernel_rfl) rfl (fun K hK => ?_)
  go_simp
  refine (refSub24 _ _ _ _ y2 y1 _ m2 m1 HC2.out.1.1 HC1.out.1.1 (by have := Y2.out; omega) (can_len_le HC1.out.1 HC2.out.1 (by rw [HC1.out.2, HC2.out.2]; exact Int.le_of_lt hv)) (by rw [HC1.out.2, HC2.out.2]; exact Int.le_of_lt hv)).mono ?_
  rintro e w5 ⟨y5, p5, g5, rfl, O5, C5, V5, h5⟩
  refine hK _ _ (HI.keep h5) ?_
  clear hK K
  replace HI := HI.keep h5
  replace HF := HF.keep h5
  obtain ⟨x9, x8, he, _, _, m5⟩ := O5.lie
  simp only [Value.slice.injEq, true_and] at he
  obtain ⟨rfl, rfl⟩ := he
  have hlen5 : y5.length ≤ 2500000 := by exact Nat.le_trans (can_len_le C5 HC2.out.1 (by rw [V5]; have := (Nt.val_bd HC1.out.1.1).1; omega)) (Nat.le_trans Y2.out (by omega))
  clear O5 h5
  refine Drawn.one (j := 6) (by kernel_rfl) rfl (fun K hK => ?_)
  go_simp
  refine (formXL (!n) _ _ y5 e1 _ m5 C5 hlen5 (by omega) (by omega)).mono ?_
  rintro e w6 ⟨n6, z6, x6, a6, c6, rfl, F6, l6, h6⟩
  refine hK _ _ (HI.keep h6) ?_
  clear hK K
  replace HI := HI.keep h6
  replace HF := HF.keep h6
  have H6 := Hide.mk (And.intro F6 l6)
  rw [V5, HC1.out.2, HC2.out.2, sv_sub2] at H6
  clear F6 l6 h6 V5 C5 hlen5 m5 m1 m2
  obtain ⟨⟨f0, f1, f2⟩, r0, r1, r2⟩ := cells3 HF (w.heap.size + 1 + 1) _ _ _ _ (.head _)
  have HF2 := HF.fill3 (by omega) (by simp; omega) (.bool n6) (.slice a6 z6.length c6) (.int .i64 x6)
  refine Drawn.one (j := 7) (by kernel_rfl) rfl (fun K hK => ?_)
  go_simp
  replace HI := HF2.sub (L' := [(w.heap.size + 1, DO (!n) a2 z2.length c2 e2), (w.heap.size, DO n a1 z1.length c1 e1)]) (by simp)
  refine hK _ _ HI ?_
  clear hK K f0 f1 f2 r0 r1 r2
  refine Drawn.done (by kernel_rfl) ?_
  try go_simp
  go_wp2
  refine bodyPost_ret (results_D1 rfl _ _ (w.heap.size + 1 + 1) _ rfl ⟨HF2.head, rfl⟩) rfl ?_
  have L := Live.set3 (g := w.heap.size + 1 + 1) ⟨HF.head, rfl⟩ (.bool n6) (.slice a6 z6.length c6) (.int .i64 x6) (Live.one H6.out.2)
  exact ⟨n6, z6, x6, a6, c6, rfl, H6.out.1, L.all (a6, z6) (.head _), HF2.bel⟩
/-- The exact sum of two numbers that are not nought, in its one form. -/
theorem addXL (n1 n2 : Bool) (a1 a2 : Option Addr) (c1 c2 : Nat) (z1 z2 : List Int) (e1 e2 : Int) (w : World) (l1 : Lie w a1 z1) (l2 : Lie w a2 z2) (q1 : Nt.Can z1) (q2 : Nt.Can z2) (hz1 : 0 < z1.length) (hz2 : 0 < z2.length) (b1 : -60000000 ≤ e1) (b2 : e1 ≤ 60000000) (b3 : -60000000 ≤ e2) (b4 : e2 ≤ 60000000) (k1 k2 : Nat) (hk1 : 32 * z1.length + k1 ≤ 70000000) (hk2 : 32 * z2.length + k2 ≤ 70000000) (hh1 : e1 - min e1 e2 = k1) (hh2 : e2 - min e1 e2 = k2) :
    Calls Try.prog 74 #[dV n1 a1 z1.length c1 e1, dV n2 a2 z2.length c2 e2] w fun e w' => RF w w' (sv n1 (Nt.val z1 * 2 ^ k1) + sv n2 (Nt.val z2 * 2 ^ k2)) (min e1 e2) e := by
  have key : n1 = n2 ∨ n2 = !n1 := by cases n1 <;> cases n2 <;> simp
  by_cases ho : e2 < e1
  · rw [show min e1 e2 = e2 by omega] at *
    rcases key with rfl | rfl
    · exact addX_lt_same n1 a1 a2 c1 c2 z1 z2 e1 e2 w l1 l2 q1 q2 hz1 hz2 b1 b2 b3 b4 k1 k2 hk1 hk2 ho hh1 hh2
    · by_cases hv : Nt.val z2 * 2 ^ k2 ≤ Nt.val z1 * 2 ^ k1
      · exact addX_lt_ge n1 a1 a2 c1 c2 z1 z2 e1 e2 w l1 l2 q1 q2 hz1 hz2 b1 b2 b3 b4 k1 k2 hk1 hk2 ho hh1 hh2 hv
      · exact addX_lt_lt n1 a1 a2 c1 c2 z1 z2 e1 e2 w l1 l2 q1 q2 hz1 hz2 b1 b2 b3 b4 k1 k2 hk1 hk2 ho hh1 hh2 (by omega)
  · rw [show min e1 e2 = e1 by omega] at *
    rcases key with rfl | rfl
    · exact addX_ge_same n1 a1 a2 c1 c2 z1 z2 e1 e2 w l1 l2 q1 q2 hz1 hz2 b1 b2 b3 b4 k1 k2 hk1 hk2 (by omega) hh1 hh2
    · by_cases hv : Nt.val z2 * 2 ^ k2 ≤ Nt.val z1 * 2 ^ k1
      · exact addX_ge_ge n1 a1 a2 c1 c2 z1 z2 e1 e2 w l1 l2 q1 q2 hz1 hz2 b1 b2 b3 b4 k1 k2 hk1 hk2 (by omega) hh1 hh2 hv
      · exact addX_ge_lt n1 a1 a2 c1 c2 z1 z2 e1 e2 w l1 l2 q1 q2 hz1 hz2 b1 b2 b3 b4 k1 k2 hk1 hk2 (by omega) hh1 hh2 (by omega)
end Go.Proofs.Ytgfpbmjknknflaa

namespace Go.Proofs.Ytgfpbmjknknflaa
open Go.RowKit Go.Wd Go.Box
set_option linter.unusedVariables false
set_option maxRecDepth 3000
end Go.Proofs.Ytgfpbmjknknflaa

namespace Go.Proofs.Ytgfpbmjknknflaa
open Go.RowKit Go.Wd Go.Box
set_option linter.unusedVariables false
set_option maxRecDepth 3000
/-- A call's answer for the exact number s times 2 to the E, as it lies in w. -/
def Ans (w : World) (s E : Int) (n : Bool) (a : Option Addr) (k c : Nat) (ex code : Int) : Prop :=
  (s = 0 ∧ n = false ∧ a = none ∧ k = 0 ∧ c = 0 ∧ ex = 0 ∧ code = 0) ∨ (s ≠ 0 ∧ ∃ t : Nat, LowBit (s.natAbs : Int) t ∧
    ((-16777216 ≤ E + t ∧ E + t ≤ 16777216 ∧ n = decide (s < 0) ∧ ex = E + t ∧ code = 0 ∧ ∃ zs, k = zs.length ∧ Good zs ((s.natAbs : Int) / 2 ^ t) ∧ Lie w a zs) ∨
     (4294967296 ^ 4096 ≤ (s.natAbs : Int) / 2 ^ t ∧ n = false ∧ a = none ∧ k = 0 ∧ c = 0 ∧ ex = 0 ∧ code = 3) ∨
     ((s.natAbs : Int) / 2 ^ t < 4294967296 ^ 4096 ∧ (E + t < -16777216 ∨ 16777216 < E + t) ∧ n = false ∧ a = none ∧ k = 0 ∧ c = 0 ∧ ex = 0 ∧ code = 20)))
theorem Ans.below {w w' : World} {s E : Int} {n : Bool} {a : Option Addr} {k c : Nat} {ex code : Int} (h : Ans w s E n a k c ex code) (hb : Below w.heap.size w w') : Ans w' s E n a k c ex code := by
  rcases h with h | ⟨h0, t, ht, h⟩
  · exact .inl h
  · refine .inr ⟨h0, t, ht, ?_⟩
    rcases h with ⟨j1, j2, j3, j4, j5, zs, j6, j7, j8⟩ | h | h
    · exact .inl ⟨j1, j2, j3, j4, j5, zs, j6, j7, j8.below hb (Nat.le_refl _)⟩
    · exact .inr (.inl h)
    · exact .inr (.inr h)
end Go.Proofs.Ytgfpbmjknknflaa

namespace Go.Proofs.Ytgfpbmjknknflaa
open Go.RowKit Go.Wd Go.Box
set_option linter.unusedVariables false
set_option maxRecDepth 3000
theorem RF.set {w W : World} {s E : Int} {n6 : Bool} {z6 : List Int} {x6 : Int} {a6 : Option Addr} {c6 g : Nat} (F : Fm s E n6 z6 x6) (l6 : Lie W a6 z6) (hg : W.heap[g]? = some (DO false none 0 0 0)) (hb : Below w.heap.size w W) (hle : w.heap.size ≤ g) :
    RF w (((W.setCell ⟨g, 0, none⟩ (.bool n6)).setCell ⟨g, 1, none⟩ (.slice a6 z6.length c6)).setCell ⟨g, 2, none⟩ (.int .i64 x6)) s E (.returned (dV n6 a6 z6.length c6 x6)) := by
  have L := Live.set3 (g := g) ⟨hg, rfl⟩ (.bool n6) (.slice a6 z6.length c6) (.int .i64 x6) (Live.one l6)
  exact ⟨n6, z6, x6, a6, c6, rfl, F, L.all (a6, z6) (.head _), ((hb.setCell (p := ⟨g, 0, none⟩) hle _).setCell (p := ⟨g, 1, none⟩) hle _).setCell (p := ⟨g, 2, none⟩) hle _⟩
set_option maxHeartbeats 2000000 in
theorem subXL (n1 n2 : Bool) (a1 a2 : Option Addr) (c1 c2 : Nat) (z1 z2 : List Int) (e1 e2 : Int) (w : World) (l1 : Lie w a1 z1) (l2 : Lie w a2 z2) (q1 : Nt.Can z1) (q2 : Nt.Can z2) (hz1 : 0 < z1.length) (hz2 : 0 < z2.length) (b1 : -60000000 ≤ e1) (b2 : e1 ≤ 60000000) (b3 : -60000000 ≤ e2) (b4 : e2 ≤ 60000000) (k1 k2 : Nat) (hk1 : 32 * z1.length + k1 ≤ 70000000) (hk2 : 32 * z2.length + k2 ≤ 70000000) (hh1 : e1 - min e1 e2 = k1) (hh2 : e2 - min e1 e2 = k2) :
    Calls Try.prog 57 #[dV n1 a1 z1.length c1 e1, dV n2 a2 z2.length c2 e2] w fun e w' => RF w w' (sv n1 (Nt.val z1 * 2 ^ k1) + sv (!n2) (Nt.val z2 * 2 ^ k2)) (min e1 e2) e := by
  have B1 := (((Bx.nil w).push (DO n1 a1 z1.length c1 e1)).push (DO n2 a2 z2.length c2 e2)).push (DO false none 0 0 0)
  go_enter Try.func57, Try.ntmps57
  go_wp2_with fail
  rw [show ((w.alloc (DO n1 a1 z1.length c1 e1)).alloc (DO n2 a2 z2.length c2 e2)).heap.size = w.heap.size + 1 + 1 by simp, show (w.alloc (DO n1 a1 z1.length c1 e1)).heap.size = w.heap.size + 1 by simp] at B1
  generalize hw1 : ((w.alloc (DO n1 a1 z1.length c1 e1)).alloc (DO n2 a2 z2.length c2 e2)).alloc (DO false none 0 0 0) = w1 at *
  clear hw1
  have HF := B1.drew
  have HI := HF.sub (L' := [(w.heap.size + 1, DO n2 a2 z2.length c2 e2), (w.heap.size, DO n1 a1 z1.length c1 e1)]) (by simp)
  have sh := fun W (hW : Bx w [(w.heap.size + 1, DO n2 a2 z2.length c2 e2), (w.heap.size, DO n1 a1 z1.length c1 e1)] W) => And.intro (cells3 hW (w.heap.size + 1) _ _ _ _ (.head _)).1 (cells3 hW w.heap.size _ _ _ _ (.tail _ (.head _))).1
  refine Drawn.enter (Bx w [(w.heap.size + 1, DO n2 a2 z2.length c2 e2), (w.heap.size, DO n1 a1 z1.length c1 e1)]) (by kernel_rfl) ?_
  refine Drawn.tk (i := 0) (v := ?v79) rfl (fun W hW => ?_) HI ?_
  rotate_left
  · have ⟨⟨s0, s1, s2⟩, q0, q3, q4⟩ := sh W hW
    go_simp <;> exact rfl
  refine Drawn.tk (i := 1) (v := ?v80) rfl (fun W hW => ?_) HI ?_
  rotate_left
  · have ⟨⟨s0, s1, s2⟩, q0, q3, q4⟩ := sh W hW
    go_simp <;> exact rfl
  refine Drawn.one (j := 2) (by kernel_rfl) rfl (fun K hK => ?_)
  go_simp
  refine (rNegX n2 a2 c2 z2.length e2 hz2 _).mono ?_
  rintro e wn ⟨rfl, hn⟩
  refine hK _ _ (HI.keep hn) ?_
  clear hK K
  replace HI := HI.keep hn
  replace HF := HF.keep hn
  clear hn
  refine Drawn.one (j := 3) (by kernel_rfl) rfl (fun K hK => ?_)
  go_simp
  refine (addXL n1 (!n2) a1 a2 c1 c2 z1 z2 e1 e2 _ (l1.below HI.bel (Nat.le_refl _)) (l2.below HI.bel (Nat.le_refl _)) q1 q2 hz1 hz2 b1 b2 b3 b4 k1 k2 hk1 hk2 hh1 hh2).mono ?_
  rintro e w6 ⟨n6, z6, x6, a6, c6, rfl, F6, l6, h6⟩
  refine hK _ _ (HI.keep h6) ?_
  clear hK K
  replace HI := HI.keep h6
  replace HF := HF.keep h6
  have H6 := Hide.mk (And.intro F6 l6)
  clear F6 l6 h6
  obtain ⟨⟨f0, f1, f2⟩, r0, r1, r2⟩ := cells3 HF (w.heap.size + 1 + 1) _ _ _ _ (.head _)
  have HF2 := HF.fill3 (by omega) (by simp; omega) (.bool n6) (.slice a6 z6.length c6) (.int .i64 x6)
  refine Drawn.one (j := 4) (by kernel_rfl) rfl (fun K hK => ?_)
  go_simp
  replace HI := HF2.sub (L' := [(w.heap.size + 1, DO n2 a2 z2.length c2 e2), (w.heap.size, DO n1 a1 z1.length c1 e1)]) (by simp)
  refine hK _ _ HI ?_
  clear hK K f0 f1 f2 r0 r1 r2
  refine Drawn.done (by kernel_rfl) ?_
  try go_simp
  go_wp2
  refine bodyPost_ret (results_D1 rfl _ _ (w.heap.size + 1 + 1) _ rfl ⟨HF2.head, rfl⟩) rfl ?_
  exact RF.set H6.out.1 H6.out.2 HF.head HF.bel (by omega)
theorem subX (n1 n2 : Bool) (a1 a2 : Option Addr) (c1 c2 : Nat) (z1 z2 : List Int) (e1 e2 : Int) (w : World) (l1 : Lie w a1 z1) (l2 : Lie w a2 z2) (q1 : Nt.Can z1) (q2 : Nt.Can z2) (hl1 : z1.length ≤ 4100) (hl2 : z2.length ≤ 4100) (hz1 : 0 < z1.length) (hz2 : 0 < z2.length) (b1 : -60000000 ≤ e1) (b2 : e1 ≤ 60000000) (b3 : -60000000 ≤ e2) (b4 : e2 ≤ 60000000) (k1 k2 : Nat) (hk1 : k1 ≤ 150000) (hk2 : k2 ≤ 150000) (hh1 : e1 - min e1 e2 = k1) (hh2 : e2 - min e1 e2 = k2) :
    Calls Try.prog 57 #[dV n1 a1 z1.length c1 e1, dV n2 a2 z2.length c2 e2] w fun e w' => RF w w' (sv n1 (Nt.val z1 * 2 ^ k1) + sv (!n2) (Nt.val z2 * 2 ^ k2)) (min e1 e2) e :=
  subXL n1 n2 a1 a2 c1 c2 z1 z2 e1 e2 w l1 l2 q1 q2 hz1 hz2 b1 b2 b3 b4 k1 k2 (by omega) (by omega) hh1 hh2
end Go.Proofs.Ytgfpbmjknknflaa

namespace Go.Proofs.Ytgfpbmjknknflaa
open Go.RowKit Go.Wd Go.Box
set_option linter.unusedVariables false
set_option maxRecDepth 3000
end Go.Proofs.Ytgfpbmjknknflaa

namespace Go.Proofs.Ytgfpbmjknknflaa
open Go.RowKit Go.Wd Go.Box
set_option linter.unusedVariables false
set_option maxRecDepth 3000
theorem rSgnAny (n : Bool) (a : Option Addr) (c k : Nat) (ex s : Int) (hs : (k = 0 ∧ s = 0) ∨ (0 < k ∧ n = false ∧ s = 1) ∨ (0 < k ∧ n = true ∧ s = -1)) (w : World) :
    Calls Try.prog 55 #[dV n a k c ex] w fun e w' => e = .returned (.int .i64 s) ∧ Below w.heap.size w w' := by
  rcases hs with ⟨rfl, rfl⟩ | ⟨hk, rfl, rfl⟩ | ⟨hk, rfl, rfl⟩
  · go_enter Try.func55, Try.ntmps55
    go_wp2
    go_ret
    exact ⟨rfl, below_alloc _ _⟩
  · have hne : ((k : Int) == 0) = false := beq_eq_false_iff_ne.2 (by omega)
    go_enter Try.func55, Try.ntmps55
    go_wp2
    go_ret
    exact ⟨rfl, below_alloc _ _⟩
  · have hne : ((k : Int) == 0) = false := beq_eq_false_iff_ne.2 (by omega)
    go_enter Try.func55, Try.ntmps55
    go_wp2
    go_ret
    exact ⟨rfl, below_alloc _ _⟩
/-- The sign of a number, as Sign tells it. -/
def SgnOf (n : Bool) (k : Nat) (s : Int) : Prop := (k = 0 ∧ s = 0) ∨ (0 < k ∧ n = false ∧ s = 1) ∨ (0 < k ∧ n = true ∧ s = -1)
set_option maxHeartbeats 1000000 in
theorem cmpX_less (n1 n2 : Bool) (a1 a2 : Option Addr) (c1 c2 : Nat) (z1 z2 : List Int) (e1 e2 : Int) (w : World) (s t : Int) (h1 : SgnOf n1 z1.length s) (h2 : SgnOf n2 z2.length t) (hs : s < t) :
    Calls Try.prog 38 #[dV n1 a1 z1.length c1 e1, dV n2 a2 z2.length c2 e2] w fun e w' => e = .returned (.int .i64 (-1)) ∧ Below w.heap.size w w' := by
  have d1 : (s == t) = false := beq_eq_false_iff_ne.2 (by omega)
  have B1 := ((Bx.nil w).push (DO n1 a1 z1.length c1 e1)).push (DO n2 a2 z2.length c2 e2)
  go_enter Try.func38, Try.ntmps38
  go_wp2_with fail
  rw [show (w.alloc (DO n1 a1 z1.length c1 e1)).heap.size = w.heap.size + 1 by simp] at B1
  generalize hw1 : (w.alloc (DO n1 a1 z1.length c1 e1)).alloc (DO n2 a2 z2.length c2 e2) = w1 at *
  clear hw1
  have HI := B1.drew
  have sh := fun W (hW : Bx w [(w.heap.size + 1, DO n2 a2 z2.length c2 e2), (w.heap.size, DO n1 a1 z1.length c1 e1)] W) => And.intro (cells3 hW (w.heap.size + 1) _ _ _ _ (.head _)).1 (cells3 hW w.heap.size _ _ _ _ (.tail _ (.head _))).1
  refine Drawn.enter (Bx w [(w.heap.size + 1, DO n2 a2 z2.length c2 e2), (w.heap.size, DO n1 a1 z1.length c1 e1)]) (by kernel_rfl) ?_
  refine Drawn.tk (i := 0) (v := ?v81) rfl (fun W hW => ?_) HI ?_
  rotate_left
  · have ⟨⟨s0, s1, s2⟩, q0, q3, q4⟩ := sh W hW
    go_simp <;> exact rfl
  refine Drawn.tk (i := 2) (v := ?v82) rfl (fun W hW => ?_) HI ?_
  rotate_left
  · have ⟨⟨s0, s1, s2⟩, q0, q3, q4⟩ := sh W hW
    go_simp <;> exact rfl
  refine Drawn.one (j := 1) (by kernel_rfl) rfl (fun K hK => ?_)
  go_simp
  refine (rSgnAny n1 a1 c1 z1.length e1 s h1 _).mono ?_
  rintro e wn ⟨rfl, hn⟩
  refine hK _ _ (HI.keep hn) ?_
  clear hK K
  replace HI := HI.keep hn
  clear hn
  refine Drawn.one (j := 3) (by kernel_rfl) rfl (fun K hK => ?_)
  go_simp
  refine (rSgnAny n2 a2 c2 z2.length e2 t h2 _).mono ?_
  rintro e wn ⟨rfl, hn⟩
  refine hK _ _ (HI.keep hn) ?_
  clear hK K
  replace HI := HI.keep hn
  clear hn
  refine Drawn.tk (i := 4) (v := ?v83) rfl (fun W hW => ?_) HI ?_
  rotate_left
  · have ⟨⟨s0, s1, s2⟩, q0, q3, q4⟩ := sh W hW
    go_simp <;> exact rfl
  refine Drawn.tk (i := 5) (v := ?v84) rfl (fun W hW => ?_) HI ?_
  rotate_left
  · have ⟨⟨s0, s1, s2⟩, q0, q3, q4⟩ := sh W hW
    go_simp <;> exact rfl
  refine Drawn.done (by kernel_rfl) ?_
  try go_simp
  clear sh h1 h2
  go_wp2
  go_ret
  exact ⟨rfl, HI.bel⟩
set_option maxHeartbeats 1000000 in
theorem cmpX_more (n1 n2 : Bool) (a1 a2 : Option Addr) (c1 c2 : Nat) (z1 z2 : List Int) (e1 e2 : Int) (w : World) (s t : Int) (h1 : SgnOf n1 z1.length s) (h2 : SgnOf n2 z2.length t) (hs : t < s) :
    Calls Try.prog 38 #[dV n1 a1 z1.length c1 e1, dV n2 a2 z2.length c2 e2] w fun e w' => e = .returned (.int .i64 (1)) ∧ Below w.heap.size w w' := by
  have d1 : (s == t) = false := beq_eq_false_iff_ne.2 (by omega)
  have B1 := ((Bx.nil w).push (DO n1 a1 z1.length c1 e1)).push (DO n2 a2 z2.length c2 e2)
  go_enter Try.func38, Try.ntmps38
  go_wp2_with fail
  rw [show (w.alloc (DO n1 a1 z1.length c1 e1)).heap.size = w.heap.size + 1 by simp] at B1
  generalize hw1 : (w.alloc (DO n1 a1 z1.length c1 e1)).alloc (DO n2 a2 z2.length c2 e2) = w1 at *
  clear hw1
  have HI := B1.drew
  have sh := fun W (hW : Bx w [(w.heap.size + 1, DO n2 a2 z2.length c2 e2), (w.heap.size, DO n1 a1 z1.length c1 e1)] W) => And.intro (cells3 hW (w.heap.size + 1) _ _ _ _ (.head _)).1 (cells3 hW w.heap.size _ _ _ _ (.tail _ (.head _))).1
  refine Drawn.enter (Bx w [(w.heap.size + 1, DO n2 a2 z2.length c2 e2), (w.heap.size, DO n1 a1 z1.length c1 e1)]) (by kernel_rfl) ?_
  refine Drawn.tk (i := 0) (v := ?v85) rfl (fun W hW => ?_) HI ?_
  rotate_left
  · have ⟨⟨s0, s1, s2⟩, q0, q3, q4⟩ := sh W hW
    go_simp <;> exact rfl
  refine Drawn.tk (i := 2) (v := ?v86) rfl (fun W hW => ?_) HI ?_
  rotate_left
  · have ⟨⟨s0, s1, s2⟩, q0, q3, q4⟩ := sh W hW
    go_simp <;> exact rfl
  refine Drawn.one (j := 1) (by kernel_rfl) rfl (fun K hK => ?_)
  go_simp
  refine (rSgnAny n1 a1 c1 z1.length e1 s h1 _).mono ?_
  rintro e wn ⟨rfl, hn⟩
  refine hK _ _ (HI.keep hn) ?_
  clear hK K
  replace HI := HI.keep hn
  clear hn
  refine Drawn.one (j := 3) (by kernel_rfl) rfl (fun K hK => ?_)
  go_simp
  refine (rSgnAny n2 a2 c2 z2.length e2 t h2 _).mono ?_
  rintro e wn ⟨rfl, hn⟩
  refine hK _ _ (HI.keep hn) ?_
  clear hK K
  replace HI := HI.keep hn
  clear hn
  refine Drawn.tk (i := 4) (v := ?v87) rfl (fun W hW => ?_) HI ?_
  rotate_left
  · have ⟨⟨s0, s1, s2⟩, q0, q3, q4⟩ := sh W hW
    go_simp <;> exact rfl
  refine Drawn.tk (i := 5) (v := ?v88) rfl (fun W hW => ?_) HI ?_
  rotate_left
  · have ⟨⟨s0, s1, s2⟩, q0, q3, q4⟩ := sh W hW
    go_simp <;> exact rfl
  refine Drawn.done (by kernel_rfl) ?_
  try go_simp
  clear sh h1 h2
  go_wp2
  go_ret
  exact ⟨rfl, HI.bel⟩
theorem cmpX_zero (n1 n2 : Bool) (a1 a2 : Option Addr) (c1 c2 : Nat) (z1 z2 : List Int) (e1 e2 : Int) (w : World) (h1 : SgnOf n1 z1.length 0) (h2 : SgnOf n2 z2.length 0) :
    Calls Try.prog 38 #[dV n1 a1 z1.length c1 e1, dV n2 a2 z2.length c2 e2] w fun e w' => e = .returned (.int .i64 0) ∧ Below w.heap.size w w' := by
  have B1 := ((Bx.nil w).push (DO n1 a1 z1.length c1 e1)).push (DO n2 a2 z2.length c2 e2)
  go_enter Try.func38, Try.ntmps38
  go_wp2_with fail
  rw [show (w.alloc (DO n1 a1 z1.length c1 e1)).heap.size = w.heap.size + 1 by simp] at B1
  generalize hw1 : (w.alloc (DO n1 a1 z1.length c1 e1)).alloc (DO n2 a2 z2.length c2 e2) = w1 at *
  clear hw1
  have HI := B1.drew
  have sh := fun W (hW : Bx w [(w.heap.size + 1, DO n2 a2 z2.length c2 e2), (w.heap.size, DO n1 a1 z1.length c1 e1)] W) => And.intro (cells3 hW (w.heap.size + 1) _ _ _ _ (.head _)).1 (cells3 hW w.heap.size _ _ _ _ (.tail _ (.head _))).1
  refine Drawn.enter (Bx w [(w.heap.size + 1, DO n2 a2 z2.length c2 e2), (w.heap.size, DO n1 a1 z1.length c1 e1)]) (by kernel_rfl) ?_
  refine Drawn.tk (i := 0) (v := ?v89) rfl (fun W hW => ?_) HI ?_
  rotate_left
  · have ⟨⟨s0, s1, s2⟩, q0, q3, q4⟩ := sh W hW
    go_simp <;> exact rfl
  refine Drawn.tk (i := 2) (v := ?v90) rfl (fun W hW => ?_) HI ?_
  rotate_left
  · have ⟨⟨s0, s1, s2⟩, q0, q3, q4⟩ := sh W hW
    go_simp <;> exact rfl
  refine Drawn.one (j := 1) (by kernel_rfl) rfl (fun K hK => ?_)
  go_simp
  refine (rSgnAny n1 a1 c1 z1.length e1 0 h1 _).mono ?_
  rintro e wn ⟨rfl, hn⟩
  refine hK _ _ (HI.keep hn) ?_
  clear hK K
  replace HI := HI.keep hn
  clear hn
  refine Drawn.one (j := 3) (by kernel_rfl) rfl (fun K hK => ?_)
  go_simp
  refine (rSgnAny n2 a2 c2 z2.length e2 0 h2 _).mono ?_
  rintro e wn ⟨rfl, hn⟩
  refine hK _ _ (HI.keep hn) ?_
  clear hK K
  replace HI := HI.keep hn
  clear hn
  refine Drawn.tk (i := 4) (v := ?v91) rfl (fun W hW => ?_) HI ?_
  rotate_left
  · have ⟨⟨s0, s1, s2⟩, q0, q3, q4⟩ := sh W hW
    go_simp <;> exact rfl
  refine Drawn.tk (i := 5) (v := ?v92) rfl (fun W hW => ?_) HI ?_
  rotate_left
  · have ⟨⟨s0, s1, s2⟩, q0, q3, q4⟩ := sh W hW
    go_simp <;> exact rfl
  refine Drawn.done (by kernel_rfl) ?_
  try go_simp
  clear sh h1 h2
  go_wp2
  go_ret
  exact ⟨rfl, HI.bel⟩
set_option maxHeartbeats 2000000 in
theorem cmpX_pl (n1 n2 : Bool) (a1 a2 : Option Addr) (c1 c2 : Nat) (z1 z2 : List Int) (e1 e2 : Int) (w : World) (h1 : SgnOf n1 z1.length 1) (h2 : SgnOf n2 z2.length 1) (l1 : Lie w a1 z1) (l2 : Lie w a2 z2) (g1 : DG n1 z1 e1) (g2 : DG n2 z2 e2) (hz1 : 0 < z1.length) (hz2 : 0 < z2.length) {T1 T2 : Nat} (hT1 : BitLen (Nt.val z1) T1) (hT2 : BitLen (Nt.val z2) T2) (ht : e1 + T1 < e2 + T2) :
    Calls Try.prog 38 #[dV n1 a1 z1.length c1 e1, dV n2 a2 z2.length c2 e2] w fun e w' => e = .returned (.int .i64 (-1)) ∧ Below w.heap.size w w' := by
  have H1 := Hide.mk hT1
  have H2 := Hide.mk hT2
  clear hT1 hT2
  have B1 := ((Bx.nil w).push (DO n1 a1 z1.length c1 e1)).push (DO n2 a2 z2.length c2 e2)
  go_enter Try.func38, Try.ntmps38
  go_wp2_with fail
  rw [show (w.alloc (DO n1 a1 z1.length c1 e1)).heap.size = w.heap.size + 1 by simp] at B1
  generalize hw1 : (w.alloc (DO n1 a1 z1.length c1 e1)).alloc (DO n2 a2 z2.length c2 e2) = w1 at *
  clear hw1
  have HI := B1.drew
  have sh := fun W (hW : Bx w [(w.heap.size + 1, DO n2 a2 z2.length c2 e2), (w.heap.size, DO n1 a1 z1.length c1 e1)] W) => And.intro (cells3 hW (w.heap.size + 1) _ _ _ _ (.head _)).1 (cells3 hW w.heap.size _ _ _ _ (.tail _ (.head _))).1
  refine Drawn.enter (Bx w [(w.heap.size + 1, DO n2 a2 z2.length c2 e2), (w.heap.size, DO n1 a1 z1.length c1 e1)]) (by kernel_rfl) ?_
  refine Drawn.tk (i := 0) (v := ?v93) rfl (fun W hW => ?_) HI ?_
  rotate_left
  · have ⟨⟨s0, s1, s2⟩, q0, q3, q4⟩ := sh W hW
    go_simp <;> exact rfl
  refine Drawn.tk (i := 2) (v := ?v94) rfl (fun W hW => ?_) HI ?_
  rotate_left
  · have ⟨⟨s0, s1, s2⟩, q0, q3, q4⟩ := sh W hW
    go_simp <;> exact rfl
  refine Drawn.one (j := 1) (by kernel_rfl) rfl (fun K hK => ?_)
  go_simp
  refine (rSgnAny n1 a1 c1 z1.length e1 1 h1 _).mono ?_
  rintro e wn ⟨rfl, hn⟩
  refine hK _ _ (HI.keep hn) ?_
  clear hK K
  replace HI := HI.keep hn
  clear hn
  refine Drawn.one (j := 3) (by kernel_rfl) rfl (fun K hK => ?_)
  go_simp
  refine (rSgnAny n2 a2 c2 z2.length e2 1 h2 _).mono ?_
  rintro e wn ⟨rfl, hn⟩
  refine hK _ _ (HI.keep hn) ?_
  clear hK K
  replace HI := HI.keep hn
  clear hn
  refine Drawn.tk (i := 4) (v := ?v95) rfl (fun W hW => ?_) HI ?_
  rotate_left
  · have ⟨⟨s0, s1, s2⟩, q0, q3, q4⟩ := sh W hW
    go_simp <;> exact rfl
  refine Drawn.tk (i := 5) (v := ?v96) rfl (fun W hW => ?_) HI ?_
  rotate_left
  · have ⟨⟨s0, s1, s2⟩, q0, q3, q4⟩ := sh W hW
    go_simp <;> exact rfl
  refine Drawn.done (by kernel_rfl) ?_
  try go_simp
  go_wp2_with fail
  replace HI := HI.drew
  refine Drawn.enter (Bx w [(w.heap.size + 1, DO n2 a2 z2.length c2 e2), (w.heap.size, DO n1 a1 z1.length c1 e1)]) (by kernel_rfl) ?_
  refine Drawn.tk (i := 0) (v := ?v97) rfl (fun W hW => ?_) HI ?_
  rotate_left
  · have ⟨⟨s0, s1, s2⟩, q0, q3, q4⟩ := sh W hW
    go_simp <;> exact rfl
  refine Drawn.tk (i := 2) (v := ?v98) rfl (fun W hW => ?_) HI ?_
  rotate_left
  · have ⟨⟨s0, s1, s2⟩, q0, q3, q4⟩ := sh W hW
    go_simp <;> exact rfl
  refine Drawn.one (j := 1) (by kernel_rfl) rfl (fun K hK => ?_)
  go_simp
  refine (dreftop54 n1 a1 c1 z1 e1 _ (l1.below HI.bel (Nat.le_refl _)) g1 hz1).mono ?_
  rintro e w5 ⟨B5, rfl, hB5, hb5, h5⟩
  obtain rfl := hB5.unique H1.out
  refine hK _ _ (HI.keep h5) ?_
  clear hK K hB5
  replace HI := HI.keep h5
  clear h5
  refine Drawn.one (j := 3) (by kernel_rfl) rfl (fun K hK => ?_)
  go_simp
  refine (dreftop54 n2 a2 c2 z2 e2 _ (l2.below HI.bel (Nat.le_refl _)) g2 hz2).mono ?_
  rintro e w6 ⟨B6, rfl, hB6, hb6, h6⟩
  obtain rfl := hB6.unique H2.out
  refine hK _ _ (HI.keep h6) ?_
  clear hK K hB6
  replace HI := HI.keep h6
  clear h6
  refine Drawn.tk (i := 4) (v := .bool true) rfl (fun W hW => ?_) HI ?_
  · have ⟨⟨s0, s1, s2⟩, q0, q3, q4⟩ := sh W hW
    go_simp <;> (first | (simp; omega) | omega)
  refine Drawn.done (by kernel_rfl) ?_
  try go_simp
  go_wp2_with fail
  replace HI := HI.drew
  refine Drawn.enter (Bx w [(w.heap.size + 1, DO n2 a2 z2.length c2 e2), (w.heap.size, DO n1 a1 z1.length c1 e1)]) (by kernel_rfl) ?_
  refine Drawn.tk (i := 0) (v := ?v99) rfl (fun W hW => ?_) HI ?_
  rotate_left
  · have ⟨⟨s0, s1, s2⟩, q0, q3, q4⟩ := sh W hW
    go_simp <;> exact rfl
  refine Drawn.tk (i := 2) (v := ?v100) rfl (fun W hW => ?_) HI ?_
  rotate_left
  · have ⟨⟨s0, s1, s2⟩, q0, q3, q4⟩ := sh W hW
    go_simp <;> exact rfl
  refine Drawn.tk (i := 5) (v := ?v101) rfl (fun W hW => ?_) HI ?_
  rotate_left
  · have ⟨⟨s0, s1, s2⟩, q0, q3, q4⟩ := sh W hW
    go_simp <;> exact rfl
  refine Drawn.tk (i := 6) (v := .bool true) rfl (fun W hW => ?_) HI ?_
  · have ⟨⟨s0, s1, s2⟩, q0, q3, q4⟩ := sh W hW
    go_simp <;> (first | rfl | (simp; omega))
  refine Drawn.one (j := 1) (by kernel_rfl) rfl (fun K hK => ?_)
  go_simp
  refine (dreftop54 n1 a1 c1 z1 e1 _ (l1.below HI.bel (Nat.le_refl _)) g1 hz1).mono ?_
  rintro e w5 ⟨B5, rfl, hB5, hb7, h5⟩
  obtain rfl := hB5.unique H1.out
  refine hK _ _ (HI.keep h5) ?_
  clear hK K hB5
  replace HI := HI.keep h5
  clear h5
  refine Drawn.one (j := 3) (by kernel_rfl) rfl (fun K hK => ?_)
  go_simp
  refine (dreftop54 n2 a2 c2 z2 e2 _ (l2.below HI.bel (Nat.le_refl _)) g2 hz2).mono ?_
  rintro e w6 ⟨B6, rfl, hB6, hb8, h6⟩
  obtain rfl := hB6.unique H2.out
  refine hK _ _ (HI.keep h6) ?_
  clear hK K hB6
  replace HI := HI.keep h6
  clear h6
  refine Drawn.tk (i := 4) (v := .bool true) rfl (fun W hW => ?_) HI ?_
  · have ⟨⟨s0, s1, s2⟩, q0, q3, q4⟩ := sh W hW
    go_simp <;> (first | omega | (simp; omega))
  refine Drawn.tk (i := 7) (v := .bool true) rfl (fun W hW => ?_) HI ?_
  · have ⟨⟨s0, s1, s2⟩, q0, q3, q4⟩ := sh W hW
    go_simp <;> (rfl)
  refine Drawn.done (by kernel_rfl) ?_
  try go_simp
  clear sh
  go_wp2
  go_ret
  exact ⟨rfl, HI.bel⟩
set_option maxHeartbeats 2000000 in
theorem cmpX_pg (n1 n2 : Bool) (a1 a2 : Option Addr) (c1 c2 : Nat) (z1 z2 : List Int) (e1 e2 : Int) (w : World) (h1 : SgnOf n1 z1.length 1) (h2 : SgnOf n2 z2.length 1) (l1 : Lie w a1 z1) (l2 : Lie w a2 z2) (g1 : DG n1 z1 e1) (g2 : DG n2 z2 e2) (hz1 : 0 < z1.length) (hz2 : 0 < z2.length) {T1 T2 : Nat} (hT1 : BitLen (Nt.val z1) T1) (hT2 : BitLen (Nt.val z2) T2) (ht : e2 + T2 < e1 + T1) :
    Calls Try.prog 38 #[dV n1 a1 z1.length c1 e1, dV n2 a2 z2.length c2 e2] w fun e w' => e = .returned (.int .i64 (1)) ∧ Below w.heap.size w w' := by
  have H1 := Hide.mk hT1
  have H2 := Hide.mk hT2
  clear hT1 hT2
  have B1 := ((Bx.nil w).push (DO n1 a1 z1.length c1 e1)).push (DO n2 a2 z2.length c2 e2)
  go_enter Try.func38, Try.ntmps38
  go_wp2_with fail
  rw [show (w.alloc (DO n1 a1 z1.length c1 e1)).heap.size = w.heap.size + 1 by simp] at B1
  generalize hw1 : (w.alloc (DO n1 a1 z1.length c1 e1)).alloc (DO n2 a2 z2.length c2 e2) = w1 at *
  clear hw1
  have HI := B1.drew
  have sh := fun W (hW : Bx w [(w.heap.size + 1, DO n2 a2 z2.length c2 e2), (w.heap.size, DO n1 a1 z1.length c1 e1)] W) => And.intro (cells3 hW (w.heap.size + 1) _ _ _ _ (.head _)).1 (cells3 hW w.heap.size _ _ _ _ (.tail _ (.head _))).1
  refine Drawn.enter (Bx w [(w.heap.size + 1, DO n2 a2 z2.length c2 e2), (w.heap.size, DO n1 a1 z1.length c1 e1)]) (by kernel_rfl) ?_
  refine Drawn.tk (i := 0) (v := ?v102) rfl (fun W hW => ?_) HI ?_
  rotate_left
  · have ⟨⟨s0, s1, s2⟩, q0, q3, q4⟩ := sh W hW
    go_simp <;> exact rfl
  refine Drawn.tk (i := 2) (v := ?v103) rfl (fun W hW => ?_) HI ?_
  rotate_left
  · have ⟨⟨s0, s1, s2⟩, q0, q3, q4⟩ := sh W hW
    go_simp <;> exact rfl
  refine Drawn.one (j := 1) (by kernel_rfl) rfl (fun K hK => ?_)
  go_simp
  refine (rSgnAny n1 a1 c1 z1.length e1 1 h1 _).mono ?_
  rintro e wn ⟨rfl, hn⟩
  refine hK _ _ (HI.keep hn) ?_
  clear hK K
  replace HI := HI.keep hn
  clear hn
  refine Drawn.one (j := 3) (by kernel_rfl) rfl (fun K hK => ?_)
  go_simp
  refine (rSgnAny n2 a2 c2 z2.length e2 1 h2 _).mono ?_
  rintro e wn ⟨rfl, hn⟩
  refine hK _ _ (HI.keep hn) ?_
  clear hK K
  replace HI := HI.keep hn
  clear hn
  refine Drawn.tk (i := 4) (v := ?v104) rfl (fun W hW => ?_) HI ?_
  rotate_left
  · have ⟨⟨s0, s1, s2⟩, q0, q3, q4⟩ := sh W hW
    go_simp <;> exact rfl
  refine Drawn.tk (i := 5) (v := ?v105) rfl (fun W hW => ?_) HI ?_
  rotate_left
  · have ⟨⟨s0, s1, s2⟩, q0, q3, q4⟩ := sh W hW
    go_simp <;> exact rfl
  refine Drawn.done (by kernel_rfl) ?_
  try go_simp
  go_wp2_with fail
  replace HI := HI.drew
  refine Drawn.enter (Bx w [(w.heap.size + 1, DO n2 a2 z2.length c2 e2), (w.heap.size, DO n1 a1 z1.length c1 e1)]) (by kernel_rfl) ?_
  refine Drawn.tk (i := 0) (v := ?v106) rfl (fun W hW => ?_) HI ?_
  rotate_left
  · have ⟨⟨s0, s1, s2⟩, q0, q3, q4⟩ := sh W hW
    go_simp <;> exact rfl
  refine Drawn.tk (i := 2) (v := ?v107) rfl (fun W hW => ?_) HI ?_
  rotate_left
  · have ⟨⟨s0, s1, s2⟩, q0, q3, q4⟩ := sh W hW
    go_simp <;> exact rfl
  refine Drawn.one (j := 1) (by kernel_rfl) rfl (fun K hK => ?_)
  go_simp
  refine (dreftop54 n1 a1 c1 z1 e1 _ (l1.below HI.bel (Nat.le_refl _)) g1 hz1).mono ?_
  rintro e w5 ⟨B5, rfl, hB5, hb5, h5⟩
  obtain rfl := hB5.unique H1.out
  refine hK _ _ (HI.keep h5) ?_
  clear hK K hB5
  replace HI := HI.keep h5
  clear h5
  refine Drawn.one (j := 3) (by kernel_rfl) rfl (fun K hK => ?_)
  go_simp
  refine (dreftop54 n2 a2 c2 z2 e2 _ (l2.below HI.bel (Nat.le_refl _)) g2 hz2).mono ?_
  rintro e w6 ⟨B6, rfl, hB6, hb6, h6⟩
  obtain rfl := hB6.unique H2.out
  refine hK _ _ (HI.keep h6) ?_
  clear hK K hB6
  replace HI := HI.keep h6
  clear h6
  refine Drawn.tk (i := 4) (v := .bool true) rfl (fun W hW => ?_) HI ?_
  · have ⟨⟨s0, s1, s2⟩, q0, q3, q4⟩ := sh W hW
    go_simp <;> (first | (simp; omega) | omega)
  refine Drawn.done (by kernel_rfl) ?_
  try go_simp
  go_wp2_with fail
  replace HI := HI.drew
  refine Drawn.enter (Bx w [(w.heap.size + 1, DO n2 a2 z2.length c2 e2), (w.heap.size, DO n1 a1 z1.length c1 e1)]) (by kernel_rfl) ?_
  refine Drawn.tk (i := 0) (v := ?v108) rfl (fun W hW => ?_) HI ?_
  rotate_left
  · have ⟨⟨s0, s1, s2⟩, q0, q3, q4⟩ := sh W hW
    go_simp <;> exact rfl
  refine Drawn.tk (i := 2) (v := ?v109) rfl (fun W hW => ?_) HI ?_
  rotate_left
  · have ⟨⟨s0, s1, s2⟩, q0, q3, q4⟩ := sh W hW
    go_simp <;> exact rfl
  refine Drawn.tk (i := 5) (v := ?v110) rfl (fun W hW => ?_) HI ?_
  rotate_left
  · have ⟨⟨s0, s1, s2⟩, q0, q3, q4⟩ := sh W hW
    go_simp <;> exact rfl
  refine Drawn.tk (i := 6) (v := .bool true) rfl (fun W hW => ?_) HI ?_
  · have ⟨⟨s0, s1, s2⟩, q0, q3, q4⟩ := sh W hW
    go_simp <;> (first | rfl | (simp; omega))
  refine Drawn.one (j := 1) (by kernel_rfl) rfl (fun K hK => ?_)
  go_simp
  refine (dreftop54 n1 a1 c1 z1 e1 _ (l1.below HI.bel (Nat.le_refl _)) g1 hz1).mono ?_
  rintro e w5 ⟨B5, rfl, hB5, hb7, h5⟩
  obtain rfl := hB5.unique H1.out
  refine hK _ _ (HI.keep h5) ?_
  clear hK K hB5
  replace HI := HI.keep h5
  clear h5
  refine Drawn.one (j := 3) (by kernel_rfl) rfl (fun K hK => ?_)
  go_simp
  refine (dreftop54 n2 a2 c2 z2 e2 _ (l2.below HI.bel (Nat.le_refl _)) g2 hz2).mono ?_
  rintro e w6 ⟨B6, rfl, hB6, hb8, h6⟩
  obtain rfl := hB6.unique H2.out
  refine hK _ _ (HI.keep h6) ?_
  clear hK K hB6
  replace HI := HI.keep h6
  clear h6
  refine Drawn.tk (i := 4) (v := .bool false) rfl (fun W hW => ?_) HI ?_
  · have ⟨⟨s0, s1, s2⟩, q0, q3, q4⟩ := sh W hW
    go_simp <;> (first | omega | (simp; omega))
  refine Drawn.tk (i := 7) (v := .bool false) rfl (fun W hW => ?_) HI ?_
  · have ⟨⟨s0, s1, s2⟩, q0, q3, q4⟩ := sh W hW
    go_simp <;> (rfl)
  refine Drawn.done (by kernel_rfl) ?_
  try go_simp
  clear sh
  go_wp2
  go_ret
  exact ⟨rfl, HI.bel⟩
set_option maxHeartbeats 2000000 in
theorem cmpX_nl (n1 n2 : Bool) (a1 a2 : Option Addr) (c1 c2 : Nat) (z1 z2 : List Int) (e1 e2 : Int) (w : World) (h1 : SgnOf n1 z1.length (-1)) (h2 : SgnOf n2 z2.length (-1)) (l1 : Lie w a1 z1) (l2 : Lie w a2 z2) (g1 : DG n1 z1 e1) (g2 : DG n2 z2 e2) (hz1 : 0 < z1.length) (hz2 : 0 < z2.length) {T1 T2 : Nat} (hT1 : BitLen (Nt.val z1) T1) (hT2 : BitLen (Nt.val z2) T2) (ht : e1 + T1 < e2 + T2) :
    Calls Try.prog 38 #[dV n1 a1 z1.length c1 e1, dV n2 a2 z2.length c2 e2] w fun e w' => e = .returned (.int .i64 (1)) ∧ Below w.heap.size w w' := by
  have H1 := Hide.mk hT1
  have H2 := Hide.mk hT2
  clear hT1 hT2
  have B1 := ((Bx.nil w).push (DO n1 a1 z1.length c1 e1)).push (DO n2 a2 z2.length c2 e2)
  go_enter Try.func38, Try.ntmps38
  go_wp2_with fail
  rw [show (w.alloc (DO n1 a1 z1.length c1 e1)).heap.size = w.heap.size + 1 by simp] at B1
  generalize hw1 : (w.alloc (DO n1 a1 z1.length c1 e1)).alloc (DO n2 a2 z2.length c2 e2) = w1 at *
  clear hw1
  have HI := B1.drew
  have sh := fun W (hW : Bx w [(w.heap.size + 1, DO n2 a2 z2.length c2 e2), (w.heap.size, DO n1 a1 z1.length c1 e1)] W) => And.intro (cells3 hW (w.heap.size + 1) _ _ _ _ (.head _)).1 (cells3 hW w.heap.size _ _ _ _ (.tail _ (.head _))).1
  refine Drawn.enter (Bx w [(w.heap.size + 1, DO n2 a2 z2.length c2 e2), (w.heap.size, DO n1 a1 z1.length c1 e1)]) (by kernel_rfl) ?_
  refine Drawn.tk (i := 0) (v := ?v111) rfl (fun W hW => ?_) HI ?_
  rotate_left
  · have ⟨⟨s0, s1, s2⟩, q0, q3, q4⟩ := sh W hW
    go_simp <;> exact rfl
  refine Drawn.tk (i := 2) (v := ?v112) rfl (fun W hW => ?_) HI ?_
  rotate_left
  · have ⟨⟨s0, s1, s2⟩, q0, q3, q4⟩ := sh W hW
    go_simp <;> exact rfl
  refine Drawn.one (j := 1) (by kernel_rfl) rfl (fun K hK => ?_)
  go_simp
  refine (rSgnAny n1 a1 c1 z1.length e1 (-1) h1 _).mono ?_
  rintro e wn ⟨rfl, hn⟩
  refine hK _ _ (HI.keep hn) ?_
  clear hK K
  replace HI := HI.keep hn
  clear hn
  refine Drawn.one (j := 3) (by kernel_rfl) rfl (fun K hK => ?_)
  go_simp
  refine (rSgnAny n2 a2 c2 z2.length e2 (-1) h2 _).mono ?_
  rintro e wn ⟨rfl, hn⟩
  refine hK _ _ (HI.keep hn) ?_
  clear hK K
  replace HI := HI.keep hn
  clear hn
  refine Drawn.tk (i := 4) (v := ?v113) rfl (fun W hW => ?_) HI ?_
  rotate_left
  · have ⟨⟨s0, s1, s2⟩, q0, q3, q4⟩ := sh W hW
    go_simp <;> exact rfl
  refine Drawn.tk (i := 5) (v := ?v114) rfl (fun W hW => ?_) HI ?_
  rotate_left
  · have ⟨⟨s0, s1, s2⟩, q0, q3, q4⟩ := sh W hW
    go_simp <;> exact rfl
  refine Drawn.done (by kernel_rfl) ?_
  try go_simp
  go_wp2_with fail
  replace HI := HI.drew
  refine Drawn.enter (Bx w [(w.heap.size + 1, DO n2 a2 z2.length c2 e2), (w.heap.size, DO n1 a1 z1.length c1 e1)]) (by kernel_rfl) ?_
  refine Drawn.tk (i := 0) (v := ?v115) rfl (fun W hW => ?_) HI ?_
  rotate_left
  · have ⟨⟨s0, s1, s2⟩, q0, q3, q4⟩ := sh W hW
    go_simp <;> exact rfl
  refine Drawn.tk (i := 2) (v := ?v116) rfl (fun W hW => ?_) HI ?_
  rotate_left
  · have ⟨⟨s0, s1, s2⟩, q0, q3, q4⟩ := sh W hW
    go_simp <;> exact rfl
  refine Drawn.one (j := 1) (by kernel_rfl) rfl (fun K hK => ?_)
  go_simp
  refine (dreftop54 n1 a1 c1 z1 e1 _ (l1.below HI.bel (Nat.le_refl _)) g1 hz1).mono ?_
  rintro e w5 ⟨B5, rfl, hB5, hb5, h5⟩
  obtain rfl := hB5.unique H1.out
  refine hK _ _ (HI.keep h5) ?_
  clear hK K hB5
  replace HI := HI.keep h5
  clear h5
  refine Drawn.one (j := 3) (by kernel_rfl) rfl (fun K hK => ?_)
  go_simp
  refine (dreftop54 n2 a2 c2 z2 e2 _ (l2.below HI.bel (Nat.le_refl _)) g2 hz2).mono ?_
  rintro e w6 ⟨B6, rfl, hB6, hb6, h6⟩
  obtain rfl := hB6.unique H2.out
  refine hK _ _ (HI.keep h6) ?_
  clear hK K hB6
  replace HI := HI.keep h6
  clear h6
  refine Drawn.tk (i := 4) (v := .bool true) rfl (fun W hW => ?_) HI ?_
  · have ⟨⟨s0, s1, s2⟩, q0, q3, q4⟩ := sh W hW
    go_simp <;> (first | (simp; omega) | omega)
  refine Drawn.done (by kernel_rfl) ?_
  try go_simp
  go_wp2_with fail
  replace HI := HI.drew
  refine Drawn.enter (Bx w [(w.heap.size + 1, DO n2 a2 z2.length c2 e2), (w.heap.size, DO n1 a1 z1.length c1 e1)]) (by kernel_rfl) ?_
  refine Drawn.tk (i := 0) (v := ?v117) rfl (fun W hW => ?_) HI ?_
  rotate_left
  · have ⟨⟨s0, s1, s2⟩, q0, q3, q4⟩ := sh W hW
    go_simp <;> exact rfl
  refine Drawn.tk (i := 2) (v := ?v118) rfl (fun W hW => ?_) HI ?_
  rotate_left
  · have ⟨⟨s0, s1, s2⟩, q0, q3, q4⟩ := sh W hW
    go_simp <;> exact rfl
  refine Drawn.tk (i := 5) (v := ?v119) rfl (fun W hW => ?_) HI ?_
  rotate_left
  · have ⟨⟨s0, s1, s2⟩, q0, q3, q4⟩ := sh W hW
    go_simp <;> exact rfl
  refine Drawn.tk (i := 6) (v := .bool false) rfl (fun W hW => ?_) HI ?_
  · have ⟨⟨s0, s1, s2⟩, q0, q3, q4⟩ := sh W hW
    go_simp <;> (first | rfl | (simp; omega))
  refine Drawn.one (j := 1) (by kernel_rfl) rfl (fun K hK => ?_)
  go_simp
  refine (dreftop54 n1 a1 c1 z1 e1 _ (l1.below HI.bel (Nat.le_refl _)) g1 hz1).mono ?_
  rintro e w5 ⟨B5, rfl, hB5, hb7, h5⟩
  obtain rfl := hB5.unique H1.out
  refine hK _ _ (HI.keep h5) ?_
  clear hK K hB5
  replace HI := HI.keep h5
  clear h5
  refine Drawn.one (j := 3) (by kernel_rfl) rfl (fun K hK => ?_)
  go_simp
  refine (dreftop54 n2 a2 c2 z2 e2 _ (l2.below HI.bel (Nat.le_refl _)) g2 hz2).mono ?_
  rintro e w6 ⟨B6, rfl, hB6, hb8, h6⟩
  obtain rfl := hB6.unique H2.out
  refine hK _ _ (HI.keep h6) ?_
  clear hK K hB6
  replace HI := HI.keep h6
  clear h6
  refine Drawn.tk (i := 4) (v := .bool true) rfl (fun W hW => ?_) HI ?_
  · have ⟨⟨s0, s1, s2⟩, q0, q3, q4⟩ := sh W hW
    go_simp <;> (first | omega | (simp; omega))
  refine Drawn.tk (i := 7) (v := .bool false) rfl (fun W hW => ?_) HI ?_
  · have ⟨⟨s0, s1, s2⟩, q0, q3, q4⟩ := sh W hW
    go_simp <;> (rfl)
  refine Drawn.done (by kernel_rfl) ?_
  try go_simp
  clear sh
  go_wp2
  go_ret
  exact ⟨rfl, HI.bel⟩
set_option maxHeartbeats 2000000 in
theorem cmpX_ng (n1 n2 : Bool) (a1 a2 : Option Addr) (c1 c2 : Nat) (z1 z2 : List Int) (e1 e2 : Int) (w : World) (h1 : SgnOf n1 z1.length (-1)) (h2 : SgnOf n2 z2.length (-1)) (l1 : Lie w a1 z1) (l2 : Lie w a2 z2) (g1 : DG n1 z1 e1) (g2 : DG n2 z2 e2) (hz1 : 0 < z1.length) (hz2 : 0 < z2.length) {T1 T2 : Nat} (hT1 : BitLen (Nt.val z1) T1) (hT2 : BitLen (Nt.val z2) T2) (ht : e2 + T2 < e1 + T1) :
    Calls Try.prog 38 #[dV n1 a1 z1.length c1 e1, dV n2 a2 z2.length c2 e2] w fun e w' => e = .returned (.int .i64 (-1)) ∧ Below w.heap.size w w' := by
  have H1 := Hide.mk hT1
  have H2 := Hide.mk hT2
  clear hT1 hT2
  have B1 := ((Bx.nil w).push (DO n1 a1 z1.length c1 e1)).push (DO n2 a2 z2.length c2 e2)
  go_enter Try.func38, Try.ntmps38
  go_wp2_with fail
  rw [show (w.alloc (DO n1 a1 z1.length c1 e1)).heap.size = w.heap.size + 1 by simp] at B1
  generalize hw1 : (w.alloc (DO n1 a1 z1.length c1 e1)).alloc (DO n2 a2 z2.length c2 e2) = w1 at *
  clear hw1
  have HI := B1.drew
  have sh := fun W (hW : Bx w [(w.heap.size + 1, DO n2 a2 z2.length c2 e2), (w.heap.size, DO n1 a1 z1.length c1 e1)] W) => And.intro (cells3 hW (w.heap.size + 1) _ _ _ _ (.head _)).1 (cells3 hW w.heap.size _ _ _ _ (.tail _ (.head _))).1
  refine Drawn.enter (Bx w [(w.heap.size + 1, DO n2 a2 z2.length c2 e2), (w.heap.size, DO n1 a1 z1.length c1 e1)]) (by kernel_rfl) ?_
  refine Drawn.tk (i := 0) (v := ?v120) rfl (fun W hW => ?_) HI ?_
  rotate_left
  · have ⟨⟨s0, s1, s2⟩, q0, q3, q4⟩ := sh W hW
    go_simp <;> exact rfl
  refine Drawn.tk (i := 2) (v := ?v121) rfl (fun W hW => ?_) HI ?_
  rotate_left
  · have ⟨⟨s0, s1, s2⟩, q0, q3, q4⟩ := sh W hW
    go_simp <;> exact rfl
  refine Drawn.one (j := 1) (by kernel_rfl) rfl (fun K hK => ?_)
  go_simp
  refine (rSgnAny n1 a1 c1 z1.length e1 (-1) h1 _).mono ?_
  rintro e wn ⟨rfl, hn⟩
  refine hK _ _ (HI.keep hn) ?_
  clear hK K
  replace HI := HI.keep hn
  clear hn
  refine Drawn.one (j := 3) (by kernel_rfl) rfl (fun K hK => ?_)
  go_simp
  refine (rSgnAny n2 a2 c2 z2.length e2 (-1) h2 _).mono ?_
  rintro e wn ⟨rfl, hn⟩
  refine hK _ _ (HI.keep hn) ?_
  clear hK K
  replace HI := HI.keep hn
  clear hn
  refine Drawn.tk (i := 4) (v := ?v122) rfl (fun W hW => ?_) HI ?_
  rotate_left
  · have ⟨⟨s0, s1, s2⟩, q0, q3, q4⟩ := sh W hW
    go_simp <;> exact rfl
  refine Drawn.tk (i := 5) (v := ?v123) rfl (fun W hW => ?_) HI ?_
  rotate_left
  · have ⟨⟨s0, s1, s2⟩, q0, q3, q4⟩ := sh W hW
    go_simp <;> exact rfl
  refine Drawn.done (by kernel_rfl) ?_
  try go_simp
  go_wp2_with fail
  replace HI := HI.drew
  refine Drawn.enter (Bx w [(w.heap.size + 1, DO n2 a2 z2.length c2 e2), (w.heap.size, DO n1 a1 z1.length c1 e1)]) (by kernel_rfl) ?_
  refine Drawn.tk (i := 0) (v := ?v124) rfl (fun W hW => ?_) HI ?_
  rotate_left
  · have ⟨⟨s0, s1, s2⟩, q0, q3, q4⟩ := sh W hW
    go_simp <;> exact rfl
  refine Drawn.tk (i := 2) (v := ?v125) rfl (fun W hW => ?_) HI ?_
  rotate_left
  · have ⟨⟨s0, s1, s2⟩, q0, q3, q4⟩ := sh W hW
    go_simp <;> exact rfl
  refine Drawn.one (j := 1) (by kernel_rfl) rfl (fun K hK => ?_)
  go_simp
  refine (dreftop54 n1 a1 c1 z1 e1 _ (l1.below HI.bel (Nat.le_refl _)) g1 hz1).mono ?_
  rintro e w5 ⟨B5, rfl, hB5, hb5, h5⟩
  obtain rfl := hB5.unique H1.out
  refine hK _ _ (HI.keep h5) ?_
  clear hK K hB5
  replace HI := HI.keep h5
  clear h5
  refine Drawn.one (j := 3) (by kernel_rfl) rfl (fun K hK => ?_)
  go_simp
  refine (dreftop54 n2 a2 c2 z2 e2 _ (l2.below HI.bel (Nat.le_refl _)) g2 hz2).mono ?_
  rintro e w6 ⟨B6, rfl, hB6, hb6, h6⟩
  obtain rfl := hB6.unique H2.out
  refine hK _ _ (HI.keep h6) ?_
  clear hK K hB6
  replace HI := HI.keep h6
  clear h6
  refine Drawn.tk (i := 4) (v := .bool true) rfl (fun W hW => ?_) HI ?_
  · have ⟨⟨s0, s1, s2⟩, q0, q3, q4⟩ := sh W hW
    go_simp <;> (first | (simp; omega) | omega)
  refine Drawn.done (by kernel_rfl) ?_
  try go_simp
  go_wp2_with fail
  replace HI := HI.drew
  refine Drawn.enter (Bx w [(w.heap.size + 1, DO n2 a2 z2.length c2 e2), (w.heap.size, DO n1 a1 z1.length c1 e1)]) (by kernel_rfl) ?_
  refine Drawn.tk (i := 0) (v := ?v126) rfl (fun W hW => ?_) HI ?_
  rotate_left
  · have ⟨⟨s0, s1, s2⟩, q0, q3, q4⟩ := sh W hW
    go_simp <;> exact rfl
  refine Drawn.tk (i := 2) (v := ?v127) rfl (fun W hW => ?_) HI ?_
  rotate_left
  · have ⟨⟨s0, s1, s2⟩, q0, q3, q4⟩ := sh W hW
    go_simp <;> exact rfl
  refine Drawn.tk (i := 5) (v := ?v128) rfl (fun W hW => ?_) HI ?_
  rotate_left
  · have ⟨⟨s0, s1, s2⟩, q0, q3, q4⟩ := sh W hW
    go_simp <;> exact rfl
  refine Drawn.tk (i := 6) (v := .bool false) rfl (fun W hW => ?_) HI ?_
  · have ⟨⟨s0, s1, s2⟩, q0, q3, q4⟩ := sh W hW
    go_simp <;> (first | rfl | (simp; omega))
  refine Drawn.one (j := 1) (by kernel_rfl) rfl (fun K hK => ?_)
  go_simp
  refine (dreftop54 n1 a1 c1 z1 e1 _ (l1.below HI.bel (Nat.le_refl _)) g1 hz1).mono ?_
  rintro e w5 ⟨B5, rfl, hB5, hb7, h5⟩
  obtain rfl := hB5.unique H1.out
  refine hK _ _ (HI.keep h5) ?_
  clear hK K hB5
  replace HI := HI.keep h5
  clear h5
  refine Drawn.one (j := 3) (by kernel_rfl) rfl (fun K hK => ?_)
  go_simp
  refine (dreftop54 n2 a2 c2 z2 e2 _ (l2.below HI.bel (Nat.le_refl _)) g2 hz2).mono ?_
  rintro e w6 ⟨B6, rfl, hB6, hb8, h6⟩
  obtain rfl := hB6.unique H2.out
  refine hK _ _ (HI.keep h6) ?_
  clear hK K hB6
  replace HI := HI.keep h6
  clear h6
  refine Drawn.tk (i := 4) (v := .bool false) rfl (fun W hW => ?_) HI ?_
  · have ⟨⟨s0, s1, s2⟩, q0, q3, q4⟩ := sh W hW
    go_simp <;> (first | omega | (simp; omega))
  refine Drawn.tk (i := 7) (v := .bool true) rfl (fun W hW => ?_) HI ?_
  · have ⟨⟨s0, s1, s2⟩, q0, q3, q4⟩ := sh W hW
    go_simp <;> (rfl)
  refine Drawn.done (by kernel_rfl) ?_
  try go_simp
  clear sh
  go_wp2
  go_ret
  exact ⟨rfl, HI.bel⟩
end Go.Proofs.Ytgfpbmjknknflaa
