import Derived.Test.YtiamdmfhkhlppaaDoorXC
namespace Go.Proofs.YtiamdmfhkhlppaaDoor
open Go.RowKit Go.Wd Go.Box
set_option linter.unusedVariables false
set_option maxRecDepth 3000
set_option maxHeartbeats 2000000 in
theorem addX_ge_same (n : Bool) (a1 a2 : Option Addr) (c1 c2 : Nat) (z1 z2 : List Int) (e1 e2 : Int) (w : World) (l1 : Lie w a1 z1) (l2 : Lie w a2 z2) (q1 : Nt.Can z1) (q2 : Nt.Can z2) (hl1 : z1.length ≤ 4100) (hl2 : z2.length ≤ 4100) (hz1 : 0 < z1.length) (hz2 : 0 < z2.length) (b1 : -20000000 ≤ e1) (b2 : e1 ≤ 20000000) (b3 : -20000000 ≤ e2) (b4 : e2 ≤ 20000000) (k1 k2 : Nat) (hk1 : k1 ≤ 150000) (hk2 : k2 ≤ 150000) (ho : e1 ≤ e2) (hh1 : e1 - e1 = k1) (hh2 : e2 - e1 = k2)  :
    Calls Tryd.prog 42 #[dV n a1 z1.length c1 e1, dV n a2 z2.length c2 e2] w fun e w' => RF w w' (sv n (Nt.val z1 * 2 ^ k1) + sv n (Nt.val z2 * 2 ^ k2)) e1 e := by
  have B1 := (((Bx.nil w).push (DO n a1 z1.length c1 e1)).push (DO n a2 z2.length c2 e2)).push (DO false none 0 0 0)
  have d1 : ((z1.length : Int) == 0) = false := beq_eq_false_iff_ne.2 (by omega)
  have d2 : ((z2.length : Int) == 0) = false := beq_eq_false_iff_ne.2 (by omega)
  have d3 : (n == n) = true := by cases n <;> rfl
  go_enter Tryd.func42, Tryd.ntmps42
  go_wp2_with fail
  rw [show ((w.alloc (DO n a1 z1.length c1 e1)).alloc (DO n a2 z2.length c2 e2)).heap.size = w.heap.size + 1 + 1 by simp, show (w.alloc (DO n a1 z1.length c1 e1)).heap.size = w.heap.size + 1 by simp] at B1
  generalize hw1 : ((w.alloc (DO n a1 z1.length c1 e1)).alloc (DO n a2 z2.length c2 e2)).alloc (DO false none 0 0 0) = w1 at *
  clear hw1
  refine (refUpA a1 c1 z1 _ _ k1 (by omega) (by omega) (l1.below B1.bel (Nat.le_refl _)) q1.1 (by omega)).mono ?_
  rintro e w2 ⟨y1, p1, g1, rfl, O1, C1, V1, h2⟩
  have B2 := B1.keep h2
  obtain ⟨x9, x8, he, _, _, m1⟩ := O1.lie
  simp only [Value.slice.injEq, true_and] at he
  obtain ⟨rfl, rfl⟩ := he
  obtain ⟨⟨s0, s1, s2⟩, _⟩ := cells3 B2 (w.heap.size + 1) _ _ _ _ (.tail _ (.head _))
  obtain ⟨⟨r0, r1, r2⟩, _⟩ := cells3 B2 w.heap.size _ _ _ _ (.tail _ (.tail _ (.head _)))
  have Y1 := Hide.mk (len_up q1 hl1 hk1 C1 V1)
  have HC1 := Hide.mk (And.intro C1 V1)
  clear O1 h2 B1 C1 V1
  go_wp2_with fail
  refine (refUpA a2 c2 z2 _ _ k2 (by omega) (by omega) (l2.below B2.bel (Nat.le_refl _)) q2.1 (by omega)).mono ?_
  rintro e w3 ⟨y2, p2, g2, rfl, O2, C2, V2, h3⟩
  have HF := B2.keep h3
  replace m1 := m1.below h3 (Nat.le_refl _)
  obtain ⟨x9, x8, he, _, _, m2⟩ := O2.lie
  simp only [Value.slice.injEq, true_and] at he
  obtain ⟨rfl, rfl⟩ := he
  have Y2 := Hide.mk (len_up q2 hl2 hk2 C2 V2)
  have HC2 := Hide.mk (And.intro C2 V2)
  clear O2 h3 B2 C2 V2 s0 s1 s2 r0 r1 r2
  obtain ⟨⟨s0, s1, s2⟩, _⟩ := cells3 HF (w.heap.size + 1) _ _ _ _ (.tail _ (.head _))
  obtain ⟨⟨r0, r1, r2⟩, _⟩ := cells3 HF w.heap.size _ _ _ _ (.tail _ (.tail _ (.head _)))
  go_wp2_with fail
  replace HF := HF.drew
  replace m1 := m1.below (Below.refl _ _).drew (Nat.le_refl _)
  replace m2 := m2.below (Below.refl _ _).drew (Nat.le_refl _)
  have HI := HF.sub (L' := [(w.heap.size + 1, DO n a2 z2.length c2 e2), (w.heap.size, DO n a1 z1.length c1 e1)]) (by simp)
  have sh := fun W (hW : Bx w [(w.heap.size + 1, DO n a2 z2.length c2 e2), (w.heap.size, DO n a1 z1.length c1 e1)] W) => (cells3 hW w.heap.size _ _ _ _ (.tail _ (.head _))).1
  refine Drawn.enter (Bx w [(w.heap.size + 1, DO n a2 z2.length c2 e2), (w.heap.size, DO n a1 z1.length c1 e1)]) (by kernel_rfl) ?_
  refine Drawn.take (i := 0) (v := ?v131) rfl (by kernel_rfl) (by kernel_rfl) (by kernel_rfl) (fun _ _ _ h => h) (by kernel_rfl) (fun W hW => ?_) HI ?_
  rotate_left
  · have ⟨q0, q3, q4⟩ := sh W hW
    go_simp <;> exact rfl
  refine Drawn.take (i := 1) (v := ?v132) rfl (by kernel_rfl) (by kernel_rfl) (by kernel_rfl) (fun _ _ _ h => h) (by kernel_rfl) (fun W hW => ?_) HI ?_
  rotate_left
  · have ⟨q0, q3, q4⟩ := sh W hW
    go_simp <;> exact rfl
  refine Drawn.take (i := 2) (v := ?v133) rfl (by kernel_rfl) (by kernel_rfl) (by kernel_rfl) (fun _ _ _ h => h) (by kernel_rfl) (fun W hW => ?_) HI ?_
  rotate_left
  · have ⟨q0, q3, q4⟩ := sh W hW
    go_simp <;> exact rfl
  refine Drawn.take (i := 3) (v := ?v134) rfl (by kernel_rfl) (by kernel_rfl) (by kernel_rfl) (fun _ _ _ h => h) (by kernel_rfl) (fun W hW => ?_) HI ?_
  rotate_left
  · have ⟨q0, q3, q4⟩ := sh W hW
    go_simp <;> exact rfl
  refine Drawn.take (i := 5) (v := ?v135) rfl (by kernel_rfl) (by kernel_rfl) (by kernel_rfl) (fun _ _ _ h => h) (by kernel_rfl) (fun W hW => ?_) HI ?_
  rotate_left
  · have ⟨q0, q3, q4⟩ := sh W hW
    go_simp <;> exact rfl
  refine Drawn.one (j := 4) (by kernel_rfl) rfl (fun K hK => ?_)
  go_simp
  refine (refAdd23 _ _ _ _ y1 y2 _ m1 m2 HC1.out.1.1 HC2.out.1.1 (by have := Y1.out; omega) (by have := Y2.out; omega)).mono ?_
  rintro e w5 ⟨y5, p5, g5, rfl, O5, C5, V5, h5⟩
  refine hK _ _ (HI.keep h5) ?_
  clear hK K
  replace HI := HI.keep h5
  replace HF := HF.keep h5
  obtain ⟨x9, x8, he, _, _, m5⟩ := O5.lie
  simp only [Value.slice.injEq, true_and] at he
  obtain ⟨rfl, rfl⟩ := he
  have hlen5 : y5.length ≤ 10000 := by have v1 := (Nt.can_len HC1.out.1 8800).2 Y1.out; have v2 := (Nt.can_len HC2.out.1 8800).2 Y2.out; exact Nat.le_trans ((Nt.can_len C5 8801).1 (by rw [V5]; exact sum_lt88 v1 v2)) (by omega)
  clear O5 h5
  refine Drawn.one (j := 6) (by kernel_rfl) rfl (fun K hK => ?_)
  go_simp
  refine (formX n _ _ y5 e1 _ m5 C5 hlen5 (by omega) (by omega)).mono ?_
  rintro e w6 ⟨n6, z6, x6, a6, c6, rfl, F6, l6, h6⟩
  refine hK _ _ (HI.keep h6) ?_
  clear hK K
  replace HI := HI.keep h6
  replace HF := HF.keep h6
  have H6 := Hide.mk (And.intro F6 l6)
  rw [V5, HC1.out.2, HC2.out.2, sv_add] at H6
  clear F6 l6 h6 V5 C5 hlen5 m5 m1 m2
  obtain ⟨⟨f0, f1, f2⟩, r0, r1, r2⟩ := cells3 HF (w.heap.size + 1 + 1) _ _ _ _ (.head _)
  have HF2 := HF.fill3 (by omega) (by simp; omega) (.bool n6) (.slice a6 z6.length c6) (.int .i64 x6)
  refine Drawn.one (j := 7) (by kernel_rfl) rfl (fun K hK => ?_)
  go_simp
  replace HI := HF2.sub (L' := [(w.heap.size + 1, DO n a2 z2.length c2 e2), (w.heap.size, DO n a1 z1.length c1 e1)]) (by simp)
  refine hK _ _ HI ?_
  clear hK K f0 f1 f2 r0 r1 r2
  refine Drawn.done (by kernel_rfl) ?_
  try go_simp
  go_wp2
  refine bodyPost_ret (results_D1 rfl _ _ (w.heap.size + 1 + 1) _ rfl ⟨HF2.head, rfl⟩) rfl ?_
  have L := Live.set3 (g := w.heap.size + 1 + 1) ⟨HF.head, rfl⟩ (.bool n6) (.slice a6 z6.length c6) (.int .i64 x6) (Live.one H6.out.2)
  exact ⟨n6, z6, x6, a6, c6, rfl, H6.out.1, L.all (a6, z6) (.head _), HF2.bel⟩
set_option maxHeartbeats 2000000 in
theorem addX_ge_ge (n : Bool) (a1 a2 : Option Addr) (c1 c2 : Nat) (z1 z2 : List Int) (e1 e2 : Int) (w : World) (l1 : Lie w a1 z1) (l2 : Lie w a2 z2) (q1 : Nt.Can z1) (q2 : Nt.Can z2) (hl1 : z1.length ≤ 4100) (hl2 : z2.length ≤ 4100) (hz1 : 0 < z1.length) (hz2 : 0 < z2.length) (b1 : -20000000 ≤ e1) (b2 : e1 ≤ 20000000) (b3 : -20000000 ≤ e2) (b4 : e2 ≤ 20000000) (k1 k2 : Nat) (hk1 : k1 ≤ 150000) (hk2 : k2 ≤ 150000) (ho : e1 ≤ e2) (hh1 : e1 - e1 = k1) (hh2 : e2 - e1 = k2) (hv : Nt.val z2 * 2 ^ k2 ≤ Nt.val z1 * 2 ^ k1) :
    Calls Tryd.prog 42 #[dV n a1 z1.length c1 e1, dV (!n) a2 z2.length c2 e2] w fun e w' => RF w w' (sv n (Nt.val z1 * 2 ^ k1) + sv (!n) (Nt.val z2 * 2 ^ k2)) e1 e := by
  have B1 := (((Bx.nil w).push (DO n a1 z1.length c1 e1)).push (DO (!n) a2 z2.length c2 e2)).push (DO false none 0 0 0)
  have d1 : ((z1.length : Int) == 0) = false := beq_eq_false_iff_ne.2 (by omega)
  have d2 : ((z2.length : Int) == 0) = false := beq_eq_false_iff_ne.2 (by omega)
  have d3 : (n == (!n)) = false := by cases n <;> rfl
  go_enter Tryd.func42, Tryd.ntmps42
  go_wp2_with fail
  rw [show ((w.alloc (DO n a1 z1.length c1 e1)).alloc (DO (!n) a2 z2.length c2 e2)).heap.size = w.heap.size + 1 + 1 by simp, show (w.alloc (DO n a1 z1.length c1 e1)).heap.size = w.heap.size + 1 by simp] at B1
  generalize hw1 : ((w.alloc (DO n a1 z1.length c1 e1)).alloc (DO (!n) a2 z2.length c2 e2)).alloc (DO false none 0 0 0) = w1 at *
  clear hw1
  refine (refUpA a1 c1 z1 _ _ k1 (by omega) (by omega) (l1.below B1.bel (Nat.le_refl _)) q1.1 (by omega)).mono ?_
  rintro e w2 ⟨y1, p1, g1, rfl, O1, C1, V1, h2⟩
  have B2 := B1.keep h2
  obtain ⟨x9, x8, he, _, _, m1⟩ := O1.lie
  simp only [Value.slice.injEq, true_and] at he
  obtain ⟨rfl, rfl⟩ := he
  obtain ⟨⟨s0, s1, s2⟩, _⟩ := cells3 B2 (w.heap.size + 1) _ _ _ _ (.tail _ (.head _))
  obtain ⟨⟨r0, r1, r2⟩, _⟩ := cells3 B2 w.heap.size _ _ _ _ (.tail _ (.tail _ (.head _)))
  have Y1 := Hide.mk (len_up q1 hl1 hk1 C1 V1)
  have HC1 := Hide.mk (And.intro C1 V1)
  clear O1 h2 B1 C1 V1
  go_wp2_with fail
  refine (refUpA a2 c2 z2 _ _ k2 (by omega) (by omega) (l2.below B2.bel (Nat.le_refl _)) q2.1 (by omega)).mono ?_
  rintro e w3 ⟨y2, p2, g2, rfl, O2, C2, V2, h3⟩
  have HF := B2.keep h3
  replace m1 := m1.below h3 (Nat.le_refl _)
  obtain ⟨x9, x8, he, _, _, m2⟩ := O2.lie
  simp only [Value.slice.injEq, true_and] at he
  obtain ⟨rfl, rfl⟩ := he
  have Y2 := Hide.mk (len_up q2 hl2 hk2 C2 V2)
  have HC2 := Hide.mk (And.intro C2 V2)
  clear O2 h3 B2 C2 V2 s0 s1 s2 r0 r1 r2
  obtain ⟨⟨s0, s1, s2⟩, _⟩ := cells3 HF (w.heap.size + 1) _ _ _ _ (.tail _ (.head _))
  obtain ⟨⟨r0, r1, r2⟩, _⟩ := cells3 HF w.heap.size _ _ _ _ (.tail _ (.tail _ (.head _)))
  go_wp2_with fail
  have hsg := sgn_ge (x := Nt.val y1) (y := Nt.val y2) (by rw [HC1.out.2, HC2.out.2]; exact hv)
  refine (refCmp22 _ _ _ _ y1 y2 _ m1 m2 HC1.out.1 HC2.out.1 (by have := Y1.out; unfold maxLen; omega)).mono ?_
  rintro e w4 ⟨rfl, h4⟩
  replace HF := HF.keep h4
  replace m1 := m1.below h4 (Nat.le_refl _)
  replace m2 := m2.below h4 (Nat.le_refl _)
  clear h4 s0 s1 s2 r0 r1 r2
  generalize sgn (Nt.val y1) (Nt.val y2) = sg0 at *
  go_wp2_with fail
  replace HF := HF.drew
  replace m1 := m1.below (Below.refl _ _).drew (Nat.le_refl _)
  replace m2 := m2.below (Below.refl _ _).drew (Nat.le_refl _)
  have HI := HF.sub (L' := [(w.heap.size + 1, DO (!n) a2 z2.length c2 e2), (w.heap.size, DO n a1 z1.length c1 e1)]) (by simp)
  have sh := fun W (hW : Bx w [(w.heap.size + 1, DO (!n) a2 z2.length c2 e2), (w.heap.size, DO n a1 z1.length c1 e1)] W) => (cells3 hW w.heap.size _ _ _ _ (.tail _ (.head _))).1
  refine Drawn.enter (Bx w [(w.heap.size + 1, DO (!n) a2 z2.length c2 e2), (w.heap.size, DO n a1 z1.length c1 e1)]) (by kernel_rfl) ?_
  refine Drawn.take (i := 0) (v := ?v136) rfl (by kernel_rfl) (by kernel_rfl) (by kernel_rfl) (fun _ _ _ h => h) (by kernel_rfl) (fun W hW => ?_) HI ?_
  rotate_left
  · have ⟨q0, q3, q4⟩ := sh W hW
    go_simp <;> exact rfl
  refine Drawn.take (i := 1) (v := ?v137) rfl (by kernel_rfl) (by kernel_rfl) (by kernel_rfl) (fun _ _ _ h => h) (by kernel_rfl) (fun W hW => ?_) HI ?_
  rotate_left
  · have ⟨q0, q3, q4⟩ := sh W hW
    go_simp <;> exact rfl
  refine Drawn.take (i := 2) (v := ?v138) rfl (by kernel_rfl) (by kernel_rfl) (by kernel_rfl) (fun _ _ _ h => h) (by kernel_rfl) (fun W hW => ?_) HI ?_
  rotate_left
  · have ⟨q0, q3, q4⟩ := sh W hW
    go_simp <;> exact rfl
  refine Drawn.take (i := 3) (v := ?v139) rfl (by kernel_rfl) (by kernel_rfl) (by kernel_rfl) (fun _ _ _ h => h) (by kernel_rfl) (fun W hW => ?_) HI ?_
  rotate_left
  · have ⟨q0, q3, q4⟩ := sh W hW
    go_simp <;> exact rfl
  refine Drawn.take (i := 5) (v := ?v140) rfl (by kernel_rfl) (by kernel_rfl) (by kernel_rfl) (fun _ _ _ h => h) (by kernel_rfl) (fun W hW => ?_) HI ?_
  rotate_left
  · have ⟨q0, q3, q4⟩ := sh W hW
    go_simp <;> exact rfl
  refine Drawn.one (j := 4) (by kernel_rfl) rfl (fun K hK => ?_)
  go_simp
  refine (refSub24 _ _ _ _ y1 y2 _ m1 m2 HC1.out.1.1 HC2.out.1.1 (by have := Y1.out; omega) (can_len_le HC2.out.1 HC1.out.1 (by rw [HC1.out.2, HC2.out.2]; exact hv)) (by rw [HC1.out.2, HC2.out.2]; exact hv)).mono ?_
  rintro e w5 ⟨y5, p5, g5, rfl, O5, C5, V5, h5⟩
  refine hK _ _ (HI.keep h5) ?_
  clear hK K
  replace HI := HI.keep h5
  replace HF := HF.keep h5
  obtain ⟨x9, x8, he, _, _, m5⟩ := O5.lie
  simp only [Value.slice.injEq, true_and] at he
  obtain ⟨rfl, rfl⟩ := he
  have hlen5 : y5.length ≤ 10000 := by exact Nat.le_trans (can_len_le C5 HC1.out.1 (by rw [V5]; have := (Nt.val_bd HC2.out.1.1).1; omega)) (Nat.le_trans Y1.out (by omega))
  clear O5 h5
  refine Drawn.one (j := 6) (by kernel_rfl) rfl (fun K hK => ?_)
  go_simp
  refine (formX n _ _ y5 e1 _ m5 C5 hlen5 (by omega) (by omega)).mono ?_
  rintro e w6 ⟨n6, z6, x6, a6, c6, rfl, F6, l6, h6⟩
  refine hK _ _ (HI.keep h6) ?_
  clear hK K
  replace HI := HI.keep h6
  replace HF := HF.keep h6
  have H6 := Hide.mk (And.intro F6 l6)
  rw [V5, HC1.out.2, HC2.out.2, sv_sub] at H6
  clear F6 l6 h6 V5 C5 hlen5 m5 m1 m2
  obtain ⟨⟨f0, f1, f2⟩, r0, r1, r2⟩ := cells3 HF (w.heap.size + 1 + 1) _ _ _ _ (.head _)
  have HF2 := HF.fill3 (by omega) (by simp; omega) (.bool n6) (.slice a6 z6.length c6) (.int .i64 x6)
  refine Drawn.one (j := 7) (by kernel_rfl) rfl (fun K hK => ?_)
  go_simp
  replace HI := HF2.sub (L' := [(w.heap.size + 1, DO (!n) a2 z2.length c2 e2), (w.heap.size, DO n a1 z1.length c1 e1)]) (by simp)
  refine hK _ _ HI ?_
  clear hK K f0 f1 f2 r0 r1 r2
  refine Drawn.done (by kernel_rfl) ?_
  try go_simp
  go_wp2
  refine bodyPost_ret (results_D1 rfl _ _ (w.heap.size + 1 + 1) _ rfl ⟨HF2.head, rfl⟩) rfl ?_
  have L := Live.set3 (g := w.heap.size + 1 + 1) ⟨HF.head, rfl⟩ (.bool n6) (.slice a6 z6.length c6) (.int .i64 x6) (Live.one H6.out.2)
  exact ⟨n6, z6, x6, a6, c6, rfl, H6.out.1, L.all (a6, z6) (.head _), HF2.bel⟩
set_option maxHeartbeats 2000000 in
theorem addX_ge_lt (n : Bool) (a1 a2 : Option Addr) (c1 c2 : Nat) (z1 z2 : List Int) (e1 e2 : Int) (w : World) (l1 : Lie w a1 z1) (l2 : Lie w a2 z2) (q1 : Nt.Can z1) (q2 : Nt.Can z2) (hl1 : z1.length ≤ 4100) (hl2 : z2.length ≤ 4100) (hz1 : 0 < z1.length) (hz2 : 0 < z2.length) (b1 : -20000000 ≤ e1) (b2 : e1 ≤ 20000000) (b3 : -20000000 ≤ e2) (b4 : e2 ≤ 20000000) (k1 k2 : Nat) (hk1 : k1 ≤ 150000) (hk2 : k2 ≤ 150000) (ho : e1 ≤ e2) (hh1 : e1 - e1 = k1) (hh2 : e2 - e1 = k2) (hv : Nt.val z1 * 2 ^ k1 < Nt.val z2 * 2 ^ k2) :
    Calls Tryd.prog 42 #[dV n a1 z1.length c1 e1, dV (!n) a2 z2.length c2 e2] w fun e w' => RF w w' (sv n (Nt.val z1 * 2 ^ k1) + sv (!n) (Nt.val z2 * 2 ^ k2)) e1 e := by
  have B1 := (((Bx.nil w).push (DO n a1 z1.length c1 e1)).push (DO (!n) a2 z2.length c2 e2)).push (DO false none 0 0 0)
  have d1 : ((z1.length : Int) == 0) = false := beq_eq_false_iff_ne.2 (by omega)
  have d2 : ((z2.length : Int) == 0) = false := beq_eq_false_iff_ne.2 (by omega)
  have d3 : (n == (!n)) = false := by cases n <;> rfl
  go_enter Tryd.func42, Tryd.ntmps42
  go_wp2_with fail
  rw [show ((w.alloc (DO n a1 z1.length c1 e1)).alloc (DO (!n) a2 z2.length c2 e2)).heap.size = w.heap.size + 1 + 1 by simp, show (w.alloc (DO n a1 z1.length c1 e1)).heap.size = w.heap.size + 1 by simp] at B1
  generalize hw1 : ((w.alloc (DO n a1 z1.length c1 e1)).alloc (DO (!n) a2 z2.length c2 e2)).alloc (DO false none 0 0 0) = w1 at *
  clear hw1
  refine (refUpA a1 c1 z1 _ _ k1 (by omega) (by omega) (l1.below B1.bel (Nat.le_refl _)) q1.1 (by omega)).mono ?_
  rintro e w2 ⟨y1, p1, g1, rfl, O1, C1, V1, h2⟩
  have B2 := B1.keep h2
  obtain ⟨x9, x8, he, _, _, m1⟩ := O1.lie
  simp only [Value.slice.injEq, true_and] at he
  obtain ⟨rfl, rfl⟩ := he
  obtain ⟨⟨s0, s1, s2⟩, _⟩ := cells3 B2 (w.heap.size + 1) _ _ _ _ (.tail _ (.head _))
  obtain ⟨⟨r0, r1, r2⟩, _⟩ := cells3 B2 w.heap.size _ _ _ _ (.tail _ (.tail _ (.head _)))
  have Y1 := Hide.mk (len_up q1 hl1 hk1 C1 V1)
  have HC1 := Hide.mk (And.intro C1 V1)
  clear O1 h2 B1 C1 V1
  go_wp2_with fail
  refine (refUpA a2 c2 z2 _ _ k2 (by omega) (by omega) (l2.below B2.bel (Nat.le_refl _)) q2.1 (by omega)).mono ?_
  rintro e w3 ⟨y2, p2, g2, rfl, O2, C2, V2, h3⟩
  have HF := B2.keep h3
  replace m1 := m1.below h3 (Nat.le_refl _)
  obtain ⟨x9, x8, he, _, _, m2⟩ := O2.lie
  simp only [Value.slice.injEq, true_and] at he
  obtain ⟨rfl, rfl⟩ := he
  have Y2 := Hide.mk (len_up q2 hl2 hk2 C2 V2)
  have HC2 := Hide.mk (And.intro C2 V2)
  clear O2 h3 B2 C2 V2 s0 s1 s2 r0 r1 r2
  obtain ⟨⟨s0, s1, s2⟩, _⟩ := cells3 HF (w.heap.size + 1) _ _ _ _ (.tail _ (.head _))
  obtain ⟨⟨r0, r1, r2⟩, _⟩ := cells3 HF w.heap.size _ _ _ _ (.tail _ (.tail _ (.head _)))
  go_wp2_with fail
  have hsg := sgn_less (x := Nt.val y1) (y := Nt.val y2) (by rw [HC1.out.2, HC2.out.2]; exact hv)
  refine (refCmp22 _ _ _ _ y1 y2 _ m1 m2 HC1.out.1 HC2.out.1 (by have := Y1.out; unfold maxLen; omega)).mono ?_
  rintro e w4 ⟨rfl, h4⟩
  replace HF := HF.keep h4
  replace m1 := m1.below h4 (Nat.le_refl _)
  replace m2 := m2.below h4 (Nat.le_refl _)
  clear h4 s0 s1 s2 r0 r1 r2
  generalize sgn (Nt.val y1) (Nt.val y2) = sg0 at *
  go_wp2_with fail
  replace HF := HF.drew
  replace m1 := m1.below (Below.refl _ _).drew (Nat.le_refl _)
  replace m2 := m2.below (Below.refl _ _).drew (Nat.le_refl _)
  have HI := HF.sub (L' := [(w.heap.size + 1, DO (!n) a2 z2.length c2 e2), (w.heap.size, DO n a1 z1.length c1 e1)]) (by simp)
  have sh := fun W (hW : Bx w [(w.heap.size + 1, DO (!n) a2 z2.length c2 e2), (w.heap.size, DO n a1 z1.length c1 e1)] W) => (cells3 hW (w.heap.size + 1) _ _ _ _ (.head _)).1
  refine Drawn.enter (Bx w [(w.heap.size + 1, DO (!n) a2 z2.length c2 e2), (w.heap.size, DO n a1 z1.length c1 e1)]) (by kernel_rfl) ?_
  refine Drawn.take (i := 0) (v := ?v141) rfl (by kernel_rfl) (by kernel_rfl) (by kernel_rfl) (fun _ _ _ h => h) (by kernel_rfl) (fun W hW => ?_) HI ?_
  rotate_left
  · have ⟨q0, q3, q4⟩ := sh W hW
    go_simp <;> exact rfl
  refine Drawn.take (i := 1) (v := ?v142) rfl (by kernel_rfl) (by kernel_rfl) (by kernel_rfl) (fun _ _ _ h => h) (by kernel_rfl) (fun W hW => ?_) HI ?_
  rotate_left
  · have ⟨q0, q3, q4⟩ := sh W hW
    go_simp <;> exact rfl
  refine Drawn.take (i := 2) (v := ?v143) rfl (by kernel_rfl) (by kernel_rfl) (by kernel_rfl) (fun _ _ _ h => h) (by kernel_rfl) (fun W hW => ?_) HI ?_
  rotate_left
  · have ⟨q0, q3, q4⟩ := sh W hW
    go_simp <;> exact rfl
  refine Drawn.take (i := 3) (v := ?v144) rfl (by kernel_rfl) (by kernel_rfl) (by kernel_rfl) (fun _ _ _ h => h) (by kernel_rfl) (fun W hW => ?_) HI ?_
  rotate_left
  · have ⟨q0, q3, q4⟩ := sh W hW
    go_simp <;> exact rfl
  refine Drawn.take (i := 5) (v := ?v145) rfl (by kernel_rfl) (by kernel_rfl) (by kernel_rfl) (fun _ _ _ h => h) (by kernel_rfl) (fun W hW => ?_) HI ?_
  rotate_left
  · have ⟨q0, q3, q4⟩ := sh W hW
    go_simp <;> exact rfl
  refine Drawn.one (j := 4) (by kernel_rfl) rfl (fun K hK => ?_)
  go_simp
  refine (refSub24 _ _ _ _ y2 y1 _ m2 m1 HC2.out.1.1 HC1.out.1.1 (by have := Y2.out; omega) (can_len_le HC1.out.1 HC2.out.1 (by rw [HC1.out.2, HC2.out.2]; exact Int.le_of_lt hv)) (by rw [HC1.out.2, HC2.out.2]; exact Int.le_of_lt hv)).mono ?_
  rintro e w5 ⟨y5, p5, g5, rfl, O5, C5, V5, h5⟩
  refine hK _ _ (HI.keep h5) ?_
  clear hK K
  replace HI := HI.keep h5
  replace HF := HF.keep h5
  obtain ⟨x9, x8, he, _, _, m5⟩ := O5.lie
  simp only [Value.slice.injEq, true_and] at he
  obtain ⟨rfl, rfl⟩ := he
  have hlen5 : y5.length ≤ 10000 := by exact Nat.le_trans (can_len_le C5 HC2.out.1 (by rw [V5]; have := (Nt.val_bd HC1.out.1.1).1; omega)) (Nat.le_trans Y2.out (by omega))
  clear O5 h5
  refine Drawn.one (j := 6) (by kernel_rfl) rfl (fun K hK => ?_)
  go_simp
  refine (formX (!n) _ _ y5 e1 _ m5 C5 hlen5 (by omega) (by omega)).mono ?_
  rintro e w6 ⟨n6, z6, x6, a6, c6, rfl, F6, l6, h6⟩
  refine hK _ _ (HI.keep h6) ?_
  clear hK K
  replace HI := HI.keep h6
  replace HF := HF.keep h6
  have H6 := Hide.mk (And.intro F6 l6)
  rw [V5, HC1.out.2, HC2.out.2, sv_sub2] at H6
  clear F6 l6 h6 V5 C5 hlen5 m5 m1 m2
  obtain ⟨⟨f0, f1, f2⟩, r0, r1, r2⟩ := cells3 HF (w.heap.size + 1 + 1) _ _ _ _ (.head _)
  have HF2 := HF.fill3 (by omega) (by simp; omega) (.bool n6) (.slice a6 z6.length c6) (.int .i64 x6)
  refine Drawn.one (j := 7) (by kernel_rfl) rfl (fun K hK => ?_)
  go_simp
  replace HI := HF2.sub (L' := [(w.heap.size + 1, DO (!n) a2 z2.length c2 e2), (w.heap.size, DO n a1 z1.length c1 e1)]) (by simp)
  refine hK _ _ HI ?_
  clear hK K f0 f1 f2 r0 r1 r2
  refine Drawn.done (by kernel_rfl) ?_
  try go_simp
  go_wp2
  refine bodyPost_ret (results_D1 rfl _ _ (w.heap.size + 1 + 1) _ rfl ⟨HF2.head, rfl⟩) rfl ?_
  have L := Live.set3 (g := w.heap.size + 1 + 1) ⟨HF.head, rfl⟩ (.bool n6) (.slice a6 z6.length c6) (.int .i64 x6) (Live.one H6.out.2)
  exact ⟨n6, z6, x6, a6, c6, rfl, H6.out.1, L.all (a6, z6) (.head _), HF2.bel⟩
/-- The exact sum of two numbers that are not nought, in its one form. -/
theorem addX (n1 n2 : Bool) (a1 a2 : Option Addr) (c1 c2 : Nat) (z1 z2 : List Int) (e1 e2 : Int) (w : World) (l1 : Lie w a1 z1) (l2 : Lie w a2 z2) (q1 : Nt.Can z1) (q2 : Nt.Can z2) (hl1 : z1.length ≤ 4100) (hl2 : z2.length ≤ 4100) (hz1 : 0 < z1.length) (hz2 : 0 < z2.length) (b1 : -20000000 ≤ e1) (b2 : e1 ≤ 20000000) (b3 : -20000000 ≤ e2) (b4 : e2 ≤ 20000000) (k1 k2 : Nat) (hk1 : k1 ≤ 150000) (hk2 : k2 ≤ 150000) (hh1 : e1 - min e1 e2 = k1) (hh2 : e2 - min e1 e2 = k2) :
    Calls Tryd.prog 42 #[dV n1 a1 z1.length c1 e1, dV n2 a2 z2.length c2 e2] w fun e w' => RF w w' (sv n1 (Nt.val z1 * 2 ^ k1) + sv n2 (Nt.val z2 * 2 ^ k2)) (min e1 e2) e := by
  have key : n1 = n2 ∨ n2 = !n1 := by cases n1 <;> cases n2 <;> simp
  by_cases ho : e2 < e1
  · rw [show min e1 e2 = e2 by omega] at *
    rcases key with rfl | rfl
    · exact addX_lt_same n1 a1 a2 c1 c2 z1 z2 e1 e2 w l1 l2 q1 q2 hl1 hl2 hz1 hz2 b1 b2 b3 b4 k1 k2 hk1 hk2 ho hh1 hh2
    · by_cases hv : Nt.val z2 * 2 ^ k2 ≤ Nt.val z1 * 2 ^ k1
      · exact addX_lt_ge n1 a1 a2 c1 c2 z1 z2 e1 e2 w l1 l2 q1 q2 hl1 hl2 hz1 hz2 b1 b2 b3 b4 k1 k2 hk1 hk2 ho hh1 hh2 hv
      · exact addX_lt_lt n1 a1 a2 c1 c2 z1 z2 e1 e2 w l1 l2 q1 q2 hl1 hl2 hz1 hz2 b1 b2 b3 b4 k1 k2 hk1 hk2 ho hh1 hh2 (by omega)
  · rw [show min e1 e2 = e1 by omega] at *
    rcases key with rfl | rfl
    · exact addX_ge_same n1 a1 a2 c1 c2 z1 z2 e1 e2 w l1 l2 q1 q2 hl1 hl2 hz1 hz2 b1 b2 b3 b4 k1 k2 hk1 hk2 (by omega) hh1 hh2
    · by_cases hv : Nt.val z2 * 2 ^ k2 ≤ Nt.val z1 * 2 ^ k1
      · exact addX_ge_ge n1 a1 a2 c1 c2 z1 z2 e1 e2 w l1 l2 q1 q2 hl1 hl2 hz1 hz2 b1 b2 b3 b4 k1 k2 hk1 hk2 (by omega) hh1 hh2 hv
      · exact addX_ge_lt n1 a1 a2 c1 c2 z1 z2 e1 e2 w l1 l2 q1 q2 hl1 hl2 hz1 hz2 b1 b2 b3 b4 k1 k2 hk1 hk2 (by omega) hh1 hh2 (by omega)
end Go.Proofs.YtiamdmfhkhlppaaDoor
