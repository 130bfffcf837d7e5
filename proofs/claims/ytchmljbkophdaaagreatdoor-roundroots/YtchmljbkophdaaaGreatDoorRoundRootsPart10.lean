import Derived.Test.YtchmljbkophdaaaGreatDoorRoundRootsPart9
namespace Go.Proofs.YtchmljbkophdaaaGreatDoor
open Go.RowKit Go.Wd Go.Box
set_option linter.unusedVariables false
set_option maxRecDepth 3000
theorem len_up {za zs : List Int} {k : Nat} (qa : Nt.Can za) (hk : 32 * za.length + k ≤ 22000000) (hc : Nt.Can zs) (hv : Nt.val zs = Nt.val za * 2 ^ k) : zs.length ≤ 690000 := by
  have gen : ∀ M : Nat, 32 * za.length + k ≤ 32 * M → zs.length ≤ M := by
    intro M hM
    refine (Nt.can_len hc M).1 ?_
    rw [hv]
    have h1 : Nt.val za < 4294967296 ^ za.length := (Nt.can_len qa za.length).2 (Nat.le_refl _)
    have h0 := (Nt.val_bd qa.1).1
    have hp := p2pos k
    have e0 : (4294967296 : Int) = 2 ^ 32 := rfl
    have h2 : Nt.val za * 2 ^ k < 4294967296 ^ za.length * 2 ^ k := Int.mul_lt_mul_of_pos_right h1 hp
    rw [e0, ← Int.pow_mul, ← Int.pow_add] at h2
    rw [e0, ← Int.pow_mul]
    exact Int.lt_of_lt_of_le h2 (p2mono hM)
  exact gen 690000 (by omega)
theorem sum_lt88 {x y : Int} (h : x < 4294967296 ^ 690000) (k : y < 4294967296 ^ 690000) : x + y < 4294967296 ^ 690001 := by
  rw [Nt.pw_succ]
  have := Nt.pw_pos 690000
  generalize (4294967296 : Int) ^ 690000 = P at *
  omega
theorem refUpA (a : Option Addr) (ca : Nat) (za : List Int) (w : World) (M : Int) (n : Nat) (hM : M = (n : Int)) (hn1 : 32 * za.length + n ≤ 28000000) (ha : Lie w a za) (ra : Nt.Rng za) :
    Calls Tryz.prog 94 #[.slice a za.length ca, .int .i64 M] w fun e w' => Made w w' (Nt.val za * 2 ^ n) e := by
  subst hM
  exact refUp_long a ca za w n hn1 ha ra
theorem sv_add (n : Bool) (x y : Int) : sv n (x + y) = sv n x + sv n y := by
  cases n
  · rfl
  · simp only [sv_t]; omega
theorem sv_sub (n : Bool) (x y : Int) : sv n (x - y) = sv n x + sv (!n) y := by
  cases n
  · rw [show (!false) = true from rfl]; simp only [sv_t, sv_f]; omega
  · rw [show (!true) = false from rfl]; simp only [sv_t, sv_f]; omega
theorem sv_sub2 (n : Bool) (x y : Int) : sv (!n) (y - x) = sv n x + sv (!n) y := by
  cases n
  · rw [show (!false) = true from rfl]; simp only [sv_t, sv_f]; omega
  · rw [show (!true) = false from rfl]; simp only [sv_t, sv_f]; omega
theorem can_len_le {x y : List Int} (hx : Nt.Can x) (hy : Nt.Can y) (h : Nt.val x ≤ Nt.val y) : x.length ≤ y.length :=
  (Nt.can_len hx y.length).1 (Int.lt_of_le_of_lt h ((Nt.can_len hy y.length).2 (Nat.le_refl _)))
theorem sgn_ge {x y : Int} (h : y ≤ x) : 0 ≤ sgn x y := by
  unfold sgn
  split
  · omega
  · split <;> omega
theorem sgn_less {x y : Int} (h : x < y) : sgn x y < 0 := by
  unfold sgn
  rw [if_pos h]
  decide
set_option maxHeartbeats 2000000 in
theorem addX_lt_same (n : Bool) (a1 a2 : Option Addr) (c1 c2 : Nat) (z1 z2 : List Int) (e1 e2 : Int) (w : World) (l1 : Lie w a1 z1) (l2 : Lie w a2 z2) (q1 : Nt.Can z1) (q2 : Nt.Can z2) (hz1 : 0 < z1.length) (hz2 : 0 < z2.length) (b1 : -20000000 ≤ e1) (b2 : e1 ≤ 20000000) (b3 : -20000000 ≤ e2) (b4 : e2 ≤ 20000000) (k1 k2 : Nat) (hk1 : 32 * z1.length + k1 ≤ 22000000) (hk2 : 32 * z2.length + k2 ≤ 22000000) (ho : e2 < e1) (hh1 : e1 - e2 = k1) (hh2 : e2 - e2 = k2)  :
    Calls Tryz.prog 69 #[dV n a1 z1.length c1 e1, dV n a2 z2.length c2 e2] w fun e w' => RF w w' (sv n (Nt.val z1 * 2 ^ k1) + sv n (Nt.val z2 * 2 ^ k2)) e2 e := by
  have B1 := (((Bx.nil w).push (DO n a1 z1.length c1 e1)).push (DO n a2 z2.length c2 e2)).push (DO false none 0 0 0)
  have d1 : ((z1.length : Int) == 0) = false := beq_eq_false_iff_ne.2 (by omega)
  have d2 : ((z2.length : Int) == 0) = false := beq_eq_false_iff_ne.2 (by omega)
  have d3 : (n == n) = true := by cases n <;> rfl
  go_enter Tryz.func69, Tryz.ntmps69
  go_wp2_with fail
  rw [show ((w.alloc (DO n a1 z1.length c1 e1)).alloc (DO n a2 z2.length c2 e2)).heap.size = w.heap.size + 1 + 1 by simp, show (w.alloc (DO n a1 z1.length c1 e1)).heap.size = w.heap.size + 1 by simp] at B1
  generalize hw1 : ((w.alloc (DO n a1 z1.length c1 e1)).alloc (DO n a2 z2.length c2 e2)).alloc (DO false none 0 0 0) = w1 at *
  clear hw1
  refine (refUpA a1 c1 z1 _ _ k1 (by omega) (by omega) (l1.below B1.bel (Nat.le_refl _)) q1.1).mono ?_
  rintro e w2 ⟨y1, p1, g1, rfl, O1, C1, V1, h2⟩
  have B2 := B1.keep h2
  obtain ⟨x9, x8, he, _, _, m1⟩ := O1.lie
  simp only [Value.slice.injEq, true_and] at he
  obtain ⟨rfl, rfl⟩ := he
  obtain ⟨⟨s0, s1, s2⟩, _⟩ := cells3 B2 (w.heap.size + 1) _ _ _ _ (.tail _ (.head _))
  obtain ⟨⟨r0, r1, r2⟩, _⟩ := cells3 B2 w.heap.size _ _ _ _ (.tail _ (.tail _ (.head _)))
  have Y1 := Hide.mk (len_up q1 hk1 C1 V1)
  have HC1 := Hide.mk (And.intro C1 V1)
  clear O1 h2 B1 C1 V1
  go_wp2_with fail
  refine (refUpA a2 c2 z2 _ _ k2 (by omega) (by omega) (l2.below B2.bel (Nat.le_refl _)) q2.1).mono ?_
  rintro e w3 ⟨y2, p2, g2, rfl, O2, C2, V2, h3⟩
  have HF := B2.keep h3
  replace m1 := m1.below h3 (Nat.le_refl _)
  obtain ⟨x9, x8, he, _, _, m2⟩ := O2.lie
  simp only [Value.slice.injEq, true_and] at he
  obtain ⟨rfl, rfl⟩ := he
  have Y2 := Hide.mk (len_up q2 hk2 C2 V2)
  have HC2 := Hide.mk (And.intro C2 V2)
  clear O2 h3 B2 C2 V2 s0 s1 s2 r0 r1 r2
  obtain ⟨⟨s0, s1, s2⟩, _⟩ := cells3 HF (w.heap.size + 1) _ _ _ _ (.tail _ (.head _))
  obtain ⟨⟨r0, r1, r2⟩, _⟩ := cells3 HF w.heap.size _ _ _ _ (.tail _ (.tail _ (.head _)))
  go_wp2_with fail
  replace HF := HF.drew
  replace m1 := m1.below (Below.refl _ _).drew (Nat.le_refl _)
  replace m2 := m2.below (Below.refl _ _).drew (Nat.le_refl _)
  have HI := HF.sub (L' := [(w.heap.size + 1, DO n a2 z2.length c2 e2), (w.heap.size, DO n a1 z1.length c1 e1)]) (by simp)
  have sh := fun W (hW : Bx w [(w.heap.size + 1, DO n a2 z2.length c2 e2), (w.heap.size, DO n a1 z1.length c1 e1)] W) => (cells3 hW w.heap.size _ _ _ _ (.tail _ (.head _))).1
  refine Drawn.enter (Bx w [(w.heap.size + 1, DO n a2 z2.length c2 e2), (w.heap.size, DO n a1 z1.length c1 e1)]) (by kernel_rfl) ?_
  refine Drawn.take (i := 0) (v := ?v152) rfl (by kernel_rfl) (by kernel_rfl) (by kernel_rfl) (fun _ _ _ h => h) (by kernel_rfl) (fun W hW => ?_) HI ?_
  rotate_left
  · have ⟨q0, q3, q4⟩ := sh W hW
    go_simp <;> exact rfl
  refine Drawn.take (i := 1) (v := ?v153) rfl (by kernel_rfl) (by kernel_rfl) (by kernel_rfl) (fun _ _ _ h => h) (by kernel_rfl) (fun W hW => ?_) HI ?_
  rotate_left
  · have ⟨q0, q3, q4⟩ := sh W hW
    go_simp <;> exact rfl
  refine Drawn.take (i := 2) (v := ?v154) rfl (by kernel_rfl) (by kernel_rfl) (by kernel_rfl) (fun _ _ _ h => h) (by kernel_rfl) (fun W hW => ?_) HI ?_
  rotate_left
  · have ⟨q0, q3, q4⟩ := sh W hW
    go_simp <;> exact rfl
  refine Drawn.take (i := 3) (v := ?v155) rfl (by kernel_rfl) (by kernel_rfl) (by kernel_rfl) (fun _ _ _ h => h) (by kernel_rfl) (fun W hW => ?_) HI ?_
  rotate_left
  · have ⟨q0, q3, q4⟩ := sh W hW
    go_simp <;> exact rfl
  refine Drawn.take (i := 5) (v := ?v156) rfl (by kernel_rfl) (by kernel_rfl) (by kernel_rfl) (fun _ _ _ h => h) (by kernel_rfl) (fun W hW => ?_) HI ?_
  rotate_left
  · have ⟨q0, q3, q4⟩ := sh W hW
    go_simp <;> exact rfl
  refine Drawn.one (j := 4) (by kernel_rfl) rfl (fun K hK => ?_)
  go_simp
  refine (refAdd23 _ _ _ _ y1 y2 _ m1 m2 HC1.out.1.1 HC2.out.1.1 (by have := Y1.out; omega) (by have := Y2.out; omega)).mono ?_
  rintro e w5 ⟨y5, p5, g5, rfl, O5, C5, V5, h5⟩
  refine hK _ _ (HI.keep h5) ?_
  clear hK K
  replace HI := HI.keep h5
  replace HF := HF.keep h5
  obtain ⟨x9, x8, he, _, _, m5⟩ := O5.lie
  simp only [Value.slice.injEq, true_and] at he
  obtain ⟨rfl, rfl⟩ := he
  have hlen5 : y5.length ≤ 700000 := by have v1 := (Nt.can_len HC1.out.1 690000).2 Y1.out; have v2 := (Nt.can_len HC2.out.1 690000).2 Y2.out; exact Nat.le_trans ((Nt.can_len C5 690001).1 (by rw [V5]; exact sum_lt88 v1 v2)) (by omega)
  clear O5 h5
  refine Drawn.one (j := 6) (by kernel_rfl) rfl (fun K hK => ?_)
  go_simp
  refine (formXL n _ _ y5 e2 _ m5 C5 hlen5 (by omega) (by omega)).mono ?_
  rintro e w6 ⟨n6, z6, x6, a6, c6, rfl, F6, l6, h6⟩
  refine hK _ _ (HI.keep h6) ?_
  clear hK K
  replace HI := HI.keep h6
  replace HF := HF.keep h6
  have H6 := Hide.mk (And.intro F6 l6)
  rw [V5, HC1.out.2, HC2.out.2, sv_add] at H6
  clear F6 l6 h6 V5 C5 hlen5 m5 m1 m2
  obtain ⟨⟨f0, f1, f2⟩, r0, r1, r2⟩ := cells3 HF (w.heap.size + 1 + 1) _ _ _ _ (.head _)
  have HF2 := HF.fill3 (by omega) (by simp; omega) (.bool n6) (.slice a6 z6.length c6) (.int .i64 x6)
  refine Drawn.one (j := 7) (by kernel_rfl) rfl (fun K hK => ?_)
  go_simp
  replace HI := HF2.sub (L' := [(w.heap.size + 1, DO n a2 z2.length c2 e2), (w.heap.size, DO n a1 z1.length c1 e1)]) (by simp)
  refine hK _ _ HI ?_
  clear hK K f0 f1 f2 r0 r1 r2
  refine Drawn.done (by kernel_rfl) ?_
  try go_simp
  go_wp2
  refine bodyPost_ret (results_D1 rfl _ _ (w.heap.size + 1 + 1) _ rfl ⟨HF2.head, rfl⟩) rfl ?_
  have L := Live.set3 (g := w.heap.size + 1 + 1) ⟨HF.head, rfl⟩ (.bool n6) (.slice a6 z6.length c6) (.int .i64 x6) (Live.one H6.out.2)
  exact ⟨n6, z6, x6, a6, c6, rfl, H6.out.1, L.all (a6, z6) (.head _), HF2.bel⟩
set_option maxHeartbeats 2000000 in
theorem addX_lt_ge (n : Bool) (a1 a2 : Option Addr) (c1 c2 : Nat) (z1 z2 : List Int) (e1 e2 : Int) (w : World) (l1 : Lie w a1 z1) (l2 : Lie w a2 z2) (q1 : Nt.Can z1) (q2 : Nt.Can z2) (hz1 : 0 < z1.length) (hz2 : 0 < z2.length) (b1 : -20000000 ≤ e1) (b2 : e1 ≤ 20000000) (b3 : -20000000 ≤ e2) (b4 : e2 ≤ 20000000) (k1 k2 : Nat) (hk1 : 32 * z1.length + k1 ≤ 22000000) (hk2 : 32 * z2.length + k2 ≤ 22000000) (ho : e2 < e1) (hh1 : e1 - e2 = k1) (hh2 : e2 - e2 = k2) (hv : Nt.val z2 * 2 ^ k2 ≤ Nt.val z1 * 2 ^ k1) :
    Calls Tryz.prog 69 #[dV n a1 z1.length c1 e1, dV (!n) a2 z2.length c2 e2] w fun e w' => RF w w' (sv n (Nt.val z1 * 2 ^ k1) + sv (!n) (Nt.val z2 * 2 ^ k2)) e2 e := by
  have B1 := (((Bx.nil w).push (DO n a1 z1.length c1 e1)).push (DO (!n) a2 z2.length c2 e2)).push (DO false none 0 0 0)
  have d1 : ((z1.length : Int) == 0) = false := beq_eq_false_iff_ne.2 (by omega)
  have d2 : ((z2.length : Int) == 0) = false := beq_eq_false_iff_ne.2 (by omega)
  have d3 : (n == (!n)) = false := by cases n <;> rfl
  go_enter Tryz.func69, Tryz.ntmps69
  go_wp2_with fail
  rw [show ((w.alloc (DO n a1 z1.length c1 e1)).alloc (DO (!n) a2 z2.length c2 e2)).heap.size = w.heap.size + 1 + 1 by simp, show (w.alloc (DO n a1 z1.length c1 e1)).heap.size = w.heap.size + 1 by simp] at B1
  generalize hw1 : ((w.alloc (DO n a1 z1.length c1 e1)).alloc (DO (!n) a2 z2.length c2 e2)).alloc (DO false none 0 0 0) = w1 at *
  clear hw1
  refine (refUpA a1 c1 z1 _ _ k1 (by omega) (by omega) (l1.below B1.bel (Nat.le_refl _)) q1.1).mono ?_
  rintro e w2 ⟨y1, p1, g1, rfl, O1, C1, V1, h2⟩
  have B2 := B1.keep h2
  obtain ⟨x9, x8, he, _, _, m1⟩ := O1.lie
  simp only [Value.slice.injEq, true_and] at he
  obtain ⟨rfl, rfl⟩ := he
  obtain ⟨⟨s0, s1, s2⟩, _⟩ := cells3 B2 (w.heap.size + 1) _ _ _ _ (.tail _ (.head _))
  obtain ⟨⟨r0, r1, r2⟩, _⟩ := cells3 B2 w.heap.size _ _ _ _ (.tail _ (.tail _ (.head _)))
  have Y1 := Hide.mk (len_up q1 hk1 C1 V1)
  have HC1 := Hide.mk (And.intro C1 V1)
  clear O1 h2 B1 C1 V1
  go_wp2_with fail
  refine (refUpA a2 c2 z2 _ _ k2 (by omega) (by omega) (l2.below B2.bel (Nat.le_refl _)) q2.1).mono ?_
  rintro e w3 ⟨y2, p2, g2, rfl, O2, C2, V2, h3⟩
  have HF := B2.keep h3
  replace m1 := m1.below h3 (Nat.le_refl _)
  obtain ⟨x9, x8, he, _, _, m2⟩ := O2.lie
  simp only [Value.slice.injEq, true_and] at he
  obtain ⟨rfl, rfl⟩ := he
  have Y2 := Hide.mk (len_up q2 hk2 C2 V2)
  have HC2 := Hide.mk (And.intro C2 V2)
  clear O2 h3 B2 C2 V2 s0 s1 s2 r0 r1 r2
  obtain ⟨⟨s0, s1, s2⟩, _⟩ := cells3 HF (w.heap.size + 1) _ _ _ _ (.tail _ (.head _))
  obtain ⟨⟨r0, r1, r2⟩, _⟩ := cells3 HF w.heap.size _ _ _ _ (.tail _ (.tail _ (.head _)))
  go_wp2_with fail
  have hsg := sgn_ge (x := Nt.val y1) (y := Nt.val y2) (by rw [HC1.out.2, HC2.out.2]; exact hv)
  refine (refCmp22 _ _ _ _ y1 y2 _ m1 m2 HC1.out.1 HC2.out.1 (by have := Y1.out; unfold maxLen; omega)).mono ?_
  rintro e w4 ⟨rfl, h4⟩
  replace HF := HF.keep h4
  replace m1 := m1.below h4 (Nat.le_refl _)
  replace m2 := m2.below h4 (Nat.le_refl _)
  clear h4 s0 s1 s2 r0 r1 r2
  generalize sgn (Nt.val y1) (Nt.val y2) = sg0 at *
  go_wp2_with fail
  replace HF := HF.drew
  replace m1 := m1.below (Below.refl _ _).drew (Nat.le_refl _)
  replace m2 := m2.below (Below.refl _ _).drew (Nat.le_refl _)
  have HI := HF.sub (L' := [(w.heap.size + 1, DO (!n) a2 z2.length c2 e2), (w.heap.size, DO n a1 z1.length c1 e1)]) (by simp)
  have sh := fun W (hW : Bx w [(w.heap.size + 1, DO (!n) a2 z2.length c2 e2), (w.heap.size, DO n a1 z1.length c1 e1)] W) => (cells3 hW w.heap.size _ _ _ _ (.tail _ (.head _))).1
  refine Drawn.enter (Bx w [(w.heap.size + 1, DO (!n) a2 z2.length c2 e2), (w.heap.size, DO n a1 z1.length c1 e1)]) (by kernel_rfl) ?_
  refine Drawn.take (i := 0) (v := ?v157) rfl (by kernel_rfl) (by kernel_rfl) (by kernel_rfl) (fun _ _ _ h => h) (by kernel_rfl) (fun W hW => ?_) HI ?_
  rotate_left
  · have ⟨q0, q3, q4⟩ := sh W hW
    go_simp <;> exact rfl
  refine Drawn.take (i := 1) (v := ?v158) rfl (by kernel_rfl) (by kernel_rfl) (by kernel_rfl) (fun _ _ _ h => h) (by kernel_rfl) (fun W hW => ?_) HI ?_
  rotate_left
  · have ⟨q0, q3, q4⟩ := sh W hW
    go_simp <;> exact rfl
  refine Drawn.take (i := 2) (v := ?v159) rfl (by kernel_rfl) (by kernel_rfl) (by kernel_rfl) (fun _ _ _ h => h) (by kernel_rfl) (fun W hW => ?_) HI ?_
  rotate_left
  · have ⟨q0, q3, q4⟩ := sh W hW
    go_simp <;> exact rfl
  refine Drawn.take (i := 3) (v := ?v160) rfl (by kernel_rfl) (by kernel_rfl) (by kernel_rfl) (fun _ _ _ h => h) (by kernel_rfl) (fun W hW => ?_) HI ?_
  rotate_left
  · have ⟨q0, q3, q4⟩ := sh W hW
    go_simp <;> exact rfl
  refine Drawn.take (i := 5) (v := ?v161) rfl (by kernel_rfl) (by kernel_rfl) (by kernel_rfl) (fun _ _ _ h => h) (by kernel_rfl) (fun W hW => ?_) HI ?_
  rotate_left
  · have ⟨q0, q3, q4⟩ := sh W hW
    go_simp <;> exact rfl
  refine Drawn.one (j := 4) (by kernel_rfl) rfl (fun K hK => ?_)
  go_simp
  refine (refSub24 _ _ _ _ y1 y2 _ m1 m2 HC1.out.1.1 HC2.out.1.1 (by have := Y1.out; omega) (can_len_le HC2.out.1 HC1.out.1 (by rw [HC1.out.2, HC2.out.2]; exact hv)) (by rw [HC1.out.2, HC2.out.2]; exact hv)).mono ?_
  rintro e w5 ⟨y5, p5, g5, rfl, O5, C5, V5, h5⟩
  refine hK _ _ (HI.keep h5) ?_
  clear hK K
  replace HI := HI.keep h5
  replace HF := HF.keep h5
  obtain ⟨x9, x8, he, _, _, m5⟩ := O5.lie
  simp only [Value.slice.injEq, true_and] at he
  obtain ⟨rfl, rfl⟩ := he
  have hlen5 : y5.length ≤ 700000 := by exact Nat.le_trans (can_len_le C5 HC1.out.1 (by rw [V5]; have := (Nt.val_bd HC2.out.1.1).1; omega)) (Nat.le_trans Y1.out (by omega))
  clear O5 h5
  refine Drawn.one (j := 6) (by kernel_rfl) rfl (fun K hK => ?_)
  go_simp
  refine (formXL n _ _ y5 e2 _ m5 C5 hlen5 (by omega) (by omega)).mono ?_
  rintro e w6 ⟨n6, z6, x6, a6, c6, rfl, F6, l6, h6⟩
  refine hK _ _ (HI.keep h6) ?_
  clear hK K
  replace HI := HI.keep h6
  replace HF := HF.keep h6
  have H6 := Hide.mk (And.intro F6 l6)
  rw [V5, HC1.out.2, HC2.out.2, sv_sub] at H6
  clear F6 l6 h6 V5 C5 hlen5 m5 m1 m2
  obtain ⟨⟨f0, f1, f2⟩, r0, r1, r2⟩ := cells3 HF (w.heap.size + 1 + 1) _ _ _ _ (.head _)
  have HF2 := HF.fill3 (by omega) (by simp; omega) (.bool n6) (.slice a6 z6.length c6) (.int .i64 x6)
  refine Drawn.one (j := 7) (by kernel_rfl) rfl (fun K hK => ?_)
  go_simp
  replace HI := HF2.sub (L' := [(w.heap.size + 1, DO (!n) a2 z2.length c2 e2), (w.heap.size, DO n a1 z1.length c1 e1)]) (by simp)
  refine hK _ _ HI ?_
  clear hK K f0 f1 f2 r0 r1 r2
  refine Drawn.done (by kernel_rfl) ?_
  try go_simp
  go_wp2
  refine bodyPost_ret (results_D1 rfl _ _ (w.heap.size + 1 + 1) _ rfl ⟨HF2.head, rfl⟩) rfl ?_
  have L := Live.set3 (g := w.heap.size + 1 + 1) ⟨HF.head, rfl⟩ (.bool n6) (.slice a6 z6.length c6) (.int .i64 x6) (Live.one H6.out.2)
  exact ⟨n6, z6, x6, a6, c6, rfl, H6.out.1, L.all (a6, z6) (.head _), HF2.bel⟩
set_option maxHeartbeats 2000000 in
theorem addX_lt_lt (n : Bool) (a1 a2 : Option Addr) (c1 c2 : Nat) (z1 z2 : List Int) (e1 e2 : Int) (w : World) (l1 : Lie w a1 z1) (l2 : Lie w a2 z2) (q1 : Nt.Can z1) (q2 : Nt.Can z2) (hz1 : 0 < z1.length) (hz2 : 0 < z2.length) (b1 : -20000000 ≤ e1) (b2 : e1 ≤ 20000000) (b3 : -20000000 ≤ e2) (b4 : e2 ≤ 20000000) (k1 k2 : Nat) (hk1 : 32 * z1.length + k1 ≤ 22000000) (hk2 : 32 * z2.length + k2 ≤ 22000000) (ho : e2 < e1) (hh1 : e1 - e2 = k1) (hh2 : e2 - e2 = k2) (hv : Nt.val z1 * 2 ^ k1 < Nt.val z2 * 2 ^ k2) :
    Calls Tryz.prog 69 #[dV n a1 z1.length c1 e1, dV (!n) a2 z2.length c2 e2] w fun e w' => RF w w' (sv n (Nt.val z1 * 2 ^ k1) + sv (!n) (Nt.val z2 * 2 ^ k2)) e2 e := by
  have B1 := (((Bx.nil w).push (DO n a1 z1.length c1 e1)).push (DO (!n) a2 z2.length c2 e2)).push (DO false none 0 0 0)
  have d1 : ((z1.length : Int) == 0) = false := beq_eq_false_iff_ne.2 (by omega)
  have d2 : ((z2.length : Int) == 0) = false := beq_eq_false_iff_ne.2 (by omega)
  have d3 : (n == (!n)) = false := by cases n <;> rfl
  go_enter Tryz.func69, Tryz.ntmps69
  go_wp2_with fail
  rw [show ((w.alloc (DO n a1 z1.length c1 e1)).alloc (DO (!n) a2 z2.length c2 e2)).heap.size = w.heap.size + 1 + 1 by simp, show (w.alloc (DO n a1 z1.length c1 e1)).heap.size = w.heap.size + 1 by simp] at B1
  generalize hw1 : ((w.alloc (DO n a1 z1.length c1 e1)).alloc (DO (!n) a2 z2.length c2 e2)).alloc (DO false none 0 0 0) = w1 at *
  clear hw1
  refine (refUpA a1 c1 z1 _ _ k1 (by omega) (by omega) (l1.below B1.bel (Nat.le_refl _)) q1.1).mono ?_
  rintro e w2 ⟨y1, p1, g1, rfl, O1, C1, V1, h2⟩
  have B2 := B1.keep h2
  obtain ⟨x9, x8, he, _, _, m1⟩ := O1.lie
  simp only [Value.slice.injEq, true_and] at he
  obtain ⟨rfl, rfl⟩ := he
  obtain ⟨⟨s0, s1, s2⟩, _⟩ := cells3 B2 (w.heap.size + 1) _ _ _ _ (.tail _ (.head _))
  obtain ⟨⟨r0, r1, r2⟩, _⟩ := cells3 B2 w.heap.size _ _ _ _ (.tail _ (.tail _ (.head _)))
  have Y1 := Hide.mk (len_up q1 hk1 C1 V1)
  have HC1 := Hide.mk (And.intro C1 V1)
  clear O1 h2 B1 C1 V1
  go_wp2_with fail
  refine (refUpA a2 c2 z2 _ _ k2 (by omega) (by omega) (l2.below B2.bel (Nat.le_refl _)) q2.1).mono ?_
  rintro e w3 ⟨y2, p2, g2, rfl, O2, C2, V2, h3⟩
  have HF := B2.keep h3
  replace m1 := m1.below h3 (Nat.le_refl _)
  obtain ⟨x9, x8, he, _, _, m2⟩ := O2.lie
  simp only [Value.slice.injEq, true_and] at he
  obtain ⟨rfl, rfl⟩ := he
  have Y2 := Hide.mk (len_up q2 hk2 C2 V2)
  have HC2 := Hide.mk (And.intro C2 V2)
  clear O2 h3 B2 C2 V2 s0 s1 s2 r0 r1 r2
  obtain ⟨⟨s0, s1, s2⟩, _⟩ := cells3 HF (w.heap.size + 1) _ _ _ _ (.tail _ (.head _))
  obtain ⟨⟨r0, r1, r2⟩, _⟩ := cells3 HF w.heap.size _ _ _ _ (.tail _ (.tail _ (.head _)))
  go_wp2_with fail
  have hsg := sgn_less (x := Nt.val y1) (y := Nt.val y2) (by rw [HC1.out.2, HC2.out.2]; exact hv)
  refine (refCmp22 _ _ _ _ y1 y2 _ m1 m2 HC1.out.1 HC2.out.1 (by have := Y1.out; unfold maxLen; omega)).mono ?_
  rintro e w4 ⟨rfl, h4⟩
  replace HF := HF.keep h4
  replace m1 := m1.below h4 (Nat.le_refl _)
  replace m2 := m2.below h4 (Nat.le_refl _)
  clear h4 s0 s1 s2 r0 r1 r2
  generalize sgn (Nt.val y1) (Nt.val y2) = sg0 at *
  go_wp2_with fail
  replace HF := HF.drew
  replace m1 := m1.below (Below.refl _ _).drew (Nat.le_refl _)
  replace m2 := m2.below (Below.refl _ _).drew (Nat.le_refl _)
  have HI := HF.sub (L' := [(w.heap.size + 1, DO (!n) a2 z2.length c2 e2), (w.heap.size, DO n a1 z1.length c1 e1)]) (by simp)
  have sh := fun W (hW : Bx w [(w.heap.size + 1, DO (!n) a2 z2.length c2 e2), (w.heap.size, DO n a1 z1.length c1 e1)] W) => (cells3 hW (w.heap.size + 1) _ _ _ _ (.head _)).1
  refine Drawn.enter (Bx w [(w.heap.size + 1, DO (!n) a2 z2.length c2 e2), (w.heap.size, DO n a1 z1.length c1 e1)]) (by kernel_rfl) ?_
  refine Drawn.take (i := 0) (v := ?v162) rfl (by kernel_rfl) (by kernel_rfl) (by kernel_rfl) (fun _ _ _ h => h) (by kernel_rfl) (fun W hW => ?_) HI ?_
  rotate_left
  · have ⟨q0, q3, q4⟩ := sh W hW
    go_simp <;> exact rfl
  refine Drawn.take (i := 1) (v := ?v163) rfl (by kernel_rfl) (by kernel_rfl) (by kernel_rfl) (fun _ _ _ h => h) (by kernel_rfl) (fun W hW => ?_) HI ?_
  rotate_left
  · have ⟨q0, q3, q4⟩ := sh W hW
    go_simp <;> exact rfl
  refine Drawn.take (i := 2) (v := ?v164) rfl (by kernel_rfl) (by kernel_rfl) (by kernel_rfl) (fun _ _ _ h => h) (by kernel_rfl) (fun W hW => ?_) HI ?_
  rotate_left
  · have ⟨q0, q3, q4⟩ := sh W hW
    go_simp <;> exact rfl
  refine Drawn.take (i := 3) (v := ?v165) rfl (by kernel_rfl) (by kernel_rfl) (by kernel_rfl) (fun _ _ _ h => h) (by kernel_rfl) (fun W hW => ?_) HI ?_
  rotate_left
  · have ⟨q0, q3, q4⟩ := sh W hW
    go_simp <;> exact rfl
  refine Drawn.take (i := 5) (v := ?v166) rfl (by kernel_rfl) (by kernel_rfl) (by kernel_rfl) (fun _ _ _ h => h) (by kernel_rfl) (fun W hW => ?_) HI ?_
  rotate_left
  · have ⟨q0, q3, q4⟩ := sh W hW
    go_simp <;> exact rfl
  refine Drawn.one (j := 4) (by kernel_rfl) rfl (fun K hK => ?_)
  go_simp
  refine (refSub24 _ _ _ _ y2 y1 _ m2 m1 HC2.out.1.1 HC1.out.1.1 (by have := Y2.out; omega) (can_len_le HC1.out.1 HC2.out.1 (by rw [HC1.out.2, HC2.out.2]; exact Int.le_of_lt hv)) (by rw [HC1.out.2, HC2.out.2]; exact Int.le_of_lt hv)).mono ?_
  rintro e w5 ⟨y5, p5, g5, rfl, O5, C5, V5, h5⟩
  refine hK _ _ (HI.keep h5) ?_
  clear hK K
  replace HI := HI.keep h5
  replace HF := HF.keep h5
  obtain ⟨x9, x8, he, _, _, m5⟩ := O5.lie
  simp only [Value.slice.injEq, true_and] at he
  obtain ⟨rfl, rfl⟩ := he
  have hlen5 : y5.length ≤ 700000 := by exact Nat.le_trans (can_len_le C5 HC2.out.1 (by rw [V5]; have := (Nt.val_bd HC1.out.1.1).1; omega)) (Nat.le_trans Y2.out (by omega))
  clear O5 h5
  refine Drawn.one (j := 6) (by kernel_rfl) rfl (fun K hK => ?_)
  go_simp
  refine (formXL (!n) _ _ y5 e2 _ m5 C5 hlen5 (by omega) (by omega)).mono ?_
  rintro e w6 ⟨n6, z6, x6, a6, c6, rfl, F6, l6, h6⟩
  refine hK _ _ (HI.keep h6) ?_
  clear hK K
  replace HI := HI.keep h6
  replace HF := HF.keep h6
  have H6 := Hide.mk (And.intro F6 l6)
  rw [V5, HC1.out.2, HC2.out.2, sv_sub2] at H6
  clear F6 l6 h6 V5 C5 hlen5 m5 m1 m2
  obtain ⟨⟨f0, f1, f2⟩, r0, r1, r2⟩ := cells3 HF (w.heap.size + 1 + 1) _ _ _ _ (.head _)
  have HF2 := HF.fill3 (by omega) (by simp; omega) (.bool n6) (.slice a6 z6.length c6) (.int .i64 x6)
  refine Drawn.one (j := 7) (by kernel_rfl) rfl (fun K hK => ?_)
  go_simp
  replace HI := HF2.sub (L' := [(w.heap.size + 1, DO (!n) a2 z2.length c2 e2), (w.heap.size, DO n a1 z1.length c1 e1)]) (by simp)
  refine hK _ _ HI ?_
  clear hK K f0 f1 f2 r0 r1 r2
  refine Drawn.done (by kernel_rfl) ?_
  try go_simp
  go_wp2
  refine bodyPost_ret (results_D1 rfl _ _ (w.heap.size + 1 + 1) _ rfl ⟨HF2.head, rfl⟩) rfl ?_
  have L := Live.set3 (g := w.heap.size + 1 + 1) ⟨HF.head, rfl⟩ (.bool n6) (.slice a6 z6.length c6) (.int .i64 x6) (Live.one H6.out.2)
  exact ⟨n6, z6, x6, a6, c6, rfl, H6.out.1, L.all (a6, z6) (.head _), HF2.bel⟩
end Go.Proofs.YtchmljbkophdaaaGreatDoor

namespace Go.Proofs.YtchmljbkophdaaaGreatDoor
open Go.RowKit Go.Wd Go.Box
set_option linter.unusedVariables false
set_option maxRecDepth 3000
set_option maxHeartbeats 2000000 in
theorem addX_ge_same (n : Bool) (a1 a2 : Option Addr) (c1 c2 : Nat) (z1 z2 : List Int) (e1 e2 : Int) (w : World) (l1 : Lie w a1 z1) (l2 : Lie w a2 z2) (q1 : Nt.Can z1) (q2 : Nt.Can z2) (hz1 : 0 < z1.length) (hz2 : 0 < z2.length) (b1 : -20000000 ≤ e1) (b2 : e1 ≤ 20000000) (b3 : -20000000 ≤ e2) (b4 : e2 ≤ 20000000) (k1 k2 : Nat) (hk1 : 32 * z1.length + k1 ≤ 22000000) (hk2 : 32 * z2.length + k2 ≤ 22000000) (ho : e1 ≤ e2) (hh1 : e1 - e1 = k1) (hh2 : e2 - e1 = k2)  :
    Calls Tryz.prog 69 #[dV n a1 z1.length c1 e1, dV n a2 z2.length c2 e2] w fun e w' => RF w w' (sv n (Nt.val z1 * 2 ^ k1) + sv n (Nt.val z2 * 2 ^ k2)) e1 e := by
  have B1 := (((Bx.nil w).push (DO n a1 z1.length c1 e1)).push (DO n a2 z2.length c2 e2)).push (DO false none 0 0 0)
  have d1 : ((z1.length : Int) == 0) = false := beq_eq_false_iff_ne.2 (by omega)
  have d2 : ((z2.length : Int) == 0) = false := beq_eq_false_iff_ne.2 (by omega)
  have d3 : (n == n) = true := by cases n <;> rfl
  go_enter Tryz.func69, Tryz.ntmps69
  go_wp2_with fail
  rw [show ((w.alloc (DO n a1 z1.length c1 e1)).alloc (DO n a2 z2.length c2 e2)).heap.size = w.heap.size + 1 + 1 by simp, show (w.alloc (DO n a1 z1.length c1 e1)).heap.size = w.heap.size + 1 by simp] at B1
  generalize hw1 : ((w.alloc (DO n a1 z1.length c1 e1)).alloc (DO n a2 z2.length c2 e2)).alloc (DO false none 0 0 0) = w1 at *
  clear hw1
  refine (refUpA a1 c1 z1 _ _ k1 (by omega) (by omega) (l1.below B1.bel (Nat.le_refl _)) q1.1).mono ?_
  rintro e w2 ⟨y1, p1, g1, rfl, O1, C1, V1, h2⟩
  have B2 := B1.keep h2
  obtain ⟨x9, x8, he, _, _, m1⟩ := O1.lie
  simp only [Value.slice.injEq, true_and] at he
  obtain ⟨rfl, rfl⟩ := he
  obtain ⟨⟨s0, s1, s2⟩, _⟩ := cells3 B2 (w.heap.size + 1) _ _ _ _ (.tail _ (.head _))
  obtain ⟨⟨r0, r1, r2⟩, _⟩ := cells3 B2 w.heap.size _ _ _ _ (.tail _ (.tail _ (.head _)))
  have Y1 := Hide.mk (len_up q1 hk1 C1 V1)
  have HC1 := Hide.mk (And.intro C1 V1)
  clear O1 h2 B1 C1 V1
  go_wp2_with fail
  refine (refUpA a2 c2 z2 _ _ k2 (by omega) (by omega) (l2.below B2.bel (Nat.le_refl _)) q2.1).mono ?_
  rintro e w3 ⟨y2, p2, g2, rfl, O2, C2, V2, h3⟩
  have HF := B2.keep h3
  replace m1 := m1.below h3 (Nat.le_refl _)
  obtain ⟨x9, x8, he, _, _, m2⟩ := O2.lie
  simp only [Value.slice.injEq, true_and] at he
  obtain ⟨rfl, rfl⟩ := he
  have Y2 := Hide.mk (len_up q2 hk2 C2 V2)
  have HC2 := Hide.mk (And.intro C2 V2)
  clear O2 h3 B2 C2 V2 s0 s1 s2 r0 r1 r2
  obtain ⟨⟨s0, s1, s2⟩, _⟩ := cells3 HF (w.heap.size + 1) _ _ _ _ (.tail _ (.head _))
  obtain ⟨⟨r0, r1, r2⟩, _⟩ := cells3 HF w.heap.size _ _ _ _ (.tail _ (.tail _ (.head _)))
  go_wp2_with fail
  replace HF := HF.drew
  replace m1 := m1.below (Below.refl _ _).drew (Nat.le_refl _)
  replace m2 := m2.below (Below.refl _ _).drew (Nat.le_refl _)
  have HI := HF.sub (L' := [(w.heap.size + 1, DO n a2 z2.length c2 e2), (w.heap.size, DO n a1 z1.length c1 e1)]) (by simp)
  have sh := fun W (hW : Bx w [(w.heap.size + 1, DO n a2 z2.length c2 e2), (w.heap.size, DO n a1 z1.length c1 e1)] W) => (cells3 hW w.heap.size _ _ _ _ (.tail _ (.head _))).1
  refine Drawn.enter (Bx w [(w.heap.size + 1, DO n a2 z2.length c2 e2), (w.heap.size, DO n a1 z1.length c1 e1)]) (by kernel_rfl) ?_
  refine Drawn.take (i := 0) (v := ?v167) rfl (by kernel_rfl) (by kernel_rfl) (by kernel_rfl) (fun _ _ _ h => h) (by kernel_rfl) (fun W hW => ?_) HI ?_
  rotate_left
  · have ⟨q0, q3, q4⟩ := sh W hW
    go_simp <;> exact rfl
  refine Drawn.take (i := 1) (v := ?v168) rfl (by kernel_rfl) (by kernel_rfl) (by kernel_rfl) (fun _ _ _ h => h) (by kernel_rfl) (fun W hW => ?_) HI ?_
  rotate_left
  · have ⟨q0, q3, q4⟩ := sh W hW
    go_simp <;> exact rfl
  refine Drawn.take (i := 2) (v := ?v169) rfl (by kernel_rfl) (by kernel_rfl) (by kernel_rfl) (fun _ _ _ h => h) (by kernel_rfl) (fun W hW => ?_) HI ?_
  rotate_left
  · have ⟨q0, q3, q4⟩ := sh W hW
    go_simp <;> exact rfl
  refine Drawn.take (i := 3) (v := ?v170) rfl (by kernel_rfl) (by kernel_rfl) (by kernel_rfl) (fun _ _ _ h => h) (by kernel_rfl) (fun W hW => ?_) HI ?_
  rotate_left
  · have ⟨q0, q3, q4⟩ := sh W hW
    go_simp <;> exact rfl
  refine Drawn.take (i := 5) (v := ?v171) rfl (by kernel_rfl) (by kernel_rfl) (by kernel_rfl) (fun _ _ _ h => h) (by kernel_rfl) (fun W hW => ?_) HI ?_
  rotate_left
  · have ⟨q0, q3, q4⟩ := sh W hW
    go_simp <;> exact rfl
  refine Drawn.one (j := 4) (by kernel_rfl) rfl (fun K hK => ?_)
  go_simp
  refine (refAdd23 _ _ _ _ y1 y2 _ m1 m2 HC1.out.1.1 HC2.out.1.1 (by have := Y1.out; omega) (by have := Y2.out; omega)).mono ?_
  rintro e w5 ⟨y5, p5, g5, rfl, O5, C5, V5, h5⟩
  refine hK _ _ (HI.keep h5) ?_
  clear hK K
  replace HI := HI.keep h5
  replace HF := HF.keep h5
  obtain ⟨x9, x8, he, _, _, m5⟩ := O5.lie
  simp only [Value.slice.injEq, true_and] at he
  obtain ⟨rfl, rfl⟩ := he
  have hlen5 : y5.length ≤ 700000 := by have v1 := (Nt.can_len HC1.out.1 690000).2 Y1.out; have v2 := (Nt.can_len HC2.out.1 690000).2 Y2.out; exact Nat.le_trans ((Nt.can_len C5 690001).1 (by rw [V5]; exact sum_lt88 v1 v2)) (by omega)
  clear O5 h5
  refine Drawn.one (j := 6) (by kernel_rfl) rfl (fun K hK => ?_)
  go_simp
  refine (formXL n _ _ y5 e1 _ m5 C5 hlen5 (by omega) (by omega)).mono ?_
  rintro e w6 ⟨n6, z6, x6, a6, c6, rfl, F6, l6, h6⟩
  refine hK _ _ (HI.keep h6) ?_
  clear hK K
  replace HI := HI.keep h6
  replace HF := HF.keep h6
  have H6 := Hide.mk (And.intro F6 l6)
  rw [V5, HC1.out.2, HC2.out.2, sv_add] at H6
  clear F6 l6 h6 V5 C5 hlen5 m5 m1 m2
  obtain ⟨⟨f0, f1, f2⟩, r0, r1, r2⟩ := cells3 HF (w.heap.size + 1 + 1) _ _ _ _ (.head _)
  have HF2 := HF.fill3 (by omega) (by simp; omega) (.bool n6) (.slice a6 z6.length c6) (.int .i64 x6)
  refine Drawn.one (j := 7) (by kernel_rfl) rfl (fun K hK => ?_)
  go_simp
  replace HI := HF2.sub (L' := [(w.heap.size + 1, DO n a2 z2.length c2 e2), (w.heap.size, DO n a1 z1.length c1 e1)]) (by simp)
  refine hK _ _ HI ?_
  clear hK K f0 f1 f2 r0 r1 r2
  refine Drawn.done (by kernel_rfl) ?_
  try go_simp
  go_wp2
  refine bodyPost_ret (results_D1 rfl _ _ (w.heap.size + 1 + 1) _ rfl ⟨HF2.head, rfl⟩) rfl ?_
  have L := Live.set3 (g := w.heap.size + 1 + 1) ⟨HF.head, rfl⟩ (.bool n6) (.slice a6 z6.length c6) (.int .i64 x6) (Live.one H6.out.2)
  exact ⟨n6, z6, x6, a6, c6, rfl, H6.out.1, L.all (a6, z6) (.head _), HF2.bel⟩
set_option maxHeartbeats 2000000 in
theorem addX_ge_ge (n : Bool) (a1 a2 : Option Addr) (c1 c2 : Nat) (z1 z2 : List Int) (e1 e2 : Int) (w : World) (l1 : Lie w a1 z1) (l2 : Lie w a2 z2) (q1 : Nt.Can z1) (q2 : Nt.Can z2) (hz1 : 0 < z1.length) (hz2 : 0 < z2.length) (b1 : -20000000 ≤ e1) (b2 : e1 ≤ 20000000) (b3 : -20000000 ≤ e2) (b4 : e2 ≤ 20000000) (k1 k2 : Nat) (hk1 : 32 * z1.length + k1 ≤ 22000000) (hk2 : 32 * z2.length + k2 ≤ 22000000) (ho : e1 ≤ e2) (hh1 : e1 - e1 = k1) (hh2 : e2 - e1 = k2) (hv : Nt.val z2 * 2 ^ k2 ≤ Nt.val z1 * 2 ^ k1) :
    Calls Tryz.prog 69 #[dV n a1 z1.length c1 e1, dV (!n) a2 z2.length c2 e2] w fun e w' => RF w w' (sv n (Nt.val z1 * 2 ^ k1) + sv (!n) (Nt.val z2 * 2 ^ k2)) e1 e := by
  have B1 := (((Bx.nil w).push (DO n a1 z1.length c1 e1)).push (DO (!n) a2 z2.length c2 e2)).push (DO false none 0 0 0)
  have d1 : ((z1.length : Int) == 0) = false := beq_eq_false_iff_ne.2 (by omega)
  have d2 : ((z2.length : Int) == 0) = false := beq_eq_false_iff_ne.2 (by omega)
  have d3 : (n == (!n)) = false := by cases n <;> rfl
  go_enter Tryz.func69, Tryz.ntmps69
  go_wp2_with fail
  rw [show ((w.alloc (DO n a1 z1.length c1 e1)).alloc (DO (!n) a2 z2.length c2 e2)).heap.size = w.heap.size + 1 + 1 by simp, show (w.alloc (DO n a1 z1.length c1 e1)).heap.size = w.heap.size + 1 by simp] at B1
  generalize hw1 : ((w.alloc (DO n a1 z1.length c1 e1)).alloc (DO (!n) a2 z2.length c2 e2)).alloc (DO false none 0 0 0) = w1 at *
  clear hw1
  refine (refUpA a1 c1 z1 _ _ k1 (by omega) (by omega) (l1.below B1.bel (Nat.le_refl _)) q1.1).mono ?_
  rintro e w2 ⟨y1, p1, g1, rfl, O1, C1, V1, h2⟩
  have B2 := B1.keep h2
  obtain ⟨x9, x8, he, _, _, m1⟩ := O1.lie
  simp only [Value.slice.injEq, true_and] at he
  obtain ⟨rfl, rfl⟩ := he
  obtain ⟨⟨s0, s1, s2⟩, _⟩ := cells3 B2 (w.heap.size + 1) _ _ _ _ (.tail _ (.head _))
  obtain ⟨⟨r0, r1, r2⟩, _⟩ := cells3 B2 w.heap.size _ _ _ _ (.tail _ (.tail _ (.head _)))
  have Y1 := Hide.mk (len_up q1 hk1 C1 V1)
  have HC1 := Hide.mk (And.intro C1 V1)
  clear O1 h2 B1 C1 V1
  go_wp2_with fail
  refine (refUpA a2 c2 z2 _ _ k2 (by omega) (by omega) (l2.below B2.bel (Nat.le_refl _)) q2.1).mono ?_
  rintro e w3 ⟨y2, p2, g2, rfl, O2, C2, V2, h3⟩
  have HF := B2.keep h3
  replace m1 := m1.below h3 (Nat.le_refl _)
  obtain ⟨x9, x8, he, _, _, m2⟩ := O2.lie
  simp only [Value.slice.injEq, true_and] at he
  obtain ⟨rfl, rfl⟩ := he
  have Y2 := Hide.mk (len_up q2 hk2 C2 V2)
  have HC2 := Hide.mk (And.intro C2 V2)
  clear O2 h3 B2 C2 V2 s0 s1 s2 r0 r1 r2
  obtain ⟨⟨s0, s1, s2⟩, _⟩ := cells3 HF (w.heap.size + 1) _ _ _ _ (.tail _ (.head _))
  obtain ⟨⟨r0, r1, r2⟩, _⟩ := cells3 HF w.heap.size _ _ _ _ (.tail _ (.tail _ (.head _)))
  go_wp2_with fail
  have hsg := sgn_ge (x := Nt.val y1) (y := Nt.val y2) (by rw [HC1.out.2, HC2.out.2]; exact hv)
  refine (refCmp22 _ _ _ _ y1 y2 _ m1 m2 HC1.out.1 HC2.out.1 (by have := Y1.out; unfold maxLen; omega)).mono ?_
  rintro e w4 ⟨rfl, h4⟩
  replace HF := HF.keep h4
  replace m1 := m1.below h4 (Nat.le_refl _)
  replace m2 := m2.below h4 (Nat.le_refl _)
  clear h4 s0 s1 s2 r0 r1 r2
  generalize sgn (Nt.val y1) (Nt.val y2) = sg0 at *
  go_wp2_with fail
  replace HF := HF.drew
  replace m1 := m1.below (Below.refl _ _).drew (Nat.le_refl _)
  replace m2 := m2.below (Below.refl _ _).drew (Nat.le_refl _)
  have HI := HF.sub (L' := [(w.heap.size + 1, DO (!n) a2 z2.length c2 e2), (w.heap.size, DO n a1 z1.length c1 e1)]) (by simp)
  have sh := fun W (hW : Bx w [(w.heap.size + 1, DO (!n) a2 z2.length c2 e2), (w.heap.size, DO n a1 z1.length c1 e1)] W) => (cells3 hW w.heap.size _ _ _ _ (.tail _ (.head _))).1
  refine Drawn.enter (Bx w [(w.heap.size + 1, DO (!n) a2 z2.length c2 e2), (w.heap.size, DO n a1 z1.length c1 e1)]) (by kernel_rfl) ?_
  refine Drawn.take (i := 0) (v := ?v172) rfl (by kernel_rfl) (by kernel_rfl) (by kernel_rfl) (fun _ _ _ h => h) (by kernel_rfl) (fun W hW => ?_) HI ?_
  rotate_left
  · have ⟨q0, q3, q4⟩ := sh W hW
    go_simp <;> exact rfl
  refine Drawn.take (i := 1) (v := ?v173) rfl (by kernel_rfl) (by kernel_rfl) (by kernel_rfl) (fun _ _ _ h => h) (by kernel_rfl) (fun W hW => ?_) HI ?_
  rotate_left
  · have ⟨q0, q3, q4⟩ := sh W hW
    go_simp <;> exact rfl
  refine Drawn.take (i := 2) (v := ?v174) rfl (by kernel_rfl) (by kernel_rfl) (by kernel_rfl) (fun _ _ _ h => h) (by kernel_rfl) (fun W hW => ?_) HI ?_
  rotate_left
  · have ⟨q0, q3, q4⟩ := sh W hW
    go_simp <;> exact rfl
  refine Drawn.take (i := 3) (v := ?v175) rfl (by kernel_rfl) (by kernel_rfl) (by kernel_rfl) (fun _ _ _ h => h) (by kernel_rfl) (fun W hW => ?_) HI ?_
  rotate_left
  · have ⟨q0, q3, q4⟩ := sh W hW
    go_simp <;> exact rfl
  refine Drawn.take (i := 5) (v := ?v176) rfl (by kernel_rfl) (by kernel_rfl) (by kernel_rfl) (fun _ _ _ h => h) (by kernel_rfl) (fun W hW => ?_) HI ?_
  rotate_left
  · have ⟨q0, q3, q4⟩ := sh W hW
    go_simp <;> exact rfl
  refine Drawn.one (j := 4) (by kernel_rfl) rfl (fun K hK => ?_)
  go_simp
  refine (refSub24 _ _ _ _ y1 y2 _ m1 m2 HC1.out.1.1 HC2.out.1.1 (by have := Y1.out; omega) (can_len_le HC2.out.1 HC1.out.1 (by rw [HC1.out.2, HC2.out.2]; exact hv)) (by rw [HC1.out.2, HC2.out.2]; exact hv)).mono ?_
  rintro e w5 ⟨y5, p5, g5, rfl, O5, C5, V5, h5⟩
  refine hK _ _ (HI.keep h5) ?_
  clear hK K
  replace HI := HI.keep h5
  replace HF := HF.keep h5
  obtain ⟨x9, x8, he, _, _, m5⟩ := O5.lie
  simp only [Value.slice.injEq, true_and] at he
  obtain ⟨rfl, rfl⟩ := he
  have hlen5 : y5.length ≤ 700000 := by exact Nat.le_trans (can_len_le C5 HC1.out.1 (by rw [V5]; have := (Nt.val_bd HC2.out.1.1).1; omega)) (Nat.le_trans Y1.out (by omega))
  clear O5 h5
  refine Drawn.one (j := 6) (by kernel_rfl) rfl (fun K hK => ?_)
  go_simp
  refine (formXL n _ _ y5 e1 _ m5 C5 hlen5 (by omega) (by omega)).mono ?_
  rintro e w6 ⟨n6, z6, x6, a6, c6, rfl, F6, l6, h6⟩
  refine hK _ _ (HI.keep h6) ?_
  clear hK K
  replace HI := HI.keep h6
  replace HF := HF.keep h6
  have H6 := Hide.mk (And.intro F6 l6)
  rw [V5, HC1.out.2, HC2.out.2, sv_sub] at H6
  clear F6 l6 h6 V5 C5 hlen5 m5 m1 m2
  obtain ⟨⟨f0, f1, f2⟩, r0, r1, r2⟩ := cells3 HF (w.heap.size + 1 + 1) _ _ _ _ (.head _)
  have HF2 := HF.fill3 (by omega) (by simp; omega) (.bool n6) (.slice a6 z6.length c6) (.int .i64 x6)
  refine Drawn.one (j := 7) (by kernel_rfl) rfl (fun K hK => ?_)
  go_simp
  replace HI := HF2.sub (L' := [(w.heap.size + 1, DO (!n) a2 z2.length c2 e2), (w.heap.size, DO n a1 z1.length c1 e1)]) (by simp)
  refine hK _ _ HI ?_
  clear hK K f0 f1 f2 r0 r1 r2
  refine Drawn.done (by kernel_rfl) ?_
  try go_simp
  go_wp2
  refine bodyPost_ret (results_D1 rfl _ _ (w.heap.size + 1 + 1) _ rfl ⟨HF2.head, rfl⟩) rfl ?_
  have L := Live.set3 (g := w.heap.size + 1 + 1) ⟨HF.head, rfl⟩ (.bool n6) (.slice a6 z6.length c6) (.int .i64 x6) (Live.one H6.out.2)
  exact ⟨n6, z6, x6, a6, c6, rfl, H6.out.1, L.all (a6, z6) (.head _), HF2.bel⟩
set_option maxHeartbeats 2000000 in
theorem addX_ge_lt (n : Bool) (a1 a2 : Option Addr) (c1 c2 : Nat) (z1 z2 : List Int) (e1 e2 : Int) (w : World) (l1 : Lie w a1 z1) (l2 : Lie w a2 z2) (q1 : Nt.Can z1) (q2 : Nt.Can z2) (hz1 : 0 < z1.length) (hz2 : 0 < z2.length) (b1 : -20000000 ≤ e1) (b2 : e1 ≤ 20000000) (b3 : -20000000 ≤ e2) (b4 : e2 ≤ 20000000) (k1 k2 : Nat) (hk1 : 32 * z1.length + k1 ≤ 22000000) (hk2 : 32 * z2.length + k2 ≤ 22000000) (ho : e1 ≤ e2) (hh1 : e1 - e1 = k1) (hh2 : e2 - e1 = k2) (hv : Nt.val z1 * 2 ^ k1 < Nt.val z2 * 2 ^ k2) :
    Calls Tryz.prog 69 #[dV n a1 z1.length c1 e1, dV (!n) a2 z2.length c2 e2] w fun e w' => RF w w' (sv n (Nt.val z1 * 2 ^ k1) + sv (!n) (Nt.val z2 * 2 ^ k2)) e1 e := by
  have B1 := (((Bx.nil w).push (DO n a1 z1.length c1 e1)).push (DO (!n) a2 z2.length c2 e2)).push (DO false none 0 0 0)
  have d1 : ((z1.length : Int) == 0) = false := beq_eq_false_iff_ne.2 (by omega)
  have d2 : ((z2.length : Int) == 0) = false := beq_eq_false_iff_ne.2 (by omega)
  have d3 : (n == (!n)) = false := by cases n <;> rfl
  go_enter Tryz.func69, Tryz.ntmps69
  go_wp2_with fail
  rw [show ((w.alloc (DO n a1 z1.length c1 e1)).alloc (DO (!n) a2 z2.length c2 e2)).heap.size = w.heap.size + 1 + 1 by simp, show (w.alloc (DO n a1 z1.length c1 e1)).heap.size = w.heap.size + 1 by simp] at B1
  generalize hw1 : ((w.alloc (DO n a1 z1.length c1 e1)).alloc (DO (!n) a2 z2.length c2 e2)).alloc (DO false none 0 0 0) = w1 at *
  clear hw1
  refine (refUpA a1 c1 z1 _ _ k1 (by omega) (by omega) (l1.below B1.bel (Nat.le_refl _)) q1.1).mono ?_
  rintro e w2 ⟨y1, p1, g1, rfl, O1, C1, V1, h2⟩
  have B2 := B1.keep h2
  obtain ⟨x9, x8, he, _, _, m1⟩ := O1.lie
  simp only [Value.slice.injEq, true_and] at he
  obtain ⟨rfl, rfl⟩ := he
  obtain ⟨⟨s0, s1, s2⟩, _⟩ := cells3 B2 (w.heap.size + 1) _ _ _ _ (.tail _ (.head _))
  obtain ⟨⟨r0, r1, r2⟩, _⟩ := cells3 B2 w.heap.size _ _ _ _ (.tail _ (.tail _ (.head _)))
  have Y1 := Hide.mk (len_up q1 hk1 C1 V1)
  have HC1 := Hide.mk (And.intro C1 V1)
  clear O1 h2 B1 C1 V1
  go_wp2_with fail
  refine (refUpA a2 c2 z2 _ _ k2 (by omega) (by omega) (l2.below B2.bel (Nat.le_refl _)) q2.1).mono ?_
  rintro e w3 ⟨y2, p2, g2, rfl, O2, C2, V2, h3⟩
  have HF := B2.keep h3
  replace m1 := m1.below h3 (Nat.le_refl _)
  obtain ⟨x9, x8, he, _, _, m2⟩ := O2.lie
  simp only [Value.slice.injEq, true_and] at he
  obtain ⟨rfl, rfl⟩ := he
  have Y2 := Hide.mk (len_up q2 hk2 C2 V2)
  have HC2 := Hide.mk (And.intro C2 V2)
  clear O2 h3 B2 C2 V2 s0 s1 s2 r0 r1 r2
  obtain ⟨⟨s0, s1, s2⟩, _⟩ := cells3 HF (w.heap.size + 1) _ _ _ _ (.tail _ (.head _))
  obtain ⟨⟨r0, r1, r2⟩, _⟩ := cells3 HF w.heap.size _ _ _ _ (.tail _ (.tail _ (.head _)))
  go_wp2_with fail
  have hsg := sgn_less (x := Nt.val y1) (y := Nt.val y2) (by rw [HC1.out.2, HC2.out.2]; exact hv)
  refine (refCmp22 _ _ _ _ y1 y2 _ m1 m2 HC1.out.1 HC2.out.1 (by have := Y1.out; unfold maxLen; omega)).mono ?_
  rintro e w4 ⟨rfl, h4⟩
  replace HF := HF.keep h4
  replace m1 := m1.below h4 (Nat.le_refl _)
  replace m2 := m2.below h4 (Nat.le_refl _)
  clear h4 s0 s1 s2 r0 r1 r2
  generalize sgn (Nt.val y1) (Nt.val y2) = sg0 at *
  go_wp2_with fail
  replace HF := HF.drew
  replace m1 := m1.below (Below.refl _ _).drew (Nat.le_refl _)
  replace m2 := m2.below (Below.refl _ _).drew (Nat.le_refl _)
  have HI := HF.sub (L' := [(w.heap.size + 1, DO (!n) a2 z2.length c2 e2), (w.heap.size, DO n a1 z1.length c1 e1)]) (by simp)
  have sh := fun W (hW : Bx w [(w.heap.size + 1, DO (!n) a2 z2.length c2 e2), (w.heap.size, DO n a1 z1.length c1 e1)] W) => (cells3 hW (w.heap.size + 1) _ _ _ _ (.head _)).1
  refine Drawn.enter (Bx w [(w.heap.size + 1, DO (!n) a2 z2.length c2 e2), (w.heap.size, DO n a1 z1.length c1 e1)]) (by kernel_rfl) ?_
  refine Drawn.take (i := 0) (v := ?v177) rfl (by kernel_rfl) (by kernel_rfl) (by kernel_rfl) (fun _ _ _ h => h) (by kernel_rfl) (fun W hW => ?_) HI ?_
  rotate_left
  · have ⟨q0, q3, q4⟩ := sh W hW
    go_simp <;> exact rfl
  refine Drawn.take (i := 1) (v := ?v178) rfl (by kernel_rfl) (by kernel_rfl) (by kernel_rfl) (fun _ _ _ h => h) (by kernel_rfl) (fun W hW => ?_) HI ?_
  rotate_left
  · have ⟨q0, q3, q4⟩ := sh W hW
    go_simp <;> exact rfl
  refine Drawn.take (i := 2) (v := ?v179) rfl (by kernel_rfl) (by kernel_rfl) (by kernel_rfl) (fun _ _ _ h => h) (by kernel_rfl) (fun W hW => ?_) HI ?_
  rotate_left
  · have ⟨q0, q3, q4⟩ := sh W hW
    go_simp <;> exact rfl
  refine Drawn.take (i := 3) (v := ?v180) rfl (by kernel_rfl) (by kernel_rfl) (by kernel_rfl) (fun _ _ _ h => h) (by kernel_rfl) (fun W hW => ?_) HI ?_
  rotate_left
  · have ⟨q0, q3, q4⟩ := sh W hW
    go_simp <;> exact rfl
  refine Drawn.take (i := 5) (v := ?v181) rfl (by kernel_rfl) (by kernel_rfl) (by kernel_rfl) (fun _ _ _ h => h) (by kernel_rfl) (fun W hW => ?_) HI ?_
  rotate_left
  · have ⟨q0, q3, q4⟩ := sh W hW
    go_simp <;> exact rfl
  refine Drawn.one (j := 4) (by kernel_rfl) rfl (fun K hK => ?_)
  go_simp
  refine (refSub24 _ _ _ _ y2 y1 _ m2 m1 HC2.out.1.1 HC1.out.1.1 (by have := Y2.out; omega) (can_len_le HC1.out.1 HC2.out.1 (by rw [HC1.out.2, HC2.out.2]; exact Int.le_of_lt hv)) (by rw [HC1.out.2, HC2.out.2]; exact Int.le_of_lt hv)).mono ?_
  rintro e w5 ⟨y5, p5, g5, rfl, O5, C5, V5, h5⟩
  refine hK _ _ (HI.keep h5) ?_
  clear hK K
  replace HI := HI.keep h5
  replace HF := HF.keep h5
  obtain ⟨x9, x8, he, _, _, m5⟩ := O5.lie
  simp only [Value.slice.injEq, true_and] at he
  obtain ⟨rfl, rfl⟩ := he
  have hlen5 : y5.length ≤ 700000 := by exact Nat.le_trans (can_len_le C5 HC2.out.1 (by rw [V5]; have := (Nt.val_bd HC1.out.1.1).1; omega)) (Nat.le_trans Y2.out (by omega))
  clear O5 h5
  refine Drawn.one (j := 6) (by kernel_rfl) rfl (fun K hK => ?_)
  go_simp
  refine (formXL (!n) _ _ y5 e1 _ m5 C5 hlen5 (by omega) (by omega)).mono ?_
  rintro e w6 ⟨n6, z6, x6, a6, c6, rfl, F6, l6, h6⟩
  refine hK _ _ (HI.keep h6) ?_
  clear hK K
  replace HI := HI.keep h6
  replace HF := HF.keep h6
  have H6 := Hide.mk (And.intro F6 l6)
  rw [V5, HC1.out.2, HC2.out.2, sv_sub2] at H6
  clear F6 l6 h6 V5 C5 hlen5 m5 m1 m2
  obtain ⟨⟨f0, f1, f2⟩, r0, r1, r2⟩ := cells3 HF (w.heap.size + 1 + 1) _ _ _ _ (.head _)
  have HF2 := HF.fill3 (by omega) (by simp; omega) (.bool n6) (.slice a6 z6.length c6) (.int .i64 x6)
  refine Drawn.one (j := 7) (by kernel_rfl) rfl (fun K hK => ?_)
  go_simp
  replace HI := HF2.sub (L' := [(w.heap.size + 1, DO (!n) a2 z2.length c2 e2), (w.heap.size, DO n a1 z1.length c1 e1)]) (by simp)
  refine hK _ _ HI ?_
  clear hK K f0 f1 f2 r0 r1 r2
  refine Drawn.done (by kernel_rfl) ?_
  try go_simp
  go_wp2
  refine bodyPost_ret (results_D1 rfl _ _ (w.heap.size + 1 + 1) _ rfl ⟨HF2.head, rfl⟩) rfl ?_
  have L := Live.set3 (g := w.heap.size + 1 + 1) ⟨HF.head, rfl⟩ (.bool n6) (.slice a6 z6.length c6) (.int .i64 x6) (Live.one H6.out.2)
  exact ⟨n6, z6, x6, a6, c6, rfl, H6.out.1, L.all (a6, z6) (.head _), HF2.bel⟩
/-- The exact sum of two numbers that are not nought, in its one form. -/
theorem addXL (n1 n2 : Bool) (a1 a2 : Option Addr) (c1 c2 : Nat) (z1 z2 : List Int) (e1 e2 : Int) (w : World) (l1 : Lie w a1 z1) (l2 : Lie w a2 z2) (q1 : Nt.Can z1) (q2 : Nt.Can z2) (hz1 : 0 < z1.length) (hz2 : 0 < z2.length) (b1 : -20000000 ≤ e1) (b2 : e1 ≤ 20000000) (b3 : -20000000 ≤ e2) (b4 : e2 ≤ 20000000) (k1 k2 : Nat) (hk1 : 32 * z1.length + k1 ≤ 22000000) (hk2 : 32 * z2.length + k2 ≤ 22000000) (hh1 : e1 - min e1 e2 = k1) (hh2 : e2 - min e1 e2 = k2) :
    Calls Tryz.prog 69 #[dV n1 a1 z1.length c1 e1, dV n2 a2 z2.length c2 e2] w fun e w' => RF w w' (sv n1 (Nt.val z1 * 2 ^ k1) + sv n2 (Nt.val z2 * 2 ^ k2)) (min e1 e2) e := by
  have key : n1 = n2 ∨ n2 = !n1 := by cases n1 <;> cases n2 <;> simp
  by_cases ho : e2 < e1
  · rw [show min e1 e2 = e2 by omega] at *
    rcases key with rfl | rfl
    · exact addX_lt_same n1 a1 a2 c1 c2 z1 z2 e1 e2 w l1 l2 q1 q2 hz1 hz2 b1 b2 b3 b4 k1 k2 hk1 hk2 ho hh1 hh2
    · by_cases hv : Nt.val z2 * 2 ^ k2 ≤ Nt.val z1 * 2 ^ k1
      · exact addX_lt_ge n1 a1 a2 c1 c2 z1 z2 e1 e2 w l1 l2 q1 q2 hz1 hz2 b1 b2 b3 b4 k1 k2 hk1 hk2 ho hh1 hh2 hv
      · exact addX_lt_lt n1 a1 a2 c1 c2 z1 z2 e1 e2 w l1 l2 q1 q2 hz1 hz2 b1 b2 b3 b4 k1 k2 hk1 hk2 ho hh1 hh2 (by omega)
  · rw [show min e1 e2 = e1 by omega] at *
    rcases key with rfl | rfl
    · exact addX_ge_same n1 a1 a2 c1 c2 z1 z2 e1 e2 w l1 l2 q1 q2 hz1 hz2 b1 b2 b3 b4 k1 k2 hk1 hk2 (by omega) hh1 hh2
    · by_cases hv : Nt.val z2 * 2 ^ k2 ≤ Nt.val z1 * 2 ^ k1
      · exact addX_ge_ge n1 a1 a2 c1 c2 z1 z2 e1 e2 w l1 l2 q1 q2 hz1 hz2 b1 b2 b3 b4 k1 k2 hk1 hk2 (by omega) hh1 hh2 hv
      · exact addX_ge_lt n1 a1 a2 c1 c2 z1 z2 e1 e2 w l1 l2 q1 q2 hz1 hz2 b1 b2 b3 b4 k1 k2 hk1 hk2 (by omega) hh1 hh2 (by omega)
end Go.Proofs.YtchmljbkophdaaaGreatDoor

namespace Go.Proofs.YtchmljbkophdaaaGreatDoor
open Go.RowKit Go.Wd Go.Box
set_option linter.unusedVariables false
set_option maxRecDepth 3000
end Go.Proofs.YtchmljbkophdaaaGreatDoor

namespace Go.Proofs.YtchmljbkophdaaaGreatDoor
open Go.RowKit Go.Wd Go.Box
set_option linter.unusedVariables false
set_option maxRecDepth 3000
/-- A call's answer for the exact number s times 2 to the E, as it lies in w. -/
def Ans (w : World) (s E : Int) (n : Bool) (a : Option Addr) (k c : Nat) (ex code : Int) : Prop :=
  (s = 0 ∧ n = false ∧ a = none ∧ k = 0 ∧ c = 0 ∧ ex = 0 ∧ code = 0) ∨ (s ≠ 0 ∧ ∃ t : Nat, LowBit (s.natAbs : Int) t ∧
    ((-16777216 ≤ E + t ∧ E + t ≤ 16777216 ∧ n = decide (s < 0) ∧ ex = E + t ∧ code = 0 ∧ ∃ zs, k = zs.length ∧ Good zs ((s.natAbs : Int) / 2 ^ t) ∧ Lie w a zs) ∨
     (4294967296 ^ 4096 ≤ (s.natAbs : Int) / 2 ^ t ∧ n = false ∧ a = none ∧ k = 0 ∧ c = 0 ∧ ex = 0 ∧ code = 3) ∨
     ((s.natAbs : Int) / 2 ^ t < 4294967296 ^ 4096 ∧ (E + t < -16777216 ∨ 16777216 < E + t) ∧ n = false ∧ a = none ∧ k = 0 ∧ c = 0 ∧ ex = 0 ∧ code = 20)))
theorem Ans.below {w w' : World} {s E : Int} {n : Bool} {a : Option Addr} {k c : Nat} {ex code : Int} (h : Ans w s E n a k c ex code) (hb : Below w.heap.size w w') : Ans w' s E n a k c ex code := by
  rcases h with h | ⟨h0, t, ht, h⟩
  · exact .inl h
  · refine .inr ⟨h0, t, ht, ?_⟩
    rcases h with ⟨j1, j2, j3, j4, j5, zs, j6, j7, j8⟩ | h | h
    · exact .inl ⟨j1, j2, j3, j4, j5, zs, j6, j7, j8.below hb (Nat.le_refl _)⟩
    · exact .inr (.inl h)
    · exact .inr (.inr h)
end Go.Proofs.YtchmljbkophdaaaGreatDoor

namespace Go.Proofs.YtchmljbkophdaaaGreatDoor
open Go.RowKit Go.Wd Go.Box
set_option linter.unusedVariables false
set_option maxRecDepth 3000
theorem RF.set {w W : World} {s E : Int} {n6 : Bool} {z6 : List Int} {x6 : Int} {a6 : Option Addr} {c6 g : Nat} (F : Fm s E n6 z6 x6) (l6 : Lie W a6 z6) (hg : W.heap[g]? = some (DO false none 0 0 0)) (hb : Below w.heap.size w W) (hle : w.heap.size ≤ g) :
    RF w (((W.setCell ⟨g, 0, none⟩ (.bool n6)).setCell ⟨g, 1, none⟩ (.slice a6 z6.length c6)).setCell ⟨g, 2, none⟩ (.int .i64 x6)) s E (.returned (dV n6 a6 z6.length c6 x6)) := by
  have L := Live.set3 (g := g) ⟨hg, rfl⟩ (.bool n6) (.slice a6 z6.length c6) (.int .i64 x6) (Live.one l6)
  exact ⟨n6, z6, x6, a6, c6, rfl, F, L.all (a6, z6) (.head _), ((hb.setCell (p := ⟨g, 0, none⟩) hle _).setCell (p := ⟨g, 1, none⟩) hle _).setCell (p := ⟨g, 2, none⟩) hle _⟩
/-- A sum with nought is the other number. -/
theorem addX_z1 (a1 a2 : Option Addr) (c1 c2 k2 : Nat) (n1 n2 : Bool) (e1 e2 : Int) (w : World) :
    Calls Tryz.prog 69 #[dV n1 a1 0 c1 e1, dV n2 a2 k2 c2 e2] w fun e w' => e = .returned (dV n2 a2 k2 c2 e2) ∧ Below w.heap.size w w' := by
  have B1 := (((Bx.nil w).push (DO n1 a1 0 c1 e1)).push (DO n2 a2 k2 c2 e2)).push (DO n2 a2 k2 c2 e2)
  go_enter Tryz.func69, Tryz.ntmps69
  go_wp2
  refine bodyPost_ret (results_D1 rfl _ _ (w.heap.size + 1 + 1) _ rfl ⟨by simpa using B1.head, rfl⟩) rfl ?_
  exact ⟨rfl, B1.bel⟩
theorem addX_z2 (a1 a2 : Option Addr) (c1 c2 k1 : Nat) (n1 n2 : Bool) (e1 e2 : Int) (hk : 0 < k1) (w : World) :
    Calls Tryz.prog 69 #[dV n1 a1 k1 c1 e1, dV n2 a2 0 c2 e2] w fun e w' => e = .returned (dV n1 a1 k1 c1 e1) ∧ Below w.heap.size w w' := by
  have B1 := (((Bx.nil w).push (DO n1 a1 k1 c1 e1)).push (DO n2 a2 0 c2 e2)).push (DO n1 a1 k1 c1 e1)
  have d1 : ((k1 : Int) == 0) = false := beq_eq_false_iff_ne.2 (by omega)
  go_enter Tryz.func69, Tryz.ntmps69
  go_wp2
  refine bodyPost_ret (results_D1 rfl _ _ (w.heap.size + 1 + 1) _ rfl ⟨by simpa using B1.head, rfl⟩) rfl ?_
  exact ⟨rfl, B1.bel⟩
end Go.Proofs.YtchmljbkophdaaaGreatDoor

namespace Go.Proofs.YtchmljbkophdaaaGreatDoor
open Go.RowKit Go.Wd Go.Box
set_option linter.unusedVariables false
set_option maxRecDepth 3000
end Go.Proofs.YtchmljbkophdaaaGreatDoor

namespace Go.Proofs.YtchmljbkophdaaaGreatDoor
open Go.RowKit Go.Wd Go.Box
set_option linter.unusedVariables false
set_option maxRecDepth 3000
theorem rSgnAny (n : Bool) (a : Option Addr) (c k : Nat) (ex s : Int) (hs : (k = 0 ∧ s = 0) ∨ (0 < k ∧ n = false ∧ s = 1) ∨ (0 < k ∧ n = true ∧ s = -1)) (w : World) :
    Calls Tryz.prog 23 #[dV n a k c ex] w fun e w' => e = .returned (.int .i64 s) ∧ Below w.heap.size w w' := by
  rcases hs with ⟨rfl, rfl⟩ | ⟨hk, rfl, rfl⟩ | ⟨hk, rfl, rfl⟩
  · go_enter Tryz.func23, Tryz.ntmps23
    go_wp2
    go_ret
    exact ⟨rfl, below_alloc _ _⟩
  · have hne : ((k : Int) == 0) = false := beq_eq_false_iff_ne.2 (by omega)
    go_enter Tryz.func23, Tryz.ntmps23
    go_wp2
    go_ret
    exact ⟨rfl, below_alloc _ _⟩
  · have hne : ((k : Int) == 0) = false := beq_eq_false_iff_ne.2 (by omega)
    go_enter Tryz.func23, Tryz.ntmps23
    go_wp2
    go_ret
    exact ⟨rfl, below_alloc _ _⟩
/-- The sign of a number, as Sign tells it. -/
def SgnOf (n : Bool) (k : Nat) (s : Int) : Prop := (k = 0 ∧ s = 0) ∨ (0 < k ∧ n = false ∧ s = 1) ∨ (0 < k ∧ n = true ∧ s = -1)
end Go.Proofs.YtchmljbkophdaaaGreatDoor

namespace Go.Proofs.YtchmljbkophdaaaGreatDoor
open Go.RowKit Go.Wd Go.Box
set_option linter.unusedVariables false
set_option maxRecDepth 3000
theorem fm_sgn {s E : Int} {n : Bool} {zs : List Int} {ex : Int} (h : Fm s E n zs ex) : SgnOf n zs.length (sgn s 0) := by
  rcases h with ⟨rfl, rfl, rfl, rfl⟩ | ⟨h0, t, ht, rfl, rfl, hc, hv⟩
  · exact .inl ⟨rfl, rfl⟩
  · have hz : 0 < zs.length := by
      by_cases c : zs.length = 0
      · obtain rfl := List.length_eq_zero_iff.1 c
        rw [Nt.val_nil] at hv
        have := ht.one
        rw [← hv] at this
        simp at this
      · omega
    by_cases c : s < 0
    · refine .inr (.inr ⟨hz, decide_eq_true c, ?_⟩)
      unfold sgn
      rw [if_pos c]
    · refine .inr (.inl ⟨hz, decide_eq_false c, ?_⟩)
      unfold sgn
      rw [if_neg c, if_pos (by omega)]
end Go.Proofs.YtchmljbkophdaaaGreatDoor

namespace Go.Proofs.YtchmljbkophdaaaGreatDoor
open Go.RowKit Go.Wd Go.Box
set_option linter.unusedVariables false
set_option maxRecDepth 3000
theorem sgn_is1 {x y : Int} (h : x < y) : sgn x y = -1 := by unfold sgn; rw [if_pos h]
theorem sgn_is2 {x y : Int} (h : y < x) : sgn x y = 1 := by unfold sgn; rw [if_neg (by omega), if_pos h]
theorem sgn_is0 {x y : Int} (h : x = y) : sgn x y = 0 := by unfold sgn; rw [if_neg (by omega), if_neg (by omega)]
theorem sgn_diff (x y : Int) : sgn (x + -y) 0 = sgn x y := by
  rcases Int.lt_trichotomy x y with h | h | h
  · rw [sgn_is1 h, sgn_is1 (by omega)]
  · rw [sgn_is0 h, sgn_is0 (by omega)]
  · rw [sgn_is2 h, sgn_is2 (by omega)]
theorem cls {n : Bool} {zs : List Int} {ex u : Int} (N : DN n zs ex u) :
    (SgnOf n zs.length 0 ∧ u = 0) ∨ (SgnOf n zs.length 1 ∧ 0 < u ∧ 0 < zs.length ∧ n = false) ∨ (SgnOf n zs.length (-1) ∧ u < 0 ∧ 0 < zs.length ∧ n = true) := by
  obtain ⟨d1, d2, d3⟩ := dv_sgn N
  by_cases hz : 0 < zs.length
  · cases n
    · exact .inr (.inl ⟨.inr (.inl ⟨hz, rfl, rfl⟩), d3 hz rfl, hz, rfl⟩)
    · exact .inr (.inr ⟨.inr (.inr ⟨hz, rfl, rfl⟩), d2 hz rfl, hz, rfl⟩)
  · exact .inl ⟨.inl ⟨by omega, rfl⟩, d1 (by omega)⟩
end Go.Proofs.YtchmljbkophdaaaGreatDoor

namespace Go.Proofs.YtchmljbkophdaaaGreatDoor
open Go.RowKit Go.Wd Go.Box
set_option linter.unusedVariables false
set_option maxRecDepth 3000
set_option maxHeartbeats 1000000 in
theorem dTop (n : Bool) (a : Option Addr) (c : Nat) (zs : List Int) (ex : Int) (w : World) (hl : Lie w a zs) (g : DG n zs ex) :
    Calls Tryz.prog 116 #[dV n a zs.length c ex] w fun e w' => ∃ B : Nat, e = .returned (.int .i64 (B + ex)) ∧ BitLen (Nt.val zs) B ∧ B ≤ 131072 ∧ Below w.heap.size w w' := by
  have B1 := (Bx.nil w).push (DO n a zs.length c ex)
  have u := g.lie hl
  go_enter Tryz.func116, Tryz.ntmps116
  go_wp2_with fail
  refine (u.may n c ex true g.may _ B1.bel).mono ?_
  rintro e w2 ⟨rfl, h2⟩
  have B2 := B1.keep h2
  obtain ⟨⟨f0, f1, f2⟩, _⟩ := cells3 B2 w.heap.size _ _ _ _ (.head _)
  have l2 := hl.below B2.bel (Nat.le_refl _)
  clear h2 B1 u
  go_wp2_with fail
  refine (dtop96 n a c zs ex _ l2 g).mono ?_
  rintro e w3 ⟨B, rfl, hB, hB2, h3⟩
  have B3 := B2.keep h3
  have HB := Hide.mk (And.intro hB hB2)
  clear h3 B2 hB hB2 f0 f1 f2 l2
  go_wp2
  go_ret
  exact ⟨B, rfl, HB.out.1, HB.out.2, B3.bel⟩
theorem fc_bd (b : Bool) : 23 ≤ fc b ∧ fc b ≤ 52 := by cases b <;> decide
/-- The exponent of the unit of a number with the top T. -/
def uu (b : Bool) (T : Int) : Int := max (T - fc b - 1) (lo b)
theorem p2fc (b : Bool) : (2 : Int) ^ (fc b).toNat = fr b := by cases b <;> decide
/-- The number of units. -/
theorem units_fit (b : Bool) {M : Int} {B k : Nat} (hM : BitLen M B) (h0 : 0 ≤ M) (hk : (B : Int) + k ≤ fc b + 1) : 0 ≤ M * 2 ^ k ∧ M * 2 ^ k < 2 * fr b := by
  have hp := p2pos k
  refine ⟨Int.mul_nonneg h0 (by omega), ?_⟩
  have e : ∃ F : Nat, (F : Int) = fc b ∧ (2 : Int) ^ (F + 1) = 2 * fr b := by
    cases b
    · exact ⟨23, rfl, by decide⟩
    · exact ⟨52, rfl, by decide⟩
  obtain ⟨F, hF, e⟩ := e
  rw [← e]
  rcases hM with ⟨rfl, _⟩ | ⟨_, c⟩
  · rw [Int.zero_mul]; exact p2pos _
  · have h1 := (c.up k).lt
    have := p2mono (show B + k ≤ F + 1 by omega)
    omega
set_option maxHeartbeats 4000000 in
theorem wWordOf (b n : Bool) (a : Option Addr) (c : Nat) (zs : List Int) (ex : Int) (w : World) (hl : Lie w a zs) (g : DG n zs ex) {B : Nat} (hB : BitLen (Nt.val zs) B) (hb : B ≤ 131072)
    (hc1 : uu b (B + ex) - lo b + 1 < tp b) (hc2 : uu b (B + ex) ≤ ex) (k : Nat) (hk : (k : Int) = ex - uu b (B + ex)) :
    Calls Tryz.prog 128 #[S b, dV n a zs.length c ex] w fun e w' => e = .returned (.tuple #[.int .u64 (sd b ((uu b (B + ex) - lo b) * fr b + Nt.val zs * 2 ^ k) n), .int .i64 0]) ∧ Below w.heap.size w w' := by
  have B1 := ((Bx.nil w).push (SO b)).push (DO n a zs.length c ex)
  have hx := g.ex_bd
  have hf := fc_bd b
  have hlo := lo_bd b
  have hlu : lo b ≤ uu b (B + ex) := by unfold uu; omega
  have hkf : (B : Int) + k ≤ fc b + 1 := by unfold uu at hk; omega
  have hn0 := g.good.nonneg
  obtain ⟨m0, m1⟩ := units_fit b hB hn0 hkf
  have m2 : Nt.val zs < 18446744073709551616 := by
    have hp := p2pos k
    have h5 : Nt.val zs * 1 ≤ Nt.val zs * 2 ^ k := Int.mul_le_mul_of_nonneg_left (by omega) hn0
    have := fr_le b
    omega
  have H2 := Hide.mk (two_digits g.good m2)
  have G := Hide.mk g.good
  have HBL := Hide.mk hB
  have HKF := Hide.mk hkf
  clear hB hkf
  go_enter Tryz.func128, Tryz.ntmps128
  go_wp2_with fail
  rw [show (w.alloc (SO b)).heap.size = w.heap.size + 1 by simp] at B1
  generalize hw1 : (w.alloc (SO b)).alloc (DO n a zs.length c ex) = w1 at *
  clear hw1
  have HI := B1.drew
  have sh := fun W (hW : Bx w [(w.heap.size + 1, DO n a zs.length c ex), (w.heap.size, SO b)] W) => And.intro (shape_cells hW w.heap.size b (.tail _ (.head _))) (cells3 hW (w.heap.size + 1) _ _ _ _ (.head _)).1
  refine Drawn.enter (Bx w [(w.heap.size + 1, DO n a zs.length c ex), (w.heap.size, SO b)]) (by kernel_rfl) ?_
  refine Drawn.take (i := 0) (v := ?v16) rfl (by kernel_rfl) (by kernel_rfl) (by kernel_rfl) (fun _ _ _ h => h) (by kernel_rfl) (fun W hW => ?_) HI ?_
  rotate_left
  · have ⟨⟨e0, e1, e2, e3⟩, q0, q1, q2⟩ := sh W hW
    go_simp <;> exact rfl
  refine Drawn.take (i := 2) (v := ?v17) rfl (by kernel_rfl) (by kernel_rfl) (by kernel_rfl) (fun _ _ _ h => h) (by kernel_rfl) (fun W hW => ?_) HI ?_
  rotate_left
  · have ⟨⟨e0, e1, e2, e3⟩, q0, q1, q2⟩ := sh W hW
    go_simp <;> exact rfl
  refine Drawn.take (i := 3) (v := ?v18) rfl (by kernel_rfl) (by kernel_rfl) (by kernel_rfl) (fun _ _ _ h => h) (by kernel_rfl) (fun W hW => ?_) HI ?_
  rotate_left
  · have ⟨⟨e0, e1, e2, e3⟩, q0, q1, q2⟩ := sh W hW
    go_simp <;> exact rfl
  refine Drawn.take (i := 6) (v := ?v19) rfl (by kernel_rfl) (by kernel_rfl) (by kernel_rfl) (fun _ _ _ h => h) (by kernel_rfl) (fun W hW => ?_) HI ?_
  rotate_left
  · have ⟨⟨e0, e1, e2, e3⟩, q0, q1, q2⟩ := sh W hW
    go_simp <;> exact rfl
  refine Drawn.take (i := 7) (v := ?v20) rfl (by kernel_rfl) (by kernel_rfl) (by kernel_rfl) (fun _ _ _ h => h) (by kernel_rfl) (fun W hW => ?_) HI ?_
  rotate_left
  · have ⟨⟨e0, e1, e2, e3⟩, q0, q1, q2⟩ := sh W hW
    go_simp <;> exact rfl
  refine Drawn.one (j := 1) (by kernel_rfl) rfl (fun K hK => ?_)
  go_simp
  refine (dTop n a c zs ex _ (hl.below HI.bel (Nat.le_refl _)) g).mono ?_
  rintro e wn ⟨B2, rfl, hB2, _, hn⟩
  obtain rfl := hB2.unique HBL.out
  refine hK _ _ (HI.keep hn) ?_
  clear hK K hB2
  replace HI := HI.keep hn
  clear hn
  have hT1 : -20000000 ≤ (B2 : Int) + ex := by omega
  have hT2 : (B2 : Int) + ex ≤ 20000000 := by omega
  have hU2 : uu b (B2 + ex) ≤ 20000100 := by unfold uu; omega
  refine Drawn.take (i := 4) (v := .int .i64 (B2 + ex - fc b)) rfl (by kernel_rfl) (by kernel_rfl) (by kernel_rfl) (fun _ _ _ h => h) (by kernel_rfl) (fun W hW => ?_) HI ?_
  · have ⟨⟨e0, e1, e2, e3⟩, q0, q1, q2⟩ := sh W hW
    go_simp <;> (exact wrap_ok (by omega) (by omega))
  refine Drawn.take (i := 5) (v := .int .i64 (B2 + ex - fc b - 1)) rfl (by kernel_rfl) (by kernel_rfl) (by kernel_rfl) (fun _ _ _ h => h) (by kernel_rfl) (fun W hW => ?_) HI ?_
  · have ⟨⟨e0, e1, e2, e3⟩, q0, q1, q2⟩ := sh W hW
    go_simp <;> (exact wrap_ok (by omega) (by omega))
  refine Drawn.take (i := 8) (v := .int .i64 (uu b (B2 + ex))) rfl (by kernel_rfl) (by kernel_rfl) (by kernel_rfl) (fun _ _ _ h => h) (by kernel_rfl) (fun W hW => ?_) HI ?_
  · have ⟨⟨e0, e1, e2, e3⟩, q0, q1, q2⟩ := sh W hW
    go_simp <;> (rfl)
  refine Drawn.take (i := 9) (v := ?v21) rfl (by kernel_rfl) (by kernel_rfl) (by kernel_rfl) (fun _ _ _ h => h) (by kernel_rfl) (fun W hW => ?_) HI ?_
  rotate_left
  · have ⟨⟨e0, e1, e2, e3⟩, q0, q1, q2⟩ := sh W hW
    go_simp <;> exact rfl
  refine Drawn.done (by kernel_rfl) ?_
  try go_simp
  obtain ⟨⟨e0, e1, e2, e3⟩, q0, q1, q2⟩ := sh _ HI
  have htp := tp_bd b
  generalize hU : uu b (B2 + ex) = U at *
  have HU := Hide.mk hU
  clear hU hT1 hT2
  have l2 := hl.below HI.bel (Nat.le_refl _)
  go_wp2_with fail
  refine (num_yes a c zs _ G.out.may l2 G.out.can.1 H2.out).mono ?_
  rintro e w5 ⟨rfl, rfl⟩
  clear l2
  generalize hM : Nt.val zs = M at *
  have HM := Hide.mk hM
  clear hM
  have hk0 : 0 ≤ ex - U := by omega
  have hkk : (ex - U).toNat = k := by omega
  have hk64 : k ≤ 64 := by have := HKF.out; omega
  have hfl := fr_le b
  have hw : IntKind.u64.wrap (M * 2 ^ min (ex - U).toNat 64) = M * 2 ^ k := by
    rw [hkk, Nat.min_eq_left hk64, IntKind.wrap_u64]
    exact Int.emod_eq_of_lt m0 (by omega)
  have HW := Hide.mk hw
  have hU0 : 0 ≤ U - lo b := by omega
  have hU1 : U - lo b ≤ 2047 := by omega
  have hs1 : 0 ≤ (U - lo b) * fr b ∧ (U - lo b) * fr b < 18446744073709551616 ∧ (U - lo b) * fr b + M * 2 ^ k < sg b := by
    generalize M * 2 ^ k = Y at *
    cases b <;> simp only [fr, tp, sg, lo] at * <;> omega
  obtain ⟨s0, s1, s2⟩ := hs1
  have hsl := sg_le b
  clear hw hkk hk64
  go_wp2_with fail
  rw [HW.out]
  replace HI := HI.drew
  clear e0 e1 e2 e3 q0 q1 q2
  refine Drawn.enter (Bx w [(w.heap.size + 1, DO n a zs.length c ex), (w.heap.size, SO b)]) (by kernel_rfl) ?_
  refine Drawn.take (i := 0) (v := ?v22) rfl (by kernel_rfl) (by kernel_rfl) (by kernel_rfl) (fun _ _ _ h => h) (by kernel_rfl) (fun W hW => ?_) HI ?_
  rotate_left
  · have ⟨⟨e0, e1, e2, e3⟩, q0, q1, q2⟩ := sh W hW
    go_simp <;> exact rfl
  refine Drawn.take (i := 1) (v := ?v23) rfl (by kernel_rfl) (by kernel_rfl) (by kernel_rfl) (fun _ _ _ h => h) (by kernel_rfl) (fun W hW => ?_) HI ?_
  rotate_left
  · have ⟨⟨e0, e1, e2, e3⟩, q0, q1, q2⟩ := sh W hW
    go_simp <;> exact rfl
  refine Drawn.take (i := 2) (v := .int .i64 (U - lo b)) rfl (by kernel_rfl) (by kernel_rfl) (by kernel_rfl) (fun _ _ _ h => h) (by kernel_rfl) (fun W hW => ?_) HI ?_
  · have ⟨⟨e0, e1, e2, e3⟩, q0, q1, q2⟩ := sh W hW
    go_simp <;> (exact (wrap_ok (by omega) (by omega)).trans (by omega))
  refine Drawn.take (i := 3) (v := .int .u64 (U - lo b)) rfl (by kernel_rfl) (by kernel_rfl) (by kernel_rfl) (fun _ _ _ h => h) (by kernel_rfl) (fun W hW => ?_) HI ?_
  · have ⟨⟨e0, e1, e2, e3⟩, q0, q1, q2⟩ := sh W hW
    go_simp <;> (rw [IntKind.wrap_u64]; omega)
  refine Drawn.take (i := 4) (v := ?v24) rfl (by kernel_rfl) (by kernel_rfl) (by kernel_rfl) (fun _ _ _ h => h) (by kernel_rfl) (fun W hW => ?_) HI ?_
  rotate_left
  · have ⟨⟨e0, e1, e2, e3⟩, q0, q1, q2⟩ := sh W hW
    go_simp <;> exact rfl
  refine Drawn.take (i := 5) (v := ?v25) rfl (by kernel_rfl) (by kernel_rfl) (by kernel_rfl) (fun _ _ _ h => h) (by kernel_rfl) (fun W hW => ?_) HI ?_
  rotate_left
  · have ⟨⟨e0, e1, e2, e3⟩, q0, q1, q2⟩ := sh W hW
    go_simp <;> exact rfl
  refine Drawn.take (i := 6) (v := .int .u64 ((U - lo b) * fr b)) rfl (by kernel_rfl) (by kernel_rfl) (by kernel_rfl) (fun _ _ _ h => h) (by kernel_rfl) (fun W hW => ?_) HI ?_
  · have ⟨⟨e0, e1, e2, e3⟩, q0, q1, q2⟩ := sh W hW
    go_simp <;> (rw [p2fc, IntKind.wrap_u64, Int.emod_eq_of_lt s0 s1])
  refine Drawn.take (i := 7) (v := ?v26) rfl (by kernel_rfl) (by kernel_rfl) (by kernel_rfl) (fun _ _ _ h => h) (by kernel_rfl) (fun W hW => ?_) HI ?_
  rotate_left
  · have ⟨⟨e0, e1, e2, e3⟩, q0, q1, q2⟩ := sh W hW
    go_simp <;> exact rfl
  refine Drawn.take (i := 8) (v := .int .u64 ((U - lo b) * fr b + M * 2 ^ k)) rfl (by kernel_rfl) (by kernel_rfl) (by kernel_rfl) (fun _ _ _ h => h) (by kernel_rfl) (fun W hW => ?_) HI ?_
  · have ⟨⟨e0, e1, e2, e3⟩, q0, q1, q2⟩ := sh W hW
    go_simp <;> (rw [IntKind.wrap_u64]; exact Int.emod_eq_of_lt (by omega) (by omega))
  refine Drawn.take (i := 9) (v := ?v27) rfl (by kernel_rfl) (by kernel_rfl) (by kernel_rfl) (fun _ _ _ h => h) (by kernel_rfl) (fun W hW => ?_) HI ?_
  rotate_left
  · have ⟨⟨e0, e1, e2, e3⟩, q0, q1, q2⟩ := sh W hW
    go_simp <;> exact rfl
  refine Drawn.take (i := 10) (v := ?v28) rfl (by kernel_rfl) (by kernel_rfl) (by kernel_rfl) (fun _ _ _ h => h) (by kernel_rfl) (fun W hW => ?_) HI ?_
  rotate_left
  · have ⟨⟨e0, e1, e2, e3⟩, q0, q1, q2⟩ := sh W hW
    go_simp <;> exact rfl
  refine Drawn.one (j := 11) (by kernel_rfl) rfl (fun K hK => ?_)
  go_simp
  refine (wSigned b ((U - lo b) * fr b + M * 2 ^ k) n (by omega) s2 _).mono ?_
  rintro e wn ⟨rfl, hn⟩
  refine hK _ _ (HI.keep hn) ?_
  clear hK K
  replace HI := HI.keep hn
  clear hn
  refine Drawn.take (i := 12) (v := ?v29) rfl (by kernel_rfl) (by kernel_rfl) (by kernel_rfl) (fun _ _ _ h => h) (by kernel_rfl) (fun W hW => ?_) HI ?_
  rotate_left
  · have ⟨⟨e0, e1, e2, e3⟩, q0, q1, q2⟩ := sh W hW
    go_simp <;> exact rfl
  refine Drawn.take (i := 13) (v := ?v30) rfl (by kernel_rfl) (by kernel_rfl) (by kernel_rfl) (fun _ _ _ h => h) (by kernel_rfl) (fun W hW => ?_) HI ?_
  rotate_left
  · have ⟨⟨e0, e1, e2, e3⟩, q0, q1, q2⟩ := sh W hW
    go_simp <;> exact rfl
  refine Drawn.done (by kernel_rfl) ?_
  try go_simp
  clear sh
  go_wp2
  go_ret2
  exact ⟨by rw [HU.out, HM.out]; rfl, HI.bel⟩
end Go.Proofs.YtchmljbkophdaaaGreatDoor

namespace Go.Proofs.YtchmljbkophdaaaGreatDoor
open Go.RowKit Go.Wd Go.Box
set_option linter.unusedVariables false
set_option maxRecDepth 3000
theorem sgn_dv {n : Bool} {zs : List Int} {ex : Int} (g : DG n zs ex) (hz : 0 < zs.length) : ∃ s, sgn (dv n zs ex) 0 = s ∧ (s == 0) = false := by
  refine ⟨_, rfl, ?_⟩
  have hp := g.pos hz
  have hq := pK_pos ex
  have h0 : 0 < Nt.val zs * pK ex := Int.mul_pos hp hq
  unfold dv
  cases n
  · rw [sv_f]
    generalize Nt.val zs * pK ex = X at *
    unfold sgn
    first | (simp; omega) | (split <;> first | rfl | omega)
  · rw [sv_t, Int.neg_mul]
    generalize Nt.val zs * pK ex = X at *
    unfold sgn
    first | (simp; omega) | (split <;> first | rfl | omega)
theorem wOf_call (b n : Bool) (a : Option Addr) (c : Nat) (zs : List Int) (ex : Int) (w : World) (hl : Lie w a zs) (g : DG n zs ex) (hz : 0 < zs.length) (y k : Int)
    (H : ∀ W, Lie W a zs → Calls Tryz.prog 128 #[S b, dV n a zs.length c ex] W fun e w' => e = .returned (.tuple #[.int .u64 y, .int .i64 k]) ∧ Below W.heap.size W w') :
    Calls Tryz.prog 112 #[.int .u8 (fm b), dV n a zs.length c ex] w fun e w' => e = .returned (.tuple #[.int .u64 y, .int .i64 k]) ∧ Below w.heap.size w w' := by
  have B1 := (Bx.nil w).push (DO n a zs.length c ex)
  have u := g.lie hl
  obtain ⟨s, hs, hs2⟩ := sgn_dv g hz
  have HS := Hide.mk hs
  have HH := Hide.mk H
  clear hs H
  go_enter Tryz.func112, Tryz.ntmps112
  go_wp2_with fail
  refine (wShapeOf b _).mono ?_
  rintro e w2 ⟨rfl, h2⟩
  have B2 := (B1.keep h2).push (SO b)
  have hlt : w.heap.size < w2.heap.size := (B1.keep h2).lt (.head _)
  obtain ⟨⟨f0, f1, f2⟩, _⟩ := cells3 (B1.keep h2) w.heap.size _ _ _ _ (.head _)
  clear h2 B1
  go_wp2_with fail
  refine (u.may n c ex true g.may _ B2.bel).mono ?_
  rintro e w3 ⟨rfl, h3⟩
  have B3 := B2.keep h3
  obtain ⟨⟨f0, f1, f2⟩, _⟩ := cells3 B3 w.heap.size _ _ _ _ (.tail _ (.head _))
  have l3 := hl.below B3.bel (Nat.le_refl _)
  clear h3 B2 u
  go_wp2_with fail
  refine (dsign49 n a c zs ex _ _ l3 ⟨g, rfl⟩ s HS.out).mono ?_
  rintro e w4 ⟨rfl, h4⟩
  have B4 := B3.keep h4
  obtain ⟨⟨f0, f1, f2⟩, _⟩ := cells3 B4 w.heap.size _ _ _ _ (.tail _ (.head _))
  obtain ⟨e0, e1, e2, e3⟩ := shape_cells B4 w2.heap.size b (.head _)
  have l4 := hl.below B4.bel (Nat.le_refl _)
  have H4 := Hide.mk (HH.out w4 l4)
  clear h4 B3 l3 HH HS l4
  go_wp2_with fail
  refine H4.out.mono ?_
  rintro e w5 ⟨rfl, h5⟩
  have B5 := B4.keep h5
  clear h5 B4 f0 f1 f2 e0 e1 e2 e3 H4
  go_wp2
  go_ret2
  exact ⟨rfl, B5.bel⟩
theorem wOf_ok (b n : Bool) (a : Option Addr) (c : Nat) (zs : List Int) (ex : Int) (w : World) (hl : Lie w a zs) (g : DG n zs ex) (hz : 0 < zs.length) {B : Nat} (hB : BitLen (Nt.val zs) B) (hb : B ≤ 131072)
    (hc1 : uu b (B + ex) - lo b + 1 < tp b) (hc2 : uu b (B + ex) ≤ ex) (k : Nat) (hk : (k : Int) = ex - uu b (B + ex)) :
    Calls Tryz.prog 112 #[.int .u8 (fm b), dV n a zs.length c ex] w fun e w' => e = .returned (.tuple #[.int .u64 (sd b ((uu b (B + ex) - lo b) * fr b + Nt.val zs * 2 ^ k) n), .int .i64 0]) ∧ Below w.heap.size w w' :=
  wOf_call b n a c zs ex w hl g hz _ 0 (fun W hW => wWordOf b n a c zs ex W hW g hB hb hc1 hc2 k hk)
end Go.Proofs.YtchmljbkophdaaaGreatDoor

namespace Go.Proofs.YtchmljbkophdaaaGreatDoor
open Go.RowKit Go.Wd Go.Box
set_option linter.unusedVariables false
set_option maxRecDepth 3000
/-- What the fields make is taken apart into them. -/
theorem apart {b n : Bool} {E F : Int} (h0 : 0 ≤ E) (h1 : E ≤ tp b) (h2 : 0 ≤ F) (h3 : F < fr b) :
    Ok b (sd b (E * fr b + F) n) ∧ ng b (sd b (E * fr b + F) n) = n ∧ fd b (sd b (E * fr b + F) n) = E ∧ fn b (sd b (E * fr b + F) n) = F := by
  cases b <;> cases n <;> simp only [Ok, sd, ng, fd, fn, tp, fr, sg, if_true, Bool.false_eq_true, if_false, decide_eq_true_eq, decide_eq_false_iff_not] at * <;> omega
end Go.Proofs.YtchmljbkophdaaaGreatDoor

namespace Go.Proofs.YtchmljbkophdaaaGreatDoor
open Go.RowKit Go.Wd Go.Box
set_option linter.unusedVariables false
set_option maxRecDepth 3000
/-- Units, unit and value of a size. -/
def us (b : Bool) (s : Int) : Int := if s / fr b = 0 then s % fr b else fr b + s % fr b
def es (b : Bool) (s : Int) : Int := max (s / fr b - 1) 0 + lo b
def vz (b : Bool) (s : Int) : Int := us b s * pK (es b s)
end Go.Proofs.YtchmljbkophdaaaGreatDoor
