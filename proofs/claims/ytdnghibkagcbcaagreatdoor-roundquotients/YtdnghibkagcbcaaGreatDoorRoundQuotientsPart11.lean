import Derived.Test.YtdnghibkagcbcaaGreatDoorRoundQuotientsPart10
set_option maxHeartbeats 4000000
namespace Go.Proofs.YtdnghibkagcbcaaGreatDoor
open Go.RowKit Go.Wd Go.Box
set_option linter.unusedVariables false
set_option maxRecDepth 20000
abbrev DO2 (n1 : Bool) (a1 : Option Addr) (k1 c1 : Nat) (e1 : Int) (n2 : Bool) (a2 : Option Addr) (k2 c2 : Nat) (e2 : Int) : Obj := .cells #[.bool n1, .slice a1 k1 c1, .int .i64 e1, .bool n2, .slice a2 k2 c2, .int .i64 e2] 26 (0, 0)
theorem lenK (a : Option Addr) (ca : Nat) (za : List Int) (w : World) {x : Int} (ha : Lie w a za) (ga : Good za x) {B : Nat} (hB : BitLen x B) :
    Calls Tryz.prog 119 #[.slice a za.length ca] w fun e w' => e = .returned (.int .i64 B) ∧ Below w.heap.size w w' := by
  refine (lenN a ca za w ha ga).mono ?_
  rintro e w' ⟨rfl, B2, rfl, h, _⟩
  obtain rfl := h.unique hB
  exact ⟨rfl, Below.refl _ _⟩
theorem ask2 (bits : Int) (b : Nat) (m : Bool) (w : World) (HM : ∀ W, Below w.heap.size w W → Calls Tryz.prog 129 #[.slice (some ⟨b, 0, none⟩) 2 2] W fun e w' => e = .returned (.bool m) ∧ Below W.heap.size W w') :
    Calls Tryz.prog 113 #[.int .i64 bits, .slice (some ⟨b, 0, none⟩) 2 2] w fun e w' => e = .returned (.int .i64 (askB bits m)) ∧ Below w.heap.size w w' := by
  have H := Hide.mk (HM w (Below.refl _ _))
  clear HM
  by_cases h1 : bits < 1
  · rw [show askB bits m = 2 by unfold askB; rw [if_pos (.inl h1)]]
    go_enter Tryz.func113, Tryz.ntmps113
    go_wp2
    go_ret
    exact ⟨rfl, Below.refl _ _⟩
  · cases m
    · rw [show askB bits false = 2 by unfold askB; rw [if_pos (.inr rfl)]]
      go_enter Tryz.func113, Tryz.ntmps113
      go_wp2_with fail
      refine H.out.mono ?_
      rintro e w2 ⟨rfl, h2⟩
      clear H
      go_wp2
      go_ret
      exact ⟨rfl, h2⟩
    · by_cases h3 : 8192 < bits
      · rw [show askB bits true = 3 by unfold askB; rw [if_neg (by simp; omega), if_pos h3]]
        go_enter Tryz.func113, Tryz.ntmps113
        go_wp2_with fail
        refine H.out.mono ?_
        rintro e w2 ⟨rfl, h2⟩
        clear H
        go_wp2
        go_ret
        exact ⟨rfl, h2⟩
      · rw [show askB bits true = 0 by unfold askB; rw [if_neg (by simp; omega), if_neg h3]]
        go_enter Tryz.func113, Tryz.ntmps113
        go_wp2_with fail
        refine H.out.mono ?_
        rintro e w2 ⟨rfl, h2⟩
        clear H
        go_wp2
        go_ret
        exact ⟨rfl, h2⟩
theorem ask_ok {bits : Int} (h1 : 1 ≤ bits) (h2 : bits ≤ 8192) : askB bits true = 0 := by unfold askB; rw [if_neg (by simp; omega), if_neg (by omega)]
theorem quo_ask (n1 n2 : Bool) (a1 a2 : Option Addr) (c1 c2 : Nat) (z1 z2 : List Int) (e1 e2 bits code : Int) (w W : World) {L : List (Nat × Obj)} {g : Nat} (u1 : DLie w a1 z1) (u2 : DLie w a2 z2) (B : Bx w ((g, DO2 n1 a1 z1.length c1 e1 n2 a2 z2.length c2 e2) :: L) W) (hc : askB bits (dmayB n1 z1 e1 && dmayB n2 z2 e2) = code) :
    Calls Tryz.prog 113 #[.int .i64 bits, .slice (some ⟨g, 0, none⟩) 2 2] W fun e w' => e = .returned (.int .i64 code) ∧ Below W.heap.size W w' := by
  subst hc
  refine ask2 bits g _ W (fun W2 h2 => ?_)
  have B2 := B.keep h2
  exact dallMay2 g n1 a1 c1 z1 e1 n2 a2 c2 z2 e2 W2 (u1.below B2.bel) (u2.below B2.bel) _ _ rfl rfl (B2.cell g _ _ (.head _) 0) (B2.cell g _ _ (.head _) 1) (B2.cell g _ _ (.head _) 2) (B2.cell g _ _ (.head _) 3) (B2.cell g _ _ (.head _) 4) (B2.cell g _ _ (.head _) 5)
theorem quo_boxes (n1 n2 : Bool) (a1 a2 : Option Addr) (c1 c2 k1 k2 : Nat) (e1 e2 : Int) (w : World) :
    Bx w [(w.heap.size + 1 + 1 + 1, DO2 n1 a1 k1 c1 e1 n2 a2 k2 c2 e2), (w.heap.size + 1 + 1, DO false none 0 0 0), (w.heap.size + 1, DO n2 a2 k2 c2 e2), (w.heap.size, DO n1 a1 k1 c1 e1)] ((((w.alloc (DO n1 a1 k1 c1 e1)).alloc (DO n2 a2 k2 c2 e2)).alloc (DO false none 0 0 0)).alloc (DO2 n1 a1 k1 c1 e1 n2 a2 k2 c2 e2)) := by
  have B1 := ((((Bx.nil w).push (DO n1 a1 k1 c1 e1)).push (DO n2 a2 k2 c2 e2)).push (DO false none 0 0 0)).push (DO2 n1 a1 k1 c1 e1 n2 a2 k2 c2 e2)
  rw [show (((w.alloc (DO n1 a1 k1 c1 e1)).alloc (DO n2 a2 k2 c2 e2)).alloc (DO false none 0 0 0)).heap.size = w.heap.size + 1 + 1 + 1 by simp, show ((w.alloc (DO n1 a1 k1 c1 e1)).alloc (DO n2 a2 k2 c2 e2)).heap.size = w.heap.size + 1 + 1 by simp, show (w.alloc (DO n1 a1 k1 c1 e1)).heap.size = w.heap.size + 1 by simp] at B1
  exact B1
theorem g_size {n : Bool} {z : List Int} {ex : Int} (g : DG n z ex) {L : Nat} (b : Bits (Nt.val z) L) : L ≤ 131072 := by
  have := b.fits (n := 0) (by rw [Int.pow_zero, Int.mul_one]; exact g.good.lt.2)
  omega
theorem qf_nn {x y : Int} (hx : 0 ≤ x) (hy : 0 < y) (i : Int) : 0 ≤ qf x y i := Int.ediv_nonneg (Int.mul_nonneg hx (Int.le_of_lt (p2pos _))) (Int.mul_nonneg (by omega) (Int.le_of_lt (p2pos _)))

theorem quo_good (n1 n2 : Bool) (a1 a2 : Option Addr) (c1 c2 : Nat) (z1 z2 : List Int) (e1 e2 bits : Int) (w : World) (l1 : Lie w a1 z1) (l2 : Lie w a2 z2) (g1 : DG n1 z1 e1) (g2 : DG n2 z2 e2) (hT : Tab w) (hb1 : 1 ≤ bits) (hb2 : bits ≤ 8192) (hz1 : 0 < z1.length) (hz2 : 0 < z2.length) {La Lb : Nat} (bx : Bits (Nt.val z1) La) (bY : Bits (Nt.val z2) Lb) (up : Int) (hup : bits + Lb - La = up) {B : Nat} (hB : BitLen (qf (Nt.val z1) (Nt.val z2) up) B) (hB2 : B ≤ 131072) (d : Nat) (hd : max ((B : Int) - bits) 0 = (d : Int)) :
    Calls Tryz.prog 95 #[dV n1 a1 z1.length c1 e1, dV n2 a2 z2.length c2 e2, .int .i64 bits] w fun e w' => DCut w w' (sv (n1 != n2) (qf (Nt.val z1) (Nt.val z2) up / 2 ^ d)) (e1 - e2 - up + d) (decide (qf (Nt.val z1) (Nt.val z2) up % 2 ^ d ≠ 0) || qg (Nt.val z1) (Nt.val z2) up) e := by
  have B1 := quo_boxes n1 n2 a1 a2 c1 c2 z1.length z2.length e1 e2 w
  have H := Hide.mk (quo_ask n1 n2 a1 a2 c1 c2 z1 z2 e1 e2 bits 0 w _ (g1.lie l1) (g2.lie l2) B1 (by rw [g1.may, g2.may]; exact ask_ok hb1 hb2))
  have HN := fun W => Hide.mk (nought_no a2 z2.length c2 W hz2)
  have HM := fun W => Hide.mk (nought_no a1 z1.length c1 W hz1)
  have p1 := g1.pos hz1
  have p2 := g2.pos hz2
  have s1 := g_size g1 bx
  have s2 := g_size g2 bY
  have x1 := g1.ex_bd
  have x2 := g2.ex_bd
  have HLb := fun W (h : Below w.heap.size w W) => lenK a2 c2 z2 W (l2.below h (Nat.le_refl _)) g2.good (B := Lb) (.inr ⟨p2, bY⟩)
  have HLa := fun W (h : Below w.heap.size w W) => lenK a1 c1 z1 W (l1.below h (Nat.le_refl _)) g1.good (B := La) (.inr ⟨p1, bx⟩)
  have HW := fun W (h : Below w.heap.size w W) => Hide.mk (wholeQuoC a1 a2 c1 c2 z1 z2 W (l1.below h (Nat.le_refl _)) (l2.below h (Nat.le_refl _)) g1.good g2.good (hT.below h (Nat.le_refl _)) p1 p2 bx bY s1 s2 bits hb1 hb2 up hup.symm)
  have HC := fun (zq : List Int) (aq : Option Addr) (cq : Nat) W (h : Below w.heap.size w W) (lq : Lie W aq zq) (gq : Good zq (qf (Nt.val z1) (Nt.val z2) up)) => Hide.mk (cutC (n1 != n2) aq cq zq (e1 - e2 - up) bits (qg (Nt.val z1) (Nt.val z2) up) W lq gq (hT.below h (Nat.le_refl _)) hb1 hb2 (by omega) (by omega) hB hB2 d hd)
  have HU := Hide.mk hup
  have u1 : -200000 ≤ up := by omega
  have u2 : up ≤ 200000 := by omega
  have v1 : -200000 ≤ bits + (Lb : Int) := by omega
  have v2 : bits + (Lb : Int) ≤ 200000 := by omega
  have y1 := x1.1
  have y2 := x1.2
  have y3 := x2.1
  have y4 := x2.2
  clear l1 l2 hz1 hz2 hB hd hup x1 x2 hT
  generalize hQ : qf (Nt.val z1) (Nt.val z2) up = Q at *
  generalize hG : qg (Nt.val z1) (Nt.val z2) up = G at *
  go_enter Tryz.func95, Tryz.ntmps95
  go_wp2_with fail
  refine H.out.mono ?_
  rintro e w2 ⟨rfl, h2⟩
  have HF := (B1.keep h2).sub (L' := [(w.heap.size + 1 + 1, DO false none 0 0 0), (w.heap.size + 1, DO n2 a2 z2.length c2 e2), (w.heap.size, DO n1 a1 z1.length c1 e1)]) (by simp)
  clear h2 B1 H
  obtain ⟨⟨s0, s1, s2⟩, _⟩ := cells3 HF (w.heap.size + 1) _ _ _ _ (.tail _ (.head _))
  obtain ⟨⟨q0, q1, q2⟩, _⟩ := cells3 HF (w.heap.size) _ _ _ _ (.tail _ (.tail _ (.head _)))
  go_wp2_with fail
  refine (HN _).out.mono ?_
  rintro e w3 ⟨rfl, rfl⟩
  clear HN s0 s1 s2
  go_wp2_with fail
  refine (HM _).out.mono ?_
  rintro e w3 ⟨rfl, rfl⟩
  clear HM q0 q1 q2
  go_wp2_with fail
  replace HF := HF.drew
  have HI := HF
  have sh := fun W (hW : Bx w [(w.heap.size + 1 + 1, DO false none 0 0 0), (w.heap.size + 1, DO n2 a2 z2.length c2 e2), (w.heap.size, DO n1 a1 z1.length c1 e1)] W) => And.intro (cells3 hW (w.heap.size + 1) _ _ _ _ (.tail _ (.head _))).1 (cells3 hW w.heap.size _ _ _ _ (.tail _ (.tail _ (.head _)))).1
  refine Drawn.enter (Bx w [(w.heap.size + 1 + 1, DO false none 0 0 0), (w.heap.size + 1, DO n2 a2 z2.length c2 e2), (w.heap.size, DO n1 a1 z1.length c1 e1)]) (by kernel_rfl) ?_
  refine Drawn.tk (i := 0) (v := ?v260) rfl (fun W hW => ?_) HI ?_
  rotate_left
  · have ⟨⟨s0, s1, s2⟩, q0, q3, q4⟩ := sh W hW
    go_simp <;> exact rfl
  refine Drawn.tk (i := 1) (v := ?v261) rfl (fun W hW => ?_) HI ?_
  rotate_left
  · have ⟨⟨s0, s1, s2⟩, q0, q3, q4⟩ := sh W hW
    go_simp <;> exact rfl
  refine Drawn.tk (i := 2) (v := ?v262) rfl (fun W hW => ?_) HI ?_
  rotate_left
  · have ⟨⟨s0, s1, s2⟩, q0, q3, q4⟩ := sh W hW
    go_simp <;> exact rfl
  refine Drawn.tk (i := 5) (v := ?v263) rfl (fun W hW => ?_) HI ?_
  rotate_left
  · have ⟨⟨s0, s1, s2⟩, q0, q3, q4⟩ := sh W hW
    go_simp <;> exact rfl
  refine Drawn.tk (i := 6) (v := ?v264) rfl (fun W hW => ?_) HI ?_
  rotate_left
  · have ⟨⟨s0, s1, s2⟩, q0, q3, q4⟩ := sh W hW
    go_simp <;> exact rfl
  refine Drawn.one (j := 3) (by kernel_rfl) rfl (fun K hK => ?_)
  go_simp
  refine (HLb _ HI.bel).mono ?_
  rintro e wn ⟨rfl, hn⟩
  refine hK _ _ (HI.keep hn) ?_
  clear hK K
  replace HI := HI.keep hn
  replace HF := HF.keep hn
  clear hn
  refine Drawn.tk (i := 4) (v := ?v265) rfl (fun W hW => ?_) HI ?_
  rotate_left
  · have ⟨⟨s0, s1, s2⟩, q0, q3, q4⟩ := sh W hW
    go_simp <;> exact rfl
  refine Drawn.one (j := 7) (by kernel_rfl) rfl (fun K hK => ?_)
  go_simp
  refine (HLa _ HI.bel).mono ?_
  rintro e wn ⟨rfl, hn⟩
  refine hK _ _ (HI.keep hn) ?_
  clear hK K
  replace HI := HI.keep hn
  replace HF := HF.keep hn
  clear hn
  refine Drawn.tk (i := 8) (v := ?v266) rfl (fun W hW => ?_) HI ?_
  rotate_left
  · have ⟨⟨s0, s1, s2⟩, q0, q3, q4⟩ := sh W hW
    go_simp <;> exact rfl
  refine Drawn.tk (i := 9) (v := ?v267) rfl (fun W hW => ?_) HI ?_
  rotate_left
  · have ⟨⟨s0, s1, s2⟩, q0, q3, q4⟩ := sh W hW
    go_simp <;> exact rfl
  refine Drawn.done (by kernel_rfl) ?_
  try go_simp
  obtain ⟨⟨s0, s1, s2⟩, _⟩ := cells3 HF (w.heap.size + 1) _ _ _ _ (.tail _ (.head _))
  obtain ⟨⟨q0, q1, q2⟩, _⟩ := cells3 HF (w.heap.size) _ _ _ _ (.tail _ (.tail _ (.head _)))
  go_wp2_with fail
  rw [HU.out]
  refine (HW _ HF.bel).out.mono ?_
  rintro e w5 ⟨zq, aq, cq, rfl, gq, lq, h5⟩
  replace HF := HF.keep h5
  have HC2 := HC zq aq cq _ HF.bel lq gq
  clear HC HW h5 s0 s1 s2 q0 q1 q2
  obtain ⟨⟨s0, s1, s2⟩, _⟩ := cells3 HF (w.heap.size + 1) _ _ _ _ (.tail _ (.head _))
  obtain ⟨⟨q0, q1, q2⟩, _⟩ := cells3 HF (w.heap.size) _ _ _ _ (.tail _ (.tail _ (.head _)))
  go_wp2_with fail
  rw [HU.out, show (!n1 == n2) = (n1 != n2) from rfl]
  refine HC2.out.mono ?_
  rintro e w4 ⟨n4, a4, k4, c4, x4, code, lost, rfl, h4, h5, h6⟩
  have hlt : w.heap.size + 1 + 1 < w5.heap.size := HF.lt (p := (w.heap.size + 1 + 1, DO false none 0 0 0)) (.head _)
  have HFb := HF.bel
  have B4 := (HF.keep h4.bel).sub (L' := [(w.heap.size + 1 + 1, DO false none 0 0 0)]) (by simp)
  have V := Hide.mk (And.intro h4 (And.intro h5 h6))
  clear h4 h5 h6 s0 s1 s2 q0 q1 q2 HC2 HF
  obtain ⟨⟨t0, t1, t2⟩, u0, u1, u2⟩ := cells3 B4 (w.heap.size + 1 + 1) _ _ _ _ (.head _)
  go_wp2
  refine bodyPost_ret (results_D3 rfl _ _ (w.heap.size + 1 + 1) _ rfl ⟨(B4.fill3 (by omega) (by simp) _ _ _).head, rfl⟩) rfl ?_
  exact ⟨n4, a4, k4, c4, x4, code, lost, rfl, V.out.1.back HFb (by omega) hlt _ _ _, V.out.2.1, V.out.2.2⟩

set_option maxRecDepth 3000
def RCut (w w' : World) (s E : Int) (q : Bool) (e : Ending) : Prop :=
  ∃ n zs ex a c, e = .returned (.tuple #[dV n a zs.length c ex, .bool q]) ∧ Fm s E n zs ex ∧ Lie w' a zs ∧ Below w.heap.size w w'
theorem rFloor0 (n : Bool) (a : Option Addr) (c : Nat) (zs : List Int) (ex : Int) (w : World) (hl : Lie w a zs) (g : DG n zs ex) (h0 : 0 ≤ ex) :
    Calls Tryz.prog 91 #[dV n a zs.length c ex] w fun e w' => RF w w' (dv n zs ex / 2 ^ KK * 2 ^ KK) (-(KK : Int)) e := by
  have B1 := ((Bx.nil w).push (DO n a zs.length c ex)).push (DO n a zs.length c ex)
  go_enter Tryz.func91, Tryz.ntmps91
  go_wp2
  refine bodyPost_ret (results_D1 rfl _ _ (w.heap.size + 1) _ rfl ⟨by simpa using B1.head, rfl⟩) rfl ?_
  exact ⟨n, zs, ex, a, c, rfl, by rw [floor_whole h0]; exact (⟨g, rfl⟩ : DN n zs ex (dv n zs ex)).fm, hl.below B1.bel (Nat.le_refl _), B1.bel⟩
theorem rFloorP (a : Option Addr) (c : Nat) (zs : List Int) (ex : Int) (w : World) (hl : Lie w a zs) (g : DG false zs ex) (k : Nat) (hk : -ex = (k : Int)) (hk1 : 1 ≤ k) (hx : ex < 0) (hx1 : -16777216 ≤ ex) (hq : decide (Nt.val zs % 2 ^ k ≠ 0) = true) :
    Calls Tryz.prog 91 #[dV false a zs.length c ex] w fun e w' => RF w w' (sv false (Nt.val zs / 2 ^ k)) 0 e := by
  have B1 := ((Bx.nil w).push (DO false a zs.length c ex)).push (DO false none 0 0 0)
  rw [show (w.alloc (DO false a zs.length c ex)).heap.size = w.heap.size + 1 by simp] at B1
  have HD := Hide.mk (refDownAny a c zs _ (hl.below B1.bel (Nat.le_refl _)) g.good (-ex) k hk (by omega) true hq)
  clear hq hk hl
  go_enter Tryz.func91, Tryz.ntmps91
  go_wp2_with fail
  refine HD.out.mono ?_
  rintro e w3 ⟨z3, a3, c3, rfl, h3⟩
  have B3 := B1.keep h3.bel
  have hlt : w.heap.size + 1 < w3.heap.size := B3.lt (.head _)
  have HF := Hide.mk (formX false a3 c3 z3 0 w3 h3.lie h3.can (by have := h3.len; omega) (by decide) (by decide))
  have hv := h3.val
  clear h3 B1 HD
  obtain ⟨⟨s0, s1, s2⟩, _⟩ := cells3 B3 w.heap.size _ _ _ _ (.tail _ (.head _))
  go_wp2_with fail
  refine HF.out.mono ?_
  rintro e w4 ⟨n4, z4, x4, a4, c4, rfl, F4, l4, h4⟩
  have B4 := B3.keep h4
  rw [hv] at F4
  have H := Hide.mk (And.intro F4 l4)
  clear HF h4 s0 s1 s2 F4 l4
  obtain ⟨⟨t0, t1, t2⟩, u0, u1, u2⟩ := cells3 B4 (w.heap.size + 1) _ _ _ _ (.head _)
  go_wp2
  refine bodyPost_ret (results_D1 rfl _ _ (w.heap.size + 1) _ rfl ⟨(B4.fill3 (by omega) (by simp) _ _ _).head, rfl⟩) rfl ?_
  have L := Live.set3 (g := w.heap.size + 1) ⟨B4.head, rfl⟩ (.bool n4) (.slice a4 z4.length c4) (.int .i64 x4) (Live.one H.out.2)
  exact ⟨n4, z4, x4, a4, c4, rfl, H.out.1, L.all (a4, z4) (.head _), (B4.fill3 (by omega) (by simp) _ _ _).bel⟩
theorem rFloorN (a : Option Addr) (c : Nat) (zs : List Int) (ex : Int) (w : World) (hl : Lie w a zs) (g : DG true zs ex) (k : Nat) (hk : -ex = (k : Int)) (hk1 : 1 ≤ k) (hx : ex < 0) (hx1 : -16777216 ≤ ex) (hq : decide (Nt.val zs % 2 ^ k ≠ 0) = true) :
    Calls Tryz.prog 91 #[dV true a zs.length c ex] w fun e w' => RF w w' (sv true (Nt.val zs / 2 ^ k + 1)) 0 e := by
  have B1 := ((Bx.nil w).push (DO true a zs.length c ex)).push (DO false none 0 0 0)
  rw [show (w.alloc (DO true a zs.length c ex)).heap.size = w.heap.size + 1 by simp] at B1
  have HD := Hide.mk (refDownAny a c zs _ (hl.below B1.bel (Nat.le_refl _)) g.good (-ex) k hk (by omega) true hq)
  clear hq hk hl
  go_enter Tryz.func91, Tryz.ntmps91
  go_wp2_with fail
  refine HD.out.mono ?_
  rintro e w3 ⟨z3, a3, c3, rfl, h3⟩
  have B3 := B1.keep h3.bel
  have hv := h3.val
  have hc3 := h3.can
  have hl3 := h3.len
  have ba := below_alloc w3 (.cells #[.int .u32 1] 108 (0, 0))
  have HA := Hide.mk (refAdd23 a3 (some ⟨w3.heap.size, 0, none⟩) c3 1 z3 [1] _ (h3.lie.below ba (Nat.le_refl _)) (by have := lie_new w3 [1]; simpa using this) hc3.1 (can_cons (by decide) (by decide) Nt.can_nil (by intro _; decide)).1 (by omega) (by simp))
  clear h3 B1 HD
  obtain ⟨⟨s0, s1, s2⟩, _⟩ := cells3 B3 w.heap.size _ _ _ _ (.tail _ (.head _))
  go_wp2_with fail
  refine HA.out.mono ?_
  rintro e w5 ⟨z5, a5, c5, rfl, h5, h6, h7, h8⟩
  have B5 := B3.keep (below_then ba h8)
  have hlt : w.heap.size + 1 < w5.heap.size := B5.lt (.head _)
  obtain ⟨a6, c6, he, _, _, l5⟩ := h5.lie
  simp only [Value.slice.injEq, true_and] at he
  obtain ⟨rfl, rfl⟩ := he
  rw [hv, val_one] at h7
  have hlen : z5.length ≤ 10000 := by
    have : z5.length ≤ 4097 := (Nt.can_len h6 4097).1 (by
      have e1 := (Nt.can_len hc3 4096).2 hl3
      rw [hv] at e1
      rw [h7, Nt.pw_succ 4096]
      have := Nt.pw_pos 4096
      omega)
    omega
  have HF := Hide.mk (formX true a5 c5 z5 0 w5 l5 h6 hlen (by decide) (by decide))
  clear h5 h8 HA s0 s1 s2 B3 ba l5
  obtain ⟨⟨s0, s1, s2⟩, _⟩ := cells3 B5 w.heap.size _ _ _ _ (.tail _ (.head _))
  go_wp2_with fail
  refine HF.out.mono ?_
  rintro e w4 ⟨n4, z4, x4, a4, c4, rfl, F4, l4, h4⟩
  have B4 := B5.keep h4
  rw [h7] at F4
  have H := Hide.mk (And.intro F4 l4)
  clear HF h4 s0 s1 s2 F4 l4
  obtain ⟨⟨t0, t1, t2⟩, u0, u1, u2⟩ := cells3 B4 (w.heap.size + 1) _ _ _ _ (.head _)
  go_wp2
  refine bodyPost_ret (results_D1 rfl _ _ (w.heap.size + 1) _ rfl ⟨(B4.fill3 (by omega) (by simp) _ _ _).head, rfl⟩) rfl ?_
  have L := Live.set3 (g := w.heap.size + 1) ⟨B4.head, rfl⟩ (.bool n4) (.slice a4 z4.length c4) (.int .i64 x4) (Live.one H.out.2)
  exact ⟨n4, z4, x4, a4, c4, rfl, H.out.1, L.all (a4, z4) (.head _), (B4.fill3 (by omega) (by simp) _ _ _).bel⟩
theorem rFloorD (n : Bool) (a : Option Addr) (c : Nat) (zs : List Int) (ex : Int) (w : World) (hl : Lie w a zs) (g : DG n zs ex) :
    Calls Tryz.prog 91 #[dV n a zs.length c ex] w fun e w' => RF w w' (dv n zs ex / 2 ^ KK * 2 ^ KK) (-(KK : Int)) e := by
  by_cases h0 : 0 ≤ ex
  · exact rFloor0 n a c zs ex w hl g h0
  · have hz : 0 < zs.length := by
      by_cases q : 0 < zs.length
      · exact q
      · have := (g.nil (by omega)).2.2; omega
    have hx := g.ex_bd
    obtain ⟨k, hk⟩ : ∃ k : Nat, -ex = (k : Int) := ⟨(-ex).toNat, by omega⟩
    have hq : decide (Nt.val zs % 2 ^ k ≠ 0) = true := by rw [← low_lost (odd_low (g.odd hz))]; exact decide_eq_true (by omega)
    have hK := KK_int
    have hp := floor_part (ng := n) (zs := zs) (ex := ex) (k := k) (by omega) (by omega) (by omega) (g.odd hz) _ rfl
    cases n
    · refine (rFloorP a c zs ex w hl g k hk (by omega) (by omega) hx.1 hq).mono ?_
      rintro e w' ⟨n4, z4, x4, a4, c4, rfl, F4, l4, h4⟩
      have F5 := F4.toK (by omega)
      simp only [Bool.false_eq_true, if_false] at hp
      rw [hp] at F5
      exact ⟨n4, z4, x4, a4, c4, rfl, F5, l4, h4⟩
    · refine (rFloorN a c zs ex w hl g k hk (by omega) (by omega) hx.1 hq).mono ?_
      rintro e w' ⟨n4, z4, x4, a4, c4, rfl, F4, l4, h4⟩
      have F5 := F4.toK (by omega)
      simp only [if_true] at hp
      rw [hp] at F5
      exact ⟨n4, z4, x4, a4, c4, rfl, F5, l4, h4⟩

theorem DV.num {w w' : World} {s E : Int} {n : Bool} {a : Option Addr} {k c : Nat} {ex code : Int} (h : DV w w' s E n a k c ex code) (hs : (s.natAbs : Int) < 4294967296 ^ 4096) (hr : s = 0 ∨ ∃ t : Nat, LowBit (s.natAbs : Int) t ∧ -16777216 ≤ E + t ∧ E + t ≤ 16777216) :
    code = 0 ∧ ∃ zs : List Int, k = zs.length ∧ zs.length ≤ 4096 ∧ Fm s E n zs ex ∧ Lie w' a zs ∧ WrA w.heap.size w' a zs.length := by
  rcases h.all with ⟨h0, rfl, rfl, rfl, rfl, rfl, rfl⟩ | ⟨h0, t, ht, hh⟩
  · exact ⟨rfl, [], rfl, by simp, .inl ⟨h0, rfl, rfl, rfl⟩, .inl rfl, .inl rfl⟩
  · rcases hr with hr | ⟨r, hr, r1, r2⟩
    · exact absurd hr h0
    · obtain rfl := ht.unique hr
      rcases hh with ⟨j1, j2, rfl, rfl, rfl, zs, rfl, j6, j7⟩ | ⟨j1, _⟩ | ⟨_, j1, _⟩
      · obtain ⟨a2, c2, he, _, _, hl2⟩ := j7.lie
        simp only [Value.slice.injEq, true_and] at he
        obtain ⟨rfl, rfl⟩ := he
        exact ⟨rfl, zs, rfl, j6.len, .inr ⟨h0, t, ht, rfl, rfl, j6.can, j6.val⟩, hl2, j7.wrA⟩
      · have : (s.natAbs : Int) / 2 ^ t ≤ (s.natAbs : Int) := Int.ediv_le_self _ (by omega)
        exact absurd (Int.lt_of_le_of_lt this hs) (Int.not_lt.2 j1)
      · omega
theorem sv_lt {n : Bool} {zs : List Int} {ex : Int} (g : DG n zs ex) (d : Nat) : ((sv n (Nt.val zs / 2 ^ d)).natAbs : Int) < 4294967296 ^ 4096 := by
  have h1 := g.good.lt
  have h2 : Nt.val zs / 2 ^ d ≤ Nt.val zs := Int.ediv_le_self _ h1.1
  have h3 := Int.ediv_nonneg h1.1 (Int.le_of_lt (p2pos d))
  rw [sv_abs _ h3]
  exact Int.lt_of_le_of_lt h2 h1.2
def shx (zs : List Int) (ex cnt : Int) : Int := if zs.length = 0 then 0 else ex + cnt
theorem cut_near (n : Bool) (a : Option Addr) (c : Nat) (zs : List Int) (ex bits : Int) (w : World) (hl : Lie w a zs) (g : DG n zs ex) (hT : Tab w) (hb1 : 1 ≤ bits) (hb2 : bits ≤ 8192) {B : Nat} (hB : BitLen (Nt.val zs) B) (hB2 : B ≤ 131072) (d : Nat) (hd : max ((B : Int) - bits) 0 = (d : Int)) (q : Bool) (hq : decide (Nt.val zs % 2 ^ d ≠ 0) = q) {s : Int} (hs : sv n (Nt.val zs / 2 ^ d) = s) (hr : s = 0 ∨ ∃ t : Nat, LowBit (s.natAbs : Int) t ∧ ex + d + t ≤ 16777216) :
    Calls Tryz.prog 80 #[dV n a zs.length c ex, .int .i64 bits] w fun e w' => ∃ n' z' x' a' c', e = .returned (.tuple #[dV n' a' z'.length c' x', .bool q, .int .i64 0]) ∧ Fm s (ex + d) n' z' x' ∧ z'.length ≤ 4096 ∧ Lie w' a' z' ∧ WrA w.heap.size w' a' z'.length ∧ Below w.heap.size w w' := by
  refine (cut_good n a c zs ex bits w hl g hT hb1 hb2 hB hB2 d hd).mono ?_
  rintro e w' ⟨n4, a4, k4, c4, x4, code, lost, rfl, h4, h5, h6⟩
  rw [hs] at h4
  have hx := g.ex_bd
  obtain ⟨rfl, z2, rfl, h7, F, l2, w2⟩ := h4.num (by rw [← hs]; exact sv_lt g d) (by
    rcases hr with hr | ⟨t, ht, hr⟩
    · exact .inl hr
    · exact .inr ⟨t, ht, by omega, hr⟩)
  obtain rfl := h5 rfl
  rw [hq, Bool.or_false]
  exact ⟨n4, z2, x4, a4, c4, rfl, F, h7, l2, w2, h4.bel⟩

theorem refLenK (a : Option Addr) (ca : Nat) (za : List Int) (w : World) {x : Int} (ha : Lie w a za) (ga : Good za x) {B : Nat} (hB : BitLen x B) :
    Calls Tryz.prog 89 #[.slice a za.length ca] w fun e w' => e = .returned (.int .i64 B) ∧ Below w.heap.size w w' := by
  refine (refLenN a ca za w ha ga).mono ?_
  rintro e w' ⟨rfl, B2, rfl, h, _⟩
  obtain rfl := h.unique hB
  exact ⟨rfl, Below.refl _ _⟩
theorem rCut0X (n : Bool) (a : Option Addr) (c : Nat) (zs : List Int) (ex bits : Int) (w : World) {x : Int} (hl : Lie w a zs) (ga : Good zs x) (hb1 : 1 ≤ bits) (hb2 : bits ≤ 8192) {B : Nat} (hB : BitLen x B) (hd : (B : Int) - bits ≤ 0) :
    Calls Tryz.prog 97 #[dV n a zs.length c ex, .int .i64 bits] w fun e w' => e = .returned (.tuple #[dV n a zs.length c ex, .bool false]) ∧ Below w.heap.size w w' := by
  have B1 := ((Bx.nil w).push (DO n a zs.length c ex)).push (DO n a zs.length c ex)
  have b0 := ((Bx.nil w).push (DO n a zs.length c ex)).push (DO false none 0 0 0)
  have HL := fun W (h : Below w.heap.size w W) => Hide.mk (refLenK a c zs W (hl.below h (Nat.le_refl _)) ga hB)
  clear hB hl
  go_enter Tryz.func97, Tryz.ntmps97
  go_wp2_with fail
  refine (HL _ b0.bel).out.mono ?_
  rintro e w2 ⟨rfl, h2⟩
  have b2 := b0.keep h2
  rw [show (w.alloc (DO n a zs.length c ex)).heap.size = w.heap.size + 1 by simp] at b2
  obtain ⟨⟨s0, s1, s2⟩, _⟩ := cells3 b2 w.heap.size _ _ _ _ (.tail _ (.head _))
  obtain ⟨⟨t0, t1, t2⟩, u0, u1, u2⟩ := cells3 b2 (w.heap.size + 1) _ _ _ _ (.head _)
  clear HL b0 h2
  go_wp2
  refine bodyPost_ret (results_D2 rfl _ _ (w.heap.size + 1) _ rfl ⟨(b2.fill3 (by omega) (by simp) _ _ _).head, rfl⟩) rfl ?_
  exact ⟨rfl, (b2.fill3 (by omega) (by simp) _ _ _).bel⟩
theorem rCut1X (n : Bool) (a : Option Addr) (c : Nat) (zs : List Int) (ex bits : Int) (w : World) {x : Int} (hl : Lie w a zs) (ga : Good zs x) (hx1 : -100000000 ≤ ex) (hx2 : ex ≤ 100000000) (hb1 : 1 ≤ bits) (hb2 : bits ≤ 8192) {B : Nat} (hB : BitLen x B) (hB3 : B ≤ 131072) (d : Nat) (hd : (B : Int) - bits = (d : Int)) (hd0 : 0 < (d : Int)) (q : Bool) (hq : decide (x % 2 ^ d ≠ 0) = q) :
    Calls Tryz.prog 97 #[dV n a zs.length c ex, .int .i64 bits] w fun e w' => RCut w w' (sv n (x / 2 ^ d)) (ex + d) q e := by
  have B1 := ((Bx.nil w).push (DO n a zs.length c ex)).push (DO false none 0 0 0)
  rw [show (w.alloc (DO n a zs.length c ex)).heap.size = w.heap.size + 1 by simp] at B1
  have HL := fun W (h : Below w.heap.size w W) => Hide.mk (refLenK a c zs W (hl.below h (Nat.le_refl _)) ga hB)
  have hd3 : (d : Int) ≤ 131072 := by omega
  have h0 : 0 < (B : Int) - bits := by omega
  have h9 : (B : Int) - bits ≤ 131072 := by omega
  have HR := fun W (h : Below w.heap.size w W) => Hide.mk (refDownAny a c zs W (hl.below h (Nat.le_refl _)) ga _ d hd (by omega) q hq)
  have HD := Hide.mk hd
  clear hB hd hl
  go_enter Tryz.func97, Tryz.ntmps97
  go_wp2_with fail
  refine (HL _ B1.bel).out.mono ?_
  rintro e w2 ⟨rfl, h2⟩
  replace B1 := B1.keep h2
  clear HL h2
  obtain ⟨⟨s0, s1, s2⟩, _⟩ := cells3 B1 w.heap.size _ _ _ _ (.tail _ (.head _))
  go_wp2_with fail
  refine (HR _ B1.bel).out.mono ?_
  rintro e w3 ⟨z3, a3, c3, rfl, h3⟩
  have B3 := B1.keep h3.bel
  have hlt : w.heap.size + 1 < w3.heap.size := B3.lt (.head _)
  have HF := Hide.mk (formX n a3 c3 z3 (ex + ((B : Int) - bits)) w3 h3.lie h3.can (by have := h3.len; omega) (by omega) (by omega))
  have hv := h3.val
  clear h3 B1 HR s0 s1 s2
  obtain ⟨⟨s0, s1, s2⟩, _⟩ := cells3 B3 w.heap.size _ _ _ _ (.tail _ (.head _))
  go_wp2_with fail
  refine HF.out.mono ?_
  rintro e w4 ⟨n4, z4, x4, a4, c4, rfl, F4, l4, h4⟩
  have B4 := B3.keep h4
  rw [hv, HD.out] at F4
  have H := Hide.mk (And.intro F4 l4)
  clear HF h4 s0 s1 s2 F4 l4
  obtain ⟨⟨t0, t1, t2⟩, u0, u1, u2⟩ := cells3 B4 (w.heap.size + 1) _ _ _ _ (.head _)
  go_wp2
  refine bodyPost_ret (results_D2 rfl _ _ (w.heap.size + 1) _ rfl ⟨(B4.fill3 (by omega) (by simp) _ _ _).head, rfl⟩) rfl ?_
  have L := Live.set3 (g := w.heap.size + 1) ⟨B4.head, rfl⟩ (.bool n4) (.slice a4 z4.length c4) (.int .i64 x4) (Live.one H.out.2)
  exact ⟨n4, z4, x4, a4, c4, rfl, H.out.1, L.all (a4, z4) (.head _), (B4.fill3 (by omega) (by simp) _ _ _).bel⟩
theorem low_split {q : Int} {t : Nat} (h : LowBit q t) (d : Nat) : decide (q % 2 ^ (t + d) ≠ 0) = decide (q / 2 ^ t % 2 ^ d ≠ 0) := by
  rw [Int.pow_add, mod_split (p2pos t), h.zero, Int.add_zero]
  have := p2pos t
  by_cases c : q / 2 ^ t % 2 ^ d = 0
  · rw [c]; simp
  · have e1 : decide (2 ^ t * (q / 2 ^ t % 2 ^ d) ≠ 0) = true := decide_eq_true (Int.mul_ne_zero (by omega) c)
    have e2 : decide (q / 2 ^ t % 2 ^ d ≠ 0) = true := decide_eq_true c
    rw [e1, e2]
theorem low_le {q : Int} {t d : Nat} (h : LowBit q t) (hd : d ≤ t) : q % 2 ^ d = 0 ∧ LowBit (q / 2 ^ d) (t - d) ∧ q / 2 ^ d / 2 ^ (t - d) = q / 2 ^ t := by
  have e : q / 2 ^ d / 2 ^ (t - d) = q / 2 ^ t := by rw [← cut_div (p2pos d), ← Int.pow_add, show d + (t - d) = t by omega]
  have z := h.zero
  have k : (2 : Int) ^ t = 2 ^ d * 2 ^ (t - d) := by rw [← Int.pow_add, show d + (t - d) = t by omega]
  rw [k] at z
  have m := mod_split (N := q) (p2pos d) (t - d)
  rw [z] at m
  have a := Int.emod_nonneg (q / 2 ^ d) (show (2 : Int) ^ (t - d) ≠ 0 by have := p2pos (t - d); omega)
  have b := Int.emod_nonneg q (show (2 : Int) ^ d ≠ 0 by have := p2pos d; omega)
  have c := Int.mul_nonneg (Int.le_of_lt (p2pos d)) a
  have z1 : q % 2 ^ d = 0 := by omega
  have z2 : 2 ^ d * (q / 2 ^ d % 2 ^ (t - d)) = 0 := by omega
  have z3 : q / 2 ^ d % 2 ^ (t - d) = 0 := by
    rcases Int.mul_eq_zero.1 z2 with h | h
    · have := p2pos d; omega
    · exact h
  exact ⟨z1, ⟨z3, by rw [e]; exact h.one⟩, e⟩
theorem sv_abs2 (n : Bool) {x : Int} (h : 0 ≤ x) : ((sv n x).natAbs : Int) = x := by
  cases n
  · rw [sv_f]; omega
  · rw [sv_t]; omega
theorem sv_dec (n : Bool) {x : Int} (h : 0 < x) : decide (sv n x < 0) = n := by
  cases n
  · rw [sv_f]; exact decide_eq_false (by omega)
  · rw [sv_t]; exact decide_eq_true (by omega)
theorem sv_ne (n : Bool) {x : Int} (h : 0 < x) : sv n x ≠ 0 := by
  cases n
  · rw [sv_f]; omega
  · rw [sv_t]; omega
theorem rCutW (n0 n : Bool) (a : Option Addr) (c : Nat) (zs : List Int) (ex bits E : Int) (w : World) {q : Int} (hq0 : 0 < q) (hl : Lie w a zs) (F : Fm (sv n0 q) E n zs ex) (hx1 : -90000000 ≤ E) (hx2 : E ≤ 90000000) (hb1 : 1 ≤ bits) (hb2 : bits ≤ 8192) {C : Nat} (hC : BitLen q C) (hC3 : C ≤ 131072) (d : Nat) (hd : max ((C : Int) - bits) 0 = (d : Int)) (g : Bool) (hg : decide (q % 2 ^ d ≠ 0) = g) :
    Calls Tryz.prog 97 #[dV n a zs.length c ex, .int .i64 bits] w fun e w' => RCut w w' (sv n0 (q / 2 ^ d)) (E + d) g e := by
  rcases F with ⟨h, _⟩ | ⟨_, t, ht, rfl, rfl, hc, hv⟩
  · exact absurd h (sv_ne n0 hq0)
  · rw [sv_abs2 n0 (by omega)] at ht hv
    rw [sv_dec n0 hq0]
    have bz := hC.down t
    rw [← hv] at bz
    have ht3 : t < C := by
      refine Classical.byContradiction fun k => ?_
      have h1 := (hC.down t)
      rw [show C - t = 0 by omega] at h1
      have o := ht.one
      rcases h1 with ⟨h1, _⟩ | ⟨h1, h2⟩
      · rw [h1] at o; omega
      · have := h2.lt; rw [Int.pow_zero] at this; omega
    have hlim : Nt.val zs < 4294967296 ^ 4096 := by
      rw [pw32]
      rcases bz with ⟨h, _⟩ | ⟨_, h⟩
      · rw [h]; exact p2pos _
      · have := h.lt
        have := p2le (show C - t ≤ 131072 by omega)
        omega
    have gz : Good zs (Nt.val zs) := ⟨hc, (Nt.can_len hc 4096).1 hlim, rfl⟩
    by_cases h : ((C - t : Nat) : Int) - bits ≤ 0
    · have hdt : d ≤ t := by omega
      obtain ⟨y1, y2, y3⟩ := low_le ht hdt
      have hp : 0 < q / 2 ^ d := by
        have o := y2.one
        have := p2pos (t - d)
        have n1 := Int.ediv_nonneg (show 0 ≤ q by omega) (Int.le_of_lt (p2pos d))
        refine Classical.byContradiction fun k => ?_
        rw [show q / 2 ^ d = 0 by omega, Int.zero_ediv] at o
        omega
      refine (rCut0X n0 a c zs (E + t) bits w hl gz hb1 hb2 bz h).mono ?_
      rintro e w' ⟨rfl, hb⟩
      refine ⟨n0, zs, E + t, a, c, ?_, .inr ⟨sv_ne n0 hp, t - d, ?_, (sv_dec n0 hp).symm, by omega, hc, ?_⟩, hl.below hb (Nat.le_refl _), hb⟩
      · rw [← hg, y1]; rfl
      · rw [sv_abs2 n0 (by omega)]; exact y2
      · rw [sv_abs2 n0 (by omega), y3]; exact hv
    · obtain ⟨d2, hd2⟩ : ∃ d2 : Nat, ((C - t : Nat) : Int) - bits = (d2 : Int) := ⟨(((C - t : Nat) : Int) - bits).toNat, by omega⟩
      have e1 : d = t + d2 := by omega
      have := rCut1X n0 a c zs (E + t) bits w hl gz (by omega) (by omega) hb1 hb2 bz (by omega) d2 hd2 (by omega) _ rfl
      rw [hv, ← low_split ht, ← e1, hg, ← cut_div (p2pos t), ← Int.pow_add, ← e1, show E + (t : Int) + (d2 : Int) = E + (d : Int) by omega] at this
      exact this







theorem rQuo_up (n1 n2 : Bool) (a1 a2 : Option Addr) (c1 c2 : Nat) (z1 z2 : List Int) (e1 e2 bits : Int) (w : World) (l1 : Lie w a1 z1) (l2 : Lie w a2 z2) (g1 : DG n1 z1 e1) (g2 : DG n2 z2 e2) (hb1 : 1 ≤ bits) (hb2 : bits ≤ 8192) (hz1 : 0 < z1.length) (hz2 : 0 < z2.length) {La Lb : Nat} (bx : Bits (Nt.val z1) La) (bY : Bits (Nt.val z2) Lb) (s1 : La ≤ 131072) (s2 : Lb ≤ 131072) (n : Nat) (hn : bits + 1 + Lb - La = (n : Int)) (hn0 : 0 ≤ bits + 1 + (Lb : Int) - La) {C : Nat} (hC : BitLen (qf (Nt.val z1) (Nt.val z2) n) C) (hC3 : C ≤ 131072) (hq0 : 0 < qf (Nt.val z1) (Nt.val z2) n) (hn3 : La + n ≤ 140000) (d : Nat) (hd : max ((C : Int) - bits) 0 = (d : Int)) :
    Calls Tryz.prog 62 #[dV n1 a1 z1.length c1 e1, dV n2 a2 z2.length c2 e2, .int .i64 bits] w fun e w' => RCut w w' (sv (n1 != n2) (qf (Nt.val z1) (Nt.val z2) n / 2 ^ d)) (e1 - e2 - n + d) (decide (qf (Nt.val z1) (Nt.val z2) n % 2 ^ d ≠ 0) || qg (Nt.val z1) (Nt.val z2) n) e := by
  have B1 := ((((Bx.nil w).push (DO n1 a1 z1.length c1 e1)).push (DO n2 a2 z2.length c2 e2)).push (DO false none 0 0 0))
  rw [show ((w.alloc (DO n1 a1 z1.length c1 e1)).alloc (DO n2 a2 z2.length c2 e2)).heap.size = w.heap.size + 1 + 1 by simp, show (w.alloc (DO n1 a1 z1.length c1 e1)).heap.size = w.heap.size + 1 by simp] at B1
  have p1 := g1.pos hz1
  have p2 := g2.pos hz2
  have x1 := g1.ex_bd
  have x2 := g2.ex_bd
  have hz0 : ¬ z1.length = 0 := by omega
  have HLb := fun W (h : Below w.heap.size w W) => refLenK a2 c2 z2 W (l2.below h (Nat.le_refl _)) g2.good (B := Lb) (.inr ⟨p2, bY⟩)
  have HLa := fun W (h : Below w.heap.size w W) => refLenK a1 c1 z1 W (l1.below h (Nat.le_refl _)) g1.good (B := La) (.inr ⟨p1, bx⟩)
  have HU := fun W (h : Below w.heap.size w W) => refUp_any a1 c1 z1 W n (by omega) (l1.below h (Nat.le_refl _)) g1.can.1 (by have := g1.len; omega)
  have HQ := fun (A : Option Addr) (cA : Nat) (Z : List Int) W (h : Below w.heap.size w W) (lA : Lie W A Z) (cZ : Nt.Can Z) (vZ : Nt.val Z = Nt.val z1 * 2 ^ n) => refQuo_any A a2 cA c2 Z z2 W lA (l2.below h (Nat.le_refl _)) cZ g2.can hz2 (by
    refine (Nt.can_len cZ 5000).1 ?_
    rw [vZ, show (4294967296 : Int) ^ 5000 = 2 ^ 160000 by rw [show (4294967296 : Int) = 2 ^ 32 by decide, ← Int.pow_mul]]
    have := (bx.up n).lt
    have := p2le (show La + n ≤ 160000 by omega)
    omega) (by have := g2.len; omega)
  have HC := fun (m : Bool) (A : Option Addr) (cA : Nat) (Z : List Int) (x : Int) W (lA : Lie W A Z) (F : Fm (sv (n1 != n2) (qf (Nt.val z1) (Nt.val z2) n)) (e1 - e2 - n) m Z x) => Hide.mk (rCutW (n1 != n2) m A cA Z x bits (e1 - e2 - n) W hq0 lA F (by omega) (by omega) hb1 hb2 hC hC3 d hd _ rfl)
  have y1 := x1.1
  have y2 := x1.2
  have y3 := x2.1
  have y4 := x2.2
  have HN := Hide.mk hn
  have HWr : Hide (IntKind.i64.wrap (IntKind.i64.wrap (IntKind.i64.wrap (bits + 1) + ↑Lb) - ↑La) = bits + 1 + Lb - La) := ⟨by rw [wrap_ok (x := bits + 1) (by omega) (by omega), wrap_ok (x := bits + 1 + Lb) (by omega) (by omega), wrap_ok (by omega) (by omega)]⟩
  have hqe : qf (Nt.val z1) (Nt.val z2) n = Nt.val z1 * 2 ^ n / Nt.val z2 := by unfold qf; rw [show (-(n : Int)).toNat = 0 by omega, Int.pow_zero, Int.mul_one, Int.toNat_natCast]
  have hge : qg (Nt.val z1) (Nt.val z2) n = decide (Nt.val z1 * 2 ^ n % Nt.val z2 ≠ 0) := by unfold qg; rw [show (-(n : Int)).toNat = 0 by omega, Int.pow_zero, Int.mul_one, Int.toNat_natCast]
  have HE := Hide.mk (And.intro hqe hge)
  have hlim : Nt.val z1 * 2 ^ n / Nt.val z2 < 4294967296 ^ 4096 := by
    rw [← hqe, pw32]
    rcases hC with ⟨h, _⟩ | ⟨_, h⟩
    · rw [h]; exact p2pos _
    · have := h.lt
      have := p2le hC3
      omega
  have HLim := Hide.mk hlim
  generalize hQ : qf (Nt.val z1) (Nt.val z2) n = Q at *
  generalize hG : qg (Nt.val z1) (Nt.val z2) n = G at *
  generalize hV : Nt.val z1 * 2 ^ n = V at *
  clear l1 l2 hz1 hz2 hC hd x1 x2 hQ hG hqe hge hlim hV hq0 hn bx bY g1 g2 p1
  go_enter Tryz.func62, Tryz.ntmps62
  go_wp2_with fail
  have HF := B1.drew
  have HI := HF
  have sh := fun W (hW : Bx w [(w.heap.size + 1 + 1, DO false none 0 0 0), (w.heap.size + 1, DO n2 a2 z2.length c2 e2), (w.heap.size, DO n1 a1 z1.length c1 e1)] W) => And.intro (cells3 hW (w.heap.size + 1) _ _ _ _ (.tail _ (.head _))).1 (cells3 hW w.heap.size _ _ _ _ (.tail _ (.tail _ (.head _)))).1
  clear B1
  refine Drawn.enter (Bx w [(w.heap.size + 1 + 1, DO false none 0 0 0), (w.heap.size + 1, DO n2 a2 z2.length c2 e2), (w.heap.size, DO n1 a1 z1.length c1 e1)]) (by kernel_rfl) ?_
  refine Drawn.tk (i := 0) (v := ?v268) rfl (fun W hW => ?_) HI ?_
  rotate_left
  · have ⟨⟨s0, s1, s2⟩, q0, q3, q4⟩ := sh W hW
    go_simp <;> exact rfl
  refine Drawn.tk (i := 1) (v := ?v269) rfl (fun W hW => ?_) HI ?_
  rotate_left
  · have ⟨⟨s0, s1, s2⟩, q0, q3, q4⟩ := sh W hW
    go_simp <;> exact rfl
  refine Drawn.tk (i := 2) (v := ?v270) rfl (fun W hW => ?_) HI ?_
  rotate_left
  · have ⟨⟨s0, s1, s2⟩, q0, q3, q4⟩ := sh W hW
    go_simp <;> exact rfl
  refine Drawn.tk (i := 3) (v := ?v271) rfl (fun W hW => ?_) HI ?_
  rotate_left
  · have ⟨⟨s0, s1, s2⟩, q0, q3, q4⟩ := sh W hW
    go_simp <;> exact rfl
  refine Drawn.tk (i := 6) (v := ?v272) rfl (fun W hW => ?_) HI ?_
  rotate_left
  · have ⟨⟨s0, s1, s2⟩, q0, q3, q4⟩ := sh W hW
    go_simp <;> exact rfl
  refine Drawn.tk (i := 7) (v := ?v273) rfl (fun W hW => ?_) HI ?_
  rotate_left
  · have ⟨⟨s0, s1, s2⟩, q0, q3, q4⟩ := sh W hW
    go_simp <;> exact rfl
  refine Drawn.one (j := 4) (by kernel_rfl) rfl (fun K hK => ?_)
  go_simp
  refine (HLb _ HI.bel).mono ?_
  rintro e wn ⟨rfl, hn⟩
  refine hK _ _ (HI.keep hn) ?_
  clear hK K
  replace HI := HI.keep hn
  replace HF := HF.keep hn
  clear hn
  refine Drawn.tk (i := 5) (v := ?v274) rfl (fun W hW => ?_) HI ?_
  rotate_left
  · have ⟨⟨s0, s1, s2⟩, q0, q3, q4⟩ := sh W hW
    go_simp <;> exact rfl
  refine Drawn.one (j := 8) (by kernel_rfl) rfl (fun K hK => ?_)
  go_simp
  refine (HLa _ HI.bel).mono ?_
  rintro e wn ⟨rfl, hn⟩
  refine hK _ _ (HI.keep hn) ?_
  clear hK K
  replace HI := HI.keep hn
  replace HF := HF.keep hn
  clear hn
  refine Drawn.tk (i := 9) (v := ?v275) rfl (fun W hW => ?_) HI ?_
  rotate_left
  · have ⟨⟨s0, s1, s2⟩, q0, q3, q4⟩ := sh W hW
    go_simp <;> exact rfl
  refine Drawn.tk (i := 10) (v := ?v276) rfl (fun W hW => ?_) HI ?_
  rotate_left
  · have ⟨⟨s0, s1, s2⟩, q0, q3, q4⟩ := sh W hW
    go_simp <;> exact rfl
  refine Drawn.done (by kernel_rfl) ?_
  try go_simp
  rw [HWr.out, HN.out]
  obtain ⟨⟨s0, s1, s2⟩, _⟩ := cells3 HF (w.heap.size + 1) _ _ _ _ (.tail _ (.head _))
  obtain ⟨⟨q0, q1, q2⟩, _⟩ := cells3 HF (w.heap.size) _ _ _ _ (.tail _ (.tail _ (.head _)))
  go_wp2_with fail
  replace HF := HF.drew
  replace HI := HF
  clear s0 s1 s2 q0 q1 q2
  refine Drawn.enter (Bx w [(w.heap.size + 1 + 1, DO false none 0 0 0), (w.heap.size + 1, DO n2 a2 z2.length c2 e2), (w.heap.size, DO n1 a1 z1.length c1 e1)]) (by kernel_rfl) ?_
  refine Drawn.tk (i := 0) (v := ?v277) rfl (fun W hW => ?_) HI ?_
  rotate_left
  · have ⟨⟨s0, s1, s2⟩, q0, q3, q4⟩ := sh W hW
    go_simp <;> exact rfl
  refine Drawn.tk (i := 1) (v := ?v278) rfl (fun W hW => ?_) HI ?_
  rotate_left
  · have ⟨⟨s0, s1, s2⟩, q0, q3, q4⟩ := sh W hW
    go_simp <;> exact rfl
  refine Drawn.tk (i := 2) (v := ?v279) rfl (fun W hW => ?_) HI ?_
  rotate_left
  · have ⟨⟨s0, s1, s2⟩, q0, q3, q4⟩ := sh W hW
    go_simp <;> exact rfl
  refine Drawn.tk (i := 4) (v := ?v280) rfl (fun W hW => ?_) HI ?_
  rotate_left
  · have ⟨⟨s0, s1, s2⟩, q0, q3, q4⟩ := sh W hW
    go_simp <;> exact rfl
  refine Drawn.tk (i := 5) (v := ?v281) rfl (fun W hW => ?_) HI ?_
  rotate_left
  · have ⟨⟨s0, s1, s2⟩, q0, q3, q4⟩ := sh W hW
    go_simp <;> exact rfl
  refine Drawn.one (j := 3) (by kernel_rfl) rfl (fun K hK => ?_)
  go_simp
  refine (HU _ HI.bel).mono ?_
  rintro e w6 ⟨z6, a6, c6, rfl, o6, n6, v6, h6⟩
  obtain ⟨a6', c6', he6, _, _, l6⟩ := o6.lie
  simp only [Value.slice.injEq, true_and] at he6
  obtain ⟨rfl, rfl⟩ := he6
  refine hK _ _ (HI.keep h6) ?_
  clear hK K
  replace HI := HI.keep h6
  replace HF := HF.keep h6
  clear h6 o6
  refine Drawn.one (j := 6) (by kernel_rfl) rfl (fun K hK => ?_)
  go_simp
  refine (HQ _ _ _ _ HI.bel l6 n6 v6).mono ?_
  rintro e w7 ⟨zq, zr, aq, cq, ar, cr, rfl, oq, or, nq, nr, vq, rl, h7⟩
  unfold two
  refine hK _ _ (HI.keep h7) ?_
  clear hK K
  replace HI := HI.keep h7
  replace HF := HF.keep h7
  obtain ⟨aq', cq', heq, _, _, lq⟩ := oq.lie
  simp only [Value.slice.injEq, true_and] at heq
  obtain ⟨rfl, rfl⟩ := heq
  rw [v6] at vq
  have nn := (Nt.val_bd nr.1).1
  have eq1 : V / Nt.val z2 = Nt.val zq := by
    rw [vq, Int.add_comm, Int.add_mul_ediv_right _ _ (by omega), Int.ediv_eq_zero_of_lt nn rl]; omega
  have eq2 : V % Nt.val z2 = Nt.val zr := by
    rw [vq, Int.add_comm, Int.add_mul_emod_self_right, Int.emod_eq_of_lt nn rl]
  have hlq : zq.length ≤ 10000 := by
    have := (Nt.can_len nq 4096).1 (by rw [← eq1]; exact HLim.out)
    omega
  have eQ : Nt.val zq = Q := by rw [HE.out.1, eq1]
  have eG : G = decide (0 < zr.length) := by
    rw [HE.out.2, eq2]
    by_cases hz : 0 < zr.length
    · have h2 := can_ge nr hz
      have h3 := Nt.pw_pos (zr.length - 1)
      rw [decide_eq_true hz, decide_eq_true (by omega : Nt.val zr ≠ 0)]
    · obtain rfl : zr = [] := List.length_eq_zero_iff.1 (by omega)
      rw [Nt.val_nil]; simp
  have HG := Hide.mk (And.intro eQ eG)
  have Hq := Hide.mk (And.intro lq nq)
  clear h7 oq or vq rl nn eq1 eq2 eQ eG lq nq nr HQ HU l6 n6 v6 HE HLim
  refine Drawn.tk (i := 7) (v := ?v282) rfl (fun W hW => ?_) HI ?_
  rotate_left
  · have ⟨⟨s0, s1, s2⟩, q0, q3, q4⟩ := sh W hW
    go_simp <;> exact rfl
  refine Drawn.tk (i := 8) (v := ?v283) rfl (fun W hW => ?_) HI ?_
  rotate_left
  · have ⟨⟨s0, s1, s2⟩, q0, q3, q4⟩ := sh W hW
    go_simp <;> exact rfl
  refine Drawn.tk (i := 9) (v := ?v284) rfl (fun W hW => ?_) HI ?_
  rotate_left
  · have ⟨⟨s0, s1, s2⟩, q0, q3, q4⟩ := sh W hW
    go_simp <;> exact rfl
  refine Drawn.tk (i := 10) (v := ?v285) rfl (fun W hW => ?_) HI ?_
  rotate_left
  · have ⟨⟨s0, s1, s2⟩, q0, q3, q4⟩ := sh W hW
    go_simp <;> exact rfl
  refine Drawn.tk (i := 11) (v := ?v286) rfl (fun W hW => ?_) HI ?_
  rotate_left
  · have ⟨⟨s0, s1, s2⟩, q0, q3, q4⟩ := sh W hW
    go_simp <;> exact rfl
  refine Drawn.done (by kernel_rfl) ?_
  try go_simp
  obtain ⟨⟨s0, s1, s2⟩, _⟩ := cells3 HF (w.heap.size + 1) _ _ _ _ (.tail _ (.head _))
  obtain ⟨⟨q0, q1, q2⟩, _⟩ := cells3 HF (w.heap.size) _ _ _ _ (.tail _ (.tail _ (.head _)))
  go_wp2_with fail
  have HX := Hide.mk (formX (n1 != n2) aq cq zq (e1 - e2 - n) _ Hq.out.1 Hq.out.2 hlq (by omega) (by omega))
  rw [show (!n1 == n2) = (n1 != n2) from rfl]
  refine HX.out.mono ?_
  rintro e w8 ⟨n8, z8, x8, a8, c8, rfl, F8, l8, h8⟩
  rw [HG.out.1] at F8
  replace F8 : Fm (sv (n1 != n2) Q) (e1 - e2 - (n : Int)) n8 z8 x8 := by exact F8
  have HK := HC n8 a8 c8 z8 x8 w8 l8 F8
  replace HF := HF.keep h8
  clear h8 HX l8 F8 HC s0 s1 s2 q0 q1 q2 Hq HI sh
  go_wp2_with fail
  refine HK.out.mono ?_
  rintro e w9 ⟨n9, z9, x9, a9, c9, rfl, F9, l9, h9⟩
  replace HF := HF.keep h9
  have HR := Hide.mk (And.intro F9 l9)
  clear HK h9 F9 l9
  generalize hL : decide (Q % 2 ^ d ≠ 0) = lost at *
  have HFr := HF.sub (L' := [(w.heap.size + 1 + 1, DO false none 0 0 0)]) (by simp)
  have hlt9 : w.heap.size + 1 + 1 < w9.heap.size := HF.lt (p := (w.heap.size + 1 + 1, DO false none 0 0 0)) (by simp)
  obtain ⟨⟨t0, t1, t2⟩, u0, u1, u2⟩ := cells3 HFr (w.heap.size + 1 + 1) _ _ _ _ (.head _)
  have L := Hide.mk (Live.set3 (g := w.heap.size + 1 + 1) ⟨HFr.head, rfl⟩ (.bool n9) (.slice a9 z9.length c9) (.int .i64 x9) (Live.one HR.out.2))
  cases lost
  · go_wp2
    refine bodyPost_ret (results_D2 rfl _ _ (w.heap.size + 1 + 1) _ rfl ⟨((HFr.fill3 (by omega) (by simp) _ _ _).push _).tail.head, rfl⟩) rfl ?_
    exact ⟨n9, z9, x9, a9, c9, by rw [hL, HG.out.2]; rfl, HR.out.1, (L.out.all (a9, z9) (.head _)).below (below_alloc _ _) (Nat.le_refl _), ((HFr.fill3 (by omega) (by simp) _ _ _).push _).bel⟩
  · go_wp2
    refine bodyPost_ret (results_D2 rfl _ _ (w.heap.size + 1 + 1) _ rfl ⟨((HFr.fill3 (by omega) (by simp) _ _ _).push _).tail.head, rfl⟩) rfl ?_
    exact ⟨n9, z9, x9, a9, c9, by rw [hL]; rfl, HR.out.1, (L.out.all (a9, z9) (.head _)).below (below_alloc _ _) (Nat.le_refl _), ((HFr.fill3 (by omega) (by simp) _ _ _).push _).bel⟩

theorem rQuo_low (n1 n2 : Bool) (a1 a2 : Option Addr) (c1 c2 : Nat) (z1 z2 : List Int) (e1 e2 bits : Int) (w : World) (l1 : Lie w a1 z1) (l2 : Lie w a2 z2) (g1 : DG n1 z1 e1) (g2 : DG n2 z2 e2) (hb1 : 1 ≤ bits) (hb2 : bits ≤ 8192) (hz1 : 0 < z1.length) (hz2 : 0 < z2.length) {La Lb : Nat} (bx : Bits (Nt.val z1) La) (bY : Bits (Nt.val z2) Lb) (s1 : La ≤ 131072) (s2 : Lb ≤ 131072) (n : Nat) (hn : n = 0) (hn0 : bits + 1 + (Lb : Int) - La < 0) {C : Nat} (hC : BitLen (qf (Nt.val z1) (Nt.val z2) n) C) (hC3 : C ≤ 131072) (hq0 : 0 < qf (Nt.val z1) (Nt.val z2) n) (hn3 : La + n ≤ 140000) (d : Nat) (hd : max ((C : Int) - bits) 0 = (d : Int)) :
    Calls Tryz.prog 62 #[dV n1 a1 z1.length c1 e1, dV n2 a2 z2.length c2 e2, .int .i64 bits] w fun e w' => RCut w w' (sv (n1 != n2) (qf (Nt.val z1) (Nt.val z2) n / 2 ^ d)) (e1 - e2 - n + d) (decide (qf (Nt.val z1) (Nt.val z2) n % 2 ^ d ≠ 0) || qg (Nt.val z1) (Nt.val z2) n) e := by
  have B1 := ((((Bx.nil w).push (DO n1 a1 z1.length c1 e1)).push (DO n2 a2 z2.length c2 e2)).push (DO false none 0 0 0))
  rw [show ((w.alloc (DO n1 a1 z1.length c1 e1)).alloc (DO n2 a2 z2.length c2 e2)).heap.size = w.heap.size + 1 + 1 by simp, show (w.alloc (DO n1 a1 z1.length c1 e1)).heap.size = w.heap.size + 1 by simp] at B1
  have p1 := g1.pos hz1
  have p2 := g2.pos hz2
  have x1 := g1.ex_bd
  have x2 := g2.ex_bd
  have hz0 : ¬ z1.length = 0 := by omega
  have HLb := fun W (h : Below w.heap.size w W) => refLenK a2 c2 z2 W (l2.below h (Nat.le_refl _)) g2.good (B := Lb) (.inr ⟨p2, bY⟩)
  have HLa := fun W (h : Below w.heap.size w W) => refLenK a1 c1 z1 W (l1.below h (Nat.le_refl _)) g1.good (B := La) (.inr ⟨p1, bx⟩)
  have HU := fun W (h : Below w.heap.size w W) => refUp_any a1 c1 z1 W n (by omega) (l1.below h (Nat.le_refl _)) g1.can.1 (by have := g1.len; omega)
  have HQ := fun (A : Option Addr) (cA : Nat) (Z : List Int) W (h : Below w.heap.size w W) (lA : Lie W A Z) (cZ : Nt.Can Z) (vZ : Nt.val Z = Nt.val z1 * 2 ^ n) => refQuo_any A a2 cA c2 Z z2 W lA (l2.below h (Nat.le_refl _)) cZ g2.can hz2 (by
    refine (Nt.can_len cZ 5000).1 ?_
    rw [vZ, show (4294967296 : Int) ^ 5000 = 2 ^ 160000 by rw [show (4294967296 : Int) = 2 ^ 32 by decide, ← Int.pow_mul]]
    have := (bx.up n).lt
    have := p2le (show La + n ≤ 160000 by omega)
    omega) (by have := g2.len; omega)
  have HC := fun (m : Bool) (A : Option Addr) (cA : Nat) (Z : List Int) (x : Int) W (lA : Lie W A Z) (F : Fm (sv (n1 != n2) (qf (Nt.val z1) (Nt.val z2) n)) (e1 - e2 - n) m Z x) => Hide.mk (rCutW (n1 != n2) m A cA Z x bits (e1 - e2 - n) W hq0 lA F (by omega) (by omega) hb1 hb2 hC hC3 d hd _ rfl)
  have y1 := x1.1
  have y2 := x1.2
  have y3 := x2.1
  have y4 := x2.2
  have HN := Hide.mk hn
  have HWr : Hide (IntKind.i64.wrap (IntKind.i64.wrap (IntKind.i64.wrap (bits + 1) + ↑Lb) - ↑La) = bits + 1 + Lb - La) := ⟨by rw [wrap_ok (x := bits + 1) (by omega) (by omega), wrap_ok (x := bits + 1 + Lb) (by omega) (by omega), wrap_ok (by omega) (by omega)]⟩
  have HN0 : Hide ((n : Int) = 0) := ⟨by omega⟩
  rw [HN0.out] at HU
  have hqe : qf (Nt.val z1) (Nt.val z2) n = Nt.val z1 * 2 ^ n / Nt.val z2 := by unfold qf; rw [show (-(n : Int)).toNat = 0 by omega, Int.pow_zero, Int.mul_one, Int.toNat_natCast]
  have hge : qg (Nt.val z1) (Nt.val z2) n = decide (Nt.val z1 * 2 ^ n % Nt.val z2 ≠ 0) := by unfold qg; rw [show (-(n : Int)).toNat = 0 by omega, Int.pow_zero, Int.mul_one, Int.toNat_natCast]
  have HE := Hide.mk (And.intro hqe hge)
  have hlim : Nt.val z1 * 2 ^ n / Nt.val z2 < 4294967296 ^ 4096 := by
    rw [← hqe, pw32]
    rcases hC with ⟨h, _⟩ | ⟨_, h⟩
    · rw [h]; exact p2pos _
    · have := h.lt
      have := p2le hC3
      omega
  have HLim := Hide.mk hlim
  generalize hQ : qf (Nt.val z1) (Nt.val z2) n = Q at *
  generalize hG : qg (Nt.val z1) (Nt.val z2) n = G at *
  generalize hV : Nt.val z1 * 2 ^ n = V at *
  clear l1 l2 hz1 hz2 hC hd x1 x2 hQ hG hqe hge hlim hV hq0 hn bx bY g1 g2 p1
  go_enter Tryz.func62, Tryz.ntmps62
  go_wp2_with fail
  have HF := B1.drew
  have HI := HF
  have sh := fun W (hW : Bx w [(w.heap.size + 1 + 1, DO false none 0 0 0), (w.heap.size + 1, DO n2 a2 z2.length c2 e2), (w.heap.size, DO n1 a1 z1.length c1 e1)] W) => And.intro (cells3 hW (w.heap.size + 1) _ _ _ _ (.tail _ (.head _))).1 (cells3 hW w.heap.size _ _ _ _ (.tail _ (.tail _ (.head _)))).1
  clear B1
  refine Drawn.enter (Bx w [(w.heap.size + 1 + 1, DO false none 0 0 0), (w.heap.size + 1, DO n2 a2 z2.length c2 e2), (w.heap.size, DO n1 a1 z1.length c1 e1)]) (by kernel_rfl) ?_
  refine Drawn.tk (i := 0) (v := ?v287) rfl (fun W hW => ?_) HI ?_
  rotate_left
  · have ⟨⟨s0, s1, s2⟩, q0, q3, q4⟩ := sh W hW
    go_simp <;> exact rfl
  refine Drawn.tk (i := 1) (v := ?v288) rfl (fun W hW => ?_) HI ?_
  rotate_left
  · have ⟨⟨s0, s1, s2⟩, q0, q3, q4⟩ := sh W hW
    go_simp <;> exact rfl
  refine Drawn.tk (i := 2) (v := ?v289) rfl (fun W hW => ?_) HI ?_
  rotate_left
  · have ⟨⟨s0, s1, s2⟩, q0, q3, q4⟩ := sh W hW
    go_simp <;> exact rfl
  refine Drawn.tk (i := 3) (v := ?v290) rfl (fun W hW => ?_) HI ?_
  rotate_left
  · have ⟨⟨s0, s1, s2⟩, q0, q3, q4⟩ := sh W hW
    go_simp <;> exact rfl
  refine Drawn.tk (i := 6) (v := ?v291) rfl (fun W hW => ?_) HI ?_
  rotate_left
  · have ⟨⟨s0, s1, s2⟩, q0, q3, q4⟩ := sh W hW
    go_simp <;> exact rfl
  refine Drawn.tk (i := 7) (v := ?v292) rfl (fun W hW => ?_) HI ?_
  rotate_left
  · have ⟨⟨s0, s1, s2⟩, q0, q3, q4⟩ := sh W hW
    go_simp <;> exact rfl
  refine Drawn.one (j := 4) (by kernel_rfl) rfl (fun K hK => ?_)
  go_simp
  refine (HLb _ HI.bel).mono ?_
  rintro e wn ⟨rfl, hn⟩
  refine hK _ _ (HI.keep hn) ?_
  clear hK K
  replace HI := HI.keep hn
  replace HF := HF.keep hn
  clear hn
  refine Drawn.tk (i := 5) (v := ?v293) rfl (fun W hW => ?_) HI ?_
  rotate_left
  · have ⟨⟨s0, s1, s2⟩, q0, q3, q4⟩ := sh W hW
    go_simp <;> exact rfl
  refine Drawn.one (j := 8) (by kernel_rfl) rfl (fun K hK => ?_)
  go_simp
  refine (HLa _ HI.bel).mono ?_
  rintro e wn ⟨rfl, hn⟩
  refine hK _ _ (HI.keep hn) ?_
  clear hK K
  replace HI := HI.keep hn
  replace HF := HF.keep hn
  clear hn
  refine Drawn.tk (i := 9) (v := ?v294) rfl (fun W hW => ?_) HI ?_
  rotate_left
  · have ⟨⟨s0, s1, s2⟩, q0, q3, q4⟩ := sh W hW
    go_simp <;> exact rfl
  refine Drawn.tk (i := 10) (v := ?v295) rfl (fun W hW => ?_) HI ?_
  rotate_left
  · have ⟨⟨s0, s1, s2⟩, q0, q3, q4⟩ := sh W hW
    go_simp <;> exact rfl
  refine Drawn.done (by kernel_rfl) ?_
  try go_simp
  rw [HWr.out]
  obtain ⟨⟨s0, s1, s2⟩, _⟩ := cells3 HF (w.heap.size + 1) _ _ _ _ (.tail _ (.head _))
  obtain ⟨⟨q0, q1, q2⟩, _⟩ := cells3 HF (w.heap.size) _ _ _ _ (.tail _ (.tail _ (.head _)))
  go_wp2_with fail
  replace HF := HF.drew
  replace HI := HF
  clear s0 s1 s2 q0 q1 q2
  refine Drawn.enter (Bx w [(w.heap.size + 1 + 1, DO false none 0 0 0), (w.heap.size + 1, DO n2 a2 z2.length c2 e2), (w.heap.size, DO n1 a1 z1.length c1 e1)]) (by kernel_rfl) ?_
  refine Drawn.tk (i := 0) (v := ?v296) rfl (fun W hW => ?_) HI ?_
  rotate_left
  · have ⟨⟨s0, s1, s2⟩, q0, q3, q4⟩ := sh W hW
    go_simp <;> exact rfl
  refine Drawn.tk (i := 1) (v := ?v297) rfl (fun W hW => ?_) HI ?_
  rotate_left
  · have ⟨⟨s0, s1, s2⟩, q0, q3, q4⟩ := sh W hW
    go_simp <;> exact rfl
  refine Drawn.tk (i := 2) (v := ?v298) rfl (fun W hW => ?_) HI ?_
  rotate_left
  · have ⟨⟨s0, s1, s2⟩, q0, q3, q4⟩ := sh W hW
    go_simp <;> exact rfl
  refine Drawn.tk (i := 4) (v := ?v299) rfl (fun W hW => ?_) HI ?_
  rotate_left
  · have ⟨⟨s0, s1, s2⟩, q0, q3, q4⟩ := sh W hW
    go_simp <;> exact rfl
  refine Drawn.tk (i := 5) (v := ?v300) rfl (fun W hW => ?_) HI ?_
  rotate_left
  · have ⟨⟨s0, s1, s2⟩, q0, q3, q4⟩ := sh W hW
    go_simp <;> exact rfl
  refine Drawn.one (j := 3) (by kernel_rfl) rfl (fun K hK => ?_)
  go_simp
  refine (HU _ HI.bel).mono ?_
  rintro e w6 ⟨z6, a6, c6, rfl, o6, n6, v6, h6⟩
  obtain ⟨a6', c6', he6, _, _, l6⟩ := o6.lie
  simp only [Value.slice.injEq, true_and] at he6
  obtain ⟨rfl, rfl⟩ := he6
  refine hK _ _ (HI.keep h6) ?_
  clear hK K
  replace HI := HI.keep h6
  replace HF := HF.keep h6
  clear h6 o6
  refine Drawn.one (j := 6) (by kernel_rfl) rfl (fun K hK => ?_)
  go_simp
  refine (HQ _ _ _ _ HI.bel l6 n6 v6).mono ?_
  rintro e w7 ⟨zq, zr, aq, cq, ar, cr, rfl, oq, or, nq, nr, vq, rl, h7⟩
  unfold two
  refine hK _ _ (HI.keep h7) ?_
  clear hK K
  replace HI := HI.keep h7
  replace HF := HF.keep h7
  obtain ⟨aq', cq', heq, _, _, lq⟩ := oq.lie
  simp only [Value.slice.injEq, true_and] at heq
  obtain ⟨rfl, rfl⟩ := heq
  rw [v6] at vq
  have nn := (Nt.val_bd nr.1).1
  have eq1 : V / Nt.val z2 = Nt.val zq := by
    rw [vq, Int.add_comm, Int.add_mul_ediv_right _ _ (by omega), Int.ediv_eq_zero_of_lt nn rl]; omega
  have eq2 : V % Nt.val z2 = Nt.val zr := by
    rw [vq, Int.add_comm, Int.add_mul_emod_self_right, Int.emod_eq_of_lt nn rl]
  have hlq : zq.length ≤ 10000 := by
    have := (Nt.can_len nq 4096).1 (by rw [← eq1]; exact HLim.out)
    omega
  have eQ : Nt.val zq = Q := by rw [HE.out.1, eq1]
  have eG : G = decide (0 < zr.length) := by
    rw [HE.out.2, eq2]
    by_cases hz : 0 < zr.length
    · have h2 := can_ge nr hz
      have h3 := Nt.pw_pos (zr.length - 1)
      rw [decide_eq_true hz, decide_eq_true (by omega : Nt.val zr ≠ 0)]
    · obtain rfl : zr = [] := List.length_eq_zero_iff.1 (by omega)
      rw [Nt.val_nil]; simp
  have HG := Hide.mk (And.intro eQ eG)
  have Hq := Hide.mk (And.intro lq nq)
  clear h7 oq or vq rl nn eq1 eq2 eQ eG lq nq nr HQ HU l6 n6 v6 HE HLim
  refine Drawn.tk (i := 7) (v := ?v301) rfl (fun W hW => ?_) HI ?_
  rotate_left
  · have ⟨⟨s0, s1, s2⟩, q0, q3, q4⟩ := sh W hW
    go_simp <;> exact rfl
  refine Drawn.tk (i := 8) (v := ?v302) rfl (fun W hW => ?_) HI ?_
  rotate_left
  · have ⟨⟨s0, s1, s2⟩, q0, q3, q4⟩ := sh W hW
    go_simp <;> exact rfl
  refine Drawn.tk (i := 9) (v := ?v303) rfl (fun W hW => ?_) HI ?_
  rotate_left
  · have ⟨⟨s0, s1, s2⟩, q0, q3, q4⟩ := sh W hW
    go_simp <;> exact rfl
  refine Drawn.tk (i := 10) (v := ?v304) rfl (fun W hW => ?_) HI ?_
  rotate_left
  · have ⟨⟨s0, s1, s2⟩, q0, q3, q4⟩ := sh W hW
    go_simp <;> exact rfl
  refine Drawn.tk (i := 11) (v := ?v305) rfl (fun W hW => ?_) HI ?_
  rotate_left
  · have ⟨⟨s0, s1, s2⟩, q0, q3, q4⟩ := sh W hW
    go_simp <;> exact rfl
  refine Drawn.done (by kernel_rfl) ?_
  try go_simp
  obtain ⟨⟨s0, s1, s2⟩, _⟩ := cells3 HF (w.heap.size + 1) _ _ _ _ (.tail _ (.head _))
  obtain ⟨⟨q0, q1, q2⟩, _⟩ := cells3 HF (w.heap.size) _ _ _ _ (.tail _ (.tail _ (.head _)))
  go_wp2_with fail
  have HX := Hide.mk (formX (n1 != n2) aq cq zq (e1 - e2) _ Hq.out.1 Hq.out.2 hlq (by omega) (by omega))
  rw [show (!n1 == n2) = (n1 != n2) from rfl]
  refine HX.out.mono ?_
  rintro e w8 ⟨n8, z8, x8, a8, c8, rfl, F8, l8, h8⟩
  rw [HG.out.1] at F8
  replace F8 : Fm (sv (n1 != n2) Q) (e1 - e2 - (n : Int)) n8 z8 x8 := by rw [HN0.out, Int.sub_zero]; exact F8
  have HK := HC n8 a8 c8 z8 x8 w8 l8 F8
  replace HF := HF.keep h8
  clear h8 HX l8 F8 HC s0 s1 s2 q0 q1 q2 Hq HI sh
  go_wp2_with fail
  refine HK.out.mono ?_
  rintro e w9 ⟨n9, z9, x9, a9, c9, rfl, F9, l9, h9⟩
  replace HF := HF.keep h9
  have HR := Hide.mk (And.intro F9 l9)
  clear HK h9 F9 l9
  generalize hL : decide (Q % 2 ^ d ≠ 0) = lost at *
  have HFr := HF.sub (L' := [(w.heap.size + 1 + 1, DO false none 0 0 0)]) (by simp)
  have hlt9 : w.heap.size + 1 + 1 < w9.heap.size := HF.lt (p := (w.heap.size + 1 + 1, DO false none 0 0 0)) (by simp)
  obtain ⟨⟨t0, t1, t2⟩, u0, u1, u2⟩ := cells3 HFr (w.heap.size + 1 + 1) _ _ _ _ (.head _)
  have L := Hide.mk (Live.set3 (g := w.heap.size + 1 + 1) ⟨HFr.head, rfl⟩ (.bool n9) (.slice a9 z9.length c9) (.int .i64 x9) (Live.one HR.out.2))
  cases lost
  · go_wp2
    refine bodyPost_ret (results_D2 rfl _ _ (w.heap.size + 1 + 1) _ rfl ⟨((HFr.fill3 (by omega) (by simp) _ _ _).push _).tail.head, rfl⟩) rfl ?_
    exact ⟨n9, z9, x9, a9, c9, by rw [hL, HG.out.2]; rfl, HR.out.1, (L.out.all (a9, z9) (.head _)).below (below_alloc _ _) (Nat.le_refl _), ((HFr.fill3 (by omega) (by simp) _ _ _).push _).bel⟩
  · go_wp2
    refine bodyPost_ret (results_D2 rfl _ _ (w.heap.size + 1 + 1) _ rfl ⟨((HFr.fill3 (by omega) (by simp) _ _ _).push _).tail.head, rfl⟩) rfl ?_
    exact ⟨n9, z9, x9, a9, c9, by rw [hL]; rfl, HR.out.1, (L.out.all (a9, z9) (.head _)).below (below_alloc _ _) (Nat.le_refl _), ((HFr.fill3 (by omega) (by simp) _ _ _).push _).bel⟩

structure QAt (x y : Int) (b : Nat) (i : Int) : Prop where
  bits : BitLen (qf x y i) b
theorem q_prog {x y : Int} {La Lb : Nat} (bx : Bits x La) (bY : Bits y Lb) (hx : 0 < x) (hy : 0 < y) (b : Nat) (hb : 1 ≤ b) (i : Int) (hi : (b : Int) + Lb - La ≤ i) {B : Nat} (hB : BitLen (qf x y i) B) : b ≤ B := by
  obtain ⟨k, rfl⟩ : ∃ k, b = k + 1 := ⟨b - 1, by omega⟩
  exact bl_ge hB (qf_ge bx bY hy k i (by omega))
theorem q_at {x y : Int} {La Lb : Nat} (bx : Bits x La) (bY : Bits y Lb) (hx : 0 < x) (hy : 0 < y) (b : Nat) (hb : 1 ≤ b) : ∃ i, BitLen (qf x y i) b ∧ (b : Int) + Lb - La - 1 ≤ i ∧ i ≤ (b : Int) + Lb - La := by
  obtain ⟨B, hB⟩ := bitLen_ex (qf_nn (Int.le_of_lt hx) hy ((b : Int) + Lb - La))
  have h1 := q_prog bx bY hx hy b hb _ (Int.le_refl _) hB
  have h2 : B ≤ b + 1 := bl_le hB (qf_lt bx bY hy (b + 1) _ (by omega))
  refine ⟨(b : Int) + Lb - La - (B - b : Nat), ?_, by omega, by omega⟩
  have := hB.down (B - b)
  rw [← qf_down x y hy, show B - (B - b) = b by omega] at this
  exact this
theorem q_idx {x y i j : Int} (hy : 0 < y) {b : Nat} (hb : 0 < b) (h : BitLen (qf x y i) b) (k : BitLen (qf x y j) b) : i = j := (qFam x y hy).idx (⟨rfl, rfl⟩ : _ ∧ _) (⟨rfl, rfl⟩ : _ ∧ _) h k hb
theorem quoT (n1 n2 : Bool) (a1 a2 : Option Addr) (c1 c2 : Nat) (z1 z2 : List Int) (e1 e2 : Int) (w : World) (l1 : Lie w a1 z1) (l2 : Lie w a2 z2) (g1 : DG n1 z1 e1) (g2 : DG n2 z2 e2) (hT : Tab w) (bits : Int) (b : Nat) (hbb : bits = (b : Int)) (hb1 : 1 ≤ bits) (hb2 : bits ≤ 8192) (hz1 : 0 < z1.length) (hz2 : 0 < z2.length) {i : Int} (hi : BitLen (qf (Nt.val z1) (Nt.val z2) i) b) :
    Calls Tryz.prog 95 #[dV n1 a1 z1.length c1 e1, dV n2 a2 z2.length c2 e2, .int .i64 bits] w fun e w' => DCut w w' (sv (n1 != n2) (qf (Nt.val z1) (Nt.val z2) i)) (e1 - e2 - i) (qg (Nt.val z1) (Nt.val z2) i) e := by
  have p1 := g1.pos hz1
  have p2 := g2.pos hz2
  obtain ⟨La, hLa⟩ := bitLen_ex (Int.le_of_lt p1)
  obtain ⟨Lb, hLb⟩ := bitLen_ex (Int.le_of_lt p2)
  have bx : Bits (Nt.val z1) La := by rcases hLa with ⟨h, _⟩ | ⟨_, h⟩; omega; exact h
  have bY : Bits (Nt.val z2) Lb := by rcases hLb with ⟨h, _⟩ | ⟨_, h⟩; omega; exact h
  have s1 := g_size g1 bx
  have s2 := g_size g2 bY
  obtain ⟨B, hB⟩ := bitLen_ex (qf_nn (Int.le_of_lt p1) p2 (bits + Lb - La))
  have h1 := q_prog bx bY p1 p2 b (by omega) _ (by omega) hB
  have h2 : B ≤ b + 1 := bl_le hB (qf_lt bx bY p2 (b + 1) _ (by omega))
  have hd := hB.down (B - b)
  rw [← qf_down _ _ p2, show B - (B - b) = b by omega] at hd
  have e := q_idx p2 (by omega) hd hi
  have := quo_good n1 n2 a1 a2 c1 c2 z1 z2 e1 e2 bits w l1 l2 g1 g2 hT hb1 hb2 hz1 hz2 bx bY _ rfl hB (by omega) (B - b) (by omega)
  rw [← qf_down _ _ p2, ← qg_down _ _ p2, e, show e1 - e2 - (bits + Lb - La) + ((B - b : Nat) : Int) = e1 - e2 - i by omega] at this
  exact this
theorem rQuoT (n1 n2 : Bool) (a1 a2 : Option Addr) (c1 c2 : Nat) (z1 z2 : List Int) (e1 e2 : Int) (w : World) (l1 : Lie w a1 z1) (l2 : Lie w a2 z2) (g1 : DG n1 z1 e1) (g2 : DG n2 z2 e2) (bits : Int) (b : Nat) (hbb : bits = (b : Int)) (hb1 : 1 ≤ bits) (hb2 : bits ≤ 8192) (hz1 : 0 < z1.length) (hz2 : 0 < z2.length) {i : Int} (hi : BitLen (qf (Nt.val z1) (Nt.val z2) i) b) :
    Calls Tryz.prog 62 #[dV n1 a1 z1.length c1 e1, dV n2 a2 z2.length c2 e2, .int .i64 bits] w fun e w' => RCut w w' (sv (n1 != n2) (qf (Nt.val z1) (Nt.val z2) i)) (e1 - e2 - i) (qg (Nt.val z1) (Nt.val z2) i) e := by
  have p1 := g1.pos hz1
  have p2 := g2.pos hz2
  obtain ⟨La, hLa⟩ := bitLen_ex (Int.le_of_lt p1)
  obtain ⟨Lb, hLb⟩ := bitLen_ex (Int.le_of_lt p2)
  have bx : Bits (Nt.val z1) La := by rcases hLa with ⟨h, _⟩ | ⟨_, h⟩; omega; exact h
  have bY : Bits (Nt.val z2) Lb := by rcases hLb with ⟨h, _⟩ | ⟨_, h⟩; omega; exact h
  have s1 := g_size g1 bx
  have s2 := g_size g2 bY
  have key : ∀ n : Nat, (b : Int) + 1 + Lb - La ≤ n → n = 0 ∨ (b : Int) + 1 + Lb - La = n → ∃ C d : Nat, BitLen (qf (Nt.val z1) (Nt.val z2) n) C ∧ C ≤ 131072 ∧ 0 < qf (Nt.val z1) (Nt.val z2) n ∧ La + n ≤ 140000 ∧ max ((C : Int) - bits) 0 = (d : Int) ∧ (n : Int) - d = i ∧ qf (Nt.val z1) (Nt.val z2) n / 2 ^ d = qf (Nt.val z1) (Nt.val z2) i ∧ (decide (qf (Nt.val z1) (Nt.val z2) n % 2 ^ d ≠ 0) || qg (Nt.val z1) (Nt.val z2) n) = qg (Nt.val z1) (Nt.val z2) i := by
    intro n h1 h2
    obtain ⟨C, hC⟩ := bitLen_ex (qf_nn (Int.le_of_lt p1) p2 (n : Int))
    have k1 := q_prog bx bY p1 p2 (b + 1) (by omega) (n : Int) (by omega) hC
    have k2 : C ≤ 131072 := by
      rcases h2 with rfl | h2
      · have : qf (Nt.val z1) (Nt.val z2) ((0 : Nat) : Int) < 2 ^ La := by
          refine Int.lt_of_le_of_lt ?_ bx.lt
          unfold qf
          rw [show ((0 : Nat) : Int).toNat = 0 from rfl, show (-((0 : Nat) : Int)).toNat = 0 from rfl, Int.pow_zero, Int.mul_one, Int.mul_one]
          exact Int.ediv_le_self _ (Int.le_of_lt p1)
        have := bl_le hC this
        omega
      · have := bl_le hC (qf_lt bx bY p2 (b + 2) _ (by omega))
        omega
    have hd := hC.down (C - b)
    rw [← qf_down _ _ p2, show C - (C - b) = b by omega] at hd
    have e := q_idx p2 (by omega) hd hi
    refine ⟨C, C - b, hC, k2, ?_, by omega, by omega, e, ?_, ?_⟩
    · rcases hC with ⟨_, h⟩ | ⟨h, _⟩
      · omega
      · exact h
    · rw [← qf_down _ _ p2, e]
    · rw [← qg_down _ _ p2, e]
  by_cases hn : bits + 1 + (Lb : Int) - La < 0
  · obtain ⟨C, d, hC, hC2, hq0, hn3, hd, e3, e4, e5⟩ := key 0 (by omega) (.inl rfl)
    have := rQuo_low n1 n2 a1 a2 c1 c2 z1 z2 e1 e2 bits w l1 l2 g1 g2 hb1 hb2 hz1 hz2 bx bY s1 s2 0 rfl hn hC hC2 hq0 hn3 d hd
    rw [e4, e5, show e1 - e2 - ((0 : Nat) : Int) + (d : Int) = e1 - e2 - i by omega] at this
    exact this
  · obtain ⟨n, hN⟩ : ∃ n : Nat, bits + 1 + (Lb : Int) - La = (n : Int) := ⟨(bits + 1 + (Lb : Int) - La).toNat, by omega⟩
    obtain ⟨C, d, hC, hC2, hq0, hn3, hd, e3, e4, e5⟩ := key n (by omega) (.inr (by omega))
    have := rQuo_up n1 n2 a1 a2 c1 c2 z1 z2 e1 e2 bits w l1 l2 g1 g2 hb1 hb2 hz1 hz2 bx bY s1 s2 n hN (by omega) hC hC2 hq0 hn3 d hd
    rw [e4, e5, show e1 - e2 - (n : Int) + (d : Int) = e1 - e2 - i by omega] at this
    exact this
structure RAt (x e : Int) (b : Nat) (i r : Int) (g : Bool) : Prop where
  rt : RtAt x e i r g
  bits : BitLen r b
theorem dcut_num {w w' : World} {s E : Int} {q : Bool} {e : Ending} (h : DCut w w' s E q e) (hs : (s.natAbs : Int) < 4294967296 ^ 4096) (hr : s = 0 ∨ ∃ t : Nat, LowBit (s.natAbs : Int) t ∧ -16777216 ≤ E + t ∧ E + t ≤ 16777216) :
    ∃ n' z' x' a' c', e = .returned (.tuple #[dV n' a' (List.length z') c' x', .bool q, .int .i64 0]) ∧ Fm s E n' z' x' ∧ z'.length ≤ 4096 ∧ Lie w' a' z' ∧ WrA w.heap.size w' a' z'.length ∧ Below w.heap.size w w' := by
  obtain ⟨n4, a4, k4, c4, x4, code, lost, rfl, h4, h5, h6⟩ := h
  obtain ⟨rfl, z2, rfl, h7, F, l2, w2⟩ := h4.num hs hr
  obtain rfl := h5 rfl
  exact ⟨n4, z2, x4, a4, c4, rfl, F, h7, l2, w2, h4.bel⟩
end Go.Proofs.YtdnghibkagcbcaaGreatDoor
