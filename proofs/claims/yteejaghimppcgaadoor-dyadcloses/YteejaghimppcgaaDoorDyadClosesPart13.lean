import Derived.Test.YteejaghimppcgaaDoorDyadClosesPart12
namespace Go.Proofs.YteejaghimppcgaaDoor
open Go.RowKit Go.Wd Go.Box
set_option linter.unusedVariables false
set_option maxRecDepth 20000
/-- Two numbers in one row. -/
abbrev DO2 (n1 : Bool) (a1 : Option Addr) (k1 c1 : Nat) (e1 : Int) (n2 : Bool) (a2 : Option Addr) (k2 c2 : Nat) (e2 : Int) : Obj := .cells #[.bool n1, .slice a1 k1 c1, .int .i64 e1, .bool n2, .slice a2 k2 c2, .int .i64 e2] 36 (0, 0)
theorem lenK (a : Option Addr) (ca : Nat) (za : List Int) (w : World) {x : Int} (ha : Lie w a za) (ga : Good za x) {B : Nat} (hB : BitLen x B) :
    Calls Tryd.prog 92 #[.slice a za.length ca] w fun e w' => e = .returned (.int .i64 B) ∧ Below w.heap.size w w' := by
  refine (lenN a ca za w ha ga).mono ?_
  rintro e w' ⟨rfl, B2, rfl, h, _⟩
  obtain rfl := h.unique hB
  exact ⟨rfl, Below.refl _ _⟩
theorem ask2 (bits : Int) (b : Nat) (m : Bool) (w : World) (HM : ∀ W, Below w.heap.size w W → Calls Tryd.prog 74 #[.slice (some ⟨b, 0, none⟩) 2 2] W fun e w' => e = .returned (.bool m) ∧ Below W.heap.size W w') :
    Calls Tryd.prog 89 #[.int .i64 bits, .slice (some ⟨b, 0, none⟩) 2 2] w fun e w' => e = .returned (.int .i64 (askB bits m)) ∧ Below w.heap.size w w' := by
  have H := Hide.mk (HM w (Below.refl _ _))
  clear HM
  by_cases h1 : bits < 1
  · rw [show askB bits m = 2 by unfold askB; rw [if_pos (.inl h1)]]
    go_enter Tryd.func89, Tryd.ntmps89
    go_wp2
    go_ret
    exact ⟨rfl, Below.refl _ _⟩
  · cases m
    · rw [show askB bits false = 2 by unfold askB; rw [if_pos (.inr rfl)]]
      go_enter Tryd.func89, Tryd.ntmps89
      go_wp2_with fail
      refine H.out.mono ?_
      rintro e w2 ⟨rfl, h2⟩
      clear H
      go_wp2
      go_ret
      exact ⟨rfl, h2⟩
    · by_cases h3 : 8192 < bits
      · rw [show askB bits true = 3 by unfold askB; rw [if_neg (by simp; omega), if_pos h3]]
        go_enter Tryd.func89, Tryd.ntmps89
        go_wp2_with fail
        refine H.out.mono ?_
        rintro e w2 ⟨rfl, h2⟩
        clear H
        go_wp2
        go_ret
        exact ⟨rfl, h2⟩
      · rw [show askB bits true = 0 by unfold askB; rw [if_neg (by simp; omega), if_neg h3]]
        go_enter Tryd.func89, Tryd.ntmps89
        go_wp2_with fail
        refine H.out.mono ?_
        rintro e w2 ⟨rfl, h2⟩
        clear H
        go_wp2
        go_ret
        exact ⟨rfl, h2⟩
theorem ask_ok {bits : Int} (h1 : 1 ≤ bits) (h2 : bits ≤ 8192) : askB bits true = 0 := by unfold askB; rw [if_neg (by simp; omega), if_neg (by omega)]
theorem quo_ask (n1 n2 : Bool) (a1 a2 : Option Addr) (c1 c2 : Nat) (z1 z2 : List Int) (e1 e2 bits code : Int) (w W : World) {L : List (Nat × Obj)} {g : Nat} (u1 : DLie w a1 z1) (u2 : DLie w a2 z2) (B : Bx w ((g, DO2 n1 a1 z1.length c1 e1 n2 a2 z2.length c2 e2) :: L) W) (hc : askB bits (dmayB n1 z1 e1 && dmayB n2 z2 e2) = code) :
    Calls Tryd.prog 89 #[.int .i64 bits, .slice (some ⟨g, 0, none⟩) 2 2] W fun e w' => e = .returned (.int .i64 code) ∧ Below W.heap.size W w' := by
  subst hc
  refine ask2 bits g _ W (fun W2 h2 => ?_)
  have B2 := B.keep h2
  exact dallMay2 g n1 a1 c1 z1 e1 n2 a2 c2 z2 e2 W2 (u1.below B2.bel) (u2.below B2.bel) _ _ rfl rfl (B2.cell g _ _ (.head _) 0) (B2.cell g _ _ (.head _) 1) (B2.cell g _ _ (.head _) 2) (B2.cell g _ _ (.head _) 3) (B2.cell g _ _ (.head _) 4) (B2.cell g _ _ (.head _) 5)
theorem quo_boxes (n1 n2 : Bool) (a1 a2 : Option Addr) (c1 c2 k1 k2 : Nat) (e1 e2 : Int) (w : World) :
    Bx w [(w.heap.size + 1 + 1 + 1, DO2 n1 a1 k1 c1 e1 n2 a2 k2 c2 e2), (w.heap.size + 1 + 1, DO false none 0 0 0), (w.heap.size + 1, DO n2 a2 k2 c2 e2), (w.heap.size, DO n1 a1 k1 c1 e1)] ((((w.alloc (DO n1 a1 k1 c1 e1)).alloc (DO n2 a2 k2 c2 e2)).alloc (DO false none 0 0 0)).alloc (DO2 n1 a1 k1 c1 e1 n2 a2 k2 c2 e2)) := by
  have B1 := ((((Bx.nil w).push (DO n1 a1 k1 c1 e1)).push (DO n2 a2 k2 c2 e2)).push (DO false none 0 0 0)).push (DO2 n1 a1 k1 c1 e1 n2 a2 k2 c2 e2)
  rw [show (((w.alloc (DO n1 a1 k1 c1 e1)).alloc (DO n2 a2 k2 c2 e2)).alloc (DO false none 0 0 0)).heap.size = w.heap.size + 1 + 1 + 1 by simp, show ((w.alloc (DO n1 a1 k1 c1 e1)).alloc (DO n2 a2 k2 c2 e2)).heap.size = w.heap.size + 1 + 1 by simp, show (w.alloc (DO n1 a1 k1 c1 e1)).heap.size = w.heap.size + 1 by simp] at B1
  exact B1
theorem quo_nil (n1 n2 : Bool) (a1 a2 : Option Addr) (c1 c2 : Nat) (z1 z2 : List Int) (e1 e2 bits : Int) (w : World) (l1 : Lie w a1 z1) (l2 : Lie w a2 z2) (g1 : DG n1 z1 e1) (g2 : DG n2 z2 e2) (hb1 : 1 ≤ bits) (hb2 : bits ≤ 8192) (hz2 : 0 < z2.length) (hz : z1.length ≤ 0) :
    Calls Tryd.prog 50 #[dV n1 a1 z1.length c1 e1, dV n2 a2 z2.length c2 e2, .int .i64 bits] w fun e w' => e = .returned (.tuple #[noD, .bool false, .int .i64 0]) ∧ Below w.heap.size w w' := by
  have B1 := quo_boxes n1 n2 a1 a2 c1 c2 z1.length z2.length e1 e2 w
  have H := Hide.mk (quo_ask n1 n2 a1 a2 c1 c2 z1 z2 e1 e2 bits 0 w _ (g1.lie l1) (g2.lie l2) B1 (by rw [g1.may, g2.may]; exact ask_ok hb1 hb2))
  have HN := fun W => Hide.mk (nought_no a2 z2.length c2 W hz2)
  have HM := fun W => Hide.mk (nought_yes a1 z1.length c1 W hz)
  clear l1 l2 hz hz2
  go_enter Tryd.func50, Tryd.ntmps50
  go_wp2_with fail
  refine H.out.mono ?_
  rintro e w2 ⟨rfl, h2⟩
  have B2 := (B1.keep h2).sub (L' := [(w.heap.size + 1 + 1, DO false none 0 0 0), (w.heap.size + 1, DO n2 a2 z2.length c2 e2), (w.heap.size, DO n1 a1 z1.length c1 e1)]) (by simp)
  clear h2 B1 H
  obtain ⟨⟨s0, s1, s2⟩, _⟩ := cells3 B2 (w.heap.size + 1) _ _ _ _ (.tail _ (.head _))
  obtain ⟨⟨q0, q1, q2⟩, _⟩ := cells3 B2 (w.heap.size) _ _ _ _ (.tail _ (.tail _ (.head _)))
  go_wp2_with fail
  refine (HN _).out.mono ?_
  rintro e w3 ⟨rfl, rfl⟩
  clear HN s0 s1 s2
  go_wp2_with fail
  refine (HM _).out.mono ?_
  rintro e w3 ⟨rfl, rfl⟩
  clear HM q0 q1 q2
  replace B2 := B2.sub (L' := [(w.heap.size + 1 + 1, DO false none 0 0 0)]) (by simp)
  obtain ⟨⟨t0, t1, t2⟩, u0, u1, u2⟩ := cells3 B2 (w.heap.size + 1 + 1) _ _ _ _ (.head _)
  go_wp2
  have B3 := B2.fill3 (by omega) (by simp) (.bool false) (.slice none 0 0) (.int .i64 0)
  refine bodyPost_ret (results_D3 rfl _ _ (w.heap.size + 1 + 1) _ rfl ⟨B3.head, rfl⟩) rfl ?_
  exact ⟨rfl, B3.bel⟩
theorem g_size {n : Bool} {z : List Int} {ex : Int} (g : DG n z ex) {L : Nat} (b : Bits (Nt.val z) L) : L ≤ 131072 := by
  have := b.fits (n := 0) (by rw [Int.pow_zero, Int.mul_one]; exact g.good.lt.2)
  omega
theorem qf_nn {x y : Int} (hx : 0 ≤ x) (hy : 0 < y) (i : Int) : 0 ≤ qf x y i := Int.ediv_nonneg (Int.mul_nonneg hx (Int.le_of_lt (p2pos _))) (Int.mul_nonneg (by omega) (Int.le_of_lt (p2pos _)))
end Go.Proofs.YteejaghimppcgaaDoor

namespace Go.Proofs.YteejaghimppcgaaDoor
open Go.RowKit Go.Wd Go.Box
set_option linter.unusedVariables false
set_option maxRecDepth 20000
set_option maxHeartbeats 4000000 in
theorem quo_good (n1 n2 : Bool) (a1 a2 : Option Addr) (c1 c2 : Nat) (z1 z2 : List Int) (e1 e2 bits : Int) (w : World) (l1 : Lie w a1 z1) (l2 : Lie w a2 z2) (g1 : DG n1 z1 e1) (g2 : DG n2 z2 e2) (hT : Tab w) (hb1 : 1 ≤ bits) (hb2 : bits ≤ 8192) (hz1 : 0 < z1.length) (hz2 : 0 < z2.length) {La Lb : Nat} (bx : Bits (Nt.val z1) La) (bY : Bits (Nt.val z2) Lb) (up : Int) (hup : bits + Lb - La = up) {B : Nat} (hB : BitLen (qf (Nt.val z1) (Nt.val z2) up) B) (hB2 : B ≤ 131072) (d : Nat) (hd : max ((B : Int) - bits) 0 = (d : Int)) :
    Calls Tryd.prog 50 #[dV n1 a1 z1.length c1 e1, dV n2 a2 z2.length c2 e2, .int .i64 bits] w fun e w' => DCut w w' (sv (n1 != n2) (qf (Nt.val z1) (Nt.val z2) up / 2 ^ d)) (e1 - e2 - up + d) (decide (qf (Nt.val z1) (Nt.val z2) up % 2 ^ d ≠ 0) || qg (Nt.val z1) (Nt.val z2) up) e := by
  have B1 := quo_boxes n1 n2 a1 a2 c1 c2 z1.length z2.length e1 e2 w
  have H := Hide.mk (quo_ask n1 n2 a1 a2 c1 c2 z1 z2 e1 e2 bits 0 w _ (g1.lie l1) (g2.lie l2) B1 (by rw [g1.may, g2.may]; exact ask_ok hb1 hb2))
  have HN := fun W => Hide.mk (nought_no a2 z2.length c2 W hz2)
  have HM := fun W => Hide.mk (nought_no a1 z1.length c1 W hz1)
  have p1 := g1.pos hz1
  have p2 := g2.pos hz2
  have s1 := g_size g1 bx
  have s2 := g_size g2 bY
  have x1 := g1.ex_bd
  have x2 := g2.ex_bd
  have HLb := fun W (h : Below w.heap.size w W) => lenK a2 c2 z2 W (l2.below h (Nat.le_refl _)) g2.good (B := Lb) (.inr ⟨p2, bY⟩)
  have HLa := fun W (h : Below w.heap.size w W) => lenK a1 c1 z1 W (l1.below h (Nat.le_refl _)) g1.good (B := La) (.inr ⟨p1, bx⟩)
  have HW := fun W (h : Below w.heap.size w W) => Hide.mk (wholeQuoC a1 a2 c1 c2 z1 z2 W (l1.below h (Nat.le_refl _)) (l2.below h (Nat.le_refl _)) g1.good g2.good (hT.below h (Nat.le_refl _)) p1 p2 bx bY s1 s2 bits hb1 hb2 up hup.symm)
  have HC := fun (zq : List Int) (aq : Option Addr) (cq : Nat) W (h : Below w.heap.size w W) (lq : Lie W aq zq) (gq : Good zq (qf (Nt.val z1) (Nt.val z2) up)) => Hide.mk (cutC (n1 != n2) aq cq zq (e1 - e2 - up) bits (qg (Nt.val z1) (Nt.val z2) up) W lq gq (hT.below h (Nat.le_refl _)) hb1 hb2 (by omega) (by omega) hB hB2 d hd)
  have HU := Hide.mk hup
  have u1 : -200000 ≤ up := by omega
  have u2 : up ≤ 200000 := by omega
  have v1 : -200000 ≤ bits + (Lb : Int) := by omega
  have v2 : bits + (Lb : Int) ≤ 200000 := by omega
  have y1 := x1.1
  have y2 := x1.2
  have y3 := x2.1
  have y4 := x2.2
  clear l1 l2 hz1 hz2 hB hd hup x1 x2 hT
  generalize hQ : qf (Nt.val z1) (Nt.val z2) up = Q at *
  generalize hG : qg (Nt.val z1) (Nt.val z2) up = G at *
  go_enter Tryd.func50, Tryd.ntmps50
  go_wp2_with fail
  refine H.out.mono ?_
  rintro e w2 ⟨rfl, h2⟩
  have HF := (B1.keep h2).sub (L' := [(w.heap.size + 1 + 1, DO false none 0 0 0), (w.heap.size + 1, DO n2 a2 z2.length c2 e2), (w.heap.size, DO n1 a1 z1.length c1 e1)]) (by simp)
  clear h2 B1 H
  obtain ⟨⟨s0, s1, s2⟩, _⟩ := cells3 HF (w.heap.size + 1) _ _ _ _ (.tail _ (.head _))
  obtain ⟨⟨q0, q1, q2⟩, _⟩ := cells3 HF (w.heap.size) _ _ _ _ (.tail _ (.tail _ (.head _)))
  go_wp2_with fail
  refine (HN _).out.mono ?_
  rintro e w3 ⟨rfl, rfl⟩
  clear HN s0 s1 s2
  go_wp2_with fail
  refine (HM _).out.mono ?_
  rintro e w3 ⟨rfl, rfl⟩
  clear HM q0 q1 q2
  go_wp2_with fail
  replace HF := HF.drew
  have HI := HF
  have sh := fun W (hW : Bx w [(w.heap.size + 1 + 1, DO false none 0 0 0), (w.heap.size + 1, DO n2 a2 z2.length c2 e2), (w.heap.size, DO n1 a1 z1.length c1 e1)] W) => And.intro (cells3 hW (w.heap.size + 1) _ _ _ _ (.tail _ (.head _))).1 (cells3 hW w.heap.size _ _ _ _ (.tail _ (.tail _ (.head _)))).1
  refine Drawn.enter (Bx w [(w.heap.size + 1 + 1, DO false none 0 0 0), (w.heap.size + 1, DO n2 a2 z2.length c2 e2), (w.heap.size, DO n1 a1 z1.length c1 e1)]) (by kernel_rfl) ?_
  refine Drawn.take (i := 0) (v := ?v0) rfl (by kernel_rfl) (by kernel_rfl) (by kernel_rfl) (fun _ _ _ h => h) (by kernel_rfl) (fun W hW => ?_) HI ?_
  rotate_left
  · have ⟨⟨s0, s1, s2⟩, q0, q3, q4⟩ := sh W hW
    go_simp <;> exact rfl
  refine Drawn.take (i := 1) (v := ?v1) rfl (by kernel_rfl) (by kernel_rfl) (by kernel_rfl) (fun _ _ _ h => h) (by kernel_rfl) (fun W hW => ?_) HI ?_
  rotate_left
  · have ⟨⟨s0, s1, s2⟩, q0, q3, q4⟩ := sh W hW
    go_simp <;> exact rfl
  refine Drawn.take (i := 2) (v := ?v2) rfl (by kernel_rfl) (by kernel_rfl) (by kernel_rfl) (fun _ _ _ h => h) (by kernel_rfl) (fun W hW => ?_) HI ?_
  rotate_left
  · have ⟨⟨s0, s1, s2⟩, q0, q3, q4⟩ := sh W hW
    go_simp <;> exact rfl
  refine Drawn.take (i := 5) (v := ?v3) rfl (by kernel_rfl) (by kernel_rfl) (by kernel_rfl) (fun _ _ _ h => h) (by kernel_rfl) (fun W hW => ?_) HI ?_
  rotate_left
  · have ⟨⟨s0, s1, s2⟩, q0, q3, q4⟩ := sh W hW
    go_simp <;> exact rfl
  refine Drawn.take (i := 6) (v := ?v4) rfl (by kernel_rfl) (by kernel_rfl) (by kernel_rfl) (fun _ _ _ h => h) (by kernel_rfl) (fun W hW => ?_) HI ?_
  rotate_left
  · have ⟨⟨s0, s1, s2⟩, q0, q3, q4⟩ := sh W hW
    go_simp <;> exact rfl
  refine Drawn.one (j := 3) (by kernel_rfl) rfl (fun K hK => ?_)
  go_simp
  refine (HLb _ HI.bel).mono ?_
  rintro e wn ⟨rfl, hn⟩
  refine hK _ _ (HI.keep hn) ?_
  clear hK K
  replace HI := HI.keep hn
  replace HF := HF.keep hn
  clear hn
  refine Drawn.take (i := 4) (v := ?v5) rfl (by kernel_rfl) (by kernel_rfl) (by kernel_rfl) (fun _ _ _ h => h) (by kernel_rfl) (fun W hW => ?_) HI ?_
  rotate_left
  · have ⟨⟨s0, s1, s2⟩, q0, q3, q4⟩ := sh W hW
    go_simp <;> exact rfl
  refine Drawn.one (j := 7) (by kernel_rfl) rfl (fun K hK => ?_)
  go_simp
  refine (HLa _ HI.bel).mono ?_
  rintro e wn ⟨rfl, hn⟩
  refine hK _ _ (HI.keep hn) ?_
  clear hK K
  replace HI := HI.keep hn
  replace HF := HF.keep hn
  clear hn
  refine Drawn.take (i := 8) (v := ?v6) rfl (by kernel_rfl) (by kernel_rfl) (by kernel_rfl) (fun _ _ _ h => h) (by kernel_rfl) (fun W hW => ?_) HI ?_
  rotate_left
  · have ⟨⟨s0, s1, s2⟩, q0, q3, q4⟩ := sh W hW
    go_simp <;> exact rfl
  refine Drawn.take (i := 9) (v := ?v7) rfl (by kernel_rfl) (by kernel_rfl) (by kernel_rfl) (fun _ _ _ h => h) (by kernel_rfl) (fun W hW => ?_) HI ?_
  rotate_left
  · have ⟨⟨s0, s1, s2⟩, q0, q3, q4⟩ := sh W hW
    go_simp <;> exact rfl
  refine Drawn.done (by kernel_rfl) ?_
  try go_simp
  obtain ⟨⟨s0, s1, s2⟩, _⟩ := cells3 HF (w.heap.size + 1) _ _ _ _ (.tail _ (.head _))
  obtain ⟨⟨q0, q1, q2⟩, _⟩ := cells3 HF (w.heap.size) _ _ _ _ (.tail _ (.tail _ (.head _)))
  go_wp2_with fail
  rw [HU.out]
  refine (HW _ HF.bel).out.mono ?_
  rintro e w5 ⟨zq, aq, cq, rfl, gq, lq, h5⟩
  replace HF := HF.keep h5
  have HC2 := HC zq aq cq _ HF.bel lq gq
  clear HC HW h5 s0 s1 s2 q0 q1 q2
  obtain ⟨⟨s0, s1, s2⟩, _⟩ := cells3 HF (w.heap.size + 1) _ _ _ _ (.tail _ (.head _))
  obtain ⟨⟨q0, q1, q2⟩, _⟩ := cells3 HF (w.heap.size) _ _ _ _ (.tail _ (.tail _ (.head _)))
  go_wp2_with fail
  rw [HU.out, show (!n1 == n2) = (n1 != n2) from rfl]
  refine HC2.out.mono ?_
  rintro e w4 ⟨n4, a4, k4, c4, x4, code, lost, rfl, h4, h5, h6⟩
  have hlt : w.heap.size + 1 + 1 < w5.heap.size := HF.lt (p := (w.heap.size + 1 + 1, DO false none 0 0 0)) (.head _)
  have HFb := HF.bel
  have B4 := (HF.keep h4.bel).sub (L' := [(w.heap.size + 1 + 1, DO false none 0 0 0)]) (by simp)
  have V := Hide.mk (And.intro h4 (And.intro h5 h6))
  clear h4 h5 h6 s0 s1 s2 q0 q1 q2 HC2 HF
  obtain ⟨⟨t0, t1, t2⟩, u0, u1, u2⟩ := cells3 B4 (w.heap.size + 1 + 1) _ _ _ _ (.head _)
  go_wp2
  refine bodyPost_ret (results_D3 rfl _ _ (w.heap.size + 1 + 1) _ rfl ⟨(B4.fill3 (by omega) (by simp) _ _ _).head, rfl⟩) rfl ?_
  exact ⟨n4, a4, k4, c4, x4, code, lost, rfl, V.out.1.back HFb (by omega) hlt _ _ _, V.out.2.1, V.out.2.2⟩
end Go.Proofs.YteejaghimppcgaaDoor

namespace Go.Proofs.YteejaghimppcgaaDoor
open Go.RowKit Go.Wd Go.Box
set_option linter.unusedVariables false
set_option maxRecDepth 3000
theorem fmG {n : Bool} {zs : List Int} {ex : Int} (g : DG n zs ex) : Fm (sv n (Nt.val zs)) ex n zs ex := by
  by_cases hz : 0 < zs.length
  · have hp := g.pos hz
    refine .inr ⟨fun c => by rw [sv_zero] at c; omega, 0, ?_, ?_, by omega, g.can, ?_⟩
    · rw [sv_abs _ (by omega)]; exact odd_low (g.odd hz)
    · rw [sv_neg _ hp]
    · rw [sv_abs _ (by omega)]; simp
  · obtain ⟨rfl, rfl, rfl⟩ := g.nil (by omega)
    exact .inl ⟨rfl, rfl, rfl, rfl⟩
/-- The reference's Cut. -/
def RCut (w w' : World) (s E : Int) (q : Bool) (e : Ending) : Prop :=
  ∃ n zs ex a c, e = .returned (.tuple #[dV n a zs.length c ex, .bool q]) ∧ Fm s E n zs ex ∧ Lie w' a zs ∧ Below w.heap.size w w'
end Go.Proofs.YteejaghimppcgaaDoor

namespace Go.Proofs.YteejaghimppcgaaDoor
open Go.RowKit Go.Wd Go.Box
set_option linter.unusedVariables false
set_option maxRecDepth 3000
/-- An answer that is a number, with its memory. -/
theorem DV.num {w w' : World} {s E : Int} {n : Bool} {a : Option Addr} {k c : Nat} {ex code : Int} (h : DV w w' s E n a k c ex code) (hs : (s.natAbs : Int) < 4294967296 ^ 4096) (hr : s = 0 ∨ ∃ t : Nat, LowBit (s.natAbs : Int) t ∧ -16777216 ≤ E + t ∧ E + t ≤ 16777216) :
    code = 0 ∧ ∃ zs : List Int, k = zs.length ∧ zs.length ≤ 4096 ∧ Fm s E n zs ex ∧ Lie w' a zs ∧ WrA w.heap.size w' a zs.length := by
  rcases h.all with ⟨h0, rfl, rfl, rfl, rfl, rfl, rfl⟩ | ⟨h0, t, ht, hh⟩
  · exact ⟨rfl, [], rfl, by simp, .inl ⟨h0, rfl, rfl, rfl⟩, .inl rfl, .inl rfl⟩
  · rcases hr with hr | ⟨r, hr, r1, r2⟩
    · exact absurd hr h0
    · obtain rfl := ht.unique hr
      rcases hh with ⟨j1, j2, rfl, rfl, rfl, zs, rfl, j6, j7⟩ | ⟨j1, _⟩ | ⟨_, j1, _⟩
      · obtain ⟨a2, c2, he, _, _, hl2⟩ := j7.lie
        simp only [Value.slice.injEq, true_and] at he
        obtain ⟨rfl, rfl⟩ := he
        exact ⟨rfl, zs, rfl, j6.len, .inr ⟨h0, t, ht, rfl, rfl, j6.can, j6.val⟩, hl2, j7.wrA⟩
      · have : (s.natAbs : Int) / 2 ^ t ≤ (s.natAbs : Int) := Int.ediv_le_self _ (by omega)
        exact absurd (Int.lt_of_le_of_lt this hs) (Int.not_lt.2 j1)
      · omega
theorem DV.out {w w' : World} {s E : Int} {n : Bool} {a : Option Addr} {k c : Nat} {ex code : Int} (h : DV w w' s E n a k c ex code) (hs : (s.natAbs : Int) < 4294967296 ^ 4096) (h0 : s ≠ 0) {t : Nat} (ht : LowBit (s.natAbs : Int) t) (hr : E + t < -16777216 ∨ 16777216 < E + t) :
    n = false ∧ a = none ∧ k = 0 ∧ c = 0 ∧ ex = 0 ∧ code = 20 := by
  rcases h.all with ⟨q, _⟩ | ⟨_, r, hr2, hh⟩
  · exact absurd q h0
  · obtain rfl := ht.unique hr2
    rcases hh with ⟨j1, j2, _⟩ | ⟨j1, _⟩ | ⟨_, _, j⟩
    · omega
    · have : (s.natAbs : Int) / 2 ^ t ≤ (s.natAbs : Int) := Int.ediv_le_self _ (by omega)
      exact absurd (Int.lt_of_le_of_lt this hs) (Int.not_lt.2 j1)
    · exact j
theorem sv_lt {n : Bool} {zs : List Int} {ex : Int} (g : DG n zs ex) (d : Nat) : ((sv n (Nt.val zs / 2 ^ d)).natAbs : Int) < 4294967296 ^ 4096 := by
  have h1 := g.good.lt
  have h2 : Nt.val zs / 2 ^ d ≤ Nt.val zs := Int.ediv_le_self _ h1.1
  have h3 := Int.ediv_nonneg h1.1 (Int.le_of_lt (p2pos d))
  rw [sv_abs _ h3]
  exact Int.lt_of_le_of_lt h2 h1.2
/-- The exponent of what is shifted. -/
def shx (zs : List Int) (ex cnt : Int) : Int := if zs.length = 0 then 0 else ex + cnt
theorem cut_near (n : Bool) (a : Option Addr) (c : Nat) (zs : List Int) (ex bits : Int) (w : World) (hl : Lie w a zs) (g : DG n zs ex) (hT : Tab w) (hb1 : 1 ≤ bits) (hb2 : bits ≤ 8192) {B : Nat} (hB : BitLen (Nt.val zs) B) (hB2 : B ≤ 131072) (d : Nat) (hd : max ((B : Int) - bits) 0 = (d : Int)) (q : Bool) (hq : decide (Nt.val zs % 2 ^ d ≠ 0) = q) {s : Int} (hs : sv n (Nt.val zs / 2 ^ d) = s) (hr : s = 0 ∨ ∃ t : Nat, LowBit (s.natAbs : Int) t ∧ ex + d + t ≤ 16777216) :
    Calls Tryd.prog 46 #[dV n a zs.length c ex, .int .i64 bits] w fun e w' => ∃ n' z' x' a' c', e = .returned (.tuple #[dV n' a' z'.length c' x', .bool q, .int .i64 0]) ∧ Fm s (ex + d) n' z' x' ∧ z'.length ≤ 4096 ∧ Lie w' a' z' ∧ WrA w.heap.size w' a' z'.length ∧ Below w.heap.size w w' := by
  refine (cut_good n a c zs ex bits w hl g hT hb1 hb2 hB hB2 d hd).mono ?_
  rintro e w' ⟨n4, a4, k4, c4, x4, code, lost, rfl, h4, h5, h6⟩
  rw [hs] at h4
  have hx := g.ex_bd
  obtain ⟨rfl, z2, rfl, h7, F, l2, w2⟩ := h4.num (by rw [← hs]; exact sv_lt g d) (by
    rcases hr with hr | ⟨t, ht, hr⟩
    · exact .inl hr
    · exact .inr ⟨t, ht, by omega, hr⟩)
  obtain rfl := h5 rfl
  rw [hq, Bool.or_false]
  exact ⟨n4, z2, x4, a4, c4, rfl, F, h7, l2, w2, h4.bel⟩
theorem Fm.rng {s E : Int} {n : Bool} {zs : List Int} {ex : Int} (F : Fm s E n zs ex) : Nt.Rng zs := by
  rcases F with ⟨_, _, rfl, _⟩ | ⟨_, _, _, _, _, hc, _⟩
  · exact Nt.can_nil.1
  · exact hc.1
end Go.Proofs.YteejaghimppcgaaDoor

namespace Go.Proofs.YteejaghimppcgaaDoor
open Go.RowKit Go.Wd Go.Box
set_option linter.unusedVariables false
set_option maxRecDepth 20000
theorem sv_abs2 (n : Bool) {x : Int} (h : 0 ≤ x) : ((sv n x).natAbs : Int) = x := by
  cases n
  · rw [sv_f]; omega
  · rw [sv_t]; omega
theorem sv_ne (n : Bool) {x : Int} (h : 0 < x) : sv n x ≠ 0 := by
  cases n
  · rw [sv_f]; omega
  · rw [sv_t]; omega
end Go.Proofs.YteejaghimppcgaaDoor

namespace Go.Proofs.YteejaghimppcgaaDoor
open Go.RowKit Go.Wd Go.Box
set_option linter.unusedVariables false
set_option maxRecDepth 20000
theorem shiftAny (a : Option Addr) (ca : Nat) (za : List Int) (w : World) {x : Int} (ha : Lie w a za) (ga : Good za x) (hT : Tab w) (up : Int) (h1 : -1000000 ≤ up) (hf : ∀ n : Nat, up = (n : Int) → x * 2 ^ n < 4294967296 ^ 4096) :
    Calls Tryd.prog 94 #[.slice a za.length ca, .int .i64 up] w fun e w' => ∃ zs a' c, e = .returned (.tuple #[.slice a' (List.length zs) c, .bool (decide (x % 2 ^ (-up).toNat ≠ 0)), .int .i64 0]) ∧ Good zs (x * 2 ^ up.toNat / 2 ^ (-up).toNat) ∧ Lie w' a' zs ∧ Below w.heap.size w w' := by
  by_cases h : 0 ≤ up
  · refine (shiftUi a ca za w ha ga up up.toNat (by omega) (hf _ (by omega))).mono ?_
    rintro e w' ⟨zs, a', c, rfl, h2, _⟩
    refine ⟨zs, a', c, ?_, ?_, h2.lie, h2.bel⟩
    · rw [show (-up).toNat = 0 by omega, Int.pow_zero, Int.emod_one]; rfl
    · rw [show (-up).toNat = 0 by omega, Int.pow_zero, Int.ediv_one]; exact h2.good
  · refine (shiftDi a ca za w ha ga up (-up).toNat (by omega) (by omega) hT _ rfl).mono ?_
    rintro e w' ⟨zs, a', c, rfl, h2, _⟩
    refine ⟨zs, a', c, rfl, ?_, h2.lie, h2.bel⟩
    rw [show up.toNat = 0 by omega, Int.pow_zero, Int.mul_one]; exact h2.good
theorem rt_of {x e i up r : Int} (hu : up = e + 2 * i) (r0 : 0 ≤ r) (h1 : r * r ≤ x * 2 ^ up.toNat / 2 ^ (-up).toNat) (h2 : x * 2 ^ up.toNat / 2 ^ (-up).toNat < (r + 1) * (r + 1)) :
    RtAt x e i r (decide (x % 2 ^ (-up).toNat ≠ 0) || !decide (r * r = x * 2 ^ up.toNat / 2 ^ (-up).toNat)) := by
  subst hu
  have hp := p2pos (-(e + 2 * i)).toNat
  refine ⟨r0, (Int.le_ediv_iff_mul_le hp).1 h1, (Int.ediv_lt_iff_lt_mul hp).1 h2, ?_⟩
  rw [← part_fl]
  generalize x * 2 ^ (e + 2 * i).toNat = X at *
  generalize (2 : Int) ^ (-(e + 2 * i)).toNat = D at *
  have e1 := Int.mul_ediv_add_emod X D
  generalize X / D = m at *
  generalize hs : X % D = s at *
  by_cases hz : s = 0
  · subst hz
    rw [Int.add_zero] at e1
    by_cases hr : r * r = m
    · rw [← hr] at e1
      rw [show r * r * D = D * (r * r) from Int.mul_comm _ _, e1]; simp [hr]
    · have e2 : decide (r * r * D ≠ X) = true := decide_eq_true (fun c => hr (Int.eq_of_mul_eq_mul_right (show D ≠ 0 by omega) (by rw [c, ← e1, Int.mul_comm])))
      rw [e2]; simp [hr]
  · have e2 : decide (r * r * D ≠ X) = true := decide_eq_true (fun c => hz (by rw [← hs, ← c, Int.mul_emod_left]))
    rw [e2, decide_eq_true hz]; rfl
theorem root_boxes (n : Bool) (a : Option Addr) (c k : Nat) (ex : Int) (w : World) :
    Bx w [(w.heap.size + 1 + 1, DO n a k c ex), (w.heap.size + 1, DO false none 0 0 0), (w.heap.size, DO n a k c ex)] (((w.alloc (DO n a k c ex)).alloc (DO false none 0 0 0)).alloc (DO n a k c ex)) := by
  have B1 := (((Bx.nil w).push (DO n a k c ex)).push (DO false none 0 0 0)).push (DO n a k c ex)
  rw [show ((w.alloc (DO n a k c ex)).alloc (DO false none 0 0 0)).heap.size = w.heap.size + 1 + 1 by simp, show (w.alloc (DO n a k c ex)).heap.size = w.heap.size + 1 by simp] at B1
  exact B1
theorem root_nil (a : Option Addr) (c : Nat) (zs : List Int) (ex bits : Int) (w : World) (l : Lie w a zs) (g : DG false zs ex) (hb1 : 1 ≤ bits) (hb2 : bits ≤ 8192) (hz : zs.length ≤ 0) :
    Calls Tryd.prog 51 #[dV false a zs.length c ex, .int .i64 bits] w fun e w' => e = .returned (.tuple #[noD, .bool false, .int .i64 0]) ∧ Below w.heap.size w w' := by
  have B1 := root_boxes false a c zs.length ex w
  have H := Hide.mk (cut_ask false a c zs ex bits 0 w _ (g.lie l) B1 (by rw [g.may]; exact ask_ok hb1 hb2))
  have HM := fun W => Hide.mk (nought_yes a zs.length c W hz)
  clear l hz
  go_enter Tryd.func51, Tryd.ntmps51
  go_wp2_with fail
  refine H.out.mono ?_
  rintro e w2 ⟨rfl, h2⟩
  have B2 := B1.keep h2
  clear h2 B1 H
  obtain ⟨⟨s0, s1, s2⟩, _⟩ := cells3 B2 w.heap.size _ _ _ _ (.tail _ (.tail _ (.head _)))
  go_wp2_with fail
  refine (HM _).out.mono ?_
  rintro e w3 ⟨rfl, rfl⟩
  clear HM
  obtain ⟨⟨t0, t1, t2⟩, u0, u1, u2⟩ := cells3 B2 (w.heap.size + 1) _ _ _ _ (.tail _ (.head _))
  go_wp2
  have B3 := (B2.sub (L' := [(w.heap.size + 1, DO false none 0 0 0)]) (by simp)).fill3 (by omega) (by simp) (.bool false) (.slice none 0 0) (.int .i64 0)
  refine bodyPost_ret (results_D3 rfl _ _ (w.heap.size + 1) _ rfl ⟨B3.head, rfl⟩) rfl ?_
  exact ⟨rfl, B3.bel⟩
theorem nneg_of (z : List Int) (h : Nt.Can z) : 0 ≤ Nt.val z := (Nt.val_bd h.1).1
theorem good_of {z : List Int} (h : Nt.Can z) {m : Int} (h1 : Nt.val z * Nt.val z ≤ m) (h2 : m < 4294967296 ^ 4096) : Good z (Nt.val z) := by
  refine ⟨h, (Nt.can_len h 4096).1 ?_, rfl⟩
  have n := nneg_of z h
  by_cases hz : Nt.val z = 0
  · rw [hz, pw32]; exact p2pos _
  · have := Int.mul_le_mul_of_nonneg_left (show 1 ≤ Nt.val z by omega) n
    omega
set_option maxHeartbeats 4000000 in
theorem root_even (a : Option Addr) (c : Nat) (zs : List Int) (ex bits : Int) (w : World) (l : Lie w a zs) (g : DG false zs ex) (hT : Tab w) (hb1 : 1 ≤ bits) (hb2 : bits ≤ 8192) (hz : 0 < zs.length) {La : Nat} (bx : Bits (Nt.val zs) La) (hpar : (ex - (2 * bits - (La : Int))).tmod 2 = 0) (up i r : Int) (more : Bool) (hup : 2 * bits - (La : Int) = up) (hi : up = ex + 2 * i) (hR : RtAt (Nt.val zs) ex i r more) {B : Nat} (hB : BitLen r B) (hB2 : B ≤ 131072) (d : Nat) (hd : max ((B : Int) - bits) 0 = (d : Int)) :
    Calls Tryd.prog 51 #[dV false a zs.length c ex, .int .i64 bits] w fun e w' => DCut w w' (sv false (r / 2 ^ d)) (-i + d) (decide (r % 2 ^ d ≠ 0) || more) e := by
  have B1 := root_boxes false a c zs.length ex w
  have H := Hide.mk (cut_ask false a c zs ex bits 0 w _ (g.lie l) B1 (by rw [g.may]; exact ask_ok hb1 hb2))
  have HM := fun W => Hide.mk (nought_no a zs.length c W hz)
  have p1 := g.pos hz
  have s1 := g_size g bx
  have x1 := g.ex_bd
  have HL := fun W (h : Below w.heap.size w W) => Hide.mk (lenK a c zs W (l.below h (Nat.le_refl _)) g.good (B := La) (.inr ⟨p1, bx⟩))
  have HS := fun W (h : Below w.heap.size w W) => Hide.mk (shiftAny a c zs W (l.below h (Nat.le_refl _)) g.good (hT.below h (Nat.le_refl _)) up (by omega) (fun n hn => by
    rw [pw32]
    have h1 := (bx.up n).lt
    have h2 := p2le (show La + n ≤ 131072 by omega)
    omega))
  have HR := fun (zr : List Int) (h0 : Nt.Can zr) (h1 : Nt.val zr * Nt.val zr ≤ Nt.val zs * 2 ^ up.toNat / 2 ^ (-up).toNat) (h2 : Nt.val zs * 2 ^ up.toNat / 2 ^ (-up).toNat < (Nt.val zr + 1) * (Nt.val zr + 1)) => Hide.mk ((rtFam (Nt.val zs) ex).uniq _ _ _ _ _ (rt_of hi (nneg_of zr h0) h1 h2) hR)
  have HC := fun (m : Bool) (hm : m = more) (zr : List Int) (ar : Option Addr) (cr : Nat) W (h : Below w.heap.size w W) (lr : Lie W ar zr) (gr : Good zr r) => Hide.mk (cutC false ar cr zr (-i) bits m W lr gr (hT.below h (Nat.le_refl _)) hb1 hb2 (by omega) (by omega) hB hB2 d hd)
  have HU := Hide.mk hup
  have HD : Hide ((ex - up).tdiv 2 = -i) := ⟨by rw [hi, show ex - (ex + 2 * i) = 2 * (-i) by omega, Int.mul_tdiv_cancel_left _ (by decide)]⟩
  have v1 : -300000 ≤ up := by omega
  have v2 : up ≤ 300000 := by omega
  have y1 := x1.1
  have y2 := x1.2
  clear l hz hB hd hup x1 hT hi hR bx g p1
  generalize Nt.val zs = X at *
  go_enter Tryd.func51, Tryd.ntmps51
  go_wp2_with fail
  refine H.out.mono ?_
  rintro e w2 ⟨rfl, h2⟩
  have HF := (B1.keep h2).sub (L' := [(w.heap.size + 1, DO false none 0 0 0), (w.heap.size, DO false a zs.length c ex)]) (by simp)
  clear h2 B1 H
  obtain ⟨⟨s0, s1, s2⟩, _⟩ := cells3 HF w.heap.size _ _ _ _ (.tail _ (.head _))
  go_wp2_with fail
  refine (HM _).out.mono ?_
  rintro e w3 ⟨rfl, rfl⟩
  clear HM
  go_wp2_with fail
  refine (HL _ HF.bel).out.mono ?_
  rintro e w3 ⟨rfl, h3⟩
  replace HF := HF.keep h3
  clear h3 HL s0 s1 s2
  obtain ⟨⟨s0, s1, s2⟩, _⟩ := cells3 HF w.heap.size _ _ _ _ (.tail _ (.head _))
  go_wp2_with fail
  rw [HU.out]
  refine (HS _ HF.bel).out.mono ?_
  rintro e w4 ⟨z4, a4, c4, rfl, g4, l4, h4⟩
  replace HF := HF.keep h4
  have HQ := Hide.mk (root_any a4 c4 z4 w4 l4 g4.can.1 g4.may)
  have hv4 := g4.val
  have hlt4 := g4.lt.2
  clear h4 HS s0 s1 s2 l4 g4
  obtain ⟨⟨s0, s1, s2⟩, _⟩ := cells3 HF w.heap.size _ _ _ _ (.tail _ (.head _))
  generalize hlost : decide (X % 2 ^ (-up).toNat ≠ 0) = lost at *
  go_wp2_with fail
  refine HQ.out.mono ?_
  rintro e w5 ⟨z5, a5, c5, rfl, o5, k5, i5, j5, h5⟩
  rw [hv4] at i5 j5
  rw [hv4]
  have hb5 := h5
  replace HF := HF.keep h5
  obtain ⟨e1, e2⟩ := (HR z5 k5 i5 j5).out
  have g5 := good_of k5 i5 hlt4
  rw [e1] at g5 e2
  rw [e1]
  obtain ⟨a5', c5', he5, _, _, l5⟩ := o5.lie
  simp only [Value.slice.injEq, true_and] at he5
  obtain ⟨rfl, rfl⟩ := he5
  have HC2 := fun m hm => HC m hm z5 a5 c5 w5 HF.bel l5 g5
  have HFb := HF.bel
  have hlt : w.heap.size + 1 < w5.heap.size := HF.lt (.head _)
  generalize hwh : decide (r * r = X * 2 ^ up.toNat / 2 ^ (-up).toNat) = whole at *
  have HE := Hide.mk e2
  clear h5 HQ s0 s1 s2 k5 o5 i5 j5 l5 g5 e1 e2 hlost hwh hv4 hlt4 HR HC
  obtain ⟨⟨s0, s1, s2⟩, _⟩ := cells3 HF w.heap.size _ _ _ _ (.tail _ (.head _))
  cases lost
  · go_wp2_with fail
    rw [HD.out]
    refine (HC2 (!whole) HE.out).out.mono ?_
    rintro e w6 ⟨n4, a4, k4, c4, x4, code, lost, rfl, h4, h5, h6⟩
    have B4 := (HF.keep h4.bel).sub (L' := [(w.heap.size + 1, DO false none 0 0 0)]) (by simp)
    have V := Hide.mk (And.intro h4 (And.intro h5 h6))
    clear h4 h5 h6 s0 s1 s2 HC2 HF
    obtain ⟨⟨t0, t1, t2⟩, u0, u1, u2⟩ := cells3 B4 (w.heap.size + 1) _ _ _ _ (.head _)
    go_wp2
    refine bodyPost_ret (results_D3 rfl _ _ (w.heap.size + 1) _ rfl ⟨(B4.fill3 (by omega) (by simp) _ _ _).head, rfl⟩) rfl ?_
    have W2 := V.out.2
    rw [show (!whole) = more from HE.out] at W2
    exact ⟨n4, a4, k4, c4, x4, code, lost, rfl, V.out.1.back HFb (by omega) hlt _ _ _, W2.1, W2.2⟩
  · go_wp2_with fail
    rw [HD.out]
    refine (HC2 true HE.out).out.mono ?_
    rintro e w6 ⟨n4, a4, k4, c4, x4, code, lost, rfl, h4, h5, h6⟩
    have B4 := (HF.keep h4.bel).sub (L' := [(w.heap.size + 1, DO false none 0 0 0)]) (by simp)
    have V := Hide.mk (And.intro h4 (And.intro h5 h6))
    clear h4 h5 h6 s0 s1 s2 HC2 HF
    obtain ⟨⟨t0, t1, t2⟩, u0, u1, u2⟩ := cells3 B4 (w.heap.size + 1) _ _ _ _ (.head _)
    go_wp2
    refine bodyPost_ret (results_D3 rfl _ _ (w.heap.size + 1) _ rfl ⟨(B4.fill3 (by omega) (by simp) _ _ _).head, rfl⟩) rfl ?_
    have W2 := V.out.2
    rw [show true = more from HE.out] at W2
    exact ⟨n4, a4, k4, c4, x4, code, lost, rfl, V.out.1.back HFb (by omega) hlt _ _ _, W2.1, W2.2⟩
set_option maxHeartbeats 4000000 in
theorem root_odd (a : Option Addr) (c : Nat) (zs : List Int) (ex bits : Int) (w : World) (l : Lie w a zs) (g : DG false zs ex) (hT : Tab w) (hb1 : 1 ≤ bits) (hb2 : bits ≤ 8192) (hz : 0 < zs.length) {La : Nat} (bx : Bits (Nt.val zs) La) (hpar : ¬ (ex - (2 * bits - (La : Int))).tmod 2 = 0) (up i r : Int) (more : Bool) (hup : 2 * bits - (La : Int) - 1 = up) (hi : up = ex + 2 * i) (hR : RtAt (Nt.val zs) ex i r more) {B : Nat} (hB : BitLen r B) (hB2 : B ≤ 131072) (d : Nat) (hd : max ((B : Int) - bits) 0 = (d : Int)) :
    Calls Tryd.prog 51 #[dV false a zs.length c ex, .int .i64 bits] w fun e w' => DCut w w' (sv false (r / 2 ^ d)) (-i + d) (decide (r % 2 ^ d ≠ 0) || more) e := by
  have B1 := root_boxes false a c zs.length ex w
  have H := Hide.mk (cut_ask false a c zs ex bits 0 w _ (g.lie l) B1 (by rw [g.may]; exact ask_ok hb1 hb2))
  have HM := fun W => Hide.mk (nought_no a zs.length c W hz)
  have p1 := g.pos hz
  have s1 := g_size g bx
  have x1 := g.ex_bd
  have HL := fun W (h : Below w.heap.size w W) => Hide.mk (lenK a c zs W (l.below h (Nat.le_refl _)) g.good (B := La) (.inr ⟨p1, bx⟩))
  have HS := fun W (h : Below w.heap.size w W) => Hide.mk (shiftAny a c zs W (l.below h (Nat.le_refl _)) g.good (hT.below h (Nat.le_refl _)) up (by omega) (fun n hn => by
    rw [pw32]
    have h1 := (bx.up n).lt
    have h2 := p2le (show La + n ≤ 131072 by omega)
    omega))
  have HR := fun (zr : List Int) (h0 : Nt.Can zr) (h1 : Nt.val zr * Nt.val zr ≤ Nt.val zs * 2 ^ up.toNat / 2 ^ (-up).toNat) (h2 : Nt.val zs * 2 ^ up.toNat / 2 ^ (-up).toNat < (Nt.val zr + 1) * (Nt.val zr + 1)) => Hide.mk ((rtFam (Nt.val zs) ex).uniq _ _ _ _ _ (rt_of hi (nneg_of zr h0) h1 h2) hR)
  have HC := fun (m : Bool) (hm : m = more) (zr : List Int) (ar : Option Addr) (cr : Nat) W (h : Below w.heap.size w W) (lr : Lie W ar zr) (gr : Good zr r) => Hide.mk (cutC false ar cr zr (-i) bits m W lr gr (hT.below h (Nat.le_refl _)) hb1 hb2 (by omega) (by omega) hB hB2 d hd)
  have HU := Hide.mk hup
  have HD : Hide ((ex - up).tdiv 2 = -i) := ⟨by rw [hi, show ex - (ex + 2 * i) = 2 * (-i) by omega, Int.mul_tdiv_cancel_left _ (by decide)]⟩
  have v1 : -300000 ≤ up := by omega
  have v2 : up ≤ 300000 := by omega
  have y1 := x1.1
  have y2 := x1.2
  clear l hz hB hd hup x1 hT hi hR bx g p1
  generalize Nt.val zs = X at *
  go_enter Tryd.func51, Tryd.ntmps51
  go_wp2_with fail
  refine H.out.mono ?_
  rintro e w2 ⟨rfl, h2⟩
  have HF := (B1.keep h2).sub (L' := [(w.heap.size + 1, DO false none 0 0 0), (w.heap.size, DO false a zs.length c ex)]) (by simp)
  clear h2 B1 H
  obtain ⟨⟨s0, s1, s2⟩, _⟩ := cells3 HF w.heap.size _ _ _ _ (.tail _ (.head _))
  go_wp2_with fail
  refine (HM _).out.mono ?_
  rintro e w3 ⟨rfl, rfl⟩
  clear HM
  go_wp2_with fail
  refine (HL _ HF.bel).out.mono ?_
  rintro e w3 ⟨rfl, h3⟩
  replace HF := HF.keep h3
  clear h3 HL s0 s1 s2
  obtain ⟨⟨s0, s1, s2⟩, _⟩ := cells3 HF w.heap.size _ _ _ _ (.tail _ (.head _))
  go_wp2_with fail
  rw [HU.out]
  refine (HS _ HF.bel).out.mono ?_
  rintro e w4 ⟨z4, a4, c4, rfl, g4, l4, h4⟩
  replace HF := HF.keep h4
  have HQ := Hide.mk (root_any a4 c4 z4 w4 l4 g4.can.1 g4.may)
  have hv4 := g4.val
  have hlt4 := g4.lt.2
  clear h4 HS s0 s1 s2 l4 g4
  obtain ⟨⟨s0, s1, s2⟩, _⟩ := cells3 HF w.heap.size _ _ _ _ (.tail _ (.head _))
  generalize hlost : decide (X % 2 ^ (-up).toNat ≠ 0) = lost at *
  go_wp2_with fail
  refine HQ.out.mono ?_
  rintro e w5 ⟨z5, a5, c5, rfl, o5, k5, i5, j5, h5⟩
  rw [hv4] at i5 j5
  rw [hv4]
  have hb5 := h5
  replace HF := HF.keep h5
  obtain ⟨e1, e2⟩ := (HR z5 k5 i5 j5).out
  have g5 := good_of k5 i5 hlt4
  rw [e1] at g5 e2
  rw [e1]
  obtain ⟨a5', c5', he5, _, _, l5⟩ := o5.lie
  simp only [Value.slice.injEq, true_and] at he5
  obtain ⟨rfl, rfl⟩ := he5
  have HC2 := fun m hm => HC m hm z5 a5 c5 w5 HF.bel l5 g5
  have HFb := HF.bel
  have hlt : w.heap.size + 1 < w5.heap.size := HF.lt (.head _)
  generalize hwh : decide (r * r = X * 2 ^ up.toNat / 2 ^ (-up).toNat) = whole at *
  have HE := Hide.mk e2
  clear h5 HQ s0 s1 s2 k5 o5 i5 j5 l5 g5 e1 e2 hlost hwh hv4 hlt4 HR HC
  obtain ⟨⟨s0, s1, s2⟩, _⟩ := cells3 HF w.heap.size _ _ _ _ (.tail _ (.head _))
  cases lost
  · go_wp2_with fail
    rw [HD.out]
    refine (HC2 (!whole) HE.out).out.mono ?_
    rintro e w6 ⟨n4, a4, k4, c4, x4, code, lost, rfl, h4, h5, h6⟩
    have B4 := (HF.keep h4.bel).sub (L' := [(w.heap.size + 1, DO false none 0 0 0)]) (by simp)
    have V := Hide.mk (And.intro h4 (And.intro h5 h6))
    clear h4 h5 h6 s0 s1 s2 HC2 HF
    obtain ⟨⟨t0, t1, t2⟩, u0, u1, u2⟩ := cells3 B4 (w.heap.size + 1) _ _ _ _ (.head _)
    go_wp2
    refine bodyPost_ret (results_D3 rfl _ _ (w.heap.size + 1) _ rfl ⟨(B4.fill3 (by omega) (by simp) _ _ _).head, rfl⟩) rfl ?_
    have W2 := V.out.2
    rw [show (!whole) = more from HE.out] at W2
    exact ⟨n4, a4, k4, c4, x4, code, lost, rfl, V.out.1.back HFb (by omega) hlt _ _ _, W2.1, W2.2⟩
  · go_wp2_with fail
    rw [HD.out]
    refine (HC2 true HE.out).out.mono ?_
    rintro e w6 ⟨n4, a4, k4, c4, x4, code, lost, rfl, h4, h5, h6⟩
    have B4 := (HF.keep h4.bel).sub (L' := [(w.heap.size + 1, DO false none 0 0 0)]) (by simp)
    have V := Hide.mk (And.intro h4 (And.intro h5 h6))
    clear h4 h5 h6 s0 s1 s2 HC2 HF
    obtain ⟨⟨t0, t1, t2⟩, u0, u1, u2⟩ := cells3 B4 (w.heap.size + 1) _ _ _ _ (.head _)
    go_wp2
    refine bodyPost_ret (results_D3 rfl _ _ (w.heap.size + 1) _ rfl ⟨(B4.fill3 (by omega) (by simp) _ _ _).head, rfl⟩) rfl ?_
    have W2 := V.out.2
    rw [show true = more from HE.out] at W2
    exact ⟨n4, a4, k4, c4, x4, code, lost, rfl, V.out.1.back HFb (by omega) hlt _ _ _, W2.1, W2.2⟩
end Go.Proofs.YteejaghimppcgaaDoor

namespace Go.Proofs.YteejaghimppcgaaDoor
open Go.RowKit Go.Wd Go.Box
set_option linter.unusedVariables false
set_option maxRecDepth 20000
end Go.Proofs.YteejaghimppcgaaDoor

namespace Go.Proofs.YteejaghimppcgaaDoor
open Go.RowKit Go.Wd Go.Box
set_option linter.unusedVariables false
set_option maxRecDepth 20000
end Go.Proofs.YteejaghimppcgaaDoor

namespace Go.Proofs.YteejaghimppcgaaDoor
open Go.RowKit Go.Wd Go.Box
set_option linter.unusedVariables false
set_option maxRecDepth 20000
end Go.Proofs.YteejaghimppcgaaDoor

namespace Go.Proofs.YteejaghimppcgaaDoor
open Go.RowKit Go.Wd Go.Box
set_option linter.unusedVariables false
set_option maxRecDepth 20000
end Go.Proofs.YteejaghimppcgaaDoor

namespace Go.Proofs.YteejaghimppcgaaDoor
open Go.RowKit Go.Wd Go.Box
set_option linter.unusedVariables false
set_option maxRecDepth 20000
end Go.Proofs.YteejaghimppcgaaDoor

namespace Go.Proofs.YteejaghimppcgaaDoor
open Go.RowKit Go.Wd Go.Box
set_option linter.unusedVariables false
set_option maxRecDepth 20000
end Go.Proofs.YteejaghimppcgaaDoor

namespace Go.Proofs.YteejaghimppcgaaDoor
open Go.RowKit Go.Wd Go.Box
set_option linter.unusedVariables false
set_option maxRecDepth 20000
end Go.Proofs.YteejaghimppcgaaDoor

namespace Go.Proofs.YteejaghimppcgaaDoor
open Go.RowKit Go.Wd Go.Box
set_option linter.unusedVariables false
set_option maxRecDepth 20000
theorem isqrt_ex (m : Nat) : ∃ r : Nat, r * r ≤ m ∧ m < (r + 1) * (r + 1) := by
  induction m with
  | zero => exact ⟨0, by decide, by decide⟩
  | succ m ih =>
    obtain ⟨r, h1, h2⟩ := ih
    by_cases h : m + 1 < (r + 1) * (r + 1)
    · exact ⟨r, by omega, h⟩
    · have e : (r + 1 + 1) * (r + 1 + 1) = (r + 1) * (r + 1) + 2 * r + 3 := by grind
      exact ⟨r + 1, by omega, by omega⟩
theorem isqrtI {m : Int} (h : 0 ≤ m) : ∃ r : Int, 0 ≤ r ∧ r * r ≤ m ∧ m < (r + 1) * (r + 1) := by
  obtain ⟨r, h1, h2⟩ := isqrt_ex m.toNat
  refine ⟨r, by omega, ?_, ?_⟩
  · have : ((r * r : Nat) : Int) ≤ m := by omega
    rw [Int.natCast_mul] at this; exact this
  · have : m < (((r + 1) * (r + 1) : Nat) : Int) := by omega
    rw [Int.natCast_mul] at this; exact this
theorem rt_ex {x : Int} (hx : 0 ≤ x) (e i : Int) : ∃ r g, RtAt x e i r g := by
  obtain ⟨r, h0, h1, h2⟩ := isqrtI (m := x * 2 ^ (e + 2 * i).toNat / 2 ^ (-(e + 2 * i)).toNat) (Int.ediv_nonneg (Int.mul_nonneg hx (Int.le_of_lt (p2pos _))) (Int.le_of_lt (p2pos _)))
  exact ⟨r, _, rt_of rfl h0 h1 h2⟩
theorem sq_lt_of {a b : Int} (ha : 0 ≤ a) (hb : 0 ≤ b) (h : a * a < b * b) : a < b := by
  refine Classical.byContradiction fun c => ?_
  have := sq_mono hb (show b ≤ a by omega)
  omega
/-- How many bits the root has. -/
theorem rt_bits_ge {x e i r : Int} {g : Bool} {L : Nat} (h : RtAt x e i r g) (bx : Bits x L) (k : Nat) (hk : (2 * k : Int) + 1 ≤ L + (e + 2 * i)) : 2 ^ k ≤ r := by
  have hn := h.nn
  have h1 := h.lt
  have h2 := (bx.up (e + 2 * i).toNat).le
  have h3 := p2le (show k + k + (-(e + 2 * i)).toNat + 1 ≤ L + (e + 2 * i).toNat by omega)
  rw [Int.pow_succ, Int.pow_add, Int.pow_add] at h3
  have hp := p2pos (-(e + 2 * i)).toNat
  have h4 : 2 ^ k * 2 ^ k * 2 ^ (-(e + 2 * i)).toNat < (r + 1) * (r + 1) * 2 ^ (-(e + 2 * i)).toNat := by omega
  have h5 := Int.lt_of_mul_lt_mul_right h4 (by omega)
  have := sq_lt_of (by have := p2pos k; omega) (by omega) h5
  omega
theorem rt_bits_lt {x e i r : Int} {g : Bool} {L : Nat} (h : RtAt x e i r g) (bx : Bits x L) (k : Nat) (hk : (L : Int) + (e + 2 * i) ≤ 2 * k) : r < 2 ^ k := by
  have hn := h.nn
  have h1 := h.le
  have h2 := (bx.up (e + 2 * i).toNat).lt
  have h3 := p2le (show L + (e + 2 * i).toNat ≤ k + k + (-(e + 2 * i)).toNat by omega)
  rw [Int.pow_add 2 (k + k), Int.pow_add 2 k] at h3
  have hp := p2pos (-(e + 2 * i)).toNat
  have h4 : r * r * 2 ^ (-(e + 2 * i)).toNat < 2 ^ k * 2 ^ k * 2 ^ (-(e + 2 * i)).toNat := by omega
  exact sq_lt_of hn (by have := p2pos k; omega) (Int.lt_of_mul_lt_mul_right h4 (by omega))
/-- The quotient of two numbers, cut to b bits. -/
structure QAt (x y : Int) (b : Nat) (i : Int) : Prop where
  bits : BitLen (qf x y i) b
theorem q_prog {x y : Int} {La Lb : Nat} (bx : Bits x La) (bY : Bits y Lb) (hx : 0 < x) (hy : 0 < y) (b : Nat) (hb : 1 ≤ b) (i : Int) (hi : (b : Int) + Lb - La ≤ i) {B : Nat} (hB : BitLen (qf x y i) B) : b ≤ B := by
  obtain ⟨k, rfl⟩ : ∃ k, b = k + 1 := ⟨b - 1, by omega⟩
  exact bl_ge hB (qf_ge bx bY hy k i (by omega))
theorem q_at {x y : Int} {La Lb : Nat} (bx : Bits x La) (bY : Bits y Lb) (hx : 0 < x) (hy : 0 < y) (b : Nat) (hb : 1 ≤ b) : ∃ i, BitLen (qf x y i) b ∧ (b : Int) + Lb - La - 1 ≤ i ∧ i ≤ (b : Int) + Lb - La := by
  obtain ⟨B, hB⟩ := bitLen_ex (qf_nn (Int.le_of_lt hx) hy ((b : Int) + Lb - La))
  have h1 := q_prog bx bY hx hy b hb _ (Int.le_refl _) hB
  have h2 : B ≤ b + 1 := bl_le hB (qf_lt bx bY hy (b + 1) _ (by omega))
  refine ⟨(b : Int) + Lb - La - (B - b : Nat), ?_, by omega, by omega⟩
  have := hB.down (B - b)
  rw [← qf_down x y hy, show B - (B - b) = b by omega] at this
  exact this
theorem q_idx {x y i j : Int} (hy : 0 < y) {b : Nat} (hb : 0 < b) (h : BitLen (qf x y i) b) (k : BitLen (qf x y j) b) : i = j := (qFam x y hy).idx (⟨rfl, rfl⟩ : _ ∧ _) (⟨rfl, rfl⟩ : _ ∧ _) h k hb
theorem quoT (n1 n2 : Bool) (a1 a2 : Option Addr) (c1 c2 : Nat) (z1 z2 : List Int) (e1 e2 : Int) (w : World) (l1 : Lie w a1 z1) (l2 : Lie w a2 z2) (g1 : DG n1 z1 e1) (g2 : DG n2 z2 e2) (hT : Tab w) (bits : Int) (b : Nat) (hbb : bits = (b : Int)) (hb1 : 1 ≤ bits) (hb2 : bits ≤ 8192) (hz1 : 0 < z1.length) (hz2 : 0 < z2.length) {i : Int} (hi : BitLen (qf (Nt.val z1) (Nt.val z2) i) b) :
    Calls Tryd.prog 50 #[dV n1 a1 z1.length c1 e1, dV n2 a2 z2.length c2 e2, .int .i64 bits] w fun e w' => DCut w w' (sv (n1 != n2) (qf (Nt.val z1) (Nt.val z2) i)) (e1 - e2 - i) (qg (Nt.val z1) (Nt.val z2) i) e := by
  have p1 := g1.pos hz1
  have p2 := g2.pos hz2
  obtain ⟨La, hLa⟩ := bitLen_ex (Int.le_of_lt p1)
  obtain ⟨Lb, hLb⟩ := bitLen_ex (Int.le_of_lt p2)
  have bx : Bits (Nt.val z1) La := by rcases hLa with ⟨h, _⟩ | ⟨_, h⟩; omega; exact h
  have bY : Bits (Nt.val z2) Lb := by rcases hLb with ⟨h, _⟩ | ⟨_, h⟩; omega; exact h
  have s1 := g_size g1 bx
  have s2 := g_size g2 bY
  obtain ⟨B, hB⟩ := bitLen_ex (qf_nn (Int.le_of_lt p1) p2 (bits + Lb - La))
  have h1 := q_prog bx bY p1 p2 b (by omega) _ (by omega) hB
  have h2 : B ≤ b + 1 := bl_le hB (qf_lt bx bY p2 (b + 1) _ (by omega))
  have hd := hB.down (B - b)
  rw [← qf_down _ _ p2, show B - (B - b) = b by omega] at hd
  have e := q_idx p2 (by omega) hd hi
  have := quo_good n1 n2 a1 a2 c1 c2 z1 z2 e1 e2 bits w l1 l2 g1 g2 hT hb1 hb2 hz1 hz2 bx bY _ rfl hB (by omega) (B - b) (by omega)
  rw [← qf_down _ _ p2, ← qg_down _ _ p2, e, show e1 - e2 - (bits + Lb - La) + ((B - b : Nat) : Int) = e1 - e2 - i by omega] at this
  exact this
theorem tm_even {a : Int} (h : a.tmod 2 = 0) : ∃ i, a = 2 * i := ⟨a.tdiv 2, by have := Int.mul_tdiv_add_tmod a 2; omega⟩
theorem tm_odd {a : Int} (h : ¬ a.tmod 2 = 0) : ∃ i, a = 2 * i + 1 := by
  have h1 := Int.mul_tdiv_add_tmod a 2
  have h2 : a.tmod 2 = 1 ∨ a.tmod 2 = -1 := by
    by_cases h0 : 0 ≤ a
    · rw [Int.tmod_eq_emod_of_nonneg h0] at h ⊢; omega
    · have e : a.tmod 2 = -((-a).tmod 2) := by rw [Int.neg_tmod, Int.neg_neg]
      rw [e, Int.tmod_eq_emod_of_nonneg (by omega)] at h ⊢; omega
  rcases h2 with h2 | h2
  · exact ⟨a.tdiv 2, by omega⟩
  · exact ⟨a.tdiv 2 - 1, by omega⟩
/-- The root of a number, cut to b bits. -/
structure RAt (x e : Int) (b : Nat) (i r : Int) (g : Bool) : Prop where
  rt : RtAt x e i r g
  bits : BitLen r b
theorem rootT (a : Option Addr) (c : Nat) (zs : List Int) (ex : Int) (w : World) (l : Lie w a zs) (g : DG false zs ex) (hT : Tab w) (bits : Int) (b : Nat) (hbb : bits = (b : Int)) (hb1 : 1 ≤ bits) (hb2 : bits ≤ 8192) (hz : 0 < zs.length) {i r : Int} {more : Bool} (hR : RAt (Nt.val zs) ex b i r more) :
    Calls Tryd.prog 51 #[dV false a zs.length c ex, .int .i64 bits] w fun e w' => DCut w w' (sv false r) (-i) more e := by
  have p1 := g.pos hz
  obtain ⟨La, hLa⟩ := bitLen_ex (Int.le_of_lt p1)
  have bx : Bits (Nt.val zs) La := by rcases hLa with ⟨h, _⟩ | ⟨_, h⟩; omega; exact h
  have s1 := g_size g bx
  have key : ∀ up j : Int, up = ex + 2 * j → up ≤ 2 * bits - La → 2 * bits - La - 1 ≤ up → RtAt (Nt.val zs) ex j r more ∧ j = i := by
    intro up j h1 h2 h3
    obtain ⟨r2, g2, h4⟩ := rt_ex (Int.le_of_lt p1) ex j
    obtain ⟨B, hB⟩ := bitLen_ex h4.nn
    obtain ⟨k, hk⟩ : ∃ k, b = k + 1 := ⟨b - 1, by omega⟩
    have k1 := bl_ge hB (rt_bits_ge h4 bx k (by omega))
    have k2 := bl_le hB (rt_bits_lt h4 bx b (by omega))
    obtain rfl : B = b := by omega
    have e := (rtFam _ _).idx h4 hR.rt hB hR.bits (by omega)
    subst e
    exact ⟨hR.rt, rfl⟩
  have hd0 : max ((b : Int) - bits) 0 = ((0 : Nat) : Int) := by omega
  by_cases hp : (ex - (2 * bits - (La : Int))).tmod 2 = 0
  · obtain ⟨j, hj⟩ := tm_even hp
    obtain ⟨k1, k2⟩ := key (2 * bits - (La : Int)) (-j) (by omega) (by omega) (by omega)
    have := root_even a c zs ex bits w l g hT hb1 hb2 hz bx hp _ (-j) r more rfl (by omega) k1 hR.bits (by omega) 0 hd0
    rw [k2, Int.pow_zero, Int.ediv_one, Int.emod_one, show -i + ((0 : Nat) : Int) = -i by omega] at this
    simpa using this
  · obtain ⟨j, hj⟩ := tm_odd hp
    obtain ⟨k1, k2⟩ := key (2 * bits - (La : Int) - 1) (-j - 1) (by omega) (by omega) (by omega)
    have := root_odd a c zs ex bits w l g hT hb1 hb2 hz bx hp _ (-j - 1) r more rfl (by omega) k1 hR.bits (by omega) 0 hd0
    rw [k2, Int.pow_zero, Int.ediv_one, Int.emod_one, show -i + ((0 : Nat) : Int) = -i by omega] at this
    simpa using this
theorem r_at {x : Int} {L : Nat} (bx : Bits x L) (hx : 0 < x) (e : Int) (b : Nat) (hb : 1 ≤ b) : ∃ i r g, RAt x e b i r g ∧ 2 * (b : Int) - L - 1 ≤ e + 2 * i ∧ e + 2 * i ≤ 2 * b - L := by
  obtain ⟨j, hj⟩ : ∃ j : Int, 2 * (b : Int) - L - 1 ≤ e + 2 * j ∧ e + 2 * j ≤ 2 * b - L := ⟨(2 * (b : Int) - L - e) / 2, by omega⟩
  obtain ⟨r, g, h⟩ := rt_ex (Int.le_of_lt hx) e j
  obtain ⟨B, hB⟩ := bitLen_ex h.nn
  obtain ⟨k, hk⟩ : ∃ k, b = k + 1 := ⟨b - 1, by omega⟩
  have k1 := bl_ge hB (rt_bits_ge h bx k (by omega))
  have k2 := bl_le hB (rt_bits_lt h bx b (by omega))
  obtain rfl : B = b := by omega
  exact ⟨j, r, g, ⟨h, hB⟩, hj.1, hj.2⟩
/-- An answer that is cut: a number, or out of range. -/
theorem dcut_num {w w' : World} {s E : Int} {q : Bool} {e : Ending} (h : DCut w w' s E q e) (hs : (s.natAbs : Int) < 4294967296 ^ 4096) (hr : s = 0 ∨ ∃ t : Nat, LowBit (s.natAbs : Int) t ∧ -16777216 ≤ E + t ∧ E + t ≤ 16777216) :
    ∃ n' z' x' a' c', e = .returned (.tuple #[dV n' a' (List.length z') c' x', .bool q, .int .i64 0]) ∧ Fm s E n' z' x' ∧ z'.length ≤ 4096 ∧ Lie w' a' z' ∧ WrA w.heap.size w' a' z'.length ∧ Below w.heap.size w w' := by
  obtain ⟨n4, a4, k4, c4, x4, code, lost, rfl, h4, h5, h6⟩ := h
  obtain ⟨rfl, z2, rfl, h7, F, l2, w2⟩ := h4.num hs hr
  obtain rfl := h5 rfl
  exact ⟨n4, z2, x4, a4, c4, rfl, F, h7, l2, w2, h4.bel⟩
end Go.Proofs.YteejaghimppcgaaDoor

namespace Go.Proofs.YteejaghimppcgaaDoor
open Go.RowKit Go.Wd Go.Box
set_option linter.unusedVariables false
set_option maxRecDepth 3000
theorem WrA.weak {B C : Nat} {w : World} {a : Option Addr} {n : Nat} (h : WrA C w a n) (hB : B ≤ C) : WrA B w a n := by
  rcases h with h | ⟨g, cur, h1, h2, h3, h4⟩
  · exact .inl h
  · exact .inr ⟨g, cur, h1, by omega, h3, h4⟩
end Go.Proofs.YteejaghimppcgaaDoor

namespace Go.Drawn
open Go
section
variable {P : Program} {ops : Array Oper} {Q : Exit → Act → World → Prop} {md : Region.Mode} {I : World → Prop}
/-- Three operations are ready. -/
theorem trio {i j k : Nat} {oi oj ok : Oper} {n : Nat} {listed : Array Bool} {a : Act} {w : World} (hr : Region.ready md ops listed = [i, j, k]) (hi : ops[i]? = some oi) (hj : ops[j]? = some oj) (hk : ops[k]? = some ok)
    (h1 : ∀ K : Act → World → Prop, (∀ a w, I w → wpIn P md ops Q I n (listed.setIfInBounds i true) a w → K a w) → if Region.wanted oi (yielded ops a.tmps) = true then Oper.wp P oi a w K Q else K (a.put oi.dst undef) w)
    (h2 : ∀ K : Act → World → Prop, (∀ a w, I w → wpIn P md ops Q I n (listed.setIfInBounds j true) a w → K a w) → if Region.wanted oj (yielded ops a.tmps) = true then Oper.wp P oj a w K Q else K (a.put oj.dst undef) w)
    (h3 : ∀ K : Act → World → Prop, (∀ a w, I w → wpIn P md ops Q I n (listed.setIfInBounds k true) a w → K a w) → if Region.wanted ok (yielded ops a.tmps) = true then Oper.wp P ok a w K Q else K (a.put ok.dst undef) w) :
    wpIn P md ops Q I (n + 1) listed a w := by
  refine ⟨fun h0 => absurd (hr.symm.trans h0) (by simp), fun m hm => ?_⟩
  rw [hr] at hm
  rcases List.mem_cons.1 hm with rfl | hm
  · exact wpOp_step hi (fun K hK => h1 K fun a w k1 k2 => hK a w ⟨k1, k2⟩)
  · rcases List.mem_cons.1 hm with rfl | hm
    · exact wpOp_step hj (fun K hK => h2 K fun a w k1 k2 => hK a w ⟨k1, k2⟩)
    · obtain rfl := List.mem_singleton.1 hm
      exact wpOp_step hk (fun K hK => h3 K fun a w k1 k2 => hK a w ⟨k1, k2⟩)
end
end Go.Drawn
namespace Go.Box
open Go
theorem Bx.grown {w W : World} {L : List (Nat × Obj)} (h : Bx w L W) (o : Obj) : Bx w L (W.alloc o) := (h.push o).tail
end Go.Box
namespace Go.Proofs.YteejaghimppcgaaDoor
open Go.RowKit Go.Wd Go.Box
set_option linter.unusedVariables false
set_option maxRecDepth 3000
theorem lie_set3 {W : World} {g : Nat} {a : Option Addr} {zs : List Int} (hg : W.heap[g]? = some (DO false none 0 0 0)) (v0 v1 v2 : Value) (l : Lie W a zs) :
    Lie (((W.setCell ⟨g, 0, none⟩ v0).setCell ⟨g, 1, none⟩ v1).setCell ⟨g, 2, none⟩ v2) a zs :=
  (Live.set3 (g := g) ⟨hg, rfl⟩ v0 v1 v2 (Live.one l)).all (a, zs) (.head _)
end Go.Proofs.YteejaghimppcgaaDoor

namespace Go.Proofs.YteejaghimppcgaaDoor
open Go.RowKit Go.Wd Go.Box
set_option linter.unusedVariables false
set_option maxRecDepth 3000
theorem zeroDN : DN false [] 0 0 := ⟨zeroDG, by unfold dv; rw [Nt.val_nil, sv_f, Int.zero_mul]⟩
/-- A number that is answered. -/
structure IsE (w w' : World) (a : Option Addr) (ng : Bool) (zs : List Int) (ex v : Int) : Prop where
  num : DN ng zs ex v
  lie : Lie w' a zs
  bel : Below w.heap.size w w'
def Nums (w w' : World) (v : Int) (e : Ending) : Prop := ∃ ng zs ex a c, e = .returned (.tuple #[dV ng a (List.length zs) c ex, .int .i64 0]) ∧ IsE w w' a ng zs ex v
theorem times_by (n1 n2 : Bool) (a1 a2 : Option Addr) (c1 c2 : Nat) (z1 z2 : List Int) (e1 e2 : Int) (w : World) {u v p : Int} (h1 : Lie w a1 z1) (h2 : Lie w a2 z2) (N1 : DN n1 z1 e1 u) (N2 : DN n2 z2 e2 v) (hT : Tab w) {lo hi : Nat} (hb : DB lo hi (u * v)) (k1 : hi ≤ lo + 131072) (k2 : hi ≤ 3 * KK) (k3 : KK ≤ lo) (hp : p * 2 ^ KK = u * v) (s : Int) (hs : sgn v 0 = s) (hs0 : (s == 0) = false) :
    Calls Tryd.prog 98 #[dV n1 a1 z1.length c1 e1, dV n2 a2 z2.length c2 e2] w fun e w' => Nums w w' p e := by
  have B1 := (((Bx.nil w).push (DO n1 a1 z1.length c1 e1)).push (DO n2 a2 z2.length c2 e2)).push (DO false none 0 0 0)
  rw [show ((w.alloc (DO n1 a1 z1.length c1 e1)).alloc (DO n2 a2 z2.length c2 e2)).heap.size = w.heap.size + 1 + 1 by simp, show (w.alloc (DO n1 a1 z1.length c1 e1)).heap.size = w.heap.size + 1 by simp] at B1
  have HS := fun W (h : Below w.heap.size w W) => Hide.mk (dsign49 n2 a2 c2 z2 e2 v W (h2.below h (Nat.le_refl _)) N2 s hs)
  have HM := fun W (h : Below w.heap.size w W) => Hide.mk (dmul_fit n1 n2 a1 a2 c1 c2 z1 z2 e1 e2 W (h1.below h (Nat.le_refl _)) (h2.below h (Nat.le_refl _)) N1 N2 (hT.below h (Nat.le_refl _)) hb k1 k2 k3)
  have HP := Hide.mk hp
  clear hb k1 k2 k3 hp hs N1 N2 h1 h2 hT
  go_enter Tryd.func98, Tryd.ntmps98
  go_wp2_with fail
  refine (HS _ B1.bel).out.mono ?_
  rintro e w2 ⟨rfl, h⟩
  replace B1 := B1.keep h
  clear HS h
  obtain ⟨⟨s0, s1, s2⟩, _⟩ := cells3 B1 w.heap.size _ _ _ _ (.tail _ (.tail _ (.head _)))
  obtain ⟨⟨q0, q1, q2⟩, _⟩ := cells3 B1 (w.heap.size + 1) _ _ _ _ (.tail _ (.head _))
  go_wp2_with fail
  refine (HM _ B1.bel).out.mono ?_
  rintro e w3 ⟨ng, zs, ex, a, c, p3, rfl, hp3, I⟩
  have B4 := (B1.keep I.bel).sub (L' := [(w.heap.size + 1 + 1, DO false none 0 0 0)]) (by simp)
  have HI := Hide.mk (And.intro (Int.eq_of_mul_eq_mul_right pK_ne (hp3.trans HP.out.symm)) (And.intro I.num I.lie))
  clear HM I hp3 s0 s1 s2 q0 q1 q2 B1
  obtain ⟨⟨t0, t1, t2⟩, u0, u1, u2⟩ := cells3 B4 (w.heap.size + 1 + 1) _ _ _ _ (.head _)
  go_wp2
  refine bodyPost_ret (results_D2 rfl _ _ (w.heap.size + 1 + 1) _ rfl ⟨(B4.fill3 (by omega) (by simp) _ _ _).head, rfl⟩) rfl ?_
  have L := Live.set3 (g := w.heap.size + 1 + 1) ⟨B4.head, rfl⟩ (.bool ng) (.slice a zs.length c) (.int .i64 ex) (Live.one HI.out.2.2)
  exact ⟨ng, zs, ex, a, c, rfl, by rw [← HI.out.1]; exact HI.out.2.1, L.all (a, zs) (.head _), (B4.fill3 (by omega) (by simp) _ _ _).bel⟩
theorem times_sq (n1 : Bool) (a1 : Option Addr) (c1 : Nat) (z1 : List Int) (e1 : Int) (w : World) {u p : Int} (h1 : Lie w a1 z1) (N1 : DN n1 z1 e1 u) (hT : Tab w) {lo hi : Nat} (hb : DB lo hi (u * u)) (k1 : hi ≤ lo + 131072) (k2 : hi ≤ 3 * KK) (k3 : KK ≤ lo) (hp : p * 2 ^ KK = u * u) :
    Calls Tryd.prog 98 #[dV n1 a1 z1.length c1 e1, noD] w fun e w' => Nums w w' p e := by
  have B1 := (((Bx.nil w).push (DO n1 a1 z1.length c1 e1)).push (DO false none 0 0 0)).push (DO false none 0 0 0)
  rw [show ((w.alloc (DO n1 a1 z1.length c1 e1)).alloc (DO false none 0 0 0)).heap.size = w.heap.size + 1 + 1 by simp, show (w.alloc (DO n1 a1 z1.length c1 e1)).heap.size = w.heap.size + 1 by simp] at B1
  have HS := fun W => Hide.mk (dsign49 false none 0 [] 0 0 W (.inl rfl) zeroDN 0 (by decide))
  have HM := fun W (h : Below w.heap.size w W) => Hide.mk (dmul_fit n1 n1 a1 a1 c1 c1 z1 z1 e1 e1 W (h1.below h (Nat.le_refl _)) (h1.below h (Nat.le_refl _)) N1 N1 (hT.below h (Nat.le_refl _)) hb k1 k2 k3)
  have HP := Hide.mk hp
  clear hb k1 k2 k3 hp N1 h1 hT
  go_enter Tryd.func98, Tryd.ntmps98
  go_wp2_with fail
  refine (HS _).out.mono ?_
  rintro e w2 ⟨rfl, h⟩
  replace B1 := B1.keep h
  clear HS h
  obtain ⟨⟨s0, s1, s2⟩, _⟩ := cells3 B1 w.heap.size _ _ _ _ (.tail _ (.tail _ (.head _)))
  go_wp2_with fail
  refine (HM _ B1.bel).out.mono ?_
  rintro e w3 ⟨ng, zs, ex, a, c, p3, rfl, hp3, I⟩
  have B4 := (B1.keep I.bel).sub (L' := [(w.heap.size + 1 + 1, DO false none 0 0 0)]) (by simp)
  have HI := Hide.mk (And.intro (Int.eq_of_mul_eq_mul_right pK_ne (hp3.trans HP.out.symm)) (And.intro I.num I.lie))
  clear HM I hp3 s0 s1 s2 B1
  obtain ⟨⟨t0, t1, t2⟩, u0, u1, u2⟩ := cells3 B4 (w.heap.size + 1 + 1) _ _ _ _ (.head _)
  go_wp2
  refine bodyPost_ret (results_D2 rfl _ _ (w.heap.size + 1 + 1) _ rfl ⟨(B4.fill3 (by omega) (by simp) _ _ _).head, rfl⟩) rfl ?_
  have L := Live.set3 (g := w.heap.size + 1 + 1) ⟨B4.head, rfl⟩ (.bool ng) (.slice a zs.length c) (.int .i64 ex) (Live.one HI.out.2.2)
  exact ⟨ng, zs, ex, a, c, rfl, by rw [← HI.out.1]; exact HI.out.2.1, L.all (a, zs) (.head _), (B4.fill3 (by omega) (by simp) _ _ _).bel⟩
end Go.Proofs.YteejaghimppcgaaDoor
