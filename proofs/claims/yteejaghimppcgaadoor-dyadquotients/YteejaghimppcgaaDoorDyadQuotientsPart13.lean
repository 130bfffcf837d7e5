import Derived.Test.YteejaghimppcgaaDoorDyadQuotientsPart12
namespace Go.Proofs.YteejaghimppcgaaDoor
open Go.RowKit Go.Wd Go.Box
set_option linter.unusedVariables false
set_option maxRecDepth 20000
/-- Two numbers in one row. -/
abbrev DO2 (n1 : Bool) (a1 : Option Addr) (k1 c1 : Nat) (e1 : Int) (n2 : Bool) (a2 : Option Addr) (k2 c2 : Nat) (e2 : Int) : Obj := .cells #[.bool n1, .slice a1 k1 c1, .int .i64 e1, .bool n2, .slice a2 k2 c2, .int .i64 e2] 36 (0, 0)
theorem lenK (a : Option Addr) (ca : Nat) (za : List Int) (w : World) {x : Int} (ha : Lie w a za) (ga : Good za x) {B : Nat} (hB : BitLen x B) :
    Calls Tryd.prog 92 #[.slice a za.length ca] w fun e w' => e = .returned (.int .i64 B) ∧ Below w.heap.size w w' := by
  refine (lenN a ca za w ha ga).mono ?_
  rintro e w' ⟨rfl, B2, rfl, h, _⟩
  obtain rfl := h.unique hB
  exact ⟨rfl, Below.refl _ _⟩
theorem ask2 (bits : Int) (b : Nat) (m : Bool) (w : World) (HM : ∀ W, Below w.heap.size w W → Calls Tryd.prog 74 #[.slice (some ⟨b, 0, none⟩) 2 2] W fun e w' => e = .returned (.bool m) ∧ Below W.heap.size W w') :
    Calls Tryd.prog 89 #[.int .i64 bits, .slice (some ⟨b, 0, none⟩) 2 2] w fun e w' => e = .returned (.int .i64 (askB bits m)) ∧ Below w.heap.size w w' := by
  have H := Hide.mk (HM w (Below.refl _ _))
  clear HM
  by_cases h1 : bits < 1
  · rw [show askB bits m = 2 by unfold askB; rw [if_pos (.inl h1)]]
    go_enter Tryd.func89, Tryd.ntmps89
    go_wp2
    go_ret
    exact ⟨rfl, Below.refl _ _⟩
  · cases m
    · rw [show askB bits false = 2 by unfold askB; rw [if_pos (.inr rfl)]]
      go_enter Tryd.func89, Tryd.ntmps89
      go_wp2_with fail
      refine H.out.mono ?_
      rintro e w2 ⟨rfl, h2⟩
      clear H
      go_wp2
      go_ret
      exact ⟨rfl, h2⟩
    · by_cases h3 : 8192 < bits
      · rw [show askB bits true = 3 by unfold askB; rw [if_neg (by simp; omega), if_pos h3]]
        go_enter Tryd.func89, Tryd.ntmps89
        go_wp2_with fail
        refine H.out.mono ?_
        rintro e w2 ⟨rfl, h2⟩
        clear H
        go_wp2
        go_ret
        exact ⟨rfl, h2⟩
      · rw [show askB bits true = 0 by unfold askB; rw [if_neg (by simp; omega), if_neg h3]]
        go_enter Tryd.func89, Tryd.ntmps89
        go_wp2_with fail
        refine H.out.mono ?_
        rintro e w2 ⟨rfl, h2⟩
        clear H
        go_wp2
        go_ret
        exact ⟨rfl, h2⟩
theorem ask_ok {bits : Int} (h1 : 1 ≤ bits) (h2 : bits ≤ 8192) : askB bits true = 0 := by unfold askB; rw [if_neg (by simp; omega), if_neg (by omega)]
theorem quo_ask (n1 n2 : Bool) (a1 a2 : Option Addr) (c1 c2 : Nat) (z1 z2 : List Int) (e1 e2 bits code : Int) (w W : World) {L : List (Nat × Obj)} {g : Nat} (u1 : DLie w a1 z1) (u2 : DLie w a2 z2) (B : Bx w ((g, DO2 n1 a1 z1.length c1 e1 n2 a2 z2.length c2 e2) :: L) W) (hc : askB bits (dmayB n1 z1 e1 && dmayB n2 z2 e2) = code) :
    Calls Tryd.prog 89 #[.int .i64 bits, .slice (some ⟨g, 0, none⟩) 2 2] W fun e w' => e = .returned (.int .i64 code) ∧ Below W.heap.size W w' := by
  subst hc
  refine ask2 bits g _ W (fun W2 h2 => ?_)
  have B2 := B.keep h2
  exact dallMay2 g n1 a1 c1 z1 e1 n2 a2 c2 z2 e2 W2 (u1.below B2.bel) (u2.below B2.bel) _ _ rfl rfl (B2.cell g _ _ (.head _) 0) (B2.cell g _ _ (.head _) 1) (B2.cell g _ _ (.head _) 2) (B2.cell g _ _ (.head _) 3) (B2.cell g _ _ (.head _) 4) (B2.cell g _ _ (.head _) 5)
theorem quo_boxes (n1 n2 : Bool) (a1 a2 : Option Addr) (c1 c2 k1 k2 : Nat) (e1 e2 : Int) (w : World) :
    Bx w [(w.heap.size + 1 + 1 + 1, DO2 n1 a1 k1 c1 e1 n2 a2 k2 c2 e2), (w.heap.size + 1 + 1, DO false none 0 0 0), (w.heap.size + 1, DO n2 a2 k2 c2 e2), (w.heap.size, DO n1 a1 k1 c1 e1)] ((((w.alloc (DO n1 a1 k1 c1 e1)).alloc (DO n2 a2 k2 c2 e2)).alloc (DO false none 0 0 0)).alloc (DO2 n1 a1 k1 c1 e1 n2 a2 k2 c2 e2)) := by
  have B1 := ((((Bx.nil w).push (DO n1 a1 k1 c1 e1)).push (DO n2 a2 k2 c2 e2)).push (DO false none 0 0 0)).push (DO2 n1 a1 k1 c1 e1 n2 a2 k2 c2 e2)
  rw [show (((w.alloc (DO n1 a1 k1 c1 e1)).alloc (DO n2 a2 k2 c2 e2)).alloc (DO false none 0 0 0)).heap.size = w.heap.size + 1 + 1 + 1 by simp, show ((w.alloc (DO n1 a1 k1 c1 e1)).alloc (DO n2 a2 k2 c2 e2)).heap.size = w.heap.size + 1 + 1 by simp, show (w.alloc (DO n1 a1 k1 c1 e1)).heap.size = w.heap.size + 1 by simp] at B1
  exact B1
theorem quo_bad (n1 n2 : Bool) (a1 a2 : Option Addr) (c1 c2 : Nat) (z1 z2 : List Int) (e1 e2 bits code : Int) (w : World) (u1 : DLie w a1 z1) (u2 : DLie w a2 z2) (hc : askB bits (dmayB n1 z1 e1 && dmayB n2 z2 e2) = code) (hne : code ≠ 0) :
    Calls Tryd.prog 50 #[dV n1 a1 z1.length c1 e1, dV n2 a2 z2.length c2 e2, .int .i64 bits] w fun e w' => e = .returned (.tuple #[noD, .bool false, .int .i64 code]) ∧ Below w.heap.size w w' := by
  have B1 := quo_boxes n1 n2 a1 a2 c1 c2 z1.length z2.length e1 e2 w
  have H := Hide.mk (quo_ask n1 n2 a1 a2 c1 c2 z1 z2 e1 e2 bits code w _ u1 u2 B1 hc)
  have hc3 : (code != 0) = true := by simpa using hne
  have hc2 : (code == 0) = false := by simpa using hne
  clear hc u1 u2
  go_enter Tryd.func50, Tryd.ntmps50
  go_wp2_with fail
  refine H.out.mono ?_
  rintro e w2 ⟨rfl, h2⟩
  have B2 := (B1.keep h2).sub (L' := [(w.heap.size + 1 + 1, DO false none 0 0 0)]) (by simp)
  clear h2 B1 H
  obtain ⟨⟨t0, t1, t2⟩, u0, u1, u2⟩ := cells3 B2 (w.heap.size + 1 + 1) _ _ _ _ (.head _)
  go_wp2
  have B3 := B2.fill3 (by omega) (by simp) (.bool false) (.slice none 0 0) (.int .i64 0)
  refine bodyPost_ret (results_D3 rfl _ _ (w.heap.size + 1 + 1) _ rfl ⟨B3.head, rfl⟩) rfl ?_
  exact ⟨rfl, B3.bel⟩
theorem quo_by0 (n1 n2 : Bool) (a1 a2 : Option Addr) (c1 c2 : Nat) (z1 z2 : List Int) (e1 e2 bits : Int) (w : World) (l1 : Lie w a1 z1) (l2 : Lie w a2 z2) (g1 : DG n1 z1 e1) (g2 : DG n2 z2 e2) (hb1 : 1 ≤ bits) (hb2 : bits ≤ 8192) (hz : z2.length ≤ 0) :
    Calls Tryd.prog 50 #[dV n1 a1 z1.length c1 e1, dV n2 a2 z2.length c2 e2, .int .i64 bits] w fun e w' => e = .returned (.tuple #[noD, .bool false, .int .i64 11]) ∧ Below w.heap.size w w' := by
  have B1 := quo_boxes n1 n2 a1 a2 c1 c2 z1.length z2.length e1 e2 w
  have H := Hide.mk (quo_ask n1 n2 a1 a2 c1 c2 z1 z2 e1 e2 bits 0 w _ (g1.lie l1) (g2.lie l2) B1 (by rw [g1.may, g2.may]; exact ask_ok hb1 hb2))
  have HN := fun W => Hide.mk (nought_yes a2 z2.length c2 W hz)
  clear l1 l2 hz
  go_enter Tryd.func50, Tryd.ntmps50
  go_wp2_with fail
  refine H.out.mono ?_
  rintro e w2 ⟨rfl, h2⟩
  have B2 := (B1.keep h2).sub (L' := [(w.heap.size + 1 + 1, DO false none 0 0 0), (w.heap.size + 1, DO n2 a2 z2.length c2 e2)]) (by simp)
  clear h2 B1 H
  obtain ⟨⟨s0, s1, s2⟩, _⟩ := cells3 B2 (w.heap.size + 1) _ _ _ _ (.tail _ (.head _))
  go_wp2_with fail
  refine (HN _).out.mono ?_
  rintro e w3 ⟨rfl, rfl⟩
  clear HN s0 s1 s2
  replace B2 := B2.sub (L' := [(w.heap.size + 1 + 1, DO false none 0 0 0)]) (by simp)
  obtain ⟨⟨t0, t1, t2⟩, u0, u1, u2⟩ := cells3 B2 (w.heap.size + 1 + 1) _ _ _ _ (.head _)
  go_wp2
  have B3 := B2.fill3 (by omega) (by simp) (.bool false) (.slice none 0 0) (.int .i64 0)
  refine bodyPost_ret (results_D3 rfl _ _ (w.heap.size + 1 + 1) _ rfl ⟨B3.head, rfl⟩) rfl ?_
  exact ⟨rfl, B3.bel⟩
theorem quo_nil (n1 n2 : Bool) (a1 a2 : Option Addr) (c1 c2 : Nat) (z1 z2 : List Int) (e1 e2 bits : Int) (w : World) (l1 : Lie w a1 z1) (l2 : Lie w a2 z2) (g1 : DG n1 z1 e1) (g2 : DG n2 z2 e2) (hb1 : 1 ≤ bits) (hb2 : bits ≤ 8192) (hz2 : 0 < z2.length) (hz : z1.length ≤ 0) :
    Calls Tryd.prog 50 #[dV n1 a1 z1.length c1 e1, dV n2 a2 z2.length c2 e2, .int .i64 bits] w fun e w' => e = .returned (.tuple #[noD, .bool false, .int .i64 0]) ∧ Below w.heap.size w w' := by
  have B1 := quo_boxes n1 n2 a1 a2 c1 c2 z1.length z2.length e1 e2 w
  have H := Hide.mk (quo_ask n1 n2 a1 a2 c1 c2 z1 z2 e1 e2 bits 0 w _ (g1.lie l1) (g2.lie l2) B1 (by rw [g1.may, g2.may]; exact ask_ok hb1 hb2))
  have HN := fun W => Hide.mk (nought_no a2 z2.length c2 W hz2)
  have HM := fun W => Hide.mk (nought_yes a1 z1.length c1 W hz)
  clear l1 l2 hz hz2
  go_enter Tryd.func50, Tryd.ntmps50
  go_wp2_with fail
  refine H.out.mono ?_
  rintro e w2 ⟨rfl, h2⟩
  have B2 := (B1.keep h2).sub (L' := [(w.heap.size + 1 + 1, DO false none 0 0 0), (w.heap.size + 1, DO n2 a2 z2.length c2 e2), (w.heap.size, DO n1 a1 z1.length c1 e1)]) (by simp)
  clear h2 B1 H
  obtain ⟨⟨s0, s1, s2⟩, _⟩ := cells3 B2 (w.heap.size + 1) _ _ _ _ (.tail _ (.head _))
  obtain ⟨⟨q0, q1, q2⟩, _⟩ := cells3 B2 (w.heap.size) _ _ _ _ (.tail _ (.tail _ (.head _)))
  go_wp2_with fail
  refine (HN _).out.mono ?_
  rintro e w3 ⟨rfl, rfl⟩
  clear HN s0 s1 s2
  go_wp2_with fail
  refine (HM _).out.mono ?_
  rintro e w3 ⟨rfl, rfl⟩
  clear HM q0 q1 q2
  replace B2 := B2.sub (L' := [(w.heap.size + 1 + 1, DO false none 0 0 0)]) (by simp)
  obtain ⟨⟨t0, t1, t2⟩, u0, u1, u2⟩ := cells3 B2 (w.heap.size + 1 + 1) _ _ _ _ (.head _)
  go_wp2
  have B3 := B2.fill3 (by omega) (by simp) (.bool false) (.slice none 0 0) (.int .i64 0)
  refine bodyPost_ret (results_D3 rfl _ _ (w.heap.size + 1 + 1) _ rfl ⟨B3.head, rfl⟩) rfl ?_
  exact ⟨rfl, B3.bel⟩
theorem g_size {n : Bool} {z : List Int} {ex : Int} (g : DG n z ex) {L : Nat} (b : Bits (Nt.val z) L) : L ≤ 131072 := by
  have := b.fits (n := 0) (by rw [Int.pow_zero, Int.mul_one]; exact g.good.lt.2)
  omega
theorem qf_nn {x y : Int} (hx : 0 ≤ x) (hy : 0 < y) (i : Int) : 0 ≤ qf x y i := Int.ediv_nonneg (Int.mul_nonneg hx (Int.le_of_lt (p2pos _))) (Int.mul_nonneg (by omega) (Int.le_of_lt (p2pos _)))
end Go.Proofs.YteejaghimppcgaaDoor

namespace Go.Proofs.YteejaghimppcgaaDoor
open Go.RowKit Go.Wd Go.Box
set_option linter.unusedVariables false
set_option maxRecDepth 20000
set_option maxHeartbeats 4000000 in
theorem quo_good (n1 n2 : Bool) (a1 a2 : Option Addr) (c1 c2 : Nat) (z1 z2 : List Int) (e1 e2 bits : Int) (w : World) (l1 : Lie w a1 z1) (l2 : Lie w a2 z2) (g1 : DG n1 z1 e1) (g2 : DG n2 z2 e2) (hT : Tab w) (hb1 : 1 ≤ bits) (hb2 : bits ≤ 8192) (hz1 : 0 < z1.length) (hz2 : 0 < z2.length) {La Lb : Nat} (bx : Bits (Nt.val z1) La) (bY : Bits (Nt.val z2) Lb) (up : Int) (hup : bits + Lb - La = up) {B : Nat} (hB : BitLen (qf (Nt.val z1) (Nt.val z2) up) B) (hB2 : B ≤ 131072) (d : Nat) (hd : max ((B : Int) - bits) 0 = (d : Int)) :
    Calls Tryd.prog 50 #[dV n1 a1 z1.length c1 e1, dV n2 a2 z2.length c2 e2, .int .i64 bits] w fun e w' => DCut w w' (sv (n1 != n2) (qf (Nt.val z1) (Nt.val z2) up / 2 ^ d)) (e1 - e2 - up + d) (decide (qf (Nt.val z1) (Nt.val z2) up % 2 ^ d ≠ 0) || qg (Nt.val z1) (Nt.val z2) up) e := by
  have B1 := quo_boxes n1 n2 a1 a2 c1 c2 z1.length z2.length e1 e2 w
  have H := Hide.mk (quo_ask n1 n2 a1 a2 c1 c2 z1 z2 e1 e2 bits 0 w _ (g1.lie l1) (g2.lie l2) B1 (by rw [g1.may, g2.may]; exact ask_ok hb1 hb2))
  have HN := fun W => Hide.mk (nought_no a2 z2.length c2 W hz2)
  have HM := fun W => Hide.mk (nought_no a1 z1.length c1 W hz1)
  have p1 := g1.pos hz1
  have p2 := g2.pos hz2
  have s1 := g_size g1 bx
  have s2 := g_size g2 bY
  have x1 := g1.ex_bd
  have x2 := g2.ex_bd
  have HLb := fun W (h : Below w.heap.size w W) => lenK a2 c2 z2 W (l2.below h (Nat.le_refl _)) g2.good (B := Lb) (.inr ⟨p2, bY⟩)
  have HLa := fun W (h : Below w.heap.size w W) => lenK a1 c1 z1 W (l1.below h (Nat.le_refl _)) g1.good (B := La) (.inr ⟨p1, bx⟩)
  have HW := fun W (h : Below w.heap.size w W) => Hide.mk (wholeQuoC a1 a2 c1 c2 z1 z2 W (l1.below h (Nat.le_refl _)) (l2.below h (Nat.le_refl _)) g1.good g2.good (hT.below h (Nat.le_refl _)) p1 p2 bx bY s1 s2 bits hb1 hb2 up hup.symm)
  have HC := fun (zq : List Int) (aq : Option Addr) (cq : Nat) W (h : Below w.heap.size w W) (lq : Lie W aq zq) (gq : Good zq (qf (Nt.val z1) (Nt.val z2) up)) => Hide.mk (cutC (n1 != n2) aq cq zq (e1 - e2 - up) bits (qg (Nt.val z1) (Nt.val z2) up) W lq gq (hT.below h (Nat.le_refl _)) hb1 hb2 (by omega) (by omega) hB hB2 d hd)
  have HU := Hide.mk hup
  have u1 : -200000 ≤ up := by omega
  have u2 : up ≤ 200000 := by omega
  have v1 : -200000 ≤ bits + (Lb : Int) := by omega
  have v2 : bits + (Lb : Int) ≤ 200000 := by omega
  have y1 := x1.1
  have y2 := x1.2
  have y3 := x2.1
  have y4 := x2.2
  clear l1 l2 hz1 hz2 hB hd hup x1 x2 hT
  generalize hQ : qf (Nt.val z1) (Nt.val z2) up = Q at *
  generalize hG : qg (Nt.val z1) (Nt.val z2) up = G at *
  go_enter Tryd.func50, Tryd.ntmps50
  go_wp2_with fail
  refine H.out.mono ?_
  rintro e w2 ⟨rfl, h2⟩
  have HF := (B1.keep h2).sub (L' := [(w.heap.size + 1 + 1, DO false none 0 0 0), (w.heap.size + 1, DO n2 a2 z2.length c2 e2), (w.heap.size, DO n1 a1 z1.length c1 e1)]) (by simp)
  clear h2 B1 H
  obtain ⟨⟨s0, s1, s2⟩, _⟩ := cells3 HF (w.heap.size + 1) _ _ _ _ (.tail _ (.head _))
  obtain ⟨⟨q0, q1, q2⟩, _⟩ := cells3 HF (w.heap.size) _ _ _ _ (.tail _ (.tail _ (.head _)))
  go_wp2_with fail
  refine (HN _).out.mono ?_
  rintro e w3 ⟨rfl, rfl⟩
  clear HN s0 s1 s2
  go_wp2_with fail
  refine (HM _).out.mono ?_
  rintro e w3 ⟨rfl, rfl⟩
  clear HM q0 q1 q2
  go_wp2_with fail
  replace HF := HF.drew
  have HI := HF
  have sh := fun W (hW : Bx w [(w.heap.size + 1 + 1, DO false none 0 0 0), (w.heap.size + 1, DO n2 a2 z2.length c2 e2), (w.heap.size, DO n1 a1 z1.length c1 e1)] W) => And.intro (cells3 hW (w.heap.size + 1) _ _ _ _ (.tail _ (.head _))).1 (cells3 hW w.heap.size _ _ _ _ (.tail _ (.tail _ (.head _)))).1
  refine Drawn.enter (Bx w [(w.heap.size + 1 + 1, DO false none 0 0 0), (w.heap.size + 1, DO n2 a2 z2.length c2 e2), (w.heap.size, DO n1 a1 z1.length c1 e1)]) (by kernel_rfl) ?_
  refine Drawn.take (i := 0) (v := ?v0) rfl (by kernel_rfl) (by kernel_rfl) (by kernel_rfl) (fun _ _ _ h => h) (by kernel_rfl) (fun W hW => ?_) HI ?_
  rotate_left
  · have ⟨⟨s0, s1, s2⟩, q0, q3, q4⟩ := sh W hW
    go_simp <;> exact rfl
  refine Drawn.take (i := 1) (v := ?v1) rfl (by kernel_rfl) (by kernel_rfl) (by kernel_rfl) (fun _ _ _ h => h) (by kernel_rfl) (fun W hW => ?_) HI ?_
  rotate_left
  · have ⟨⟨s0, s1, s2⟩, q0, q3, q4⟩ := sh W hW
    go_simp <;> exact rfl
  refine Drawn.take (i := 2) (v := ?v2) rfl (by kernel_rfl) (by kernel_rfl) (by kernel_rfl) (fun _ _ _ h => h) (by kernel_rfl) (fun W hW => ?_) HI ?_
  rotate_left
  · have ⟨⟨s0, s1, s2⟩, q0, q3, q4⟩ := sh W hW
    go_simp <;> exact rfl
  refine Drawn.take (i := 5) (v := ?v3) rfl (by kernel_rfl) (by kernel_rfl) (by kernel_rfl) (fun _ _ _ h => h) (by kernel_rfl) (fun W hW => ?_) HI ?_
  rotate_left
  · have ⟨⟨s0, s1, s2⟩, q0, q3, q4⟩ := sh W hW
    go_simp <;> exact rfl
  refine Drawn.take (i := 6) (v := ?v4) rfl (by kernel_rfl) (by kernel_rfl) (by kernel_rfl) (fun _ _ _ h => h) (by kernel_rfl) (fun W hW => ?_) HI ?_
  rotate_left
  · have ⟨⟨s0, s1, s2⟩, q0, q3, q4⟩ := sh W hW
    go_simp <;> exact rfl
  refine Drawn.one (j := 3) (by kernel_rfl) rfl (fun K hK => ?_)
  go_simp
  refine (HLb _ HI.bel).mono ?_
  rintro e wn ⟨rfl, hn⟩
  refine hK _ _ (HI.keep hn) ?_
  clear hK K
  replace HI := HI.keep hn
  replace HF := HF.keep hn
  clear hn
  refine Drawn.take (i := 4) (v := ?v5) rfl (by kernel_rfl) (by kernel_rfl) (by kernel_rfl) (fun _ _ _ h => h) (by kernel_rfl) (fun W hW => ?_) HI ?_
  rotate_left
  · have ⟨⟨s0, s1, s2⟩, q0, q3, q4⟩ := sh W hW
    go_simp <;> exact rfl
  refine Drawn.one (j := 7) (by kernel_rfl) rfl (fun K hK => ?_)
  go_simp
  refine (HLa _ HI.bel).mono ?_
  rintro e wn ⟨rfl, hn⟩
  refine hK _ _ (HI.keep hn) ?_
  clear hK K
  replace HI := HI.keep hn
  replace HF := HF.keep hn
  clear hn
  refine Drawn.take (i := 8) (v := ?v6) rfl (by kernel_rfl) (by kernel_rfl) (by kernel_rfl) (fun _ _ _ h => h) (by kernel_rfl) (fun W hW => ?_) HI ?_
  rotate_left
  · have ⟨⟨s0, s1, s2⟩, q0, q3, q4⟩ := sh W hW
    go_simp <;> exact rfl
  refine Drawn.take (i := 9) (v := ?v7) rfl (by kernel_rfl) (by kernel_rfl) (by kernel_rfl) (fun _ _ _ h => h) (by kernel_rfl) (fun W hW => ?_) HI ?_
  rotate_left
  · have ⟨⟨s0, s1, s2⟩, q0, q3, q4⟩ := sh W hW
    go_simp <;> exact rfl
  refine Drawn.done (by kernel_rfl) ?_
  try go_simp
  obtain ⟨⟨s0, s1, s2⟩, _⟩ := cells3 HF (w.heap.size + 1) _ _ _ _ (.tail _ (.head _))
  obtain ⟨⟨q0, q1, q2⟩, _⟩ := cells3 HF (w.heap.size) _ _ _ _ (.tail _ (.tail _ (.head _)))
  go_wp2_with fail
  rw [HU.out]
  refine (HW _ HF.bel).out.mono ?_
  rintro e w5 ⟨zq, aq, cq, rfl, gq, lq, h5⟩
  replace HF := HF.keep h5
  have HC2 := HC zq aq cq _ HF.bel lq gq
  clear HC HW h5 s0 s1 s2 q0 q1 q2
  obtain ⟨⟨s0, s1, s2⟩, _⟩ := cells3 HF (w.heap.size + 1) _ _ _ _ (.tail _ (.head _))
  obtain ⟨⟨q0, q1, q2⟩, _⟩ := cells3 HF (w.heap.size) _ _ _ _ (.tail _ (.tail _ (.head _)))
  go_wp2_with fail
  rw [HU.out, show (!n1 == n2) = (n1 != n2) from rfl]
  refine HC2.out.mono ?_
  rintro e w4 ⟨n4, a4, k4, c4, x4, code, lost, rfl, h4, h5, h6⟩
  have hlt : w.heap.size + 1 + 1 < w5.heap.size := HF.lt (p := (w.heap.size + 1 + 1, DO false none 0 0 0)) (.head _)
  have HFb := HF.bel
  have B4 := (HF.keep h4.bel).sub (L' := [(w.heap.size + 1 + 1, DO false none 0 0 0)]) (by simp)
  have V := Hide.mk (And.intro h4 (And.intro h5 h6))
  clear h4 h5 h6 s0 s1 s2 q0 q1 q2 HC2 HF
  obtain ⟨⟨t0, t1, t2⟩, u0, u1, u2⟩ := cells3 B4 (w.heap.size + 1 + 1) _ _ _ _ (.head _)
  go_wp2
  refine bodyPost_ret (results_D3 rfl _ _ (w.heap.size + 1 + 1) _ rfl ⟨(B4.fill3 (by omega) (by simp) _ _ _).head, rfl⟩) rfl ?_
  exact ⟨n4, a4, k4, c4, x4, code, lost, rfl, V.out.1.back HFb (by omega) hlt _ _ _, V.out.2.1, V.out.2.2⟩
end Go.Proofs.YteejaghimppcgaaDoor

namespace Go.Proofs.YteejaghimppcgaaDoor
open Go.RowKit Go.Wd Go.Box
set_option linter.unusedVariables false
set_option maxRecDepth 3000
/-- The reference's Cut. -/
def RCut (w w' : World) (s E : Int) (q : Bool) (e : Ending) : Prop :=
  ∃ n zs ex a c, e = .returned (.tuple #[dV n a zs.length c ex, .bool q]) ∧ Fm s E n zs ex ∧ Lie w' a zs ∧ Below w.heap.size w w'
end Go.Proofs.YteejaghimppcgaaDoor

namespace Go.Proofs.YteejaghimppcgaaDoor
open Go.RowKit Go.Wd Go.Box
set_option linter.unusedVariables false
set_option maxRecDepth 3000
/-- An answer that is a number, with its memory. -/
theorem DV.num {w w' : World} {s E : Int} {n : Bool} {a : Option Addr} {k c : Nat} {ex code : Int} (h : DV w w' s E n a k c ex code) (hs : (s.natAbs : Int) < 4294967296 ^ 4096) (hr : s = 0 ∨ ∃ t : Nat, LowBit (s.natAbs : Int) t ∧ -16777216 ≤ E + t ∧ E + t ≤ 16777216) :
    code = 0 ∧ ∃ zs : List Int, k = zs.length ∧ zs.length ≤ 4096 ∧ Fm s E n zs ex ∧ Lie w' a zs ∧ WrA w.heap.size w' a zs.length := by
  rcases h.all with ⟨h0, rfl, rfl, rfl, rfl, rfl, rfl⟩ | ⟨h0, t, ht, hh⟩
  · exact ⟨rfl, [], rfl, by simp, .inl ⟨h0, rfl, rfl, rfl⟩, .inl rfl, .inl rfl⟩
  · rcases hr with hr | ⟨r, hr, r1, r2⟩
    · exact absurd hr h0
    · obtain rfl := ht.unique hr
      rcases hh with ⟨j1, j2, rfl, rfl, rfl, zs, rfl, j6, j7⟩ | ⟨j1, _⟩ | ⟨_, j1, _⟩
      · obtain ⟨a2, c2, he, _, _, hl2⟩ := j7.lie
        simp only [Value.slice.injEq, true_and] at he
        obtain ⟨rfl, rfl⟩ := he
        exact ⟨rfl, zs, rfl, j6.len, .inr ⟨h0, t, ht, rfl, rfl, j6.can, j6.val⟩, hl2, j7.wrA⟩
      · have : (s.natAbs : Int) / 2 ^ t ≤ (s.natAbs : Int) := Int.ediv_le_self _ (by omega)
        exact absurd (Int.lt_of_le_of_lt this hs) (Int.not_lt.2 j1)
      · omega
theorem DV.out {w w' : World} {s E : Int} {n : Bool} {a : Option Addr} {k c : Nat} {ex code : Int} (h : DV w w' s E n a k c ex code) (hs : (s.natAbs : Int) < 4294967296 ^ 4096) (h0 : s ≠ 0) {t : Nat} (ht : LowBit (s.natAbs : Int) t) (hr : E + t < -16777216 ∨ 16777216 < E + t) :
    n = false ∧ a = none ∧ k = 0 ∧ c = 0 ∧ ex = 0 ∧ code = 20 := by
  rcases h.all with ⟨q, _⟩ | ⟨_, r, hr2, hh⟩
  · exact absurd q h0
  · obtain rfl := ht.unique hr2
    rcases hh with ⟨j1, j2, _⟩ | ⟨j1, _⟩ | ⟨_, _, j⟩
    · omega
    · have : (s.natAbs : Int) / 2 ^ t ≤ (s.natAbs : Int) := Int.ediv_le_self _ (by omega)
      exact absurd (Int.lt_of_le_of_lt this hs) (Int.not_lt.2 j1)
    · exact j
/-- The exponent of what is shifted. -/
def shx (zs : List Int) (ex cnt : Int) : Int := if zs.length = 0 then 0 else ex + cnt
theorem Fm.rng {s E : Int} {n : Bool} {zs : List Int} {ex : Int} (F : Fm s E n zs ex) : Nt.Rng zs := by
  rcases F with ⟨_, _, rfl, _⟩ | ⟨_, _, _, _, _, hc, _⟩
  · exact Nt.can_nil.1
  · exact hc.1
end Go.Proofs.YteejaghimppcgaaDoor

namespace Go.Proofs.YteejaghimppcgaaDoor
open Go.RowKit Go.Wd Go.Box
set_option linter.unusedVariables false
set_option maxRecDepth 20000
theorem refLenK (a : Option Addr) (ca : Nat) (za : List Int) (w : World) {x : Int} (ha : Lie w a za) (ga : Good za x) {B : Nat} (hB : BitLen x B) :
    Calls Tryd.prog 73 #[.slice a za.length ca] w fun e w' => e = .returned (.int .i64 B) ∧ Below w.heap.size w w' := by
  refine (refLenN a ca za w ha ga).mono ?_
  rintro e w' ⟨rfl, B2, rfl, h, _⟩
  obtain rfl := h.unique hB
  exact ⟨rfl, Below.refl _ _⟩
/-- The reference's Cut of a number in its form, whatever its exponent. -/
theorem rCut0X (n : Bool) (a : Option Addr) (c : Nat) (zs : List Int) (ex bits : Int) (w : World) {x : Int} (hl : Lie w a zs) (ga : Good zs x) (hb1 : 1 ≤ bits) (hb2 : bits ≤ 8192) {B : Nat} (hB : BitLen x B) (hd : (B : Int) - bits ≤ 0) :
    Calls Tryd.prog 49 #[dV n a zs.length c ex, .int .i64 bits] w fun e w' => e = .returned (.tuple #[dV n a zs.length c ex, .bool false]) ∧ Below w.heap.size w w' := by
  have B1 := ((Bx.nil w).push (DO n a zs.length c ex)).push (DO n a zs.length c ex)
  have b0 := ((Bx.nil w).push (DO n a zs.length c ex)).push (DO false none 0 0 0)
  have HL := fun W (h : Below w.heap.size w W) => Hide.mk (refLenK a c zs W (hl.below h (Nat.le_refl _)) ga hB)
  clear hB hl
  go_enter Tryd.func49, Tryd.ntmps49
  go_wp2_with fail
  refine (HL _ b0.bel).out.mono ?_
  rintro e w2 ⟨rfl, h2⟩
  have b2 := b0.keep h2
  rw [show (w.alloc (DO n a zs.length c ex)).heap.size = w.heap.size + 1 by simp] at b2
  obtain ⟨⟨s0, s1, s2⟩, _⟩ := cells3 b2 w.heap.size _ _ _ _ (.tail _ (.head _))
  obtain ⟨⟨t0, t1, t2⟩, u0, u1, u2⟩ := cells3 b2 (w.heap.size + 1) _ _ _ _ (.head _)
  clear HL b0 h2
  go_wp2
  refine bodyPost_ret (results_D2 rfl _ _ (w.heap.size + 1) _ rfl ⟨(b2.fill3 (by omega) (by simp) _ _ _).head, rfl⟩) rfl ?_
  exact ⟨rfl, (b2.fill3 (by omega) (by simp) _ _ _).bel⟩
theorem rCut1X (n : Bool) (a : Option Addr) (c : Nat) (zs : List Int) (ex bits : Int) (w : World) {x : Int} (hl : Lie w a zs) (ga : Good zs x) (hx1 : -100000000 ≤ ex) (hx2 : ex ≤ 100000000) (hb1 : 1 ≤ bits) (hb2 : bits ≤ 8192) {B : Nat} (hB : BitLen x B) (hB3 : B ≤ 131072) (d : Nat) (hd : (B : Int) - bits = (d : Int)) (hd0 : 0 < (d : Int)) (q : Bool) (hq : decide (x % 2 ^ d ≠ 0) = q) :
    Calls Tryd.prog 49 #[dV n a zs.length c ex, .int .i64 bits] w fun e w' => RCut w w' (sv n (x / 2 ^ d)) (ex + d) q e := by
  have B1 := ((Bx.nil w).push (DO n a zs.length c ex)).push (DO false none 0 0 0)
  rw [show (w.alloc (DO n a zs.length c ex)).heap.size = w.heap.size + 1 by simp] at B1
  have HL := fun W (h : Below w.heap.size w W) => Hide.mk (refLenK a c zs W (hl.below h (Nat.le_refl _)) ga hB)
  have hd3 : (d : Int) ≤ 131072 := by omega
  have h0 : 0 < (B : Int) - bits := by omega
  have h9 : (B : Int) - bits ≤ 131072 := by omega
  have HR := fun W (h : Below w.heap.size w W) => Hide.mk (refDownAny a c zs W (hl.below h (Nat.le_refl _)) ga _ d hd (by omega) q hq)
  have HD := Hide.mk hd
  clear hB hd hl
  go_enter Tryd.func49, Tryd.ntmps49
  go_wp2_with fail
  refine (HL _ B1.bel).out.mono ?_
  rintro e w2 ⟨rfl, h2⟩
  replace B1 := B1.keep h2
  clear HL h2
  obtain ⟨⟨s0, s1, s2⟩, _⟩ := cells3 B1 w.heap.size _ _ _ _ (.tail _ (.head _))
  go_wp2_with fail
  refine (HR _ B1.bel).out.mono ?_
  rintro e w3 ⟨z3, a3, c3, rfl, h3⟩
  have B3 := B1.keep h3.bel
  have hlt : w.heap.size + 1 < w3.heap.size := B3.lt (.head _)
  have HF := Hide.mk (formX n a3 c3 z3 (ex + ((B : Int) - bits)) w3 h3.lie h3.can (by have := h3.len; omega) (by omega) (by omega))
  have hv := h3.val
  clear h3 B1 HR s0 s1 s2
  obtain ⟨⟨s0, s1, s2⟩, _⟩ := cells3 B3 w.heap.size _ _ _ _ (.tail _ (.head _))
  go_wp2_with fail
  refine HF.out.mono ?_
  rintro e w4 ⟨n4, z4, x4, a4, c4, rfl, F4, l4, h4⟩
  have B4 := B3.keep h4
  rw [hv, HD.out] at F4
  have H := Hide.mk (And.intro F4 l4)
  clear HF h4 s0 s1 s2 F4 l4
  obtain ⟨⟨t0, t1, t2⟩, u0, u1, u2⟩ := cells3 B4 (w.heap.size + 1) _ _ _ _ (.head _)
  go_wp2
  refine bodyPost_ret (results_D2 rfl _ _ (w.heap.size + 1) _ rfl ⟨(B4.fill3 (by omega) (by simp) _ _ _).head, rfl⟩) rfl ?_
  have L := Live.set3 (g := w.heap.size + 1) ⟨B4.head, rfl⟩ (.bool n4) (.slice a4 z4.length c4) (.int .i64 x4) (Live.one H.out.2)
  exact ⟨n4, z4, x4, a4, c4, rfl, H.out.1, L.all (a4, z4) (.head _), (B4.fill3 (by omega) (by simp) _ _ _).bel⟩
theorem low_split {q : Int} {t : Nat} (h : LowBit q t) (d : Nat) : decide (q % 2 ^ (t + d) ≠ 0) = decide (q / 2 ^ t % 2 ^ d ≠ 0) := by
  rw [Int.pow_add, mod_split (p2pos t), h.zero, Int.add_zero]
  have := p2pos t
  by_cases c : q / 2 ^ t % 2 ^ d = 0
  · rw [c]; simp
  · have e1 : decide (2 ^ t * (q / 2 ^ t % 2 ^ d) ≠ 0) = true := decide_eq_true (Int.mul_ne_zero (by omega) c)
    have e2 : decide (q / 2 ^ t % 2 ^ d ≠ 0) = true := decide_eq_true c
    rw [e1, e2]
theorem low_le {q : Int} {t d : Nat} (h : LowBit q t) (hd : d ≤ t) : q % 2 ^ d = 0 ∧ LowBit (q / 2 ^ d) (t - d) ∧ q / 2 ^ d / 2 ^ (t - d) = q / 2 ^ t := by
  have e : q / 2 ^ d / 2 ^ (t - d) = q / 2 ^ t := by rw [← cut_div (p2pos d), ← Int.pow_add, show d + (t - d) = t by omega]
  have z := h.zero
  have k : (2 : Int) ^ t = 2 ^ d * 2 ^ (t - d) := by rw [← Int.pow_add, show d + (t - d) = t by omega]
  rw [k] at z
  have m := mod_split (N := q) (p2pos d) (t - d)
  rw [z] at m
  have a := Int.emod_nonneg (q / 2 ^ d) (show (2 : Int) ^ (t - d) ≠ 0 by have := p2pos (t - d); omega)
  have b := Int.emod_nonneg q (show (2 : Int) ^ d ≠ 0 by have := p2pos d; omega)
  have c := Int.mul_nonneg (Int.le_of_lt (p2pos d)) a
  have z1 : q % 2 ^ d = 0 := by omega
  have z2 : 2 ^ d * (q / 2 ^ d % 2 ^ (t - d)) = 0 := by omega
  have z3 : q / 2 ^ d % 2 ^ (t - d) = 0 := by
    rcases Int.mul_eq_zero.1 z2 with h | h
    · have := p2pos d; omega
    · exact h
  exact ⟨z1, ⟨z3, by rw [e]; exact h.one⟩, e⟩
theorem sv_abs2 (n : Bool) {x : Int} (h : 0 ≤ x) : ((sv n x).natAbs : Int) = x := by
  cases n
  · rw [sv_f]; omega
  · rw [sv_t]; omega
theorem sv_dec (n : Bool) {x : Int} (h : 0 < x) : decide (sv n x < 0) = n := by
  cases n
  · rw [sv_f]; exact decide_eq_false (by omega)
  · rw [sv_t]; exact decide_eq_true (by omega)
theorem sv_ne (n : Bool) {x : Int} (h : 0 < x) : sv n x ≠ 0 := by
  cases n
  · rw [sv_f]; omega
  · rw [sv_t]; omega
theorem rCutW (n0 n : Bool) (a : Option Addr) (c : Nat) (zs : List Int) (ex bits E : Int) (w : World) {q : Int} (hq0 : 0 < q) (hl : Lie w a zs) (F : Fm (sv n0 q) E n zs ex) (hx1 : -90000000 ≤ E) (hx2 : E ≤ 90000000) (hb1 : 1 ≤ bits) (hb2 : bits ≤ 8192) {C : Nat} (hC : BitLen q C) (hC3 : C ≤ 131072) (d : Nat) (hd : max ((C : Int) - bits) 0 = (d : Int)) (g : Bool) (hg : decide (q % 2 ^ d ≠ 0) = g) :
    Calls Tryd.prog 49 #[dV n a zs.length c ex, .int .i64 bits] w fun e w' => RCut w w' (sv n0 (q / 2 ^ d)) (E + d) g e := by
  rcases F with ⟨h, _⟩ | ⟨_, t, ht, rfl, rfl, hc, hv⟩
  · exact absurd h (sv_ne n0 hq0)
  · rw [sv_abs2 n0 (by omega)] at ht hv
    rw [sv_dec n0 hq0]
    have bz := hC.down t
    rw [← hv] at bz
    have ht3 : t < C := by
      refine Classical.byContradiction fun k => ?_
      have h1 := (hC.down t)
      rw [show C - t = 0 by omega] at h1
      have o := ht.one
      rcases h1 with ⟨h1, _⟩ | ⟨h1, h2⟩
      · rw [h1] at o; omega
      · have := h2.lt; rw [Int.pow_zero] at this; omega
    have hlim : Nt.val zs < 4294967296 ^ 4096 := by
      rw [pw32]
      rcases bz with ⟨h, _⟩ | ⟨_, h⟩
      · rw [h]; exact p2pos _
      · have := h.lt
        have := p2le (show C - t ≤ 131072 by omega)
        omega
    have gz : Good zs (Nt.val zs) := ⟨hc, (Nt.can_len hc 4096).1 hlim, rfl⟩
    by_cases h : ((C - t : Nat) : Int) - bits ≤ 0
    · have hdt : d ≤ t := by omega
      obtain ⟨y1, y2, y3⟩ := low_le ht hdt
      have hp : 0 < q / 2 ^ d := by
        have o := y2.one
        have := p2pos (t - d)
        have n1 := Int.ediv_nonneg (show 0 ≤ q by omega) (Int.le_of_lt (p2pos d))
        refine Classical.byContradiction fun k => ?_
        rw [show q / 2 ^ d = 0 by omega, Int.zero_ediv] at o
        omega
      refine (rCut0X n0 a c zs (E + t) bits w hl gz hb1 hb2 bz h).mono ?_
      rintro e w' ⟨rfl, hb⟩
      refine ⟨n0, zs, E + t, a, c, ?_, .inr ⟨sv_ne n0 hp, t - d, ?_, (sv_dec n0 hp).symm, by omega, hc, ?_⟩, hl.below hb (Nat.le_refl _), hb⟩
      · rw [← hg, y1]; rfl
      · rw [sv_abs2 n0 (by omega)]; exact y2
      · rw [sv_abs2 n0 (by omega), y3]; exact hv
    · obtain ⟨d2, hd2⟩ : ∃ d2 : Nat, ((C - t : Nat) : Int) - bits = (d2 : Int) := ⟨(((C - t : Nat) : Int) - bits).toNat, by omega⟩
      have e1 : d = t + d2 := by omega
      have := rCut1X n0 a c zs (E + t) bits w hl gz (by omega) (by omega) hb1 hb2 bz (by omega) d2 hd2 (by omega) _ rfl
      rw [hv, ← low_split ht, ← e1, hg, ← cut_div (p2pos t), ← Int.pow_add, ← e1, show E + (t : Int) + (d2 : Int) = E + (d : Int) by omega] at this
      exact this
end Go.Proofs.YteejaghimppcgaaDoor

namespace Go.Proofs.YteejaghimppcgaaDoor
open Go.RowKit Go.Wd Go.Box
set_option linter.unusedVariables false
set_option maxRecDepth 20000
theorem shiftAny (a : Option Addr) (ca : Nat) (za : List Int) (w : World) {x : Int} (ha : Lie w a za) (ga : Good za x) (hT : Tab w) (up : Int) (h1 : -1000000 ≤ up) (hf : ∀ n : Nat, up = (n : Int) → x * 2 ^ n < 4294967296 ^ 4096) :
    Calls Tryd.prog 94 #[.slice a za.length ca, .int .i64 up] w fun e w' => ∃ zs a' c, e = .returned (.tuple #[.slice a' (List.length zs) c, .bool (decide (x % 2 ^ (-up).toNat ≠ 0)), .int .i64 0]) ∧ Good zs (x * 2 ^ up.toNat / 2 ^ (-up).toNat) ∧ Lie w' a' zs ∧ Below w.heap.size w w' := by
  by_cases h : 0 ≤ up
  · refine (shiftUi a ca za w ha ga up up.toNat (by omega) (hf _ (by omega))).mono ?_
    rintro e w' ⟨zs, a', c, rfl, h2, _⟩
    refine ⟨zs, a', c, ?_, ?_, h2.lie, h2.bel⟩
    · rw [show (-up).toNat = 0 by omega, Int.pow_zero, Int.emod_one]; rfl
    · rw [show (-up).toNat = 0 by omega, Int.pow_zero, Int.ediv_one]; exact h2.good
  · refine (shiftDi a ca za w ha ga up (-up).toNat (by omega) (by omega) hT _ rfl).mono ?_
    rintro e w' ⟨zs, a', c, rfl, h2, _⟩
    refine ⟨zs, a', c, rfl, ?_, h2.lie, h2.bel⟩
    rw [show up.toNat = 0 by omega, Int.pow_zero, Int.mul_one]; exact h2.good
theorem rt_of {x e i up r : Int} (hu : up = e + 2 * i) (r0 : 0 ≤ r) (h1 : r * r ≤ x * 2 ^ up.toNat / 2 ^ (-up).toNat) (h2 : x * 2 ^ up.toNat / 2 ^ (-up).toNat < (r + 1) * (r + 1)) :
    RtAt x e i r (decide (x % 2 ^ (-up).toNat ≠ 0) || !decide (r * r = x * 2 ^ up.toNat / 2 ^ (-up).toNat)) := by
  subst hu
  have hp := p2pos (-(e + 2 * i)).toNat
  refine ⟨r0, (Int.le_ediv_iff_mul_le hp).1 h1, (Int.ediv_lt_iff_lt_mul hp).1 h2, ?_⟩
  rw [← part_fl]
  generalize x * 2 ^ (e + 2 * i).toNat = X at *
  generalize (2 : Int) ^ (-(e + 2 * i)).toNat = D at *
  have e1 := Int.mul_ediv_add_emod X D
  generalize X / D = m at *
  generalize hs : X % D = s at *
  by_cases hz : s = 0
  · subst hz
    rw [Int.add_zero] at e1
    by_cases hr : r * r = m
    · rw [← hr] at e1
      rw [show r * r * D = D * (r * r) from Int.mul_comm _ _, e1]; simp [hr]
    · have e2 : decide (r * r * D ≠ X) = true := decide_eq_true (fun c => hr (Int.eq_of_mul_eq_mul_right (show D ≠ 0 by omega) (by rw [c, ← e1, Int.mul_comm])))
      rw [e2]; simp [hr]
  · have e2 : decide (r * r * D ≠ X) = true := decide_eq_true (fun c => hz (by rw [← hs, ← c, Int.mul_emod_left]))
    rw [e2, decide_eq_true hz]; rfl
theorem root_boxes (n : Bool) (a : Option Addr) (c k : Nat) (ex : Int) (w : World) :
    Bx w [(w.heap.size + 1 + 1, DO n a k c ex), (w.heap.size + 1, DO false none 0 0 0), (w.heap.size, DO n a k c ex)] (((w.alloc (DO n a k c ex)).alloc (DO false none 0 0 0)).alloc (DO n a k c ex)) := by
  have B1 := (((Bx.nil w).push (DO n a k c ex)).push (DO false none 0 0 0)).push (DO n a k c ex)
  rw [show ((w.alloc (DO n a k c ex)).alloc (DO false none 0 0 0)).heap.size = w.heap.size + 1 + 1 by simp, show (w.alloc (DO n a k c ex)).heap.size = w.heap.size + 1 by simp] at B1
  exact B1
theorem root_bad (n : Bool) (a : Option Addr) (c : Nat) (zs : List Int) (ex bits code : Int) (w : World) (u : DLie w a zs) (hc : askB bits (dmayB n zs ex) = code) (hne : code ≠ 0) :
    Calls Tryd.prog 51 #[dV n a zs.length c ex, .int .i64 bits] w fun e w' => e = .returned (.tuple #[noD, .bool false, .int .i64 code]) ∧ Below w.heap.size w w' := by
  have B1 := root_boxes n a c zs.length ex w
  have H := Hide.mk (cut_ask n a c zs ex bits code w _ u B1 hc)
  have hc3 : (code != 0) = true := by simpa using hne
  have hc2 : (code == 0) = false := by simpa using hne
  clear hc u
  go_enter Tryd.func51, Tryd.ntmps51
  go_wp2_with fail
  refine H.out.mono ?_
  rintro e w2 ⟨rfl, h2⟩
  have B2 := B1.keep h2
  clear h2 B1 H
  obtain ⟨⟨t0, t1, t2⟩, u0, u1, u2⟩ := cells3 B2 (w.heap.size + 1) _ _ _ _ (.tail _ (.head _))
  go_wp2
  have B3 := (B2.sub (L' := [(w.heap.size + 1, DO false none 0 0 0)]) (by simp)).fill3 (by omega) (by simp) (.bool false) (.slice none 0 0) (.int .i64 0)
  refine bodyPost_ret (results_D3 rfl _ _ (w.heap.size + 1) _ rfl ⟨B3.head, rfl⟩) rfl ?_
  exact ⟨rfl, B3.bel⟩
theorem root_less (a : Option Addr) (c : Nat) (zs : List Int) (ex bits : Int) (w : World) (l : Lie w a zs) (g : DG true zs ex) (hb1 : 1 ≤ bits) (hb2 : bits ≤ 8192) :
    Calls Tryd.prog 51 #[dV true a zs.length c ex, .int .i64 bits] w fun e w' => e = .returned (.tuple #[noD, .bool false, .int .i64 10]) ∧ Below w.heap.size w w' := by
  have B1 := root_boxes true a c zs.length ex w
  have H := Hide.mk (cut_ask true a c zs ex bits 0 w _ (g.lie l) B1 (by rw [g.may]; exact ask_ok hb1 hb2))
  clear l
  go_enter Tryd.func51, Tryd.ntmps51
  go_wp2_with fail
  refine H.out.mono ?_
  rintro e w2 ⟨rfl, h2⟩
  have B2 := B1.keep h2
  clear h2 B1 H
  obtain ⟨⟨s0, s1, s2⟩, _⟩ := cells3 B2 w.heap.size _ _ _ _ (.tail _ (.tail _ (.head _)))
  obtain ⟨⟨t0, t1, t2⟩, u0, u1, u2⟩ := cells3 B2 (w.heap.size + 1) _ _ _ _ (.tail _ (.head _))
  go_wp2
  have B3 := (B2.sub (L' := [(w.heap.size + 1, DO false none 0 0 0)]) (by simp)).fill3 (by omega) (by simp) (.bool false) (.slice none 0 0) (.int .i64 0)
  refine bodyPost_ret (results_D3 rfl _ _ (w.heap.size + 1) _ rfl ⟨B3.head, rfl⟩) rfl ?_
  exact ⟨rfl, B3.bel⟩
theorem root_nil (a : Option Addr) (c : Nat) (zs : List Int) (ex bits : Int) (w : World) (l : Lie w a zs) (g : DG false zs ex) (hb1 : 1 ≤ bits) (hb2 : bits ≤ 8192) (hz : zs.length ≤ 0) :
    Calls Tryd.prog 51 #[dV false a zs.length c ex, .int .i64 bits] w fun e w' => e = .returned (.tuple #[noD, .bool false, .int .i64 0]) ∧ Below w.heap.size w w' := by
  have B1 := root_boxes false a c zs.length ex w
  have H := Hide.mk (cut_ask false a c zs ex bits 0 w _ (g.lie l) B1 (by rw [g.may]; exact ask_ok hb1 hb2))
  have HM := fun W => Hide.mk (nought_yes a zs.length c W hz)
  clear l hz
  go_enter Tryd.func51, Tryd.ntmps51
  go_wp2_with fail
  refine H.out.mono ?_
  rintro e w2 ⟨rfl, h2⟩
  have B2 := B1.keep h2
  clear h2 B1 H
  obtain ⟨⟨s0, s1, s2⟩, _⟩ := cells3 B2 w.heap.size _ _ _ _ (.tail _ (.tail _ (.head _)))
  go_wp2_with fail
  refine (HM _).out.mono ?_
  rintro e w3 ⟨rfl, rfl⟩
  clear HM
  obtain ⟨⟨t0, t1, t2⟩, u0, u1, u2⟩ := cells3 B2 (w.heap.size + 1) _ _ _ _ (.tail _ (.head _))
  go_wp2
  have B3 := (B2.sub (L' := [(w.heap.size + 1, DO false none 0 0 0)]) (by simp)).fill3 (by omega) (by simp) (.bool false) (.slice none 0 0) (.int .i64 0)
  refine bodyPost_ret (results_D3 rfl _ _ (w.heap.size + 1) _ rfl ⟨B3.head, rfl⟩) rfl ?_
  exact ⟨rfl, B3.bel⟩
theorem nneg_of (z : List Int) (h : Nt.Can z) : 0 ≤ Nt.val z := (Nt.val_bd h.1).1
theorem good_of {z : List Int} (h : Nt.Can z) {m : Int} (h1 : Nt.val z * Nt.val z ≤ m) (h2 : m < 4294967296 ^ 4096) : Good z (Nt.val z) := by
  refine ⟨h, (Nt.can_len h 4096).1 ?_, rfl⟩
  have n := nneg_of z h
  by_cases hz : Nt.val z = 0
  · rw [hz, pw32]; exact p2pos _
  · have := Int.mul_le_mul_of_nonneg_left (show 1 ≤ Nt.val z by omega) n
    omega
set_option maxHeartbeats 4000000 in
theorem root_even (a : Option Addr) (c : Nat) (zs : List Int) (ex bits : Int) (w : World) (l : Lie w a zs) (g : DG false zs ex) (hT : Tab w) (hb1 : 1 ≤ bits) (hb2 : bits ≤ 8192) (hz : 0 < zs.length) {La : Nat} (bx : Bits (Nt.val zs) La) (hpar : (ex - (2 * bits - (La : Int))).tmod 2 = 0) (up i r : Int) (more : Bool) (hup : 2 * bits - (La : Int) = up) (hi : up = ex + 2 * i) (hR : RtAt (Nt.val zs) ex i r more) {B : Nat} (hB : BitLen r B) (hB2 : B ≤ 131072) (d : Nat) (hd : max ((B : Int) - bits) 0 = (d : Int)) :
    Calls Tryd.prog 51 #[dV false a zs.length c ex, .int .i64 bits] w fun e w' => DCut w w' (sv false (r / 2 ^ d)) (-i + d) (decide (r % 2 ^ d ≠ 0) || more) e := by
  have B1 := root_boxes false a c zs.length ex w
  have H := Hide.mk (cut_ask false a c zs ex bits 0 w _ (g.lie l) B1 (by rw [g.may]; exact ask_ok hb1 hb2))
  have HM := fun W => Hide.mk (nought_no a zs.length c W hz)
  have p1 := g.pos hz
  have s1 := g_size g bx
  have x1 := g.ex_bd
  have HL := fun W (h : Below w.heap.size w W) => Hide.mk (lenK a c zs W (l.below h (Nat.le_refl _)) g.good (B := La) (.inr ⟨p1, bx⟩))
  have HS := fun W (h : Below w.heap.size w W) => Hide.mk (shiftAny a c zs W (l.below h (Nat.le_refl _)) g.good (hT.below h (Nat.le_refl _)) up (by omega) (fun n hn => by
    rw [pw32]
    have h1 := (bx.up n).lt
    have h2 := p2le (show La + n ≤ 131072 by omega)
    omega))
  have HR := fun (zr : List Int) (h0 : Nt.Can zr) (h1 : Nt.val zr * Nt.val zr ≤ Nt.val zs * 2 ^ up.toNat / 2 ^ (-up).toNat) (h2 : Nt.val zs * 2 ^ up.toNat / 2 ^ (-up).toNat < (Nt.val zr + 1) * (Nt.val zr + 1)) => Hide.mk ((rtFam (Nt.val zs) ex).uniq _ _ _ _ _ (rt_of hi (nneg_of zr h0) h1 h2) hR)
  have HC := fun (m : Bool) (hm : m = more) (zr : List Int) (ar : Option Addr) (cr : Nat) W (h : Below w.heap.size w W) (lr : Lie W ar zr) (gr : Good zr r) => Hide.mk (cutC false ar cr zr (-i) bits m W lr gr (hT.below h (Nat.le_refl _)) hb1 hb2 (by omega) (by omega) hB hB2 d hd)
  have HU := Hide.mk hup
  have HD : Hide ((ex - up).tdiv 2 = -i) := ⟨by rw [hi, show ex - (ex + 2 * i) = 2 * (-i) by omega, Int.mul_tdiv_cancel_left _ (by decide)]⟩
  have v1 : -300000 ≤ up := by omega
  have v2 : up ≤ 300000 := by omega
  have y1 := x1.1
  have y2 := x1.2
  clear l hz hB hd hup x1 hT hi hR bx g p1
  generalize Nt.val zs = X at *
  go_enter Tryd.func51, Tryd.ntmps51
  go_wp2_with fail
  refine H.out.mono ?_
  rintro e w2 ⟨rfl, h2⟩
  have HF := (B1.keep h2).sub (L' := [(w.heap.size + 1, DO false none 0 0 0), (w.heap.size, DO false a zs.length c ex)]) (by simp)
  clear h2 B1 H
  obtain ⟨⟨s0, s1, s2⟩, _⟩ := cells3 HF w.heap.size _ _ _ _ (.tail _ (.head _))
  go_wp2_with fail
  refine (HM _).out.mono ?_
  rintro e w3 ⟨rfl, rfl⟩
  clear HM
  go_wp2_with fail
  refine (HL _ HF.bel).out.mono ?_
  rintro e w3 ⟨rfl, h3⟩
  replace HF := HF.keep h3
  clear h3 HL s0 s1 s2
  obtain ⟨⟨s0, s1, s2⟩, _⟩ := cells3 HF w.heap.size _ _ _ _ (.tail _ (.head _))
  go_wp2_with fail
  rw [HU.out]
  refine (HS _ HF.bel).out.mono ?_
  rintro e w4 ⟨z4, a4, c4, rfl, g4, l4, h4⟩
  replace HF := HF.keep h4
  have HQ := Hide.mk (root_any a4 c4 z4 w4 l4 g4.can.1 g4.may)
  have hv4 := g4.val
  have hlt4 := g4.lt.2
  clear h4 HS s0 s1 s2 l4 g4
  obtain ⟨⟨s0, s1, s2⟩, _⟩ := cells3 HF w.heap.size _ _ _ _ (.tail _ (.head _))
  generalize hlost : decide (X % 2 ^ (-up).toNat ≠ 0) = lost at *
  go_wp2_with fail
  refine HQ.out.mono ?_
  rintro e w5 ⟨z5, a5, c5, rfl, o5, k5, i5, j5, h5⟩
  rw [hv4] at i5 j5
  rw [hv4]
  have hb5 := h5
  replace HF := HF.keep h5
  obtain ⟨e1, e2⟩ := (HR z5 k5 i5 j5).out
  have g5 := good_of k5 i5 hlt4
  rw [e1] at g5 e2
  rw [e1]
  obtain ⟨a5', c5', he5, _, _, l5⟩ := o5.lie
  simp only [Value.slice.injEq, true_and] at he5
  obtain ⟨rfl, rfl⟩ := he5
  have HC2 := fun m hm => HC m hm z5 a5 c5 w5 HF.bel l5 g5
  have HFb := HF.bel
  have hlt : w.heap.size + 1 < w5.heap.size := HF.lt (.head _)
  generalize hwh : decide (r * r = X * 2 ^ up.toNat / 2 ^ (-up).toNat) = whole at *
  have HE := Hide.mk e2
  clear h5 HQ s0 s1 s2 k5 o5 i5 j5 l5 g5 e1 e2 hlost hwh hv4 hlt4 HR HC
  obtain ⟨⟨s0, s1, s2⟩, _⟩ := cells3 HF w.heap.size _ _ _ _ (.tail _ (.head _))
  cases lost
  · go_wp2_with fail
    rw [HD.out]
    refine (HC2 (!whole) HE.out).out.mono ?_
    rintro e w6 ⟨n4, a4, k4, c4, x4, code, lost, rfl, h4, h5, h6⟩
    have B4 := (HF.keep h4.bel).sub (L' := [(w.heap.size + 1, DO false none 0 0 0)]) (by simp)
    have V := Hide.mk (And.intro h4 (And.intro h5 h6))
    clear h4 h5 h6 s0 s1 s2 HC2 HF
    obtain ⟨⟨t0, t1, t2⟩, u0, u1, u2⟩ := cells3 B4 (w.heap.size + 1) _ _ _ _ (.head _)
    go_wp2
    refine bodyPost_ret (results_D3 rfl _ _ (w.heap.size + 1) _ rfl ⟨(B4.fill3 (by omega) (by simp) _ _ _).head, rfl⟩) rfl ?_
    have W2 := V.out.2
    rw [show (!whole) = more from HE.out] at W2
    exact ⟨n4, a4, k4, c4, x4, code, lost, rfl, V.out.1.back HFb (by omega) hlt _ _ _, W2.1, W2.2⟩
  · go_wp2_with fail
    rw [HD.out]
    refine (HC2 true HE.out).out.mono ?_
    rintro e w6 ⟨n4, a4, k4, c4, x4, code, lost, rfl, h4, h5, h6⟩
    have B4 := (HF.keep h4.bel).sub (L' := [(w.heap.size + 1, DO false none 0 0 0)]) (by simp)
    have V := Hide.mk (And.intro h4 (And.intro h5 h6))
    clear h4 h5 h6 s0 s1 s2 HC2 HF
    obtain ⟨⟨t0, t1, t2⟩, u0, u1, u2⟩ := cells3 B4 (w.heap.size + 1) _ _ _ _ (.head _)
    go_wp2
    refine bodyPost_ret (results_D3 rfl _ _ (w.heap.size + 1) _ rfl ⟨(B4.fill3 (by omega) (by simp) _ _ _).head, rfl⟩) rfl ?_
    have W2 := V.out.2
    rw [show true = more from HE.out] at W2
    exact ⟨n4, a4, k4, c4, x4, code, lost, rfl, V.out.1.back HFb (by omega) hlt _ _ _, W2.1, W2.2⟩
set_option maxHeartbeats 4000000 in
theorem root_odd (a : Option Addr) (c : Nat) (zs : List Int) (ex bits : Int) (w : World) (l : Lie w a zs) (g : DG false zs ex) (hT : Tab w) (hb1 : 1 ≤ bits) (hb2 : bits ≤ 8192) (hz : 0 < zs.length) {La : Nat} (bx : Bits (Nt.val zs) La) (hpar : ¬ (ex - (2 * bits - (La : Int))).tmod 2 = 0) (up i r : Int) (more : Bool) (hup : 2 * bits - (La : Int) - 1 = up) (hi : up = ex + 2 * i) (hR : RtAt (Nt.val zs) ex i r more) {B : Nat} (hB : BitLen r B) (hB2 : B ≤ 131072) (d : Nat) (hd : max ((B : Int) - bits) 0 = (d : Int)) :
    Calls Tryd.prog 51 #[dV false a zs.length c ex, .int .i64 bits] w fun e w' => DCut w w' (sv false (r / 2 ^ d)) (-i + d) (decide (r % 2 ^ d ≠ 0) || more) e := by
  have B1 := root_boxes false a c zs.length ex w
  have H := Hide.mk (cut_ask false a c zs ex bits 0 w _ (g.lie l) B1 (by rw [g.may]; exact ask_ok hb1 hb2))
  have HM := fun W => Hide.mk (nought_no a zs.length c W hz)
  have p1 := g.pos hz
  have s1 := g_size g bx
  have x1 := g.ex_bd
  have HL := fun W (h : Below w.heap.size w W) => Hide.mk (lenK a c zs W (l.below h (Nat.le_refl _)) g.good (B := La) (.inr ⟨p1, bx⟩))
  have HS := fun W (h : Below w.heap.size w W) => Hide.mk (shiftAny a c zs W (l.below h (Nat.le_refl _)) g.good (hT.below h (Nat.le_refl _)) up (by omega) (fun n hn => by
    rw [pw32]
    have h1 := (bx.up n).lt
    have h2 := p2le (show La + n ≤ 131072 by omega)
    omega))
  have HR := fun (zr : List Int) (h0 : Nt.Can zr) (h1 : Nt.val zr * Nt.val zr ≤ Nt.val zs * 2 ^ up.toNat / 2 ^ (-up).toNat) (h2 : Nt.val zs * 2 ^ up.toNat / 2 ^ (-up).toNat < (Nt.val zr + 1) * (Nt.val zr + 1)) => Hide.mk ((rtFam (Nt.val zs) ex).uniq _ _ _ _ _ (rt_of hi (nneg_of zr h0) h1 h2) hR)
  have HC := fun (m : Bool) (hm : m = more) (zr : List Int) (ar : Option Addr) (cr : Nat) W (h : Below w.heap.size w W) (lr : Lie W ar zr) (gr : Good zr r) => Hide.mk (cutC false ar cr zr (-i) bits m W lr gr (hT.below h (Nat.le_refl _)) hb1 hb2 (by omega) (by omega) hB hB2 d hd)
  have HU := Hide.mk hup
  have HD : Hide ((ex - up).tdiv 2 = -i) := ⟨by rw [hi, show ex - (ex + 2 * i) = 2 * (-i) by omega, Int.mul_tdiv_cancel_left _ (by decide)]⟩
  have v1 : -300000 ≤ up := by omega
  have v2 : up ≤ 300000 := by omega
  have y1 := x1.1
  have y2 := x1.2
  clear l hz hB hd hup x1 hT hi hR bx g p1
  generalize Nt.val zs = X at *
  go_enter Tryd.func51, Tryd.ntmps51
  go_wp2_with fail
  refine H.out.mono ?_
  rintro e w2 ⟨rfl, h2⟩
  have HF := (B1.keep h2).sub (L' := [(w.heap.size + 1, DO false none 0 0 0), (w.heap.size, DO false a zs.length c ex)]) (by simp)
  clear h2 B1 H
  obtain ⟨⟨s0, s1, s2⟩, _⟩ := cells3 HF w.heap.size _ _ _ _ (.tail _ (.head _))
  go_wp2_with fail
  refine (HM _).out.mono ?_
  rintro e w3 ⟨rfl, rfl⟩
  clear HM
  go_wp2_with fail
  refine (HL _ HF.bel).out.mono ?_
  rintro e w3 ⟨rfl, h3⟩
  replace HF := HF.keep h3
  clear h3 HL s0 s1 s2
  obtain ⟨⟨s0, s1, s2⟩, _⟩ := cells3 HF w.heap.size _ _ _ _ (.tail _ (.head _))
  go_wp2_with fail
  rw [HU.out]
  refine (HS _ HF.bel).out.mono ?_
  rintro e w4 ⟨z4, a4, c4, rfl, g4, l4, h4⟩
  replace HF := HF.keep h4
  have HQ := Hide.mk (root_any a4 c4 z4 w4 l4 g4.can.1 g4.may)
  have hv4 := g4.val
  have hlt4 := g4.lt.2
  clear h4 HS s0 s1 s2 l4 g4
  obtain ⟨⟨s0, s1, s2⟩, _⟩ := cells3 HF w.heap.size _ _ _ _ (.tail _ (.head _))
  generalize hlost : decide (X % 2 ^ (-up).toNat ≠ 0) = lost at *
  go_wp2_with fail
  refine HQ.out.mono ?_
  rintro e w5 ⟨z5, a5, c5, rfl, o5, k5, i5, j5, h5⟩
  rw [hv4] at i5 j5
  rw [hv4]
  have hb5 := h5
  replace HF := HF.keep h5
  obtain ⟨e1, e2⟩ := (HR z5 k5 i5 j5).out
  have g5 := good_of k5 i5 hlt4
  rw [e1] at g5 e2
  rw [e1]
  obtain ⟨a5', c5', he5, _, _, l5⟩ := o5.lie
  simp only [Value.slice.injEq, true_and] at he5
  obtain ⟨rfl, rfl⟩ := he5
  have HC2 := fun m hm => HC m hm z5 a5 c5 w5 HF.bel l5 g5
  have HFb := HF.bel
  have hlt : w.heap.size + 1 < w5.heap.size := HF.lt (.head _)
  generalize hwh : decide (r * r = X * 2 ^ up.toNat / 2 ^ (-up).toNat) = whole at *
  have HE := Hide.mk e2
  clear h5 HQ s0 s1 s2 k5 o5 i5 j5 l5 g5 e1 e2 hlost hwh hv4 hlt4 HR HC
  obtain ⟨⟨s0, s1, s2⟩, _⟩ := cells3 HF w.heap.size _ _ _ _ (.tail _ (.head _))
  cases lost
  · go_wp2_with fail
    rw [HD.out]
    refine (HC2 (!whole) HE.out).out.mono ?_
    rintro e w6 ⟨n4, a4, k4, c4, x4, code, lost, rfl, h4, h5, h6⟩
    have B4 := (HF.keep h4.bel).sub (L' := [(w.heap.size + 1, DO false none 0 0 0)]) (by simp)
    have V := Hide.mk (And.intro h4 (And.intro h5 h6))
    clear h4 h5 h6 s0 s1 s2 HC2 HF
    obtain ⟨⟨t0, t1, t2⟩, u0, u1, u2⟩ := cells3 B4 (w.heap.size + 1) _ _ _ _ (.head _)
    go_wp2
    refine bodyPost_ret (results_D3 rfl _ _ (w.heap.size + 1) _ rfl ⟨(B4.fill3 (by omega) (by simp) _ _ _).head, rfl⟩) rfl ?_
    have W2 := V.out.2
    rw [show (!whole) = more from HE.out] at W2
    exact ⟨n4, a4, k4, c4, x4, code, lost, rfl, V.out.1.back HFb (by omega) hlt _ _ _, W2.1, W2.2⟩
  · go_wp2_with fail
    rw [HD.out]
    refine (HC2 true HE.out).out.mono ?_
    rintro e w6 ⟨n4, a4, k4, c4, x4, code, lost, rfl, h4, h5, h6⟩
    have B4 := (HF.keep h4.bel).sub (L' := [(w.heap.size + 1, DO false none 0 0 0)]) (by simp)
    have V := Hide.mk (And.intro h4 (And.intro h5 h6))
    clear h4 h5 h6 s0 s1 s2 HC2 HF
    obtain ⟨⟨t0, t1, t2⟩, u0, u1, u2⟩ := cells3 B4 (w.heap.size + 1) _ _ _ _ (.head _)
    go_wp2
    refine bodyPost_ret (results_D3 rfl _ _ (w.heap.size + 1) _ rfl ⟨(B4.fill3 (by omega) (by simp) _ _ _).head, rfl⟩) rfl ?_
    have W2 := V.out.2
    rw [show true = more from HE.out] at W2
    exact ⟨n4, a4, k4, c4, x4, code, lost, rfl, V.out.1.back HFb (by omega) hlt _ _ _, W2.1, W2.2⟩
end Go.Proofs.YteejaghimppcgaaDoor

namespace Go.Proofs.YteejaghimppcgaaDoor
open Go.RowKit Go.Wd Go.Box
set_option linter.unusedVariables false
set_option maxRecDepth 20000
theorem rt_of2 {x e i r s : Int} {n : Nat} (hu : (n : Int) = e + 2 * i) (r0 : 0 ≤ r) (I : RtInv (x * 2 ^ n) r s) : RtAt x e i r (!decide (s = 0)) := by
  have h1 := I.s0
  have h2 := I.eq
  have h3 := I.le
  have e4 : (r + 1) * (r + 1) = r * r + 2 * r + 1 := by grind
  refine ⟨r0, ?_, ?_, ?_⟩
  · rw [← hu, show (-(n : Int)).toNat = 0 by omega, Int.pow_zero, Int.mul_one, Int.toNat_natCast]; omega
  · rw [← hu, show (-(n : Int)).toNat = 0 by omega, Int.pow_zero, Int.mul_one, Int.toNat_natCast]; omega
  · rw [← hu, show (-(n : Int)).toNat = 0 by omega, Int.pow_zero, Int.mul_one, Int.toNat_natCast, h2]
    by_cases hs : s = 0
    · subst hs; simp
    · rw [decide_eq_false hs, decide_eq_true (show r * r ≠ r * r + s by omega)]; rfl
end Go.Proofs.YteejaghimppcgaaDoor

namespace Go.Proofs.YteejaghimppcgaaDoor
open Go.RowKit Go.Wd Go.Box
set_option linter.unusedVariables false
set_option maxRecDepth 20000
set_option maxHeartbeats 4000000 in
theorem rRoot_upe (a : Option Addr) (c : Nat) (zs : List Int) (ex bits : Int) (w : World) (l : Lie w a zs) (g : DG false zs ex) (hb1 : 1 ≤ bits) (hb2 : bits ≤ 8192) (hz : 0 < zs.length) {La : Nat} (bx : Bits (Nt.val zs) La) (n : Nat) (hn : 2 * bits + 2 - (La : Int) = (n : Int)) (hpar : (ex - (2 * bits + 2 - (La : Int))).tmod 2 = 0) (hneg : 0 ≤ 2 * bits + 2 - (La : Int)) (hn3 : (n : Int) ≤ 17000) (i r : Int) (more : Bool) (hi : (n : Int) = ex + 2 * i) (hR : RtAt (Nt.val zs) ex i r more) (hr0 : 0 < r) {C : Nat} (hC : BitLen r C) (hC2 : C ≤ 131072) (d : Nat) (hd : max ((C : Int) - bits) 0 = (d : Int)) :
    Calls Tryd.prog 52 #[dV false a zs.length c ex, .int .i64 bits] w fun e w' => RCut w w' (sv false (r / 2 ^ d)) (-i + d) (decide (r % 2 ^ d ≠ 0) || more) e := by
  have B1 := ((Bx.nil w).push (DO false a zs.length c ex)).push (DO false none 0 0 0)
  rw [show (w.alloc (DO false a zs.length c ex)).heap.size = w.heap.size + 1 by simp] at B1
  have p1 := g.pos hz
  have s1 := g_size g bx
  have x1 := g.ex_bd
  have HL := fun W (h : Below w.heap.size w W) => Hide.mk (refLenK a c zs W (l.below h (Nat.le_refl _)) g.good (B := La) (.inr ⟨p1, bx⟩))
  have HU := fun W (h : Below w.heap.size w W) => Hide.mk (refUp_any a c zs W n (by omega) (l.below h (Nat.le_refl _)) g.can.1 (by have := g.len; omega))
  have HQ := fun (A : Option Addr) (cA : Nat) (Z : List Int) W (lA : Lie W A Z) (cZ : Nt.Can Z) (vZ : Nt.val Z = Nt.val zs * 2 ^ n) => Hide.mk (refRoot31 A cA Z W lA cZ (by
    refine Classical.byContradiction fun k => ?_
    obtain rfl : Z = [] := List.length_eq_zero_iff.1 (by omega)
    rw [Nt.val_nil] at vZ
    have := Int.mul_pos p1 (p2pos n)
    omega) (by
    refine (Nt.can_len cZ 5000).1 ?_
    rw [vZ, show (4294967296 : Int) ^ 5000 = 2 ^ 160000 by rw [show (4294967296 : Int) = 2 ^ 32 by decide, ← Int.pow_mul]]
    have := (bx.up n).lt
    have := p2le (show La + n ≤ 160000 by omega)
    omega))
  have HR := fun (zr : List Int) (s : Int) (h0 : Nt.Can zr) (I : RtInv (Nt.val zs * 2 ^ n) (Nt.val zr) s) => Hide.mk ((rtFam (Nt.val zs) ex).uniq _ _ _ _ _ (rt_of2 hi (nneg_of zr h0) I) hR)
  have HX := fun (A : Option Addr) (cA : Nat) (Z : List Int) W (lA : Lie W A Z) (cZ : Nt.Can Z) (vZ : Nt.val Z = r) => Hide.mk (formX false A cA Z (-i) W lA cZ (by
    have := (Nt.can_len cZ 4096).1 (by
      rw [vZ, pw32]
      rcases hC with ⟨h, _⟩ | ⟨_, h⟩
      · rw [h]; exact p2pos _
      · have := h.lt
        have := p2le hC2
        omega)
    omega) (by omega) (by omega))
  have HC := fun (m : Bool) (A : Option Addr) (cA : Nat) (Z : List Int) (x : Int) W (lA : Lie W A Z) (F : Fm (sv false r) (-i) m Z x) => Hide.mk (rCutW false m A cA Z x bits (-i) W hr0 lA F (by omega) (by omega) hb1 hb2 hC hC2 d hd _ rfl)
  have y1 := x1.1
  have y2 := x1.2
  have HN := Hide.mk hn
  have HD : Hide ((ex - (n : Int)).tdiv 2 = -i) := ⟨by rw [hi, show ex - (ex + 2 * i) = 2 * (-i) by omega, Int.mul_tdiv_cancel_left _ (by decide)]⟩
  generalize hX : Nt.val zs = X at *
  clear l hz hC hd x1 hX bx g p1 hR hi hr0 hn
  go_enter Tryd.func52, Tryd.ntmps52
  go_wp2_with fail
  refine (HL _ B1.bel).out.mono ?_
  rintro e w3 ⟨rfl, h3⟩
  have HF := B1.keep h3
  clear h3 HL B1
  obtain ⟨⟨s0, s1, s2⟩, _⟩ := cells3 HF w.heap.size _ _ _ _ (.tail _ (.head _))
  go_wp2_with fail
  rw [HN.out]
  refine (HU _ HF.bel).out.mono ?_
  rintro e w6 ⟨z6, a6, c6, rfl, o6, n6, v6, h6⟩
  obtain ⟨a6', c6', he6, _, _, l6⟩ := o6.lie
  simp only [Value.slice.injEq, true_and] at he6
  obtain ⟨rfl, rfl⟩ := he6
  replace HF := HF.keep h6
  have HQ2 := HQ a6 c6 z6 w6 l6 n6 v6
  clear h6 o6 HQ HU l6 n6 s0 s1 s2
  go_wp2_with fail
  refine HQ2.out.mono ?_
  rintro e w7 ⟨zr, ar, cr, s, rfl, lr, nr, I, h7⟩
  rw [v6] at I
  replace HF := HF.keep h7
  obtain ⟨e1, e2⟩ := (HR zr s nr I).out
  have HX2 := HX ar cr zr w7 lr nr e1
  have HE := Hide.mk e2
  generalize hex : decide (s = 0) = exact at *
  clear h7 HQ2 v6 I HR HX lr nr e2 hex
  obtain ⟨⟨s0, s1, s2⟩, _⟩ := cells3 HF w.heap.size _ _ _ _ (.tail _ (.head _))
  go_wp2_with fail
  try rw [HN.out]
  rw [HD.out]
  refine HX2.out.mono ?_
  rintro e w8 ⟨n8, z8, x8, a8, c8, rfl, F8, l8, h8⟩
  rw [e1] at F8
  have HK := HC n8 a8 c8 z8 x8 w8 l8 F8
  replace HF := HF.keep h8
  clear h8 HX2 l8 F8 HC s0 s1 s2
  go_wp2_with fail
  refine HK.out.mono ?_
  rintro e w9 ⟨n9, z9, x9, a9, c9, rfl, F9, l9, h9⟩
  replace HF := HF.keep h9
  have HR := Hide.mk (And.intro F9 l9)
  clear HK h9 F9 l9
  generalize hL : decide (r % 2 ^ d ≠ 0) = lost at *
  have HFr := HF.sub (L' := [(w.heap.size + 1, DO false none 0 0 0)]) (by simp)
  have hlt9 : w.heap.size + 1 < w9.heap.size := HF.lt (p := (w.heap.size + 1, DO false none 0 0 0)) (by simp)
  obtain ⟨⟨t0, t1, t2⟩, u0, u1, u2⟩ := cells3 HFr (w.heap.size + 1) _ _ _ _ (.head _)
  have L := Hide.mk (Live.set3 (g := w.heap.size + 1) ⟨HFr.head, rfl⟩ (.bool n9) (.slice a9 z9.length c9) (.int .i64 x9) (Live.one HR.out.2))
  cases lost
  · go_wp2
    refine bodyPost_ret (results_D2 rfl _ _ (w.heap.size + 1) _ rfl ⟨((HFr.fill3 (by omega) (by simp) _ _ _).push _).tail.head, rfl⟩) rfl ?_
    exact ⟨n9, z9, x9, a9, c9, by rw [hL, ← HE.out]; rfl, HR.out.1, (L.out.all (a9, z9) (.head _)).below (below_alloc _ _) (Nat.le_refl _), ((HFr.fill3 (by omega) (by simp) _ _ _).push _).bel⟩
  · go_wp2
    refine bodyPost_ret (results_D2 rfl _ _ (w.heap.size + 1) _ rfl ⟨((HFr.fill3 (by omega) (by simp) _ _ _).push _).tail.head, rfl⟩) rfl ?_
    exact ⟨n9, z9, x9, a9, c9, by rw [hL]; rfl, HR.out.1, (L.out.all (a9, z9) (.head _)).below (below_alloc _ _) (Nat.le_refl _), ((HFr.fill3 (by omega) (by simp) _ _ _).push _).bel⟩
end Go.Proofs.YteejaghimppcgaaDoor

namespace Go.Proofs.YteejaghimppcgaaDoor
open Go.RowKit Go.Wd Go.Box
set_option linter.unusedVariables false
set_option maxRecDepth 20000
set_option maxHeartbeats 4000000 in
theorem rRoot_upo (a : Option Addr) (c : Nat) (zs : List Int) (ex bits : Int) (w : World) (l : Lie w a zs) (g : DG false zs ex) (hb1 : 1 ≤ bits) (hb2 : bits ≤ 8192) (hz : 0 < zs.length) {La : Nat} (bx : Bits (Nt.val zs) La) (n : Nat) (hn : 2 * bits + 2 - (La : Int) + 1 = (n : Int)) (hpar : ¬ (ex - (2 * bits + 2 - (La : Int))).tmod 2 = 0) (hneg : 0 ≤ 2 * bits + 2 - (La : Int)) (hn3 : (n : Int) ≤ 17000) (i r : Int) (more : Bool) (hi : (n : Int) = ex + 2 * i) (hR : RtAt (Nt.val zs) ex i r more) (hr0 : 0 < r) {C : Nat} (hC : BitLen r C) (hC2 : C ≤ 131072) (d : Nat) (hd : max ((C : Int) - bits) 0 = (d : Int)) :
    Calls Tryd.prog 52 #[dV false a zs.length c ex, .int .i64 bits] w fun e w' => RCut w w' (sv false (r / 2 ^ d)) (-i + d) (decide (r % 2 ^ d ≠ 0) || more) e := by
  have B1 := ((Bx.nil w).push (DO false a zs.length c ex)).push (DO false none 0 0 0)
  rw [show (w.alloc (DO false a zs.length c ex)).heap.size = w.heap.size + 1 by simp] at B1
  have p1 := g.pos hz
  have s1 := g_size g bx
  have x1 := g.ex_bd
  have HL := fun W (h : Below w.heap.size w W) => Hide.mk (refLenK a c zs W (l.below h (Nat.le_refl _)) g.good (B := La) (.inr ⟨p1, bx⟩))
  have HU := fun W (h : Below w.heap.size w W) => Hide.mk (refUp_any a c zs W n (by omega) (l.below h (Nat.le_refl _)) g.can.1 (by have := g.len; omega))
  have HQ := fun (A : Option Addr) (cA : Nat) (Z : List Int) W (lA : Lie W A Z) (cZ : Nt.Can Z) (vZ : Nt.val Z = Nt.val zs * 2 ^ n) => Hide.mk (refRoot31 A cA Z W lA cZ (by
    refine Classical.byContradiction fun k => ?_
    obtain rfl : Z = [] := List.length_eq_zero_iff.1 (by omega)
    rw [Nt.val_nil] at vZ
    have := Int.mul_pos p1 (p2pos n)
    omega) (by
    refine (Nt.can_len cZ 5000).1 ?_
    rw [vZ, show (4294967296 : Int) ^ 5000 = 2 ^ 160000 by rw [show (4294967296 : Int) = 2 ^ 32 by decide, ← Int.pow_mul]]
    have := (bx.up n).lt
    have := p2le (show La + n ≤ 160000 by omega)
    omega))
  have HR := fun (zr : List Int) (s : Int) (h0 : Nt.Can zr) (I : RtInv (Nt.val zs * 2 ^ n) (Nt.val zr) s) => Hide.mk ((rtFam (Nt.val zs) ex).uniq _ _ _ _ _ (rt_of2 hi (nneg_of zr h0) I) hR)
  have HX := fun (A : Option Addr) (cA : Nat) (Z : List Int) W (lA : Lie W A Z) (cZ : Nt.Can Z) (vZ : Nt.val Z = r) => Hide.mk (formX false A cA Z (-i) W lA cZ (by
    have := (Nt.can_len cZ 4096).1 (by
      rw [vZ, pw32]
      rcases hC with ⟨h, _⟩ | ⟨_, h⟩
      · rw [h]; exact p2pos _
      · have := h.lt
        have := p2le hC2
        omega)
    omega) (by omega) (by omega))
  have HC := fun (m : Bool) (A : Option Addr) (cA : Nat) (Z : List Int) (x : Int) W (lA : Lie W A Z) (F : Fm (sv false r) (-i) m Z x) => Hide.mk (rCutW false m A cA Z x bits (-i) W hr0 lA F (by omega) (by omega) hb1 hb2 hC hC2 d hd _ rfl)
  have y1 := x1.1
  have y2 := x1.2
  have HN := Hide.mk hn
  have HD : Hide ((ex - (n : Int)).tdiv 2 = -i) := ⟨by rw [hi, show ex - (ex + 2 * i) = 2 * (-i) by omega, Int.mul_tdiv_cancel_left _ (by decide)]⟩
  generalize hX : Nt.val zs = X at *
  clear l hz hC hd x1 hX bx g p1 hR hi hr0 hn
  go_enter Tryd.func52, Tryd.ntmps52
  go_wp2_with fail
  refine (HL _ B1.bel).out.mono ?_
  rintro e w3 ⟨rfl, h3⟩
  have HF := B1.keep h3
  clear h3 HL B1
  obtain ⟨⟨s0, s1, s2⟩, _⟩ := cells3 HF w.heap.size _ _ _ _ (.tail _ (.head _))
  go_wp2_with fail
  rw [HN.out]
  refine (HU _ HF.bel).out.mono ?_
  rintro e w6 ⟨z6, a6, c6, rfl, o6, n6, v6, h6⟩
  obtain ⟨a6', c6', he6, _, _, l6⟩ := o6.lie
  simp only [Value.slice.injEq, true_and] at he6
  obtain ⟨rfl, rfl⟩ := he6
  replace HF := HF.keep h6
  have HQ2 := HQ a6 c6 z6 w6 l6 n6 v6
  clear h6 o6 HQ HU l6 n6 s0 s1 s2
  go_wp2_with fail
  refine HQ2.out.mono ?_
  rintro e w7 ⟨zr, ar, cr, s, rfl, lr, nr, I, h7⟩
  rw [v6] at I
  replace HF := HF.keep h7
  obtain ⟨e1, e2⟩ := (HR zr s nr I).out
  have HX2 := HX ar cr zr w7 lr nr e1
  have HE := Hide.mk e2
  generalize hex : decide (s = 0) = exact at *
  clear h7 HQ2 v6 I HR HX lr nr e2 hex
  obtain ⟨⟨s0, s1, s2⟩, _⟩ := cells3 HF w.heap.size _ _ _ _ (.tail _ (.head _))
  go_wp2_with fail
  try rw [HN.out]
  rw [HD.out]
  refine HX2.out.mono ?_
  rintro e w8 ⟨n8, z8, x8, a8, c8, rfl, F8, l8, h8⟩
  rw [e1] at F8
  have HK := HC n8 a8 c8 z8 x8 w8 l8 F8
  replace HF := HF.keep h8
  clear h8 HX2 l8 F8 HC s0 s1 s2
  go_wp2_with fail
  refine HK.out.mono ?_
  rintro e w9 ⟨n9, z9, x9, a9, c9, rfl, F9, l9, h9⟩
  replace HF := HF.keep h9
  have HR := Hide.mk (And.intro F9 l9)
  clear HK h9 F9 l9
  generalize hL : decide (r % 2 ^ d ≠ 0) = lost at *
  have HFr := HF.sub (L' := [(w.heap.size + 1, DO false none 0 0 0)]) (by simp)
  have hlt9 : w.heap.size + 1 < w9.heap.size := HF.lt (p := (w.heap.size + 1, DO false none 0 0 0)) (by simp)
  obtain ⟨⟨t0, t1, t2⟩, u0, u1, u2⟩ := cells3 HFr (w.heap.size + 1) _ _ _ _ (.head _)
  have L := Hide.mk (Live.set3 (g := w.heap.size + 1) ⟨HFr.head, rfl⟩ (.bool n9) (.slice a9 z9.length c9) (.int .i64 x9) (Live.one HR.out.2))
  cases lost
  · go_wp2
    refine bodyPost_ret (results_D2 rfl _ _ (w.heap.size + 1) _ rfl ⟨((HFr.fill3 (by omega) (by simp) _ _ _).push _).tail.head, rfl⟩) rfl ?_
    exact ⟨n9, z9, x9, a9, c9, by rw [hL, ← HE.out]; rfl, HR.out.1, (L.out.all (a9, z9) (.head _)).below (below_alloc _ _) (Nat.le_refl _), ((HFr.fill3 (by omega) (by simp) _ _ _).push _).bel⟩
  · go_wp2
    refine bodyPost_ret (results_D2 rfl _ _ (w.heap.size + 1) _ rfl ⟨((HFr.fill3 (by omega) (by simp) _ _ _).push _).tail.head, rfl⟩) rfl ?_
    exact ⟨n9, z9, x9, a9, c9, by rw [hL]; rfl, HR.out.1, (L.out.all (a9, z9) (.head _)).below (below_alloc _ _) (Nat.le_refl _), ((HFr.fill3 (by omega) (by simp) _ _ _).push _).bel⟩
end Go.Proofs.YteejaghimppcgaaDoor

namespace Go.Proofs.YteejaghimppcgaaDoor
open Go.RowKit Go.Wd Go.Box
set_option linter.unusedVariables false
set_option maxRecDepth 20000
set_option maxHeartbeats 4000000 in
theorem rRoot_lowe (a : Option Addr) (c : Nat) (zs : List Int) (ex bits : Int) (w : World) (l : Lie w a zs) (g : DG false zs ex) (hb1 : 1 ≤ bits) (hb2 : bits ≤ 8192) (hz : 0 < zs.length) {La : Nat} (bx : Bits (Nt.val zs) La) (n : Nat) (hn : (0 : Int) = (n : Int)) (hpar : ex.tmod 2 = 0) (hneg : 2 * bits + 2 - (La : Int) < 0) (hn3 : (n : Int) ≤ 17000) (i r : Int) (more : Bool) (hi : (n : Int) = ex + 2 * i) (hR : RtAt (Nt.val zs) ex i r more) (hr0 : 0 < r) {C : Nat} (hC : BitLen r C) (hC2 : C ≤ 131072) (d : Nat) (hd : max ((C : Int) - bits) 0 = (d : Int)) :
    Calls Tryd.prog 52 #[dV false a zs.length c ex, .int .i64 bits] w fun e w' => RCut w w' (sv false (r / 2 ^ d)) (-i + d) (decide (r % 2 ^ d ≠ 0) || more) e := by
  have B1 := ((Bx.nil w).push (DO false a zs.length c ex)).push (DO false none 0 0 0)
  rw [show (w.alloc (DO false a zs.length c ex)).heap.size = w.heap.size + 1 by simp] at B1
  have p1 := g.pos hz
  have s1 := g_size g bx
  have x1 := g.ex_bd
  have HL := fun W (h : Below w.heap.size w W) => Hide.mk (refLenK a c zs W (l.below h (Nat.le_refl _)) g.good (B := La) (.inr ⟨p1, bx⟩))
  have HU := fun W (h : Below w.heap.size w W) => Hide.mk (refUp_any a c zs W n (by omega) (l.below h (Nat.le_refl _)) g.can.1 (by have := g.len; omega))
  have HQ := fun (A : Option Addr) (cA : Nat) (Z : List Int) W (lA : Lie W A Z) (cZ : Nt.Can Z) (vZ : Nt.val Z = Nt.val zs * 2 ^ n) => Hide.mk (refRoot31 A cA Z W lA cZ (by
    refine Classical.byContradiction fun k => ?_
    obtain rfl : Z = [] := List.length_eq_zero_iff.1 (by omega)
    rw [Nt.val_nil] at vZ
    have := Int.mul_pos p1 (p2pos n)
    omega) (by
    refine (Nt.can_len cZ 5000).1 ?_
    rw [vZ, show (4294967296 : Int) ^ 5000 = 2 ^ 160000 by rw [show (4294967296 : Int) = 2 ^ 32 by decide, ← Int.pow_mul]]
    have := (bx.up n).lt
    have := p2le (show La + n ≤ 160000 by omega)
    omega))
  have HR := fun (zr : List Int) (s : Int) (h0 : Nt.Can zr) (I : RtInv (Nt.val zs * 2 ^ n) (Nt.val zr) s) => Hide.mk ((rtFam (Nt.val zs) ex).uniq _ _ _ _ _ (rt_of2 hi (nneg_of zr h0) I) hR)
  have HX := fun (A : Option Addr) (cA : Nat) (Z : List Int) W (lA : Lie W A Z) (cZ : Nt.Can Z) (vZ : Nt.val Z = r) => Hide.mk (formX false A cA Z (-i) W lA cZ (by
    have := (Nt.can_len cZ 4096).1 (by
      rw [vZ, pw32]
      rcases hC with ⟨h, _⟩ | ⟨_, h⟩
      · rw [h]; exact p2pos _
      · have := h.lt
        have := p2le hC2
        omega)
    omega) (by omega) (by omega))
  have HC := fun (m : Bool) (A : Option Addr) (cA : Nat) (Z : List Int) (x : Int) W (lA : Lie W A Z) (F : Fm (sv false r) (-i) m Z x) => Hide.mk (rCutW false m A cA Z x bits (-i) W hr0 lA F (by omega) (by omega) hb1 hb2 hC hC2 d hd _ rfl)
  have y1 := x1.1
  have y2 := x1.2
  have HN := Hide.mk hn
  have hn1 : (n : Int) = 0 := by omega
  rw [hn1] at HU
  have HD0 : ((ex - (n : Int)).tdiv 2 = -i) := by rw [hi, show ex - (ex + 2 * i) = 2 * (-i) by omega, Int.mul_tdiv_cancel_left _ (by decide)]
  rw [hn1, Int.sub_zero] at HD0
  have HD := Hide.mk HD0
  clear HD0
  generalize hX : Nt.val zs = X at *
  clear l hz hC hd x1 hX bx g p1 hR hi hr0 hn
  go_enter Tryd.func52, Tryd.ntmps52
  go_wp2_with fail
  refine (HL _ B1.bel).out.mono ?_
  rintro e w3 ⟨rfl, h3⟩
  have HF := B1.keep h3
  clear h3 HL B1
  obtain ⟨⟨s0, s1, s2⟩, _⟩ := cells3 HF w.heap.size _ _ _ _ (.tail _ (.head _))
  go_wp2_with fail
  refine (HU _ HF.bel).out.mono ?_
  rintro e w6 ⟨z6, a6, c6, rfl, o6, n6, v6, h6⟩
  obtain ⟨a6', c6', he6, _, _, l6⟩ := o6.lie
  simp only [Value.slice.injEq, true_and] at he6
  obtain ⟨rfl, rfl⟩ := he6
  replace HF := HF.keep h6
  have HQ2 := HQ a6 c6 z6 w6 l6 n6 v6
  clear h6 o6 HQ HU l6 n6 s0 s1 s2
  go_wp2_with fail
  refine HQ2.out.mono ?_
  rintro e w7 ⟨zr, ar, cr, s, rfl, lr, nr, I, h7⟩
  rw [v6] at I
  replace HF := HF.keep h7
  obtain ⟨e1, e2⟩ := (HR zr s nr I).out
  have HX2 := HX ar cr zr w7 lr nr e1
  have HE := Hide.mk e2
  generalize hex : decide (s = 0) = exact at *
  clear h7 HQ2 v6 I HR HX lr nr e2 hex
  obtain ⟨⟨s0, s1, s2⟩, _⟩ := cells3 HF w.heap.size _ _ _ _ (.tail _ (.head _))
  go_wp2_with fail
  rw [HD.out]
  refine HX2.out.mono ?_
  rintro e w8 ⟨n8, z8, x8, a8, c8, rfl, F8, l8, h8⟩
  rw [e1] at F8
  have HK := HC n8 a8 c8 z8 x8 w8 l8 F8
  replace HF := HF.keep h8
  clear h8 HX2 l8 F8 HC s0 s1 s2
  go_wp2_with fail
  refine HK.out.mono ?_
  rintro e w9 ⟨n9, z9, x9, a9, c9, rfl, F9, l9, h9⟩
  replace HF := HF.keep h9
  have HR := Hide.mk (And.intro F9 l9)
  clear HK h9 F9 l9
  generalize hL : decide (r % 2 ^ d ≠ 0) = lost at *
  have HFr := HF.sub (L' := [(w.heap.size + 1, DO false none 0 0 0)]) (by simp)
  have hlt9 : w.heap.size + 1 < w9.heap.size := HF.lt (p := (w.heap.size + 1, DO false none 0 0 0)) (by simp)
  obtain ⟨⟨t0, t1, t2⟩, u0, u1, u2⟩ := cells3 HFr (w.heap.size + 1) _ _ _ _ (.head _)
  have L := Hide.mk (Live.set3 (g := w.heap.size + 1) ⟨HFr.head, rfl⟩ (.bool n9) (.slice a9 z9.length c9) (.int .i64 x9) (Live.one HR.out.2))
  cases lost
  · go_wp2
    refine bodyPost_ret (results_D2 rfl _ _ (w.heap.size + 1) _ rfl ⟨((HFr.fill3 (by omega) (by simp) _ _ _).push _).tail.head, rfl⟩) rfl ?_
    exact ⟨n9, z9, x9, a9, c9, by rw [hL, ← HE.out]; rfl, HR.out.1, (L.out.all (a9, z9) (.head _)).below (below_alloc _ _) (Nat.le_refl _), ((HFr.fill3 (by omega) (by simp) _ _ _).push _).bel⟩
  · go_wp2
    refine bodyPost_ret (results_D2 rfl _ _ (w.heap.size + 1) _ rfl ⟨((HFr.fill3 (by omega) (by simp) _ _ _).push _).tail.head, rfl⟩) rfl ?_
    exact ⟨n9, z9, x9, a9, c9, by rw [hL]; rfl, HR.out.1, (L.out.all (a9, z9) (.head _)).below (below_alloc _ _) (Nat.le_refl _), ((HFr.fill3 (by omega) (by simp) _ _ _).push _).bel⟩
end Go.Proofs.YteejaghimppcgaaDoor
