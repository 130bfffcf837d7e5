import Derived.Test.YteejaghimppcgaaDoorDyadQuotientsPart13
import Derived.Test.YteejaghimppcgaaDoorDyadQuotientsPart12
namespace Go.Proofs.YteejaghimppcgaaDoor
open Go.RowKit Go.Wd Go.Box
set_option linter.unusedVariables false
set_option maxRecDepth 20000
set_option maxHeartbeats 4000000 in
theorem rRoot_lowo (a : Option Addr) (c : Nat) (zs : List Int) (ex bits : Int) (w : World) (l : Lie w a zs) (g : DG false zs ex) (hb1 : 1 ≤ bits) (hb2 : bits ≤ 8192) (hz : 0 < zs.length) {La : Nat} (bx : Bits (Nt.val zs) La) (n : Nat) (hn : (0 : Int) + 1 = (n : Int)) (hpar : ¬ ex.tmod 2 = 0) (hneg : 2 * bits + 2 - (La : Int) < 0) (hn3 : (n : Int) ≤ 17000) (i r : Int) (more : Bool) (hi : (n : Int) = ex + 2 * i) (hR : RtAt (Nt.val zs) ex i r more) (hr0 : 0 < r) {C : Nat} (hC : BitLen r C) (hC2 : C ≤ 131072) (d : Nat) (hd : max ((C : Int) - bits) 0 = (d : Int)) :
    Calls Tryd.prog 52 #[dV false a zs.length c ex, .int .i64 bits] w fun e w' => RCut w w' (sv false (r / 2 ^ d)) (-i + d) (decide (r % 2 ^ d ≠ 0) || more) e := by
  have B1 := ((Bx.nil w).push (DO false a zs.length c ex)).push (DO false none 0 0 0)
  rw [show (w.alloc (DO false a zs.length c ex)).heap.size = w.heap.size + 1 by simp] at B1
  have p1 := g.pos hz
  have s1 := g_size g bx
  have x1 := g.ex_bd
  have HL := fun W (h : Below w.heap.size w W) => Hide.mk (refLenK a c zs W (l.below h (Nat.le_refl _)) g.good (B := La) (.inr ⟨p1, bx⟩))
  have HU := fun W (h : Below w.heap.size w W) => Hide.mk (refUp_any a c zs W n (by omega) (l.below h (Nat.le_refl _)) g.can.1 (by have := g.len; omega))
  have HQ := fun (A : Option Addr) (cA : Nat) (Z : List Int) W (lA : Lie W A Z) (cZ : Nt.Can Z) (vZ : Nt.val Z = Nt.val zs * 2 ^ n) => Hide.mk (refRoot31 A cA Z W lA cZ (by
    refine Classical.byContradiction fun k => ?_
    obtain rfl : Z = [] := List.length_eq_zero_iff.1 (by omega)
    rw [Nt.val_nil] at vZ
    have := Int.mul_pos p1 (p2pos n)
    omega) (by
    refine (Nt.can_len cZ 5000).1 ?_
    rw [vZ, show (4294967296 : Int) ^ 5000 = 2 ^ 160000 by rw [show (4294967296 : Int) = 2 ^ 32 by decide, ← Int.pow_mul]]
    have := (bx.up n).lt
    have := p2le (show La + n ≤ 160000 by omega)
    omega))
  have HR := fun (zr : List Int) (s : Int) (h0 : Nt.Can zr) (I : RtInv (Nt.val zs * 2 ^ n) (Nt.val zr) s) => Hide.mk ((rtFam (Nt.val zs) ex).uniq _ _ _ _ _ (rt_of2 hi (nneg_of zr h0) I) hR)
  have HX := fun (A : Option Addr) (cA : Nat) (Z : List Int) W (lA : Lie W A Z) (cZ : Nt.Can Z) (vZ : Nt.val Z = r) => Hide.mk (formX false A cA Z (-i) W lA cZ (by
    have := (Nt.can_len cZ 4096).1 (by
      rw [vZ, pw32]
      rcases hC with ⟨h, _⟩ | ⟨_, h⟩
      · rw [h]; exact p2pos _
      · have := h.lt
        have := p2le hC2
        omega)
    omega) (by omega) (by omega))
  have HC := fun (m : Bool) (A : Option Addr) (cA : Nat) (Z : List Int) (x : Int) W (lA : Lie W A Z) (F : Fm (sv false r) (-i) m Z x) => Hide.mk (rCutW false m A cA Z x bits (-i) W hr0 lA F (by omega) (by omega) hb1 hb2 hC hC2 d hd _ rfl)
  have y1 := x1.1
  have y2 := x1.2
  have HN := Hide.mk hn
  have hn1 : (n : Int) = 1 := by omega
  rw [hn1] at HU
  have HD0 : ((ex - (n : Int)).tdiv 2 = -i) := by rw [hi, show ex - (ex + 2 * i) = 2 * (-i) by omega, Int.mul_tdiv_cancel_left _ (by decide)]
  rw [hn1] at HD0
  have HD := Hide.mk HD0
  clear HD0
  generalize hX : Nt.val zs = X at *
  clear l hz hC hd x1 hX bx g p1 hR hi hr0 hn
  go_enter Tryd.func52, Tryd.ntmps52
  go_wp2_with fail
  refine (HL _ B1.bel).out.mono ?_
  rintro e w3 ⟨rfl, h3⟩
  have HF := B1.keep h3
  clear h3 HL B1
  obtain ⟨⟨s0, s1, s2⟩, _⟩ := cells3 HF w.heap.size _ _ _ _ (.tail _ (.head _))
  go_wp2_with fail
  refine (HU _ HF.bel).out.mono ?_
  rintro e w6 ⟨z6, a6, c6, rfl, o6, n6, v6, h6⟩
  obtain ⟨a6', c6', he6, _, _, l6⟩ := o6.lie
  simp only [Value.slice.injEq, true_and] at he6
  obtain ⟨rfl, rfl⟩ := he6
  replace HF := HF.keep h6
  have HQ2 := HQ a6 c6 z6 w6 l6 n6 v6
  clear h6 o6 HQ HU l6 n6 s0 s1 s2
  go_wp2_with fail
  refine HQ2.out.mono ?_
  rintro e w7 ⟨zr, ar, cr, s, rfl, lr, nr, I, h7⟩
  rw [v6] at I
  replace HF := HF.keep h7
  obtain ⟨e1, e2⟩ := (HR zr s nr I).out
  have HX2 := HX ar cr zr w7 lr nr e1
  have HE := Hide.mk e2
  generalize hex : decide (s = 0) = exact at *
  clear h7 HQ2 v6 I HR HX lr nr e2 hex
  obtain ⟨⟨s0, s1, s2⟩, _⟩ := cells3 HF w.heap.size _ _ _ _ (.tail _ (.head _))
  go_wp2_with fail
  rw [HD.out]
  refine HX2.out.mono ?_
  rintro e w8 ⟨n8, z8, x8, a8, c8, rfl, F8, l8, h8⟩
  rw [e1] at F8
  have HK := HC n8 a8 c8 z8 x8 w8 l8 F8
  replace HF := HF.keep h8
  clear h8 HX2 l8 F8 HC s0 s1 s2
  go_wp2_with fail
  refine HK.out.mono ?_
  rintro e w9 ⟨n9, z9, x9, a9, c9, rfl, F9, l9, h9⟩
  replace HF := HF.keep h9
  have HR := Hide.mk (And.intro F9 l9)
  clear HK h9 F9 l9
  generalize hL : decide (r % 2 ^ d ≠ 0) = lost at *
  have HFr := HF.sub (L' := [(w.heap.size + 1, DO false none 0 0 0)]) (by simp)
  have hlt9 : w.heap.size + 1 < w9.heap.size := HF.lt (p := (w.heap.size + 1, DO false none 0 0 0)) (by simp)
  obtain ⟨⟨t0, t1, t2⟩, u0, u1, u2⟩ := cells3 HFr (w.heap.size + 1) _ _ _ _ (.head _)
  have L := Hide.mk (Live.set3 (g := w.heap.size + 1) ⟨HFr.head, rfl⟩ (.bool n9) (.slice a9 z9.length c9) (.int .i64 x9) (Live.one HR.out.2))
  cases lost
  · go_wp2
    refine bodyPost_ret (results_D2 rfl _ _ (w.heap.size + 1) _ rfl ⟨((HFr.fill3 (by omega) (by simp) _ _ _).push _).tail.head, rfl⟩) rfl ?_
    exact ⟨n9, z9, x9, a9, c9, by rw [hL, ← HE.out]; rfl, HR.out.1, (L.out.all (a9, z9) (.head _)).below (below_alloc _ _) (Nat.le_refl _), ((HFr.fill3 (by omega) (by simp) _ _ _).push _).bel⟩
  · go_wp2
    refine bodyPost_ret (results_D2 rfl _ _ (w.heap.size + 1) _ rfl ⟨((HFr.fill3 (by omega) (by simp) _ _ _).push _).tail.head, rfl⟩) rfl ?_
    exact ⟨n9, z9, x9, a9, c9, by rw [hL]; rfl, HR.out.1, (L.out.all (a9, z9) (.head _)).below (below_alloc _ _) (Nat.le_refl _), ((HFr.fill3 (by omega) (by simp) _ _ _).push _).bel⟩
end Go.Proofs.YteejaghimppcgaaDoor

namespace Go.Proofs.YteejaghimppcgaaDoor
open Go.RowKit Go.Wd Go.Box
set_option linter.unusedVariables false
set_option maxRecDepth 20000
set_option maxHeartbeats 4000000 in
theorem rQuo_up (n1 n2 : Bool) (a1 a2 : Option Addr) (c1 c2 : Nat) (z1 z2 : List Int) (e1 e2 bits : Int) (w : World) (l1 : Lie w a1 z1) (l2 : Lie w a2 z2) (g1 : DG n1 z1 e1) (g2 : DG n2 z2 e2) (hb1 : 1 ≤ bits) (hb2 : bits ≤ 8192) (hz1 : 0 < z1.length) (hz2 : 0 < z2.length) {La Lb : Nat} (bx : Bits (Nt.val z1) La) (bY : Bits (Nt.val z2) Lb) (s1 : La ≤ 131072) (s2 : Lb ≤ 131072) (n : Nat) (hn : bits + 1 + Lb - La = (n : Int)) (hn0 : 0 ≤ bits + 1 + (Lb : Int) - La) {C : Nat} (hC : BitLen (qf (Nt.val z1) (Nt.val z2) n) C) (hC3 : C ≤ 131072) (hq0 : 0 < qf (Nt.val z1) (Nt.val z2) n) (hn3 : La + n ≤ 140000) (d : Nat) (hd : max ((C : Int) - bits) 0 = (d : Int)) :
    Calls Tryd.prog 53 #[dV n1 a1 z1.length c1 e1, dV n2 a2 z2.length c2 e2, .int .i64 bits] w fun e w' => RCut w w' (sv (n1 != n2) (qf (Nt.val z1) (Nt.val z2) n / 2 ^ d)) (e1 - e2 - n + d) (decide (qf (Nt.val z1) (Nt.val z2) n % 2 ^ d ≠ 0) || qg (Nt.val z1) (Nt.val z2) n) e := by
  have B1 := ((((Bx.nil w).push (DO n1 a1 z1.length c1 e1)).push (DO n2 a2 z2.length c2 e2)).push (DO false none 0 0 0))
  rw [show ((w.alloc (DO n1 a1 z1.length c1 e1)).alloc (DO n2 a2 z2.length c2 e2)).heap.size = w.heap.size + 1 + 1 by simp, show (w.alloc (DO n1 a1 z1.length c1 e1)).heap.size = w.heap.size + 1 by simp] at B1
  have p1 := g1.pos hz1
  have p2 := g2.pos hz2
  have x1 := g1.ex_bd
  have x2 := g2.ex_bd
  have hz0 : ¬ z1.length = 0 := by omega
  have HLb := fun W (h : Below w.heap.size w W) => refLenK a2 c2 z2 W (l2.below h (Nat.le_refl _)) g2.good (B := Lb) (.inr ⟨p2, bY⟩)
  have HLa := fun W (h : Below w.heap.size w W) => refLenK a1 c1 z1 W (l1.below h (Nat.le_refl _)) g1.good (B := La) (.inr ⟨p1, bx⟩)
  have HU := fun W (h : Below w.heap.size w W) => refUp_any a1 c1 z1 W n (by omega) (l1.below h (Nat.le_refl _)) g1.can.1 (by have := g1.len; omega)
  have HQ := fun (A : Option Addr) (cA : Nat) (Z : List Int) W (h : Below w.heap.size w W) (lA : Lie W A Z) (cZ : Nt.Can Z) (vZ : Nt.val Z = Nt.val z1 * 2 ^ n) => refQuo_any A a2 cA c2 Z z2 W lA (l2.below h (Nat.le_refl _)) cZ g2.can hz2 (by
    refine (Nt.can_len cZ 5000).1 ?_
    rw [vZ, show (4294967296 : Int) ^ 5000 = 2 ^ 160000 by rw [show (4294967296 : Int) = 2 ^ 32 by decide, ← Int.pow_mul]]
    have := (bx.up n).lt
    have := p2le (show La + n ≤ 160000 by omega)
    omega) (by have := g2.len; omega)
  have HC := fun (m : Bool) (A : Option Addr) (cA : Nat) (Z : List Int) (x : Int) W (lA : Lie W A Z) (F : Fm (sv (n1 != n2) (qf (Nt.val z1) (Nt.val z2) n)) (e1 - e2 - n) m Z x) => Hide.mk (rCutW (n1 != n2) m A cA Z x bits (e1 - e2 - n) W hq0 lA F (by omega) (by omega) hb1 hb2 hC hC3 d hd _ rfl)
  have y1 := x1.1
  have y2 := x1.2
  have y3 := x2.1
  have y4 := x2.2
  have HN := Hide.mk hn
  have HWr : Hide (IntKind.i64.wrap (IntKind.i64.wrap (IntKind.i64.wrap (bits + 1) + ↑Lb) - ↑La) = bits + 1 + Lb - La) := ⟨by rw [wrap_ok (x := bits + 1) (by omega) (by omega), wrap_ok (x := bits + 1 + Lb) (by omega) (by omega), wrap_ok (by omega) (by omega)]⟩
  have hqe : qf (Nt.val z1) (Nt.val z2) n = Nt.val z1 * 2 ^ n / Nt.val z2 := by unfold qf; rw [show (-(n : Int)).toNat = 0 by omega, Int.pow_zero, Int.mul_one, Int.toNat_natCast]
  have hge : qg (Nt.val z1) (Nt.val z2) n = decide (Nt.val z1 * 2 ^ n % Nt.val z2 ≠ 0) := by unfold qg; rw [show (-(n : Int)).toNat = 0 by omega, Int.pow_zero, Int.mul_one, Int.toNat_natCast]
  have HE := Hide.mk (And.intro hqe hge)
  have hlim : Nt.val z1 * 2 ^ n / Nt.val z2 < 4294967296 ^ 4096 := by
    rw [← hqe, pw32]
    rcases hC with ⟨h, _⟩ | ⟨_, h⟩
    · rw [h]; exact p2pos _
    · have := h.lt
      have := p2le hC3
      omega
  have HLim := Hide.mk hlim
  generalize hQ : qf (Nt.val z1) (Nt.val z2) n = Q at *
  generalize hG : qg (Nt.val z1) (Nt.val z2) n = G at *
  generalize hV : Nt.val z1 * 2 ^ n = V at *
  clear l1 l2 hz1 hz2 hC hd x1 x2 hQ hG hqe hge hlim hV hq0 hn bx bY g1 g2 p1
  go_enter Tryd.func53, Tryd.ntmps53
  go_wp2_with fail
  have HF := B1.drew
  have HI := HF
  have sh := fun W (hW : Bx w [(w.heap.size + 1 + 1, DO false none 0 0 0), (w.heap.size + 1, DO n2 a2 z2.length c2 e2), (w.heap.size, DO n1 a1 z1.length c1 e1)] W) => And.intro (cells3 hW (w.heap.size + 1) _ _ _ _ (.tail _ (.head _))).1 (cells3 hW w.heap.size _ _ _ _ (.tail _ (.tail _ (.head _)))).1
  clear B1
  refine Drawn.enter (Bx w [(w.heap.size + 1 + 1, DO false none 0 0 0), (w.heap.size + 1, DO n2 a2 z2.length c2 e2), (w.heap.size, DO n1 a1 z1.length c1 e1)]) (by kernel_rfl) ?_
  refine Drawn.take (i := 0) (v := ?v0) rfl (by kernel_rfl) (by kernel_rfl) (by kernel_rfl) (fun _ _ _ h => h) (by kernel_rfl) (fun W hW => ?_) HI ?_
  rotate_left
  · have ⟨⟨s0, s1, s2⟩, q0, q3, q4⟩ := sh W hW
    go_simp <;> exact rfl
  refine Drawn.take (i := 1) (v := ?v1) rfl (by kernel_rfl) (by kernel_rfl) (by kernel_rfl) (fun _ _ _ h => h) (by kernel_rfl) (fun W hW => ?_) HI ?_
  rotate_left
  · have ⟨⟨s0, s1, s2⟩, q0, q3, q4⟩ := sh W hW
    go_simp <;> exact rfl
  refine Drawn.take (i := 2) (v := ?v2) rfl (by kernel_rfl) (by kernel_rfl) (by kernel_rfl) (fun _ _ _ h => h) (by kernel_rfl) (fun W hW => ?_) HI ?_
  rotate_left
  · have ⟨⟨s0, s1, s2⟩, q0, q3, q4⟩ := sh W hW
    go_simp <;> exact rfl
  refine Drawn.take (i := 3) (v := ?v3) rfl (by kernel_rfl) (by kernel_rfl) (by kernel_rfl) (fun _ _ _ h => h) (by kernel_rfl) (fun W hW => ?_) HI ?_
  rotate_left
  · have ⟨⟨s0, s1, s2⟩, q0, q3, q4⟩ := sh W hW
    go_simp <;> exact rfl
  refine Drawn.take (i := 6) (v := ?v4) rfl (by kernel_rfl) (by kernel_rfl) (by kernel_rfl) (fun _ _ _ h => h) (by kernel_rfl) (fun W hW => ?_) HI ?_
  rotate_left
  · have ⟨⟨s0, s1, s2⟩, q0, q3, q4⟩ := sh W hW
    go_simp <;> exact rfl
  refine Drawn.take (i := 7) (v := ?v5) rfl (by kernel_rfl) (by kernel_rfl) (by kernel_rfl) (fun _ _ _ h => h) (by kernel_rfl) (fun W hW => ?_) HI ?_
  rotate_left
  · have ⟨⟨s0, s1, s2⟩, q0, q3, q4⟩ := sh W hW
    go_simp <;> exact rfl
  refine Drawn.one (j := 4) (by kernel_rfl) rfl (fun K hK => ?_)
  go_simp
  refine (HLb _ HI.bel).mono ?_
  rintro e wn ⟨rfl, hn⟩
  refine hK _ _ (HI.keep hn) ?_
  clear hK K
  replace HI := HI.keep hn
  replace HF := HF.keep hn
  clear hn
  refine Drawn.take (i := 5) (v := ?v6) rfl (by kernel_rfl) (by kernel_rfl) (by kernel_rfl) (fun _ _ _ h => h) (by kernel_rfl) (fun W hW => ?_) HI ?_
  rotate_left
  · have ⟨⟨s0, s1, s2⟩, q0, q3, q4⟩ := sh W hW
    go_simp <;> exact rfl
  refine Drawn.one (j := 8) (by kernel_rfl) rfl (fun K hK => ?_)
  go_simp
  refine (HLa _ HI.bel).mono ?_
  rintro e wn ⟨rfl, hn⟩
  refine hK _ _ (HI.keep hn) ?_
  clear hK K
  replace HI := HI.keep hn
  replace HF := HF.keep hn
  clear hn
  refine Drawn.take (i := 9) (v := ?v7) rfl (by kernel_rfl) (by kernel_rfl) (by kernel_rfl) (fun _ _ _ h => h) (by kernel_rfl) (fun W hW => ?_) HI ?_
  rotate_left
  · have ⟨⟨s0, s1, s2⟩, q0, q3, q4⟩ := sh W hW
    go_simp <;> exact rfl
  refine Drawn.take (i := 10) (v := ?v8) rfl (by kernel_rfl) (by kernel_rfl) (by kernel_rfl) (fun _ _ _ h => h) (by kernel_rfl) (fun W hW => ?_) HI ?_
  rotate_left
  · have ⟨⟨s0, s1, s2⟩, q0, q3, q4⟩ := sh W hW
    go_simp <;> exact rfl
  refine Drawn.done (by kernel_rfl) ?_
  try go_simp
  rw [HWr.out, HN.out]
  obtain ⟨⟨s0, s1, s2⟩, _⟩ := cells3 HF (w.heap.size + 1) _ _ _ _ (.tail _ (.head _))
  obtain ⟨⟨q0, q1, q2⟩, _⟩ := cells3 HF (w.heap.size) _ _ _ _ (.tail _ (.tail _ (.head _)))
  go_wp2_with fail
  replace HF := HF.drew
  replace HI := HF
  clear s0 s1 s2 q0 q1 q2
  refine Drawn.enter (Bx w [(w.heap.size + 1 + 1, DO false none 0 0 0), (w.heap.size + 1, DO n2 a2 z2.length c2 e2), (w.heap.size, DO n1 a1 z1.length c1 e1)]) (by kernel_rfl) ?_
  refine Drawn.take (i := 0) (v := ?v9) rfl (by kernel_rfl) (by kernel_rfl) (by kernel_rfl) (fun _ _ _ h => h) (by kernel_rfl) (fun W hW => ?_) HI ?_
  rotate_left
  · have ⟨⟨s0, s1, s2⟩, q0, q3, q4⟩ := sh W hW
    go_simp <;> exact rfl
  refine Drawn.take (i := 1) (v := ?v10) rfl (by kernel_rfl) (by kernel_rfl) (by kernel_rfl) (fun _ _ _ h => h) (by kernel_rfl) (fun W hW => ?_) HI ?_
  rotate_left
  · have ⟨⟨s0, s1, s2⟩, q0, q3, q4⟩ := sh W hW
    go_simp <;> exact rfl
  refine Drawn.take (i := 2) (v := ?v11) rfl (by kernel_rfl) (by kernel_rfl) (by kernel_rfl) (fun _ _ _ h => h) (by kernel_rfl) (fun W hW => ?_) HI ?_
  rotate_left
  · have ⟨⟨s0, s1, s2⟩, q0, q3, q4⟩ := sh W hW
    go_simp <;> exact rfl
  refine Drawn.take (i := 4) (v := ?v12) rfl (by kernel_rfl) (by kernel_rfl) (by kernel_rfl) (fun _ _ _ h => h) (by kernel_rfl) (fun W hW => ?_) HI ?_
  rotate_left
  · have ⟨⟨s0, s1, s2⟩, q0, q3, q4⟩ := sh W hW
    go_simp <;> exact rfl
  refine Drawn.take (i := 5) (v := ?v13) rfl (by kernel_rfl) (by kernel_rfl) (by kernel_rfl) (fun _ _ _ h => h) (by kernel_rfl) (fun W hW => ?_) HI ?_
  rotate_left
  · have ⟨⟨s0, s1, s2⟩, q0, q3, q4⟩ := sh W hW
    go_simp <;> exact rfl
  refine Drawn.one (j := 3) (by kernel_rfl) rfl (fun K hK => ?_)
  go_simp
  refine (HU _ HI.bel).mono ?_
  rintro e w6 ⟨z6, a6, c6, rfl, o6, n6, v6, h6⟩
  obtain ⟨a6', c6', he6, _, _, l6⟩ := o6.lie
  simp only [Value.slice.injEq, true_and] at he6
  obtain ⟨rfl, rfl⟩ := he6
  refine hK _ _ (HI.keep h6) ?_
  clear hK K
  replace HI := HI.keep h6
  replace HF := HF.keep h6
  clear h6 o6
  refine Drawn.one (j := 6) (by kernel_rfl) rfl (fun K hK => ?_)
  go_simp
  refine (HQ _ _ _ _ HI.bel l6 n6 v6).mono ?_
  rintro e w7 ⟨zq, zr, aq, cq, ar, cr, rfl, oq, or, nq, nr, vq, rl, h7⟩
  unfold two
  refine hK _ _ (HI.keep h7) ?_
  clear hK K
  replace HI := HI.keep h7
  replace HF := HF.keep h7
  obtain ⟨aq', cq', heq, _, _, lq⟩ := oq.lie
  simp only [Value.slice.injEq, true_and] at heq
  obtain ⟨rfl, rfl⟩ := heq
  rw [v6] at vq
  have nn := (Nt.val_bd nr.1).1
  have eq1 : V / Nt.val z2 = Nt.val zq := by
    rw [vq, Int.add_comm, Int.add_mul_ediv_right _ _ (by omega), Int.ediv_eq_zero_of_lt nn rl]; omega
  have eq2 : V % Nt.val z2 = Nt.val zr := by
    rw [vq, Int.add_comm, Int.add_mul_emod_self_right, Int.emod_eq_of_lt nn rl]
  have hlq : zq.length ≤ 10000 := by
    have := (Nt.can_len nq 4096).1 (by rw [← eq1]; exact HLim.out)
    omega
  have eQ : Nt.val zq = Q := by rw [HE.out.1, eq1]
  have eG : G = decide (0 < zr.length) := by
    rw [HE.out.2, eq2]
    by_cases hz : 0 < zr.length
    · have h2 := can_ge nr hz
      have h3 := Nt.pw_pos (zr.length - 1)
      rw [decide_eq_true hz, decide_eq_true (by omega : Nt.val zr ≠ 0)]
    · obtain rfl : zr = [] := List.length_eq_zero_iff.1 (by omega)
      rw [Nt.val_nil]; simp
  have HG := Hide.mk (And.intro eQ eG)
  have Hq := Hide.mk (And.intro lq nq)
  clear h7 oq or vq rl nn eq1 eq2 eQ eG lq nq nr HQ HU l6 n6 v6 HE HLim
  refine Drawn.take (i := 7) (v := ?v14) rfl (by kernel_rfl) (by kernel_rfl) (by kernel_rfl) (fun _ _ _ h => h) (by kernel_rfl) (fun W hW => ?_) HI ?_
  rotate_left
  · have ⟨⟨s0, s1, s2⟩, q0, q3, q4⟩ := sh W hW
    go_simp <;> exact rfl
  refine Drawn.take (i := 8) (v := ?v15) rfl (by kernel_rfl) (by kernel_rfl) (by kernel_rfl) (fun _ _ _ h => h) (by kernel_rfl) (fun W hW => ?_) HI ?_
  rotate_left
  · have ⟨⟨s0, s1, s2⟩, q0, q3, q4⟩ := sh W hW
    go_simp <;> exact rfl
  refine Drawn.take (i := 9) (v := ?v16) rfl (by kernel_rfl) (by kernel_rfl) (by kernel_rfl) (fun _ _ _ h => h) (by kernel_rfl) (fun W hW => ?_) HI ?_
  rotate_left
  · have ⟨⟨s0, s1, s2⟩, q0, q3, q4⟩ := sh W hW
    go_simp <;> exact rfl
  refine Drawn.take (i := 10) (v := ?v17) rfl (by kernel_rfl) (by kernel_rfl) (by kernel_rfl) (fun _ _ _ h => h) (by kernel_rfl) (fun W hW => ?_) HI ?_
  rotate_left
  · have ⟨⟨s0, s1, s2⟩, q0, q3, q4⟩ := sh W hW
    go_simp <;> exact rfl
  refine Drawn.take (i := 11) (v := ?v18) rfl (by kernel_rfl) (by kernel_rfl) (by kernel_rfl) (fun _ _ _ h => h) (by kernel_rfl) (fun W hW => ?_) HI ?_
  rotate_left
  · have ⟨⟨s0, s1, s2⟩, q0, q3, q4⟩ := sh W hW
    go_simp <;> exact rfl
  refine Drawn.done (by kernel_rfl) ?_
  try go_simp
  obtain ⟨⟨s0, s1, s2⟩, _⟩ := cells3 HF (w.heap.size + 1) _ _ _ _ (.tail _ (.head _))
  obtain ⟨⟨q0, q1, q2⟩, _⟩ := cells3 HF (w.heap.size) _ _ _ _ (.tail _ (.tail _ (.head _)))
  go_wp2_with fail
  have HX := Hide.mk (formX (n1 != n2) aq cq zq (e1 - e2 - n) _ Hq.out.1 Hq.out.2 hlq (by omega) (by omega))
  rw [show (!n1 == n2) = (n1 != n2) from rfl]
  refine HX.out.mono ?_
  rintro e w8 ⟨n8, z8, x8, a8, c8, rfl, F8, l8, h8⟩
  rw [HG.out.1] at F8
  replace F8 : Fm (sv (n1 != n2) Q) (e1 - e2 - (n : Int)) n8 z8 x8 := by exact F8
  have HK := HC n8 a8 c8 z8 x8 w8 l8 F8
  replace HF := HF.keep h8
  clear h8 HX l8 F8 HC s0 s1 s2 q0 q1 q2 Hq HI sh
  go_wp2_with fail
  refine HK.out.mono ?_
  rintro e w9 ⟨n9, z9, x9, a9, c9, rfl, F9, l9, h9⟩
  replace HF := HF.keep h9
  have HR := Hide.mk (And.intro F9 l9)
  clear HK h9 F9 l9
  generalize hL : decide (Q % 2 ^ d ≠ 0) = lost at *
  have HFr := HF.sub (L' := [(w.heap.size + 1 + 1, DO false none 0 0 0)]) (by simp)
  have hlt9 : w.heap.size + 1 + 1 < w9.heap.size := HF.lt (p := (w.heap.size + 1 + 1, DO false none 0 0 0)) (by simp)
  obtain ⟨⟨t0, t1, t2⟩, u0, u1, u2⟩ := cells3 HFr (w.heap.size + 1 + 1) _ _ _ _ (.head _)
  have L := Hide.mk (Live.set3 (g := w.heap.size + 1 + 1) ⟨HFr.head, rfl⟩ (.bool n9) (.slice a9 z9.length c9) (.int .i64 x9) (Live.one HR.out.2))
  cases lost
  · go_wp2
    refine bodyPost_ret (results_D2 rfl _ _ (w.heap.size + 1 + 1) _ rfl ⟨((HFr.fill3 (by omega) (by simp) _ _ _).push _).tail.head, rfl⟩) rfl ?_
    exact ⟨n9, z9, x9, a9, c9, by rw [hL, HG.out.2]; rfl, HR.out.1, (L.out.all (a9, z9) (.head _)).below (below_alloc _ _) (Nat.le_refl _), ((HFr.fill3 (by omega) (by simp) _ _ _).push _).bel⟩
  · go_wp2
    refine bodyPost_ret (results_D2 rfl _ _ (w.heap.size + 1 + 1) _ rfl ⟨((HFr.fill3 (by omega) (by simp) _ _ _).push _).tail.head, rfl⟩) rfl ?_
    exact ⟨n9, z9, x9, a9, c9, by rw [hL]; rfl, HR.out.1, (L.out.all (a9, z9) (.head _)).below (below_alloc _ _) (Nat.le_refl _), ((HFr.fill3 (by omega) (by simp) _ _ _).push _).bel⟩
end Go.Proofs.YteejaghimppcgaaDoor

namespace Go.Proofs.YteejaghimppcgaaDoor
open Go.RowKit Go.Wd Go.Box
set_option linter.unusedVariables false
set_option maxRecDepth 20000
set_option maxHeartbeats 4000000 in
theorem rQuo_low (n1 n2 : Bool) (a1 a2 : Option Addr) (c1 c2 : Nat) (z1 z2 : List Int) (e1 e2 bits : Int) (w : World) (l1 : Lie w a1 z1) (l2 : Lie w a2 z2) (g1 : DG n1 z1 e1) (g2 : DG n2 z2 e2) (hb1 : 1 ≤ bits) (hb2 : bits ≤ 8192) (hz1 : 0 < z1.length) (hz2 : 0 < z2.length) {La Lb : Nat} (bx : Bits (Nt.val z1) La) (bY : Bits (Nt.val z2) Lb) (s1 : La ≤ 131072) (s2 : Lb ≤ 131072) (n : Nat) (hn : n = 0) (hn0 : bits + 1 + (Lb : Int) - La < 0) {C : Nat} (hC : BitLen (qf (Nt.val z1) (Nt.val z2) n) C) (hC3 : C ≤ 131072) (hq0 : 0 < qf (Nt.val z1) (Nt.val z2) n) (hn3 : La + n ≤ 140000) (d : Nat) (hd : max ((C : Int) - bits) 0 = (d : Int)) :
    Calls Tryd.prog 53 #[dV n1 a1 z1.length c1 e1, dV n2 a2 z2.length c2 e2, .int .i64 bits] w fun e w' => RCut w w' (sv (n1 != n2) (qf (Nt.val z1) (Nt.val z2) n / 2 ^ d)) (e1 - e2 - n + d) (decide (qf (Nt.val z1) (Nt.val z2) n % 2 ^ d ≠ 0) || qg (Nt.val z1) (Nt.val z2) n) e := by
  have B1 := ((((Bx.nil w).push (DO n1 a1 z1.length c1 e1)).push (DO n2 a2 z2.length c2 e2)).push (DO false none 0 0 0))
  rw [show ((w.alloc (DO n1 a1 z1.length c1 e1)).alloc (DO n2 a2 z2.length c2 e2)).heap.size = w.heap.size + 1 + 1 by simp, show (w.alloc (DO n1 a1 z1.length c1 e1)).heap.size = w.heap.size + 1 by simp] at B1
  have p1 := g1.pos hz1
  have p2 := g2.pos hz2
  have x1 := g1.ex_bd
  have x2 := g2.ex_bd
  have hz0 : ¬ z1.length = 0 := by omega
  have HLb := fun W (h : Below w.heap.size w W) => refLenK a2 c2 z2 W (l2.below h (Nat.le_refl _)) g2.good (B := Lb) (.inr ⟨p2, bY⟩)
  have HLa := fun W (h : Below w.heap.size w W) => refLenK a1 c1 z1 W (l1.below h (Nat.le_refl _)) g1.good (B := La) (.inr ⟨p1, bx⟩)
  have HU := fun W (h : Below w.heap.size w W) => refUp_any a1 c1 z1 W n (by omega) (l1.below h (Nat.le_refl _)) g1.can.1 (by have := g1.len; omega)
  have HQ := fun (A : Option Addr) (cA : Nat) (Z : List Int) W (h : Below w.heap.size w W) (lA : Lie W A Z) (cZ : Nt.Can Z) (vZ : Nt.val Z = Nt.val z1 * 2 ^ n) => refQuo_any A a2 cA c2 Z z2 W lA (l2.below h (Nat.le_refl _)) cZ g2.can hz2 (by
    refine (Nt.can_len cZ 5000).1 ?_
    rw [vZ, show (4294967296 : Int) ^ 5000 = 2 ^ 160000 by rw [show (4294967296 : Int) = 2 ^ 32 by decide, ← Int.pow_mul]]
    have := (bx.up n).lt
    have := p2le (show La + n ≤ 160000 by omega)
    omega) (by have := g2.len; omega)
  have HC := fun (m : Bool) (A : Option Addr) (cA : Nat) (Z : List Int) (x : Int) W (lA : Lie W A Z) (F : Fm (sv (n1 != n2) (qf (Nt.val z1) (Nt.val z2) n)) (e1 - e2 - n) m Z x) => Hide.mk (rCutW (n1 != n2) m A cA Z x bits (e1 - e2 - n) W hq0 lA F (by omega) (by omega) hb1 hb2 hC hC3 d hd _ rfl)
  have y1 := x1.1
  have y2 := x1.2
  have y3 := x2.1
  have y4 := x2.2
  have HN := Hide.mk hn
  have HWr : Hide (IntKind.i64.wrap (IntKind.i64.wrap (IntKind.i64.wrap (bits + 1) + ↑Lb) - ↑La) = bits + 1 + Lb - La) := ⟨by rw [wrap_ok (x := bits + 1) (by omega) (by omega), wrap_ok (x := bits + 1 + Lb) (by omega) (by omega), wrap_ok (by omega) (by omega)]⟩
  have HN0 : Hide ((n : Int) = 0) := ⟨by omega⟩
  rw [HN0.out] at HU
  have hqe : qf (Nt.val z1) (Nt.val z2) n = Nt.val z1 * 2 ^ n / Nt.val z2 := by unfold qf; rw [show (-(n : Int)).toNat = 0 by omega, Int.pow_zero, Int.mul_one, Int.toNat_natCast]
  have hge : qg (Nt.val z1) (Nt.val z2) n = decide (Nt.val z1 * 2 ^ n % Nt.val z2 ≠ 0) := by unfold qg; rw [show (-(n : Int)).toNat = 0 by omega, Int.pow_zero, Int.mul_one, Int.toNat_natCast]
  have HE := Hide.mk (And.intro hqe hge)
  have hlim : Nt.val z1 * 2 ^ n / Nt.val z2 < 4294967296 ^ 4096 := by
    rw [← hqe, pw32]
    rcases hC with ⟨h, _⟩ | ⟨_, h⟩
    · rw [h]; exact p2pos _
    · have := h.lt
      have := p2le hC3
      omega
  have HLim := Hide.mk hlim
  generalize hQ : qf (Nt.val z1) (Nt.val z2) n = Q at *
  generalize hG : qg (Nt.val z1) (Nt.val z2) n = G at *
  generalize hV : Nt.val z1 * 2 ^ n = V at *
  clear l1 l2 hz1 hz2 hC hd x1 x2 hQ hG hqe hge hlim hV hq0 hn bx bY g1 g2 p1
  go_enter Tryd.func53, Tryd.ntmps53
  go_wp2_with fail
  have HF := B1.drew
  have HI := HF
  have sh := fun W (hW : Bx w [(w.heap.size + 1 + 1, DO false none 0 0 0), (w.heap.size + 1, DO n2 a2 z2.length c2 e2), (w.heap.size, DO n1 a1 z1.length c1 e1)] W) => And.intro (cells3 hW (w.heap.size + 1) _ _ _ _ (.tail _ (.head _))).1 (cells3 hW w.heap.size _ _ _ _ (.tail _ (.tail _ (.head _)))).1
  clear B1
  refine Drawn.enter (Bx w [(w.heap.size + 1 + 1, DO false none 0 0 0), (w.heap.size + 1, DO n2 a2 z2.length c2 e2), (w.heap.size, DO n1 a1 z1.length c1 e1)]) (by kernel_rfl) ?_
  refine Drawn.take (i := 0) (v := ?v19) rfl (by kernel_rfl) (by kernel_rfl) (by kernel_rfl) (fun _ _ _ h => h) (by kernel_rfl) (fun W hW => ?_) HI ?_
  rotate_left
  · have ⟨⟨s0, s1, s2⟩, q0, q3, q4⟩ := sh W hW
    go_simp <;> exact rfl
  refine Drawn.take (i := 1) (v := ?v20) rfl (by kernel_rfl) (by kernel_rfl) (by kernel_rfl) (fun _ _ _ h => h) (by kernel_rfl) (fun W hW => ?_) HI ?_
  rotate_left
  · have ⟨⟨s0, s1, s2⟩, q0, q3, q4⟩ := sh W hW
    go_simp <;> exact rfl
  refine Drawn.take (i := 2) (v := ?v21) rfl (by kernel_rfl) (by kernel_rfl) (by kernel_rfl) (fun _ _ _ h => h) (by kernel_rfl) (fun W hW => ?_) HI ?_
  rotate_left
  · have ⟨⟨s0, s1, s2⟩, q0, q3, q4⟩ := sh W hW
    go_simp <;> exact rfl
  refine Drawn.take (i := 3) (v := ?v22) rfl (by kernel_rfl) (by kernel_rfl) (by kernel_rfl) (fun _ _ _ h => h) (by kernel_rfl) (fun W hW => ?_) HI ?_
  rotate_left
  · have ⟨⟨s0, s1, s2⟩, q0, q3, q4⟩ := sh W hW
    go_simp <;> exact rfl
  refine Drawn.take (i := 6) (v := ?v23) rfl (by kernel_rfl) (by kernel_rfl) (by kernel_rfl) (fun _ _ _ h => h) (by kernel_rfl) (fun W hW => ?_) HI ?_
  rotate_left
  · have ⟨⟨s0, s1, s2⟩, q0, q3, q4⟩ := sh W hW
    go_simp <;> exact rfl
  refine Drawn.take (i := 7) (v := ?v24) rfl (by kernel_rfl) (by kernel_rfl) (by kernel_rfl) (fun _ _ _ h => h) (by kernel_rfl) (fun W hW => ?_) HI ?_
  rotate_left
  · have ⟨⟨s0, s1, s2⟩, q0, q3, q4⟩ := sh W hW
    go_simp <;> exact rfl
  refine Drawn.one (j := 4) (by kernel_rfl) rfl (fun K hK => ?_)
  go_simp
  refine (HLb _ HI.bel).mono ?_
  rintro e wn ⟨rfl, hn⟩
  refine hK _ _ (HI.keep hn) ?_
  clear hK K
  replace HI := HI.keep hn
  replace HF := HF.keep hn
  clear hn
  refine Drawn.take (i := 5) (v := ?v25) rfl (by kernel_rfl) (by kernel_rfl) (by kernel_rfl) (fun _ _ _ h => h) (by kernel_rfl) (fun W hW => ?_) HI ?_
  rotate_left
  · have ⟨⟨s0, s1, s2⟩, q0, q3, q4⟩ := sh W hW
    go_simp <;> exact rfl
  refine Drawn.one (j := 8) (by kernel_rfl) rfl (fun K hK => ?_)
  go_simp
  refine (HLa _ HI.bel).mono ?_
  rintro e wn ⟨rfl, hn⟩
  refine hK _ _ (HI.keep hn) ?_
  clear hK K
  replace HI := HI.keep hn
  replace HF := HF.keep hn
  clear hn
  refine Drawn.take (i := 9) (v := ?v26) rfl (by kernel_rfl) (by kernel_rfl) (by kernel_rfl) (fun _ _ _ h => h) (by kernel_rfl) (fun W hW => ?_) HI ?_
  rotate_left
  · have ⟨⟨s0, s1, s2⟩, q0, q3, q4⟩ := sh W hW
    go_simp <;> exact rfl
  refine Drawn.take (i := 10) (v := ?v27) rfl (by kernel_rfl) (by kernel_rfl) (by kernel_rfl) (fun _ _ _ h => h) (by kernel_rfl) (fun W hW => ?_) HI ?_
  rotate_left
  · have ⟨⟨s0, s1, s2⟩, q0, q3, q4⟩ := sh W hW
    go_simp <;> exact rfl
  refine Drawn.done (by kernel_rfl) ?_
  try go_simp
  rw [HWr.out]
  obtain ⟨⟨s0, s1, s2⟩, _⟩ := cells3 HF (w.heap.size + 1) _ _ _ _ (.tail _ (.head _))
  obtain ⟨⟨q0, q1, q2⟩, _⟩ := cells3 HF (w.heap.size) _ _ _ _ (.tail _ (.tail _ (.head _)))
  go_wp2_with fail
  replace HF := HF.drew
  replace HI := HF
  clear s0 s1 s2 q0 q1 q2
  refine Drawn.enter (Bx w [(w.heap.size + 1 + 1, DO false none 0 0 0), (w.heap.size + 1, DO n2 a2 z2.length c2 e2), (w.heap.size, DO n1 a1 z1.length c1 e1)]) (by kernel_rfl) ?_
  refine Drawn.take (i := 0) (v := ?v28) rfl (by kernel_rfl) (by kernel_rfl) (by kernel_rfl) (fun _ _ _ h => h) (by kernel_rfl) (fun W hW => ?_) HI ?_
  rotate_left
  · have ⟨⟨s0, s1, s2⟩, q0, q3, q4⟩ := sh W hW
    go_simp <;> exact rfl
  refine Drawn.take (i := 1) (v := ?v29) rfl (by kernel_rfl) (by kernel_rfl) (by kernel_rfl) (fun _ _ _ h => h) (by kernel_rfl) (fun W hW => ?_) HI ?_
  rotate_left
  · have ⟨⟨s0, s1, s2⟩, q0, q3, q4⟩ := sh W hW
    go_simp <;> exact rfl
  refine Drawn.take (i := 2) (v := ?v30) rfl (by kernel_rfl) (by kernel_rfl) (by kernel_rfl) (fun _ _ _ h => h) (by kernel_rfl) (fun W hW => ?_) HI ?_
  rotate_left
  · have ⟨⟨s0, s1, s2⟩, q0, q3, q4⟩ := sh W hW
    go_simp <;> exact rfl
  refine Drawn.take (i := 4) (v := ?v31) rfl (by kernel_rfl) (by kernel_rfl) (by kernel_rfl) (fun _ _ _ h => h) (by kernel_rfl) (fun W hW => ?_) HI ?_
  rotate_left
  · have ⟨⟨s0, s1, s2⟩, q0, q3, q4⟩ := sh W hW
    go_simp <;> exact rfl
  refine Drawn.take (i := 5) (v := ?v32) rfl (by kernel_rfl) (by kernel_rfl) (by kernel_rfl) (fun _ _ _ h => h) (by kernel_rfl) (fun W hW => ?_) HI ?_
  rotate_left
  · have ⟨⟨s0, s1, s2⟩, q0, q3, q4⟩ := sh W hW
    go_simp <;> exact rfl
  refine Drawn.one (j := 3) (by kernel_rfl) rfl (fun K hK => ?_)
  go_simp
  refine (HU _ HI.bel).mono ?_
  rintro e w6 ⟨z6, a6, c6, rfl, o6, n6, v6, h6⟩
  obtain ⟨a6', c6', he6, _, _, l6⟩ := o6.lie
  simp only [Value.slice.injEq, true_and] at he6
  obtain ⟨rfl, rfl⟩ := he6
  refine hK _ _ (HI.keep h6) ?_
  clear hK K
  replace HI := HI.keep h6
  replace HF := HF.keep h6
  clear h6 o6
  refine Drawn.one (j := 6) (by kernel_rfl) rfl (fun K hK => ?_)
  go_simp
  refine (HQ _ _ _ _ HI.bel l6 n6 v6).mono ?_
  rintro e w7 ⟨zq, zr, aq, cq, ar, cr, rfl, oq, or, nq, nr, vq, rl, h7⟩
  unfold two
  refine hK _ _ (HI.keep h7) ?_
  clear hK K
  replace HI := HI.keep h7
  replace HF := HF.keep h7
  obtain ⟨aq', cq', heq, _, _, lq⟩ := oq.lie
  simp only [Value.slice.injEq, true_and] at heq
  obtain ⟨rfl, rfl⟩ := heq
  rw [v6] at vq
  have nn := (Nt.val_bd nr.1).1
  have eq1 : V / Nt.val z2 = Nt.val zq := by
    rw [vq, Int.add_comm, Int.add_mul_ediv_right _ _ (by omega), Int.ediv_eq_zero_of_lt nn rl]; omega
  have eq2 : V % Nt.val z2 = Nt.val zr := by
    rw [vq, Int.add_comm, Int.add_mul_emod_self_right, Int.emod_eq_of_lt nn rl]
  have hlq : zq.length ≤ 10000 := by
    have := (Nt.can_len nq 4096).1 (by rw [← eq1]; exact HLim.out)
    omega
  have eQ : Nt.val zq = Q := by rw [HE.out.1, eq1]
  have eG : G = decide (0 < zr.length) := by
    rw [HE.out.2, eq2]
    by_cases hz : 0 < zr.length
    · have h2 := can_ge nr hz
      have h3 := Nt.pw_pos (zr.length - 1)
      rw [decide_eq_true hz, decide_eq_true (by omega : Nt.val zr ≠ 0)]
    · obtain rfl : zr = [] := List.length_eq_zero_iff.1 (by omega)
      rw [Nt.val_nil]; simp
  have HG := Hide.mk (And.intro eQ eG)
  have Hq := Hide.mk (And.intro lq nq)
  clear h7 oq or vq rl nn eq1 eq2 eQ eG lq nq nr HQ HU l6 n6 v6 HE HLim
  refine Drawn.take (i := 7) (v := ?v33) rfl (by kernel_rfl) (by kernel_rfl) (by kernel_rfl) (fun _ _ _ h => h) (by kernel_rfl) (fun W hW => ?_) HI ?_
  rotate_left
  · have ⟨⟨s0, s1, s2⟩, q0, q3, q4⟩ := sh W hW
    go_simp <;> exact rfl
  refine Drawn.take (i := 8) (v := ?v34) rfl (by kernel_rfl) (by kernel_rfl) (by kernel_rfl) (fun _ _ _ h => h) (by kernel_rfl) (fun W hW => ?_) HI ?_
  rotate_left
  · have ⟨⟨s0, s1, s2⟩, q0, q3, q4⟩ := sh W hW
    go_simp <;> exact rfl
  refine Drawn.take (i := 9) (v := ?v35) rfl (by kernel_rfl) (by kernel_rfl) (by kernel_rfl) (fun _ _ _ h => h) (by kernel_rfl) (fun W hW => ?_) HI ?_
  rotate_left
  · have ⟨⟨s0, s1, s2⟩, q0, q3, q4⟩ := sh W hW
    go_simp <;> exact rfl
  refine Drawn.take (i := 10) (v := ?v36) rfl (by kernel_rfl) (by kernel_rfl) (by kernel_rfl) (fun _ _ _ h => h) (by kernel_rfl) (fun W hW => ?_) HI ?_
  rotate_left
  · have ⟨⟨s0, s1, s2⟩, q0, q3, q4⟩ := sh W hW
    go_simp <;> exact rfl
  refine Drawn.take (i := 11) (v := ?v37) rfl (by kernel_rfl) (by kernel_rfl) (by kernel_rfl) (fun _ _ _ h => h) (by kernel_rfl) (fun W hW => ?_) HI ?_
  rotate_left
  · have ⟨⟨s0, s1, s2⟩, q0, q3, q4⟩ := sh W hW
    go_simp <;> exact rfl
  refine Drawn.done (by kernel_rfl) ?_
  try go_simp
  obtain ⟨⟨s0, s1, s2⟩, _⟩ := cells3 HF (w.heap.size + 1) _ _ _ _ (.tail _ (.head _))
  obtain ⟨⟨q0, q1, q2⟩, _⟩ := cells3 HF (w.heap.size) _ _ _ _ (.tail _ (.tail _ (.head _)))
  go_wp2_with fail
  have HX := Hide.mk (formX (n1 != n2) aq cq zq (e1 - e2) _ Hq.out.1 Hq.out.2 hlq (by omega) (by omega))
  rw [show (!n1 == n2) = (n1 != n2) from rfl]
  refine HX.out.mono ?_
  rintro e w8 ⟨n8, z8, x8, a8, c8, rfl, F8, l8, h8⟩
  rw [HG.out.1] at F8
  replace F8 : Fm (sv (n1 != n2) Q) (e1 - e2 - (n : Int)) n8 z8 x8 := by rw [HN0.out, Int.sub_zero]; exact F8
  have HK := HC n8 a8 c8 z8 x8 w8 l8 F8
  replace HF := HF.keep h8
  clear h8 HX l8 F8 HC s0 s1 s2 q0 q1 q2 Hq HI sh
  go_wp2_with fail
  refine HK.out.mono ?_
  rintro e w9 ⟨n9, z9, x9, a9, c9, rfl, F9, l9, h9⟩
  replace HF := HF.keep h9
  have HR := Hide.mk (And.intro F9 l9)
  clear HK h9 F9 l9
  generalize hL : decide (Q % 2 ^ d ≠ 0) = lost at *
  have HFr := HF.sub (L' := [(w.heap.size + 1 + 1, DO false none 0 0 0)]) (by simp)
  have hlt9 : w.heap.size + 1 + 1 < w9.heap.size := HF.lt (p := (w.heap.size + 1 + 1, DO false none 0 0 0)) (by simp)
  obtain ⟨⟨t0, t1, t2⟩, u0, u1, u2⟩ := cells3 HFr (w.heap.size + 1 + 1) _ _ _ _ (.head _)
  have L := Hide.mk (Live.set3 (g := w.heap.size + 1 + 1) ⟨HFr.head, rfl⟩ (.bool n9) (.slice a9 z9.length c9) (.int .i64 x9) (Live.one HR.out.2))
  cases lost
  · go_wp2
    refine bodyPost_ret (results_D2 rfl _ _ (w.heap.size + 1 + 1) _ rfl ⟨((HFr.fill3 (by omega) (by simp) _ _ _).push _).tail.head, rfl⟩) rfl ?_
    exact ⟨n9, z9, x9, a9, c9, by rw [hL, HG.out.2]; rfl, HR.out.1, (L.out.all (a9, z9) (.head _)).below (below_alloc _ _) (Nat.le_refl _), ((HFr.fill3 (by omega) (by simp) _ _ _).push _).bel⟩
  · go_wp2
    refine bodyPost_ret (results_D2 rfl _ _ (w.heap.size + 1 + 1) _ rfl ⟨((HFr.fill3 (by omega) (by simp) _ _ _).push _).tail.head, rfl⟩) rfl ?_
    exact ⟨n9, z9, x9, a9, c9, by rw [hL]; rfl, HR.out.1, (L.out.all (a9, z9) (.head _)).below (below_alloc _ _) (Nat.le_refl _), ((HFr.fill3 (by omega) (by simp) _ _ _).push _).bel⟩
end Go.Proofs.YteejaghimppcgaaDoor

namespace Go.Proofs.YteejaghimppcgaaDoor
open Go.RowKit Go.Wd Go.Box
set_option linter.unusedVariables false
set_option maxRecDepth 20000
theorem isqrt_ex (m : Nat) : ∃ r : Nat, r * r ≤ m ∧ m < (r + 1) * (r + 1) := by
  induction m with
  | zero => exact ⟨0, by decide, by decide⟩
  | succ m ih =>
    obtain ⟨r, h1, h2⟩ := ih
    by_cases h : m + 1 < (r + 1) * (r + 1)
    · exact ⟨r, by omega, h⟩
    · have e : (r + 1 + 1) * (r + 1 + 1) = (r + 1) * (r + 1) + 2 * r + 3 := by grind
      exact ⟨r + 1, by omega, by omega⟩
theorem isqrtI {m : Int} (h : 0 ≤ m) : ∃ r : Int, 0 ≤ r ∧ r * r ≤ m ∧ m < (r + 1) * (r + 1) := by
  obtain ⟨r, h1, h2⟩ := isqrt_ex m.toNat
  refine ⟨r, by omega, ?_, ?_⟩
  · have : ((r * r : Nat) : Int) ≤ m := by omega
    rw [Int.natCast_mul] at this; exact this
  · have : m < (((r + 1) * (r + 1) : Nat) : Int) := by omega
    rw [Int.natCast_mul] at this; exact this
theorem rt_ex {x : Int} (hx : 0 ≤ x) (e i : Int) : ∃ r g, RtAt x e i r g := by
  obtain ⟨r, h0, h1, h2⟩ := isqrtI (m := x * 2 ^ (e + 2 * i).toNat / 2 ^ (-(e + 2 * i)).toNat) (Int.ediv_nonneg (Int.mul_nonneg hx (Int.le_of_lt (p2pos _))) (Int.le_of_lt (p2pos _)))
  exact ⟨r, _, rt_of rfl h0 h1 h2⟩
theorem sq_lt_of {a b : Int} (ha : 0 ≤ a) (hb : 0 ≤ b) (h : a * a < b * b) : a < b := by
  refine Classical.byContradiction fun c => ?_
  have := sq_mono hb (show b ≤ a by omega)
  omega
/-- How many bits the root has. -/
theorem rt_bits_ge {x e i r : Int} {g : Bool} {L : Nat} (h : RtAt x e i r g) (bx : Bits x L) (k : Nat) (hk : (2 * k : Int) + 1 ≤ L + (e + 2 * i)) : 2 ^ k ≤ r := by
  have hn := h.nn
  have h1 := h.lt
  have h2 := (bx.up (e + 2 * i).toNat).le
  have h3 := p2le (show k + k + (-(e + 2 * i)).toNat + 1 ≤ L + (e + 2 * i).toNat by omega)
  rw [Int.pow_succ, Int.pow_add, Int.pow_add] at h3
  have hp := p2pos (-(e + 2 * i)).toNat
  have h4 : 2 ^ k * 2 ^ k * 2 ^ (-(e + 2 * i)).toNat < (r + 1) * (r + 1) * 2 ^ (-(e + 2 * i)).toNat := by omega
  have h5 := Int.lt_of_mul_lt_mul_right h4 (by omega)
  have := sq_lt_of (by have := p2pos k; omega) (by omega) h5
  omega
theorem rt_bits_lt {x e i r : Int} {g : Bool} {L : Nat} (h : RtAt x e i r g) (bx : Bits x L) (k : Nat) (hk : (L : Int) + (e + 2 * i) ≤ 2 * k) : r < 2 ^ k := by
  have hn := h.nn
  have h1 := h.le
  have h2 := (bx.up (e + 2 * i).toNat).lt
  have h3 := p2le (show L + (e + 2 * i).toNat ≤ k + k + (-(e + 2 * i)).toNat by omega)
  rw [Int.pow_add 2 (k + k), Int.pow_add 2 k] at h3
  have hp := p2pos (-(e + 2 * i)).toNat
  have h4 : r * r * 2 ^ (-(e + 2 * i)).toNat < 2 ^ k * 2 ^ k * 2 ^ (-(e + 2 * i)).toNat := by omega
  exact sq_lt_of hn (by have := p2pos k; omega) (Int.lt_of_mul_lt_mul_right h4 (by omega))
/-- The quotient of two numbers, cut to b bits. -/
structure QAt (x y : Int) (b : Nat) (i : Int) : Prop where
  bits : BitLen (qf x y i) b
theorem q_prog {x y : Int} {La Lb : Nat} (bx : Bits x La) (bY : Bits y Lb) (hx : 0 < x) (hy : 0 < y) (b : Nat) (hb : 1 ≤ b) (i : Int) (hi : (b : Int) + Lb - La ≤ i) {B : Nat} (hB : BitLen (qf x y i) B) : b ≤ B := by
  obtain ⟨k, rfl⟩ : ∃ k, b = k + 1 := ⟨b - 1, by omega⟩
  exact bl_ge hB (qf_ge bx bY hy k i (by omega))
theorem q_at {x y : Int} {La Lb : Nat} (bx : Bits x La) (bY : Bits y Lb) (hx : 0 < x) (hy : 0 < y) (b : Nat) (hb : 1 ≤ b) : ∃ i, BitLen (qf x y i) b ∧ (b : Int) + Lb - La - 1 ≤ i ∧ i ≤ (b : Int) + Lb - La := by
  obtain ⟨B, hB⟩ := bitLen_ex (qf_nn (Int.le_of_lt hx) hy ((b : Int) + Lb - La))
  have h1 := q_prog bx bY hx hy b hb _ (Int.le_refl _) hB
  have h2 : B ≤ b + 1 := bl_le hB (qf_lt bx bY hy (b + 1) _ (by omega))
  refine ⟨(b : Int) + Lb - La - (B - b : Nat), ?_, by omega, by omega⟩
  have := hB.down (B - b)
  rw [← qf_down x y hy, show B - (B - b) = b by omega] at this
  exact this
theorem q_idx {x y i j : Int} (hy : 0 < y) {b : Nat} (hb : 0 < b) (h : BitLen (qf x y i) b) (k : BitLen (qf x y j) b) : i = j := (qFam x y hy).idx (⟨rfl, rfl⟩ : _ ∧ _) (⟨rfl, rfl⟩ : _ ∧ _) h k hb
theorem quoT (n1 n2 : Bool) (a1 a2 : Option Addr) (c1 c2 : Nat) (z1 z2 : List Int) (e1 e2 : Int) (w : World) (l1 : Lie w a1 z1) (l2 : Lie w a2 z2) (g1 : DG n1 z1 e1) (g2 : DG n2 z2 e2) (hT : Tab w) (bits : Int) (b : Nat) (hbb : bits = (b : Int)) (hb1 : 1 ≤ bits) (hb2 : bits ≤ 8192) (hz1 : 0 < z1.length) (hz2 : 0 < z2.length) {i : Int} (hi : BitLen (qf (Nt.val z1) (Nt.val z2) i) b) :
    Calls Tryd.prog 50 #[dV n1 a1 z1.length c1 e1, dV n2 a2 z2.length c2 e2, .int .i64 bits] w fun e w' => DCut w w' (sv (n1 != n2) (qf (Nt.val z1) (Nt.val z2) i)) (e1 - e2 - i) (qg (Nt.val z1) (Nt.val z2) i) e := by
  have p1 := g1.pos hz1
  have p2 := g2.pos hz2
  obtain ⟨La, hLa⟩ := bitLen_ex (Int.le_of_lt p1)
  obtain ⟨Lb, hLb⟩ := bitLen_ex (Int.le_of_lt p2)
  have bx : Bits (Nt.val z1) La := by rcases hLa with ⟨h, _⟩ | ⟨_, h⟩; omega; exact h
  have bY : Bits (Nt.val z2) Lb := by rcases hLb with ⟨h, _⟩ | ⟨_, h⟩; omega; exact h
  have s1 := g_size g1 bx
  have s2 := g_size g2 bY
  obtain ⟨B, hB⟩ := bitLen_ex (qf_nn (Int.le_of_lt p1) p2 (bits + Lb - La))
  have h1 := q_prog bx bY p1 p2 b (by omega) _ (by omega) hB
  have h2 : B ≤ b + 1 := bl_le hB (qf_lt bx bY p2 (b + 1) _ (by omega))
  have hd := hB.down (B - b)
  rw [← qf_down _ _ p2, show B - (B - b) = b by omega] at hd
  have e := q_idx p2 (by omega) hd hi
  have := quo_good n1 n2 a1 a2 c1 c2 z1 z2 e1 e2 bits w l1 l2 g1 g2 hT hb1 hb2 hz1 hz2 bx bY _ rfl hB (by omega) (B - b) (by omega)
  rw [← qf_down _ _ p2, ← qg_down _ _ p2, e, show e1 - e2 - (bits + Lb - La) + ((B - b : Nat) : Int) = e1 - e2 - i by omega] at this
  exact this
theorem rQuoT (n1 n2 : Bool) (a1 a2 : Option Addr) (c1 c2 : Nat) (z1 z2 : List Int) (e1 e2 : Int) (w : World) (l1 : Lie w a1 z1) (l2 : Lie w a2 z2) (g1 : DG n1 z1 e1) (g2 : DG n2 z2 e2) (bits : Int) (b : Nat) (hbb : bits = (b : Int)) (hb1 : 1 ≤ bits) (hb2 : bits ≤ 8192) (hz1 : 0 < z1.length) (hz2 : 0 < z2.length) {i : Int} (hi : BitLen (qf (Nt.val z1) (Nt.val z2) i) b) :
    Calls Tryd.prog 53 #[dV n1 a1 z1.length c1 e1, dV n2 a2 z2.length c2 e2, .int .i64 bits] w fun e w' => RCut w w' (sv (n1 != n2) (qf (Nt.val z1) (Nt.val z2) i)) (e1 - e2 - i) (qg (Nt.val z1) (Nt.val z2) i) e := by
  have p1 := g1.pos hz1
  have p2 := g2.pos hz2
  obtain ⟨La, hLa⟩ := bitLen_ex (Int.le_of_lt p1)
  obtain ⟨Lb, hLb⟩ := bitLen_ex (Int.le_of_lt p2)
  have bx : Bits (Nt.val z1) La := by rcases hLa with ⟨h, _⟩ | ⟨_, h⟩; omega; exact h
  have bY : Bits (Nt.val z2) Lb := by rcases hLb with ⟨h, _⟩ | ⟨_, h⟩; omega; exact h
  have s1 := g_size g1 bx
  have s2 := g_size g2 bY
  have key : ∀ n : Nat, (b : Int) + 1 + Lb - La ≤ n → n = 0 ∨ (b : Int) + 1 + Lb - La = n → ∃ C d : Nat, BitLen (qf (Nt.val z1) (Nt.val z2) n) C ∧ C ≤ 131072 ∧ 0 < qf (Nt.val z1) (Nt.val z2) n ∧ La + n ≤ 140000 ∧ max ((C : Int) - bits) 0 = (d : Int) ∧ (n : Int) - d = i ∧ qf (Nt.val z1) (Nt.val z2) n / 2 ^ d = qf (Nt.val z1) (Nt.val z2) i ∧ (decide (qf (Nt.val z1) (Nt.val z2) n % 2 ^ d ≠ 0) || qg (Nt.val z1) (Nt.val z2) n) = qg (Nt.val z1) (Nt.val z2) i := by
    intro n h1 h2
    obtain ⟨C, hC⟩ := bitLen_ex (qf_nn (Int.le_of_lt p1) p2 (n : Int))
    have k1 := q_prog bx bY p1 p2 (b + 1) (by omega) (n : Int) (by omega) hC
    have k2 : C ≤ 131072 := by
      rcases h2 with rfl | h2
      · have : qf (Nt.val z1) (Nt.val z2) ((0 : Nat) : Int) < 2 ^ La := by
          refine Int.lt_of_le_of_lt ?_ bx.lt
          unfold qf
          rw [show ((0 : Nat) : Int).toNat = 0 from rfl, show (-((0 : Nat) : Int)).toNat = 0 from rfl, Int.pow_zero, Int.mul_one, Int.mul_one]
          exact Int.ediv_le_self _ (Int.le_of_lt p1)
        have := bl_le hC this
        omega
      · have := bl_le hC (qf_lt bx bY p2 (b + 2) _ (by omega))
        omega
    have hd := hC.down (C - b)
    rw [← qf_down _ _ p2, show C - (C - b) = b by omega] at hd
    have e := q_idx p2 (by omega) hd hi
    refine ⟨C, C - b, hC, k2, ?_, by omega, by omega, e, ?_, ?_⟩
    · rcases hC with ⟨_, h⟩ | ⟨h, _⟩
      · omega
      · exact h
    · rw [← qf_down _ _ p2, e]
    · rw [← qg_down _ _ p2, e]
  by_cases hn : bits + 1 + (Lb : Int) - La < 0
  · obtain ⟨C, d, hC, hC2, hq0, hn3, hd, e3, e4, e5⟩ := key 0 (by omega) (.inl rfl)
    have := rQuo_low n1 n2 a1 a2 c1 c2 z1 z2 e1 e2 bits w l1 l2 g1 g2 hb1 hb2 hz1 hz2 bx bY s1 s2 0 rfl hn hC hC2 hq0 hn3 d hd
    rw [e4, e5, show e1 - e2 - ((0 : Nat) : Int) + (d : Int) = e1 - e2 - i by omega] at this
    exact this
  · obtain ⟨n, hN⟩ : ∃ n : Nat, bits + 1 + (Lb : Int) - La = (n : Int) := ⟨(bits + 1 + (Lb : Int) - La).toNat, by omega⟩
    obtain ⟨C, d, hC, hC2, hq0, hn3, hd, e3, e4, e5⟩ := key n (by omega) (.inr (by omega))
    have := rQuo_up n1 n2 a1 a2 c1 c2 z1 z2 e1 e2 bits w l1 l2 g1 g2 hb1 hb2 hz1 hz2 bx bY s1 s2 n hN (by omega) hC hC2 hq0 hn3 d hd
    rw [e4, e5, show e1 - e2 - (n : Int) + (d : Int) = e1 - e2 - i by omega] at this
    exact this
theorem tm_even {a : Int} (h : a.tmod 2 = 0) : ∃ i, a = 2 * i := ⟨a.tdiv 2, by have := Int.mul_tdiv_add_tmod a 2; omega⟩
theorem tm_odd {a : Int} (h : ¬ a.tmod 2 = 0) : ∃ i, a = 2 * i + 1 := by
  have h1 := Int.mul_tdiv_add_tmod a 2
  have h2 : a.tmod 2 = 1 ∨ a.tmod 2 = -1 := by
    by_cases h0 : 0 ≤ a
    · rw [Int.tmod_eq_emod_of_nonneg h0] at h ⊢; omega
    · have e : a.tmod 2 = -((-a).tmod 2) := by rw [Int.neg_tmod, Int.neg_neg]
      rw [e, Int.tmod_eq_emod_of_nonneg (by omega)] at h ⊢; omega
  rcases h2 with h2 | h2
  · exact ⟨a.tdiv 2, by omega⟩
  · exact ⟨a.tdiv 2 - 1, by omega⟩
/-- The root of a number, cut to b bits. -/
structure RAt (x e : Int) (b : Nat) (i r : Int) (g : Bool) : Prop where
  rt : RtAt x e i r g
  bits : BitLen r b
theorem rootT (a : Option Addr) (c : Nat) (zs : List Int) (ex : Int) (w : World) (l : Lie w a zs) (g : DG false zs ex) (hT : Tab w) (bits : Int) (b : Nat) (hbb : bits = (b : Int)) (hb1 : 1 ≤ bits) (hb2 : bits ≤ 8192) (hz : 0 < zs.length) {i r : Int} {more : Bool} (hR : RAt (Nt.val zs) ex b i r more) :
    Calls Tryd.prog 51 #[dV false a zs.length c ex, .int .i64 bits] w fun e w' => DCut w w' (sv false r) (-i) more e := by
  have p1 := g.pos hz
  obtain ⟨La, hLa⟩ := bitLen_ex (Int.le_of_lt p1)
  have bx : Bits (Nt.val zs) La := by rcases hLa with ⟨h, _⟩ | ⟨_, h⟩; omega; exact h
  have s1 := g_size g bx
  have key : ∀ up j : Int, up = ex + 2 * j → up ≤ 2 * bits - La → 2 * bits - La - 1 ≤ up → RtAt (Nt.val zs) ex j r more ∧ j = i := by
    intro up j h1 h2 h3
    obtain ⟨r2, g2, h4⟩ := rt_ex (Int.le_of_lt p1) ex j
    obtain ⟨B, hB⟩ := bitLen_ex h4.nn
    obtain ⟨k, hk⟩ : ∃ k, b = k + 1 := ⟨b - 1, by omega⟩
    have k1 := bl_ge hB (rt_bits_ge h4 bx k (by omega))
    have k2 := bl_le hB (rt_bits_lt h4 bx b (by omega))
    obtain rfl : B = b := by omega
    have e := (rtFam _ _).idx h4 hR.rt hB hR.bits (by omega)
    subst e
    exact ⟨hR.rt, rfl⟩
  have hd0 : max ((b : Int) - bits) 0 = ((0 : Nat) : Int) := by omega
  by_cases hp : (ex - (2 * bits - (La : Int))).tmod 2 = 0
  · obtain ⟨j, hj⟩ := tm_even hp
    obtain ⟨k1, k2⟩ := key (2 * bits - (La : Int)) (-j) (by omega) (by omega) (by omega)
    have := root_even a c zs ex bits w l g hT hb1 hb2 hz bx hp _ (-j) r more rfl (by omega) k1 hR.bits (by omega) 0 hd0
    rw [k2, Int.pow_zero, Int.ediv_one, Int.emod_one, show -i + ((0 : Nat) : Int) = -i by omega] at this
    simpa using this
  · obtain ⟨j, hj⟩ := tm_odd hp
    obtain ⟨k1, k2⟩ := key (2 * bits - (La : Int) - 1) (-j - 1) (by omega) (by omega) (by omega)
    have := root_odd a c zs ex bits w l g hT hb1 hb2 hz bx hp _ (-j - 1) r more rfl (by omega) k1 hR.bits (by omega) 0 hd0
    rw [k2, Int.pow_zero, Int.ediv_one, Int.emod_one, show -i + ((0 : Nat) : Int) = -i by omega] at this
    simpa using this
theorem r_at {x : Int} {L : Nat} (bx : Bits x L) (hx : 0 < x) (e : Int) (b : Nat) (hb : 1 ≤ b) : ∃ i r g, RAt x e b i r g ∧ 2 * (b : Int) - L - 1 ≤ e + 2 * i ∧ e + 2 * i ≤ 2 * b - L := by
  obtain ⟨j, hj⟩ : ∃ j : Int, 2 * (b : Int) - L - 1 ≤ e + 2 * j ∧ e + 2 * j ≤ 2 * b - L := ⟨(2 * (b : Int) - L - e) / 2, by omega⟩
  obtain ⟨r, g, h⟩ := rt_ex (Int.le_of_lt hx) e j
  obtain ⟨B, hB⟩ := bitLen_ex h.nn
  obtain ⟨k, hk⟩ : ∃ k, b = k + 1 := ⟨b - 1, by omega⟩
  have k1 := bl_ge hB (rt_bits_ge h bx k (by omega))
  have k2 := bl_le hB (rt_bits_lt h bx b (by omega))
  obtain rfl : B = b := by omega
  exact ⟨j, r, g, ⟨h, hB⟩, hj.1, hj.2⟩
theorem rRootT (a : Option Addr) (c : Nat) (zs : List Int) (ex : Int) (w : World) (l : Lie w a zs) (g : DG false zs ex) (bits : Int) (b : Nat) (hbb : bits = (b : Int)) (hb1 : 1 ≤ bits) (hb2 : bits ≤ 8192) (hz : 0 < zs.length) {i r : Int} {more : Bool} (hR : RAt (Nt.val zs) ex b i r more) :
    Calls Tryd.prog 52 #[dV false a zs.length c ex, .int .i64 bits] w fun e w' => RCut w w' (sv false r) (-i) more e := by
  have p1 := g.pos hz
  obtain ⟨La, hLa⟩ := bitLen_ex (Int.le_of_lt p1)
  have bx : Bits (Nt.val zs) La := by rcases hLa with ⟨h, _⟩ | ⟨_, h⟩; omega; exact h
  have s1 := g_size g bx
  have key : ∀ (n : Nat) (j : Int), (n : Int) = ex + 2 * j → 2 * bits + 2 - La ≤ n → (n : Int) ≤ 1 ∨ (n : Int) ≤ 2 * bits + 3 - La → ∃ (r2 : Int) (g2 : Bool) (C d : Nat), RtAt (Nt.val zs) ex j r2 g2 ∧ 0 < r2 ∧ BitLen r2 C ∧ C ≤ 131072 ∧ max ((C : Int) - bits) 0 = (d : Int) ∧ -j + (d : Int) = -i ∧ r2 / 2 ^ d = r ∧ (decide (r2 % 2 ^ d ≠ 0) || g2) = more := by
    intro n j h1 h2 h3
    obtain ⟨r2, g2, h4⟩ := rt_ex (Int.le_of_lt p1) ex j
    obtain ⟨C, hC⟩ := bitLen_ex h4.nn
    have k1 := bl_ge hC (rt_bits_ge h4 bx b (by omega))
    have k2 : C ≤ 131072 := by
      rcases h3 with h3 | h3
      · have := bl_le hC (rt_bits_lt h4 bx La (by omega)); omega
      · have := bl_le hC (rt_bits_lt h4 bx (b + 2) (by omega)); omega
    have q := (rtFam _ _).down _ _ _ (C - b) h4
    have hd := hC.down (C - b)
    rw [show C - (C - b) = b by omega] at hd
    have e := (rtFam _ _).idx q hR.rt hd hR.bits (by omega)
    rw [e] at q
    obtain ⟨u1, u2⟩ := (rtFam _ _).uniq _ _ _ _ _ q hR.rt
    refine ⟨r2, g2, C, C - b, h4, ?_, hC, k2, by omega, by omega, u1, u2⟩
    rcases hC with ⟨_, h⟩ | ⟨h, _⟩
    · omega
    · exact h
  by_cases hneg : 2 * bits + 2 - (La : Int) < 0
  · by_cases hp : ex.tmod 2 = 0
    · obtain ⟨j, hj⟩ := tm_even hp
      obtain ⟨r2, g2, C, d, h4, h5, hC, h6, h7, h8, h9, h10⟩ := key 0 (-j) (by omega) (by omega) (.inl (by decide))
      have := rRoot_lowe a c zs ex bits w l g hb1 hb2 hz bx 0 rfl hp hneg (by decide) (-j) r2 g2 (by omega) h4 h5 hC h6 d h7
      rw [h8, h9, h10] at this
      exact this
    · obtain ⟨j, hj⟩ := tm_odd hp
      obtain ⟨r2, g2, C, d, h4, h5, hC, h6, h7, h8, h9, h10⟩ := key 1 (-j) (by omega) (by omega) (.inl (by decide))
      have := rRoot_lowo a c zs ex bits w l g hb1 hb2 hz bx 1 rfl hp hneg (by decide) (-j) r2 g2 (by omega) h4 h5 hC h6 d h7
      rw [h8, h9, h10] at this
      exact this
  · by_cases hp : (ex - (2 * bits + 2 - (La : Int))).tmod 2 = 0
    · obtain ⟨j, hj⟩ := tm_even hp
      obtain ⟨n, hN⟩ : ∃ n : Nat, 2 * bits + 2 - (La : Int) = (n : Int) := ⟨(2 * bits + 2 - (La : Int)).toNat, by omega⟩
      obtain ⟨r2, g2, C, d, h4, h5, hC, h6, h7, h8, h9, h10⟩ := key n (-j) (by omega) (by omega) (.inr (by omega))
      have := rRoot_upe a c zs ex bits w l g hb1 hb2 hz bx n hN hp (by omega) (by omega) (-j) r2 g2 (by omega) h4 h5 hC h6 d h7
      rw [h8, h9, h10] at this
      exact this
    · obtain ⟨j, hj⟩ := tm_odd hp
      obtain ⟨n, hN⟩ : ∃ n : Nat, 2 * bits + 2 - (La : Int) + 1 = (n : Int) := ⟨(2 * bits + 2 - (La : Int) + 1).toNat, by omega⟩
      obtain ⟨r2, g2, C, d, h4, h5, hC, h6, h7, h8, h9, h10⟩ := key n (-j) (by omega) (by omega) (.inr (by omega))
      have := rRoot_upo a c zs ex bits w l g hb1 hb2 hz bx n hN hp (by omega) (by omega) (-j) r2 g2 (by omega) h4 h5 hC h6 d h7
      rw [h8, h9, h10] at this
      exact this
/-- An answer that is cut: a number, or out of range. -/
theorem dcut_num {w w' : World} {s E : Int} {q : Bool} {e : Ending} (h : DCut w w' s E q e) (hs : (s.natAbs : Int) < 4294967296 ^ 4096) (hr : s = 0 ∨ ∃ t : Nat, LowBit (s.natAbs : Int) t ∧ -16777216 ≤ E + t ∧ E + t ≤ 16777216) :
    ∃ n' z' x' a' c', e = .returned (.tuple #[dV n' a' (List.length z') c' x', .bool q, .int .i64 0]) ∧ Fm s E n' z' x' ∧ z'.length ≤ 4096 ∧ Lie w' a' z' ∧ WrA w.heap.size w' a' z'.length ∧ Below w.heap.size w w' := by
  obtain ⟨n4, a4, k4, c4, x4, code, lost, rfl, h4, h5, h6⟩ := h
  obtain ⟨rfl, z2, rfl, h7, F, l2, w2⟩ := h4.num hs hr
  obtain rfl := h5 rfl
  exact ⟨n4, z2, x4, a4, c4, rfl, F, h7, l2, w2, h4.bel⟩
theorem dcut_out {w w' : World} {s E : Int} {q : Bool} {e : Ending} (h : DCut w w' s E q e) (hs : (s.natAbs : Int) < 4294967296 ^ 4096) (h0 : s ≠ 0) {t : Nat} (ht : LowBit (s.natAbs : Int) t) (hr : E + t < -16777216 ∨ 16777216 < E + t) :
    e = .returned (.tuple #[noD, .bool false, .int .i64 20]) ∧ Below w.heap.size w w' := by
  obtain ⟨n4, a4, k4, c4, x4, code, lost, rfl, h4, h5, h6⟩ := h
  obtain ⟨rfl, rfl, rfl, rfl, rfl, rfl⟩ := h4.out hs h0 ht hr
  obtain rfl := h6 (by decide)
  exact ⟨rfl, h4.bel⟩
end Go.Proofs.YteejaghimppcgaaDoor

namespace Go.Proofs.YteejaghimppcgaaDoor
open Go.RowKit Go.Wd Go.Box
set_option linter.unusedVariables false
set_option maxRecDepth 3000
theorem WrA.weak {B C : Nat} {w : World} {a : Option Addr} {n : Nat} (h : WrA C w a n) (hB : B ≤ C) : WrA B w a n := by
  rcases h with h | ⟨g, cur, h1, h2, h3, h4⟩
  · exact .inl h
  · exact .inr ⟨g, cur, h1, by omega, h3, h4⟩
theorem noWr (B : Nat) (w : World) : WrA B w none ([] : List Int).length := .inl rfl
end Go.Proofs.YteejaghimppcgaaDoor

namespace Go.Drawn
open Go
section
variable {P : Program} {ops : Array Oper} {Q : Exit → Act → World → Prop} {md : Region.Mode} {I : World → Prop}
/-- Three operations are ready. -/
theorem trio {i j k : Nat} {oi oj ok : Oper} {n : Nat} {listed : Array Bool} {a : Act} {w : World} (hr : Region.ready md ops listed = [i, j, k]) (hi : ops[i]? = some oi) (hj : ops[j]? = some oj) (hk : ops[k]? = some ok)
    (h1 : ∀ K : Act → World → Prop, (∀ a w, I w → wpIn P md ops Q I n (listed.setIfInBounds i true) a w → K a w) → if Region.wanted oi (yielded ops a.tmps) = true then Oper.wp P oi a w K Q else K (a.put oi.dst undef) w)
    (h2 : ∀ K : Act → World → Prop, (∀ a w, I w → wpIn P md ops Q I n (listed.setIfInBounds j true) a w → K a w) → if Region.wanted oj (yielded ops a.tmps) = true then Oper.wp P oj a w K Q else K (a.put oj.dst undef) w)
    (h3 : ∀ K : Act → World → Prop, (∀ a w, I w → wpIn P md ops Q I n (listed.setIfInBounds k true) a w → K a w) → if Region.wanted ok (yielded ops a.tmps) = true then Oper.wp P ok a w K Q else K (a.put ok.dst undef) w) :
    wpIn P md ops Q I (n + 1) listed a w := by
  refine ⟨fun h0 => absurd (hr.symm.trans h0) (by simp), fun m hm => ?_⟩
  rw [hr] at hm
  rcases List.mem_cons.1 hm with rfl | hm
  · exact wpOp_step hi (fun K hK => h1 K fun a w k1 k2 => hK a w ⟨k1, k2⟩)
  · rcases List.mem_cons.1 hm with rfl | hm
    · exact wpOp_step hj (fun K hK => h2 K fun a w k1 k2 => hK a w ⟨k1, k2⟩)
    · obtain rfl := List.mem_singleton.1 hm
      exact wpOp_step hk (fun K hK => h3 K fun a w k1 k2 => hK a w ⟨k1, k2⟩)
end
end Go.Drawn
namespace Go.Box
open Go
theorem Bx.grown {w W : World} {L : List (Nat × Obj)} (h : Bx w L W) (o : Obj) : Bx w L (W.alloc o) := (h.push o).tail
end Go.Box
namespace Go.Proofs.YteejaghimppcgaaDoor
open Go.RowKit Go.Wd Go.Box
set_option linter.unusedVariables false
set_option maxRecDepth 3000
/-- What is the same whatever the order was is shown once. -/
theorem suppose7 {F G : Nat → Nat → World → Option Addr → Nat → Option Addr → Nat → Prop} {T : Prop} (h : (∀ a b c d e f g, F a b c d e f g → G a b c d e f g) → T) (k : ∀ a b c d e f g, F a b c d e f g → G a b c d e f g) : T := h k
theorem lie_set3 {W : World} {g : Nat} {a : Option Addr} {zs : List Int} (hg : W.heap[g]? = some (DO false none 0 0 0)) (v0 v1 v2 : Value) (l : Lie W a zs) :
    Lie (((W.setCell ⟨g, 0, none⟩ v0).setCell ⟨g, 1, none⟩ v1).setCell ⟨g, 2, none⟩ v2) a zs :=
  (Live.set3 (g := g) ⟨hg, rfl⟩ v0 v1 v2 (Live.one l)).all (a, zs) (.head _)
theorem mark2 (B : Nat) (w : World) (n0 : Bool) (a0 : Option Addr) (c0 : Nat) (z0 : List Int) (x0 : Int) (r0 : WrA B w a0 z0.length) (h0 : z0.length ≤ 1000000) (n1 : Bool) (a1 : Option Addr) (c1 : Nat) (z1 : List Int) (x1 : Int) (r1 : WrA B w a1 z1.length) (h1 : z1.length ≤ 1000000) :
    Calls Tryd.prog 33 #[.slice (some ⟨w.heap.size, 0, none⟩) 2 2] (w.alloc (.cells #[.bool n0, .slice a0 z0.length c0, .int .i64 x0, .bool n1, .slice a1 z1.length c1, .int .i64 x1] 36)) fun e w' => e = .returned (.tuple #[]) ∧ Below B (w.alloc (.cells #[.bool n0, .slice a0 z0.length c0, .int .i64 x0, .bool n1, .slice a1 z1.length c1, .int .i64 x1] 36)) w' := by
  have bm := below_alloc w (.cells #[.bool n0, .slice a0 z0.length c0, .int .i64 x0, .bool n1, .slice a1 z1.length c1, .int .i64 x1] 36)
  refine dmark42 B w.heap.size #[.bool n0, .slice a0 z0.length c0, .int .i64 x0, .bool n1, .slice a1 z1.length c1, .int .i64 x1] [⟨n0, a0, c0, z0, x0⟩, ⟨n1, a1, c1, z1, x1⟩] _ ⟨Below.refl _ _, heap_alloc_new _ _, ?_⟩ ?_ (by simp) ?_
  · intro i x hx
    match i, hx with
    | 0, hx => cases hx; exact r0.below (C := 0) bm
    | 1, hx => cases hx; exact r1.below (C := 0) bm
  · intro i x hx
    match i, hx with
    | 0, hx => cases hx; rfl
    | 1, hx => cases hx; rfl
  · intro i x hx
    match i, hx with
    | 0, hx => cases hx; exact h0
    | 1, hx => cases hx; exact h1
theorem refRoot_nil (a : Option Addr) (ca : Nat) (w : World) : Calls Tryd.prog 96 #[.slice a 0 ca] w fun e w' => e = .returned (.tuple #[.slice none 0 0, .bool true]) ∧ Below w.heap.size w w' := by
  have C1 := Hide.mk (refLenK a ca [] w (.inl rfl) ⟨Nt.can_nil, by simp, rfl⟩ (B := 0) (.inl ⟨Nt.val_nil, rfl⟩))
  go_enter Tryd.func96, Tryd.ntmps96
  go_wp2_with fail
  refine C1.out.mono ?_
  rintro e w' ⟨rfl, h⟩
  clear C1
  go_wp2
  go_loopw [4, 5, 7] (fun rv sv iv wr => rv = .slice none 0 0 ∧ sv = .slice none 0 0 ∧ iv = .int .i64 (-2) ∧ Below w.heap.size w wr) (fun _ _ _ _ => 0)
  case atStart => exact ⟨rfl, rfl, rfl, h⟩
  case round =>
    obtain ⟨rfl, rfl, rfl, hb⟩ := hrel
    go_wp2
    go_ret2
    exact ⟨rfl, hb⟩
theorem rRootZ (a : Option Addr) (c : Nat) (bits : Int) (hb1 : 1 ≤ bits) (hb2 : bits ≤ 8192) (w : World) :
    Calls Tryd.prog 52 #[dV false a 0 c 0, .int .i64 bits] w fun e w' => e = .returned (.tuple #[noD, .bool false]) ∧ Below w.heap.size w w' := by
  have B1 := ((Bx.nil w).push (DO false a 0 c 0)).push (DO false none 0 0 0)
  rw [show (w.alloc (DO false a 0 c 0)).heap.size = w.heap.size + 1 by simp] at B1
  have HL := fun W => Hide.mk (refLenK a c [] W (.inl rfl) ⟨Nt.can_nil, by simp, rfl⟩ (B := 0) (.inl ⟨Nt.val_nil, rfl⟩))
  obtain ⟨n, hn⟩ : ∃ n : Nat, 2 * bits + 2 = (n : Int) := ⟨(2 * bits + 2).toNat, by omega⟩
  have hpar : (-(2 * bits + 2)).tmod 2 = 0 := by rw [show -(2 * bits + 2) = 2 * (-bits - 1) by omega, Int.mul_tmod_right]
  have HU := fun W n => Hide.mk (refUp_nil a c W n)
  have HQ := fun A cA W => Hide.mk (refRoot_nil A cA W)
  have HN := Hide.mk hn
  clear hn
  go_enter Tryd.func52, Tryd.ntmps52
  go_wp2_with fail
  refine (HL _).out.mono ?_
  rintro e w3 ⟨rfl, h3⟩
  have HF := B1.keep h3
  clear h3 HL B1
  obtain ⟨⟨s0, s1, s2⟩, _⟩ := cells3 HF w.heap.size _ _ _ _ (.tail _ (.head _))
  go_wp2_with fail
  refine (HU _ _).out.mono ?_
  rintro e w4 ⟨rfl, rfl⟩
  clear HU
  go_wp2_with fail
  refine (HQ _ _ _).out.mono ?_
  rintro e w5 ⟨rfl, h5⟩
  replace HF := HF.keep h5
  clear HQ h5 s0 s1 s2
  obtain ⟨⟨s0, s1, s2⟩, _⟩ := cells3 HF w.heap.size _ _ _ _ (.tail _ (.head _))
  go_wp2_with fail
  refine (formZ _ _ _ _ _).mono ?_
  rintro e w6 ⟨rfl, h6⟩
  replace HF := HF.keep h6
  clear h6 s0 s1 s2
  go_wp2_with fail
  refine (rCut0X false none 0 [] 0 bits _ (.inl rfl) ⟨Nt.can_nil, by simp, rfl⟩ hb1 hb2 (B := 0) (.inl ⟨Nt.val_nil, rfl⟩) (by omega)).mono ?_
  rintro e w9 ⟨rfl, h9⟩
  replace HF := HF.keep h9
  clear h9
  have HFr := HF.sub (L' := [(w.heap.size + 1, DO false none 0 0 0)]) (by simp)
  have hlt9 : w.heap.size + 1 < w9.heap.size := HF.lt (p := (w.heap.size + 1, DO false none 0 0 0)) (by simp)
  obtain ⟨⟨t0, t1, t2⟩, u0, u1, u2⟩ := cells3 HFr (w.heap.size + 1) _ _ _ _ (.head _)
  go_wp2
  refine bodyPost_ret (results_D2 rfl _ _ (w.heap.size + 1) _ rfl ⟨((HFr.fill3 (by omega) (by simp) _ _ _).push _).tail.head, rfl⟩) rfl ?_
  exact ⟨rfl, ((HFr.fill3 (by omega) (by simp) _ _ _).push _).bel⟩
theorem rQuoZ (n1 n2 : Bool) (a1 a2 : Option Addr) (c1 c2 k2 : Nat) (e1 e2 bits : Int) (w : World) :
    Calls Tryd.prog 53 #[dV n1 a1 0 c1 e1, dV n2 a2 k2 c2 e2, .int .i64 bits] w fun e w' => e = .returned (.tuple #[noD, .bool false]) ∧ Below w.heap.size w w' := by
  have B1 := ((((Bx.nil w).push (DO n1 a1 0 c1 e1)).push (DO n2 a2 k2 c2 e2)).push (DO false none 0 0 0))
  rw [show ((w.alloc (DO n1 a1 0 c1 e1)).alloc (DO n2 a2 k2 c2 e2)).heap.size = w.heap.size + 1 + 1 by simp, show (w.alloc (DO n1 a1 0 c1 e1)).heap.size = w.heap.size + 1 by simp] at B1
  go_enter Tryd.func53, Tryd.ntmps53
  go_wp2
  refine bodyPost_ret (results_D2 rfl _ _ (w.heap.size + 1 + 1) _ rfl ⟨by simpa using B1.head, rfl⟩) rfl ?_
  exact ⟨rfl, B1.bel⟩
theorem root_lessN (n : Bool) (hn : n = true) (a : Option Addr) (c : Nat) (zs : List Int) (ex bits : Int) (w : World) (l : Lie w a zs) (g : DG n zs ex) (hb1 : 1 ≤ bits) (hb2 : bits ≤ 8192) :
    Calls Tryd.prog 51 #[dV n a zs.length c ex, .int .i64 bits] w fun e w' => e = .returned (.tuple #[noD, .bool false, .int .i64 10]) ∧ Below w.heap.size w w' := by
  subst hn; exact root_less a c zs ex bits w l g hb1 hb2
theorem root_nilN (n : Bool) (a : Option Addr) (c : Nat) (zs : List Int) (ex bits : Int) (w : World) (l : Lie w a zs) (g : DG n zs ex) (hb1 : 1 ≤ bits) (hb2 : bits ≤ 8192) (hz : zs.length ≤ 0) :
    Calls Tryd.prog 51 #[dV n a zs.length c ex, .int .i64 bits] w fun e w' => e = .returned (.tuple #[noD, .bool false, .int .i64 0]) ∧ Below w.heap.size w w' := by
  obtain ⟨rfl, rfl, rfl⟩ := g.nil (by omega)
  exact root_nil a c [] 0 bits w l g hb1 hb2 hz
theorem rootTN (n : Bool) (hn : n = false) (a : Option Addr) (c : Nat) (zs : List Int) (ex : Int) (w : World) (l : Lie w a zs) (g : DG n zs ex) (hT : Tab w) (bits : Int) (b : Nat) (hbb : bits = (b : Int)) (hb1 : 1 ≤ bits) (hb2 : bits ≤ 8192) (hz : 0 < zs.length) {i r : Int} {more : Bool} (hR : RAt (Nt.val zs) ex b i r more) :
    Calls Tryd.prog 51 #[dV n a zs.length c ex, .int .i64 bits] w fun e w' => DCut w w' (sv false r) (-i) more e := by
  subst hn; exact rootT a c zs ex w l g hT bits b hbb hb1 hb2 hz hR
theorem rRootTN (n : Bool) (hn : n = false) (a : Option Addr) (c : Nat) (zs : List Int) (ex : Int) (w : World) (l : Lie w a zs) (g : DG n zs ex) (bits : Int) (b : Nat) (hbb : bits = (b : Int)) (hb1 : 1 ≤ bits) (hb2 : bits ≤ 8192) (hz : 0 < zs.length) {i r : Int} {more : Bool} (hR : RAt (Nt.val zs) ex b i r more) :
    Calls Tryd.prog 52 #[dV false a zs.length c ex, .int .i64 bits] w fun e w' => RCut w w' (sv false r) (-i) more e := by
  subst hn; exact rRootT a c zs ex w l g bits b hbb hb1 hb2 hz hR
theorem rRootZN (n : Bool) (a : Option Addr) (c : Nat) (zs : List Int) (ex bits : Int) (w : World) (g : DG n zs ex) (hb1 : 1 ≤ bits) (hb2 : bits ≤ 8192) (hz : zs.length ≤ 0) :
    Calls Tryd.prog 52 #[dV false a zs.length c ex, .int .i64 bits] w fun e w' => e = .returned (.tuple #[noD, .bool false]) ∧ Below w.heap.size w w' := by
  obtain ⟨rfl, rfl, rfl⟩ := g.nil (by omega)
  exact rRootZ a c bits hb1 hb2 w
theorem rQuoZN (n1 n2 : Bool) (a1 a2 : Option Addr) (c1 c2 k2 : Nat) (z1 : List Int) (e1 e2 bits : Int) (w : World) (hz : z1.length ≤ 0) :
    Calls Tryd.prog 53 #[dV n1 a1 z1.length c1 e1, dV n2 a2 k2 c2 e2, .int .i64 bits] w fun e w' => e = .returned (.tuple #[noD, .bool false]) ∧ Below w.heap.size w w' := by
  obtain rfl : z1 = [] := List.length_eq_zero_iff.1 (by omega)
  exact rQuoZ n1 n2 a1 a2 c1 c2 k2 e1 e2 bits w
end Go.Proofs.YteejaghimppcgaaDoor
