import Derived.Test.YteejaghimppcgaaDoorM10
namespace Go.Proofs.YteejaghimppcgaaDoor
open Go.RowKit
set_option linter.unusedVariables false
set_option maxRecDepth 3000
theorem DRes.toK {w w' : World} {s E : Int} {e : Ending} (h : DRes w w' s E e) (hE : -(KK : Int) ≤ E) : DRes w w' (s * pK E) (-(KK : Int)) e := by
  obtain ⟨ng, a, n, c, ex, code, h1, h2⟩ := h
  refine ⟨ng, a, n, c, ex, code, h1, ?_⟩
  have e : E = -(KK : Int) + ((E + KK).toNat : Nat) := by omega
  rw [e] at h2
  exact h2.scale
theorem DRes.back {w0 w w' : World} {s E : Int} {ng : Bool} {a : Option Addr} {n c : Nat} {ex code : Int} (h : DV w w' s E ng a n c ex code) (hb : Below w0.heap.size w0 w) {g : Nat} (hg : w0.heap.size ≤ g) (hg' : g < w.heap.size) (u0 u1 u2 : Value) :
    DRes w0 (((w'.setCell ⟨g, 0, none⟩ u0).setCell ⟨g, 1, none⟩ u1).setCell ⟨g, 2, none⟩ u2) s E (.returned (.tuple #[dV ng a n c ex, .int .i64 code])) := ⟨ng, a, n, c, ex, code, rfl, h.back hb hg hg' u0 u1 u2⟩
theorem pK_step {e1 e2 : Int} {k : Nat} (h : e1 - e2 - 1 = (k : Int)) (h2 : -(KK : Int) ≤ e2) : pK e1 = pK e2 * 2 ^ (k + 1) := by
  rw [show e1 = e2 + ((k + 1 : Nat) : Int) by omega, pK_add h2]

set_option maxHeartbeats 2000000 in
theorem sum_a (n1 n2 : Bool) (a1 a2 : Option Addr) (c1 c2 : Nat) (z1 z2 : List Int) (e1 e2 : Int) (w : World) (h1 : Lie w a1 z1) (h2 : Lie w a2 z2) (g1 : Good z1 (Nt.val z1)) (g2 : Good z2 (Nt.val z2)) (x1 : -16777216 ≤ e1) (y1 : e1 ≤ 16777216) (x2 : -16777216 ≤ e2) (y2 : e2 ≤ 16777216) (hT : Tab w) (p1 : z1.length ≤ 0) :
    Calls Tryd.prog 77 #[dV n1 a1 z1.length c1 e1, dV n2 a2 z2.length c2 e2] w fun e w' => DRes w w' (sv n1 (Nt.val z1) * pK e1 + sv n2 (Nt.val z2) * pK e2) (-(KK : Int)) e := by
  obtain ⟨d1, d2, d3, hs3⟩ := dcell3 w #[.bool n1, .slice a1 z1.length c1, .int .i64 e1] #[.bool n2, .slice a2 z2.length c2, .int .i64 e2] #[.bool false, .slice none 0 0, .int .i64 0] rfl rfl rfl
  have hb3 := below3 w (.cells #[.bool n1, .slice a1 z1.length c1, .int .i64 e1] 36) (.cells #[.bool n2, .slice a2 z2.length c2, .int .i64 e2] 36) (.cells #[.bool false, .slice none 0 0, .int .i64 0] 36)
  go_enter Tryd.func77, Tryd.ntmps77
  go_wp2_with fail
  generalize hw3 : ((w.alloc (.cells #[.bool n1, .slice a1 z1.length c1, .int .i64 e1] 36)).alloc (.cells #[.bool n2, .slice a2 z2.length c2, .int .i64 e2] 36)).alloc (.cells #[.bool false, .slice none 0 0, .int .i64 0] 36) = w3 at *
  clear hw3
  have q10 := d1.c0
  have q11 := d1.c1
  have q12 := d1.c2
  have q20 := d2.c0
  have q21 := d2.c1
  have q22 := d2.c2
  have l1 := h1.below hb3 (Nat.le_refl _)
  have l2 := h2.below hb3 (Nat.le_refl _)
  have t3 := hT.below hb3 (Nat.le_refl _)
  have hsz : w.heap.size + 1 + 1 < w3.heap.size := by omega
  have hK := KK_int
  refine (nought_yes a1 _ c1 _ p1).mono ?_
  rintro e w' ⟨rfl, rfl⟩
  go_wp2_with fail
  refine (formedR n2 a2 c2 z2 e2 _ l2 g2 t3 (by omega) (by omega)).mono ?_
  rintro e w9 ⟨ng, aa, n, c, xx, code, rfl, hv⟩
  replace d3 := d3.below hv.bel hsz
  have HV := Hide.mk hv
  clear hv
  have f0 := d3.c0
  have f1 := d3.c1
  have f2 := d3.c2
  have r0 := d3.fr 0
  have r1 := d3.fr 1
  have r2 := d3.fr 2
  go_wp2
  refine bodyPost_ret (results_D2 rfl _ _ (w.heap.size + 1 + 1) _ rfl (((d3.set 0 _).set 1 _).set 2 _)) rfl ?_
  have e0 : (sv n1 (Nt.val z1) * pK e1 + sv n2 (Nt.val z2) * pK e2) = sv n2 (Nt.val z2) * pK e2 := by rw [(sv_zero n1).2 (g1.nil (by omega)).2]; omega
  rw [e0]
  exact DRes.toK (DRes.back HV.out hb3 (by omega) hsz _ _ _) (by omega)
set_option maxHeartbeats 2000000 in
theorem sum_b (n1 n2 : Bool) (a1 a2 : Option Addr) (c1 c2 : Nat) (z1 z2 : List Int) (e1 e2 : Int) (w : World) (h1 : Lie w a1 z1) (h2 : Lie w a2 z2) (g1 : Good z1 (Nt.val z1)) (g2 : Good z2 (Nt.val z2)) (x1 : -16777216 ≤ e1) (y1 : e1 ≤ 16777216) (x2 : -16777216 ≤ e2) (y2 : e2 ≤ 16777216) (hT : Tab w) (p1 : 0 < z1.length) (p2 : z2.length ≤ 0) :
    Calls Tryd.prog 77 #[dV n1 a1 z1.length c1 e1, dV n2 a2 z2.length c2 e2] w fun e w' => DRes w w' (sv n1 (Nt.val z1) * pK e1 + sv n2 (Nt.val z2) * pK e2) (-(KK : Int)) e := by
  obtain ⟨d1, d2, d3, hs3⟩ := dcell3 w #[.bool n1, .slice a1 z1.length c1, .int .i64 e1] #[.bool n2, .slice a2 z2.length c2, .int .i64 e2] #[.bool false, .slice none 0 0, .int .i64 0] rfl rfl rfl
  have hb3 := below3 w (.cells #[.bool n1, .slice a1 z1.length c1, .int .i64 e1] 36) (.cells #[.bool n2, .slice a2 z2.length c2, .int .i64 e2] 36) (.cells #[.bool false, .slice none 0 0, .int .i64 0] 36)
  go_enter Tryd.func77, Tryd.ntmps77
  go_wp2_with fail
  generalize hw3 : ((w.alloc (.cells #[.bool n1, .slice a1 z1.length c1, .int .i64 e1] 36)).alloc (.cells #[.bool n2, .slice a2 z2.length c2, .int .i64 e2] 36)).alloc (.cells #[.bool false, .slice none 0 0, .int .i64 0] 36) = w3 at *
  clear hw3
  have q10 := d1.c0
  have q11 := d1.c1
  have q12 := d1.c2
  have q20 := d2.c0
  have q21 := d2.c1
  have q22 := d2.c2
  have l1 := h1.below hb3 (Nat.le_refl _)
  have l2 := h2.below hb3 (Nat.le_refl _)
  have t3 := hT.below hb3 (Nat.le_refl _)
  have hsz : w.heap.size + 1 + 1 < w3.heap.size := by omega
  have hK := KK_int
  refine (nought_no a1 _ c1 _ p1).mono ?_
  rintro e w' ⟨rfl, rfl⟩
  go_wp2_with fail
  refine (nought_yes a2 _ c2 _ p2).mono ?_
  rintro e w' ⟨rfl, rfl⟩
  go_wp2_with fail
  refine (formedR n1 a1 c1 z1 e1 _ l1 g1 t3 (by omega) (by omega)).mono ?_
  rintro e w9 ⟨ng, aa, n, c, xx, code, rfl, hv⟩
  replace d3 := d3.below hv.bel hsz
  have HV := Hide.mk hv
  clear hv
  have f0 := d3.c0
  have f1 := d3.c1
  have f2 := d3.c2
  have r0 := d3.fr 0
  have r1 := d3.fr 1
  have r2 := d3.fr 2
  go_wp2
  refine bodyPost_ret (results_D2 rfl _ _ (w.heap.size + 1 + 1) _ rfl (((d3.set 0 _).set 1 _).set 2 _)) rfl ?_
  have e0 : (sv n1 (Nt.val z1) * pK e1 + sv n2 (Nt.val z2) * pK e2) = sv n1 (Nt.val z1) * pK e1 := by rw [(sv_zero n2).2 (g2.nil (by omega)).2]; omega
  rw [e0]
  exact DRes.toK (DRes.back HV.out hb3 (by omega) hsz _ _ _) (by omega)
set_option maxHeartbeats 2000000 in
theorem sum_level (n1 n2 : Bool) (a1 a2 : Option Addr) (c1 c2 : Nat) (z1 z2 : List Int) (e1 e2 : Int) (w : World) (h1 : Lie w a1 z1) (h2 : Lie w a2 z2) (g1 : Good z1 (Nt.val z1)) (g2 : Good z2 (Nt.val z2)) (x1 : -16777216 ≤ e1) (y1 : e1 ≤ 16777216) (x2 : -16777216 ≤ e2) (y2 : e2 ≤ 16777216) (hT : Tab w) (p1 : 0 < z1.length) (p2 : 0 < z2.length) (o1 : Nt.val z1 % 2 = 1) (o2 : Nt.val z2 % 2 = 1) (he : (e1 == e2) = true) :
    Calls Tryd.prog 77 #[dV n1 a1 z1.length c1 e1, dV n2 a2 z2.length c2 e2] w fun e w' => DRes w w' (sv n1 (Nt.val z1) * pK e1 + sv n2 (Nt.val z2) * pK e2) (-(KK : Int)) e := by
  obtain rfl : e1 = e2 := by simpa using he
  obtain ⟨d1, d2, d3, hs3⟩ := dcell3 w #[.bool n1, .slice a1 z1.length c1, .int .i64 e1] #[.bool n2, .slice a2 z2.length c2, .int .i64 e1] #[.bool false, .slice none 0 0, .int .i64 0] rfl rfl rfl
  have hb3 := below3 w (.cells #[.bool n1, .slice a1 z1.length c1, .int .i64 e1] 36) (.cells #[.bool n2, .slice a2 z2.length c2, .int .i64 e1] 36) (.cells #[.bool false, .slice none 0 0, .int .i64 0] 36)
  go_enter Tryd.func77, Tryd.ntmps77
  go_wp2_with fail
  generalize hw3 : ((w.alloc (.cells #[.bool n1, .slice a1 z1.length c1, .int .i64 e1] 36)).alloc (.cells #[.bool n2, .slice a2 z2.length c2, .int .i64 e1] 36)).alloc (.cells #[.bool false, .slice none 0 0, .int .i64 0] 36) = w3 at *
  clear hw3
  have q10 := d1.c0
  have q11 := d1.c1
  have q12 := d1.c2
  have q20 := d2.c0
  have q21 := d2.c1
  have q22 := d2.c2
  have l1 := h1.below hb3 (Nat.le_refl _)
  have l2 := h2.below hb3 (Nat.le_refl _)
  have t3 := hT.below hb3 (Nat.le_refl _)
  have hsz : w.heap.size + 1 + 1 < w3.heap.size := by omega
  have hK := KK_int
  refine (nought_no a1 _ c1 _ p1).mono ?_
  rintro e w' ⟨rfl, rfl⟩
  go_wp2_with fail
  refine (nought_no a2 _ c2 _ p2).mono ?_
  rintro e w' ⟨rfl, rfl⟩
  go_wp2_with fail
  refine (level127 n1 n2 a1 a2 c1 c2 z1 z2 e1 _ l1 l2 g1 g2 o1 o2 x1 y1 t3).mono ?_
  rintro e w9 ⟨ng, aa, n, c, xx, code, rfl, hv⟩
  replace d3 := d3.below hv.bel hsz
  have HV := Hide.mk hv
  clear hv
  have f0 := d3.c0
  have f1 := d3.c1
  have f2 := d3.c2
  have r0 := d3.fr 0
  have r1 := d3.fr 1
  have r2 := d3.fr 2
  go_wp2
  refine bodyPost_ret (results_D2 rfl _ _ (w.heap.size + 1 + 1) _ rfl (((d3.set 0 _).set 1 _).set 2 _)) rfl ?_
  have e0 : (sv n1 (Nt.val z1) * pK e1 + sv n2 (Nt.val z2) * pK e1) = (sv n1 (Nt.val z1) + sv n2 (Nt.val z2)) * pK e1 := by rw [Int.add_mul]
  rw [e0]
  exact DRes.toK (DRes.back HV.out hb3 (by omega) hsz _ _ _) (by omega)
set_option maxHeartbeats 2000000 in
theorem sum_lt (n1 n2 : Bool) (a1 a2 : Option Addr) (c1 c2 : Nat) (z1 z2 : List Int) (e1 e2 : Int) (w : World) (h1 : Lie w a1 z1) (h2 : Lie w a2 z2) (g1 : Good z1 (Nt.val z1)) (g2 : Good z2 (Nt.val z2)) (x1 : -16777216 ≤ e1) (y1 : e1 ≤ 16777216) (x2 : -16777216 ≤ e2) (y2 : e2 ≤ 16777216) (hT : Tab w) (p1 : 0 < z1.length) (p2 : 0 < z2.length) (o1 : Nt.val z1 % 2 = 1) (o2 : Nt.val z2 % 2 = 1) (he : (e1 == e2) = false) (hl : e1 < e2) (k : Nat) (hk : e2 - e1 - 1 = (k : Int)) :
    Calls Tryd.prog 77 #[dV n1 a1 z1.length c1 e1, dV n2 a2 z2.length c2 e2] w fun e w' => DRes w w' (sv n1 (Nt.val z1) * pK e1 + sv n2 (Nt.val z2) * pK e2) (-(KK : Int)) e := by
  obtain ⟨d1, d2, d3, hs3⟩ := dcell3 w #[.bool n1, .slice a1 z1.length c1, .int .i64 e1] #[.bool n2, .slice a2 z2.length c2, .int .i64 e2] #[.bool false, .slice none 0 0, .int .i64 0] rfl rfl rfl
  have hb3 := below3 w (.cells #[.bool n1, .slice a1 z1.length c1, .int .i64 e1] 36) (.cells #[.bool n2, .slice a2 z2.length c2, .int .i64 e2] 36) (.cells #[.bool false, .slice none 0 0, .int .i64 0] 36)
  go_enter Tryd.func77, Tryd.ntmps77
  go_wp2_with fail
  generalize hw3 : ((w.alloc (.cells #[.bool n1, .slice a1 z1.length c1, .int .i64 e1] 36)).alloc (.cells #[.bool n2, .slice a2 z2.length c2, .int .i64 e2] 36)).alloc (.cells #[.bool false, .slice none 0 0, .int .i64 0] 36) = w3 at *
  clear hw3
  have q10 := d1.c0
  have q11 := d1.c1
  have q12 := d1.c2
  have q20 := d2.c0
  have q21 := d2.c1
  have q22 := d2.c2
  have l1 := h1.below hb3 (Nat.le_refl _)
  have l2 := h2.below hb3 (Nat.le_refl _)
  have t3 := hT.below hb3 (Nat.le_refl _)
  have hsz : w.heap.size + 1 + 1 < w3.heap.size := by omega
  have hK := KK_int
  refine (nought_no a1 _ c1 _ p1).mono ?_
  rintro e w' ⟨rfl, rfl⟩
  go_wp2_with fail
  refine (nought_no a2 _ c2 _ p2).mono ?_
  rintro e w' ⟨rfl, rfl⟩
  go_wp2_with fail
  refine (step128 n2 n1 a2 a1 c2 c1 z2 z1 e2 e1 k _ l2 l1 g2 g1 o1 x1 y2 hk t3).mono ?_
  rintro e w9 ⟨ng, aa, n, c, xx, code, rfl, hv⟩
  replace d3 := d3.below hv.bel hsz
  have HV := Hide.mk hv
  clear hv
  have f0 := d3.c0
  have f1 := d3.c1
  have f2 := d3.c2
  have r0 := d3.fr 0
  have r1 := d3.fr 1
  have r2 := d3.fr 2
  go_wp2
  refine bodyPost_ret (results_D2 rfl _ _ (w.heap.size + 1 + 1) _ rfl (((d3.set 0 _).set 1 _).set 2 _)) rfl ?_
  have e0 : (sv n1 (Nt.val z1) * pK e1 + sv n2 (Nt.val z2) * pK e2) = (sv n2 (Nt.val z2) * 2 ^ (k + 1) + sv n1 (Nt.val z1)) * pK e1 := by rw [pK_step hk (by omega), Int.add_mul, Int.add_comm, Int.mul_right_comm, Int.mul_assoc]
  rw [e0]
  exact DRes.toK (DRes.back HV.out hb3 (by omega) hsz _ _ _) (by omega)
set_option maxHeartbeats 2000000 in
theorem sum_gt (n1 n2 : Bool) (a1 a2 : Option Addr) (c1 c2 : Nat) (z1 z2 : List Int) (e1 e2 : Int) (w : World) (h1 : Lie w a1 z1) (h2 : Lie w a2 z2) (g1 : Good z1 (Nt.val z1)) (g2 : Good z2 (Nt.val z2)) (x1 : -16777216 ≤ e1) (y1 : e1 ≤ 16777216) (x2 : -16777216 ≤ e2) (y2 : e2 ≤ 16777216) (hT : Tab w) (p1 : 0 < z1.length) (p2 : 0 < z2.length) (o1 : Nt.val z1 % 2 = 1) (o2 : Nt.val z2 % 2 = 1) (he : (e1 == e2) = false) (hl : e2 < e1) (k : Nat) (hk : e1 - e2 - 1 = (k : Int)) :
    Calls Tryd.prog 77 #[dV n1 a1 z1.length c1 e1, dV n2 a2 z2.length c2 e2] w fun e w' => DRes w w' (sv n1 (Nt.val z1) * pK e1 + sv n2 (Nt.val z2) * pK e2) (-(KK : Int)) e := by
  obtain ⟨d1, d2, d3, hs3⟩ := dcell3 w #[.bool n1, .slice a1 z1.length c1, .int .i64 e1] #[.bool n2, .slice a2 z2.length c2, .int .i64 e2] #[.bool false, .slice none 0 0, .int .i64 0] rfl rfl rfl
  have hb3 := below3 w (.cells #[.bool n1, .slice a1 z1.length c1, .int .i64 e1] 36) (.cells #[.bool n2, .slice a2 z2.length c2, .int .i64 e2] 36) (.cells #[.bool false, .slice none 0 0, .int .i64 0] 36)
  go_enter Tryd.func77, Tryd.ntmps77
  go_wp2_with fail
  generalize hw3 : ((w.alloc (.cells #[.bool n1, .slice a1 z1.length c1, .int .i64 e1] 36)).alloc (.cells #[.bool n2, .slice a2 z2.length c2, .int .i64 e2] 36)).alloc (.cells #[.bool false, .slice none 0 0, .int .i64 0] 36) = w3 at *
  clear hw3
  have q10 := d1.c0
  have q11 := d1.c1
  have q12 := d1.c2
  have q20 := d2.c0
  have q21 := d2.c1
  have q22 := d2.c2
  have l1 := h1.below hb3 (Nat.le_refl _)
  have l2 := h2.below hb3 (Nat.le_refl _)
  have t3 := hT.below hb3 (Nat.le_refl _)
  have hsz : w.heap.size + 1 + 1 < w3.heap.size := by omega
  have hK := KK_int
  refine (nought_no a1 _ c1 _ p1).mono ?_
  rintro e w' ⟨rfl, rfl⟩
  go_wp2_with fail
  refine (nought_no a2 _ c2 _ p2).mono ?_
  rintro e w' ⟨rfl, rfl⟩
  go_wp2_with fail
  refine (step128 n1 n2 a1 a2 c1 c2 z1 z2 e1 e2 k _ l1 l2 g1 g2 o2 x2 y1 hk t3).mono ?_
  rintro e w9 ⟨ng, aa, n, c, xx, code, rfl, hv⟩
  replace d3 := d3.below hv.bel hsz
  have HV := Hide.mk hv
  clear hv
  have f0 := d3.c0
  have f1 := d3.c1
  have f2 := d3.c2
  have r0 := d3.fr 0
  have r1 := d3.fr 1
  have r2 := d3.fr 2
  go_wp2
  refine bodyPost_ret (results_D2 rfl _ _ (w.heap.size + 1 + 1) _ rfl (((d3.set 0 _).set 1 _).set 2 _)) rfl ?_
  have e0 : (sv n1 (Nt.val z1) * pK e1 + sv n2 (Nt.val z2) * pK e2) = (sv n1 (Nt.val z1) * 2 ^ (k + 1) + sv n2 (Nt.val z2)) * pK e2 := by rw [pK_step hk (by omega), Int.add_mul, Int.mul_right_comm, Int.mul_assoc]
  rw [e0]
  exact DRes.toK (DRes.back HV.out hb3 (by omega) hsz _ _ _) (by omega)
theorem sum103 (n1 n2 : Bool) (a1 a2 : Option Addr) (c1 c2 : Nat) (z1 z2 : List Int) (e1 e2 : Int) (w : World) (h1 : Lie w a1 z1) (h2 : Lie w a2 z2) (g1 : Good z1 (Nt.val z1)) (g2 : Good z2 (Nt.val z2)) (x1 : -16777216 ≤ e1) (y1 : e1 ≤ 16777216) (x2 : -16777216 ≤ e2) (y2 : e2 ≤ 16777216) (hT : Tab w) (o1 : 0 < z1.length → Nt.val z1 % 2 = 1) (o2 : 0 < z2.length → Nt.val z2 % 2 = 1) :
    Calls Tryd.prog 77 #[dV n1 a1 z1.length c1 e1, dV n2 a2 z2.length c2 e2] w fun e w' => DRes w w' (sv n1 (Nt.val z1) * pK e1 + sv n2 (Nt.val z2) * pK e2) (-(KK : Int)) e := by
  by_cases p1 : 0 < z1.length
  · by_cases p2 : 0 < z2.length
    · by_cases he : e1 = e2
      · exact sum_level n1 n2 a1 a2 c1 c2 z1 z2 e1 e2 w h1 h2 g1 g2 x1 y1 x2 y2 hT p1 p2 (o1 p1) (o2 p2) (by simp [he])
      · by_cases hl : e1 < e2
        · exact sum_lt n1 n2 a1 a2 c1 c2 z1 z2 e1 e2 w h1 h2 g1 g2 x1 y1 x2 y2 hT p1 p2 (o1 p1) (o2 p2) (by simp [he]) hl (e2 - e1 - 1).toNat (by omega)
        · exact sum_gt n1 n2 a1 a2 c1 c2 z1 z2 e1 e2 w h1 h2 g1 g2 x1 y1 x2 y2 hT p1 p2 (o1 p1) (o2 p2) (by simp [he]) (by omega) (e1 - e2 - 1).toNat (by omega)
    · exact sum_b n1 n2 a1 a2 c1 c2 z1 z2 e1 e2 w h1 h2 g1 g2 x1 y1 x2 y2 hT p1 (by omega)
  · exact sum_a n1 n2 a1 a2 c1 c2 z1 z2 e1 e2 w h1 h2 g1 g2 x1 y1 x2 y2 hT (by omega)


theorem six (W : World) (g : Nat) (hg : W.heap.size = g) (v0 v1 v2 v3 v4 v5 : Value) : (W.alloc (.cells #[v0, v1, v2, v3, v4, v5] 36)).cell? ⟨g, 0, none⟩ = some v0 ∧ (W.alloc (.cells #[v0, v1, v2, v3, v4, v5] 36)).cell? ⟨g, 1, none⟩ = some v1 ∧ (W.alloc (.cells #[v0, v1, v2, v3, v4, v5] 36)).cell? ⟨g, 2, none⟩ = some v2 ∧
    (W.alloc (.cells #[v0, v1, v2, v3, v4, v5] 36)).cell? ⟨g, 3, none⟩ = some v3 ∧ (W.alloc (.cells #[v0, v1, v2, v3, v4, v5] 36)).cell? ⟨g, 4, none⟩ = some v4 ∧ (W.alloc (.cells #[v0, v1, v2, v3, v4, v5] 36)).cell? ⟨g, 5, none⟩ = some v5 := by
  subst hg
  have hn := heap_alloc_new W (.cells #[v0, v1, v2, v3, v4, v5] 36)
  exact ⟨cell_of_row _ _ 0 _ 36 (0, 0) hn, cell_of_row _ _ 1 _ 36 (0, 0) hn, cell_of_row _ _ 2 _ 36 (0, 0) hn, cell_of_row _ _ 3 _ 36 (0, 0) hn, cell_of_row _ _ 4 _ 36 (0, 0) hn, cell_of_row _ _ 5 _ 36 (0, 0) hn⟩
theorem DG.lie {ng : Bool} {zs : List Int} {ex : Int} (g : DG ng zs ex) {w : World} {a : Option Addr} (h : Lie w a zs) : DLie w a zs := ⟨h, by have := g.len; unfold maxLen; omega, g.can.1⟩

set_option maxHeartbeats 4000000 in
theorem dadd56 (n1 n2 : Bool) (a1 a2 : Option Addr) (c1 c2 : Nat) (z1 z2 : List Int) (e1 e2 : Int) (w : World) (h1 : Lie w a1 z1) (h2 : Lie w a2 z2) (g1 : DG n1 z1 e1) (g2 : DG n2 z2 e2) (hT : Tab w) :
    Calls Tryd.prog 35 #[dV n1 a1 z1.length c1 e1, dV n2 a2 z2.length c2 e2] w fun e w' => DRes w w' (dv n1 z1 e1 + dv n2 z2 e2) (-(KK : Int)) e := by
  have u1 := g1.lie h1
  have u2 := g2.lie h2
  have hK := KK_int
  have b1 := g1.ex_bd
  have b2 := g2.ex_bd
  have hq : (dmayB n1 z1 e1 && dmayB n2 z2 e2) = true := by rw [g1.may, g2.may]; rfl
  obtain ⟨d1, d2, d3, hs3⟩ := dcell3 w #[.bool n1, .slice a1 z1.length c1, .int .i64 e1] #[.bool n2, .slice a2 z2.length c2, .int .i64 e2] #[.bool false, .slice none 0 0, .int .i64 0] rfl rfl rfl
  have hb3 := below3 w (.cells #[.bool n1, .slice a1 z1.length c1, .int .i64 e1] 36) (.cells #[.bool n2, .slice a2 z2.length c2, .int .i64 e2] 36) (.cells #[.bool false, .slice none 0 0, .int .i64 0] 36)
  go_enter Tryd.func35, Tryd.ntmps35
  go_wp2_with fail
  generalize hw3 : ((w.alloc (.cells #[.bool n1, .slice a1 z1.length c1, .int .i64 e1] 36)).alloc (.cells #[.bool n2, .slice a2 z2.length c2, .int .i64 e2] 36)).alloc (.cells #[.bool false, .slice none 0 0, .int .i64 0] 36) = w3 at *
  clear hw3
  obtain ⟨k0, k1, k2, k3, k4, k5⟩ := six w3 (w.heap.size + 1 + 1 + 1) (by omega) (.bool n1) (.slice a1 z1.length c1) (.int .i64 e1) (.bool n2) (.slice a2 z2.length c2) (.int .i64 e2)
  have hb4 := below_alloc w3 (.cells #[.bool n1, .slice a1 z1.length c1, .int .i64 e1, .bool n2, .slice a2 z2.length c2, .int .i64 e2] 36)
  refine (dallMay2 (w.heap.size + 1 + 1 + 1) n1 a1 c1 z1 e1 n2 a2 c2 z2 e2 _ ((u1.below hb3).below hb4) ((u2.below hb3).below hb4) _ _ rfl rfl k0 k1 k2 k3 k4 k5).mono ?_
  rintro e w5 ⟨rfl, h5⟩
  clear k0 k1 k2 k3 k4 k5
  rw [hq]
  have hb5 := below_then hb4 h5
  clear hb4 h5
  have hb0 := below_then hb3 hb5
  have hsz : w.heap.size + 1 + 1 < w3.heap.size := by omega
  replace d1 := d1.below hb5 (by omega)
  replace d2 := d2.below hb5 (by omega)
  replace d3 := d3.below hb5 hsz
  have hsz5 := Nat.lt_of_lt_of_le hsz hb5.size
  have q10 := d1.c0
  have q11 := d1.c1
  have q12 := d1.c2
  have q20 := d2.c0
  have q21 := d2.c1
  have q22 := d2.c2
  clear hq u1 u2
  go_wp2_with fail
  refine (sum103 n1 n2 a1 a2 c1 c2 z1 z2 e1 e2 _ (h1.below hb0 (Nat.le_refl _)) (h2.below hb0 (Nat.le_refl _)) g1.good g2.good b1.1 b1.2 b2.1 b2.2 (hT.below hb0 (Nat.le_refl _)) g1.odd g2.odd).mono ?_
  rintro e w9 ⟨ng, aa, n, c, xx, code, rfl, hv⟩
  replace d3 := d3.below hv.bel hsz5
  have HV := Hide.mk hv
  clear hv q10 q11 q12 q20 q21 q22
  have f0 := d3.c0
  have f1 := d3.c1
  have f2 := d3.c2
  have r0 := d3.fr 0
  have r1 := d3.fr 1
  have r2 := d3.fr 2
  go_wp2
  refine bodyPost_ret (results_D2 rfl _ _ (w.heap.size + 1 + 1) _ rfl (((d3.set 0 _).set 1 _).set 2 _)) rfl ?_
  exact DRes.back HV.out hb0 (by omega) hsz5 _ _ _
theorem mul_longG (a b : Option Addr) (ca cb : Nat) (za zb : List Int) (w : World) {x y : Int} (ha : Lie w a za) (hb : Lie w b zb) (ga : Good za x) (gb : Good zb y) (hf : 4294967296 ^ 4096 ≤ x * y) :
    Calls Tryd.prog 78 #[.slice a za.length ca, .slice b zb.length cb] w fun e w' => e = .returned (.tuple #[.slice none 0 0, .int .i64 3]) ∧ Below w.heap.size w w' := by
  refine (mul26 a b ca cb za zb w ha hb ga.can.1 gb.can.1 ga.may gb.may).mono ?_
  rintro e w' ⟨zs, h1, h2, h3, h4⟩
  rw [ga.val, gb.val] at h2
  rcases h4 with ⟨h5, _⟩ | ⟨_, h5⟩
  · have := (Nt.can_len h1 4096).2 h5
    omega
  · exact ⟨h5, h3⟩
theorem DV.scale2 {w w' : World} {s E E' : Int} {ng : Bool} {a : Option Addr} {n c : Nat} {ex code : Int} (k : Nat) (h : DV w w' s E ng a n c ex code) (hE : E = E' + k) : DV w w' (s * 2 ^ k) E' ng a n c ex code := by
  subst hE; exact h.scale
theorem mul_val {n1 n2 : Bool} {z1 z2 : List Int} {e1 e2 : Int} : sv (n1 != n2) (Nt.val z1 * Nt.val z2) * 2 ^ ((e1 + KK).toNat + (e2 + KK).toNat) = dv n1 z1 e1 * dv n2 z2 e2 := by
  unfold dv pK
  rw [Int.pow_add]
  generalize (2 : Int) ^ (e1 + KK).toNat = P
  generalize (2 : Int) ^ (e2 + KK).toNat = R
  generalize Nt.val z1 = x
  generalize Nt.val z2 = y
  have e : sv (n1 != n2) (x * y) = sv n1 x * sv n2 y := by cases n1 <;> cases n2 <;> simp [sv, Int.neg_mul, Int.mul_neg]
  rw [e]
  generalize sv n1 x = u
  generalize sv n2 y = v
  grind
theorem odd_mul {x y : Int} (hx : x % 2 = 1) (hy : y % 2 = 1) : x * y % 2 = 1 := by
  rw [Int.mul_emod, hx, hy]; rfl
theorem mul_long2 {n1 n2 : Bool} {z1 z2 : List Int} {e1 e2 : Int} {w w' : World} (g1 : DG n1 z1 e1) (g2 : DG n2 z2 e2) (hl : 4294967296 ^ 4096 ≤ Nt.val z1 * Nt.val z2) (hb : Below w.heap.size w w') : DRes w w' (dv n1 z1 e1 * dv n2 z2 e2) (-(2 * (KK : Int))) (.returned (.tuple #[noD, .int .i64 3])) := by
  have p1 : 0 < z1.length := by
    by_cases c : 0 < z1.length
    · exact c
    · obtain ⟨rfl, _, _⟩ := g1.nil (by omega)
      rw [Nt.val_nil, Int.zero_mul] at hl
      have := Nt.pw_pos 4096
      omega
  have p2 : 0 < z2.length := by
    by_cases c : 0 < z2.length
    · exact c
    · obtain ⟨rfl, _, _⟩ := g2.nil (by omega)
      rw [Nt.val_nil, Int.mul_zero] at hl
      have := Nt.pw_pos 4096
      omega
  have ho := odd_mul (g1.odd p1) (g2.odd p2)
  have h0 : 0 ≤ Nt.val z1 * Nt.val z2 := by have := Nt.pw_pos 4096; omega
  have b1 := g1.ex_bd
  have b2 := g2.ex_bd
  have hK := KK_int
  refine ⟨false, none, 0, 0, 0, 3, rfl, ?_⟩
  rw [← mul_val]
  exact DV.scale2 _ (DV.long (E := e1 + e2) hb (by rw [sv_abs _ h0]; exact ho) (by rw [sv_abs _ h0]; exact hl)) (by omega)
set_option maxHeartbeats 4000000 in
theorem dmul_long (n1 n2 : Bool) (a1 a2 : Option Addr) (c1 c2 : Nat) (z1 z2 : List Int) (e1 e2 : Int) (w : World) (h1 : Lie w a1 z1) (h2 : Lie w a2 z2) (g1 : DG n1 z1 e1) (g2 : DG n2 z2 e2) (hT : Tab w) (hl : 4294967296 ^ 4096 ≤ Nt.val z1 * Nt.val z2) :
    Calls Tryd.prog 37 #[dV n1 a1 z1.length c1 e1, dV n2 a2 z2.length c2 e2] w fun e w' => DRes w w' (dv n1 z1 e1 * dv n2 z2 e2) (-(2 * (KK : Int))) e := by
  have u1 := g1.lie h1
  have u2 := g2.lie h2
  have hK := KK_int
  have b1 := g1.ex_bd
  have b2 := g2.ex_bd
  have hq : (dmayB n1 z1 e1 && dmayB n2 z2 e2) = true := by rw [g1.may, g2.may]; rfl
  have HL := Hide.mk hl
  clear hl
  obtain ⟨d1, d2, d3, hs3⟩ := dcell3 w #[.bool n1, .slice a1 z1.length c1, .int .i64 e1] #[.bool n2, .slice a2 z2.length c2, .int .i64 e2] #[.bool false, .slice none 0 0, .int .i64 0] rfl rfl rfl
  have hb3 := below3 w (.cells #[.bool n1, .slice a1 z1.length c1, .int .i64 e1] 36) (.cells #[.bool n2, .slice a2 z2.length c2, .int .i64 e2] 36) (.cells #[.bool false, .slice none 0 0, .int .i64 0] 36)
  go_enter Tryd.func37, Tryd.ntmps37
  go_wp2_with fail
  generalize hw3 : ((w.alloc (.cells #[.bool n1, .slice a1 z1.length c1, .int .i64 e1] 36)).alloc (.cells #[.bool n2, .slice a2 z2.length c2, .int .i64 e2] 36)).alloc (.cells #[.bool false, .slice none 0 0, .int .i64 0] 36) = w3 at *
  clear hw3
  obtain ⟨k0, k1, k2, k3, k4, k5⟩ := six w3 (w.heap.size + 1 + 1 + 1) (by omega) (.bool n1) (.slice a1 z1.length c1) (.int .i64 e1) (.bool n2) (.slice a2 z2.length c2) (.int .i64 e2)
  have hb4 := below_alloc w3 (.cells #[.bool n1, .slice a1 z1.length c1, .int .i64 e1, .bool n2, .slice a2 z2.length c2, .int .i64 e2] 36)
  refine (dallMay2 (w.heap.size + 1 + 1 + 1) n1 a1 c1 z1 e1 n2 a2 c2 z2 e2 _ ((u1.below hb3).below hb4) ((u2.below hb3).below hb4) _ _ rfl rfl k0 k1 k2 k3 k4 k5).mono ?_
  rintro e w5 ⟨rfl, h5⟩
  clear k0 k1 k2 k3 k4 k5
  rw [hq]
  have hb5 := below_then hb4 h5
  clear hb4 h5
  have hb0 := below_then hb3 hb5
  have hsz : w.heap.size + 1 + 1 < w3.heap.size := by omega
  replace d1 := d1.below hb5 (by omega)
  replace d2 := d2.below hb5 (by omega)
  replace d3 := d3.below hb5 hsz
  have hsz5 := Nat.lt_of_lt_of_le hsz hb5.size
  have q10 := d1.c0
  have q11 := d1.c1
  have q12 := d1.c2
  have q20 := d2.c0
  have q21 := d2.c1
  have q22 := d2.c2
  clear hq u1 u2
  go_wp2_with fail
  refine (mul_longG a1 a2 c1 c2 z1 z2 _ (h1.below hb0 (Nat.le_refl _)) (h2.below hb0 (Nat.le_refl _)) g1.good g2.good HL.out).mono ?_
  rintro e w6 ⟨rfl, h6⟩
  replace d3 := d3.below h6 hsz5
  have hb6 := below_then hb0 h6
  clear q10 q11 q12 q20 q21 q22 h6 d1 d2
  have f0 := d3.c0
  have f1 := d3.c1
  have f2 := d3.c2
  have r0 := d3.fr 0
  have r1 := d3.fr 1
  have r2 := d3.fr 2
  go_wp2
  refine bodyPost_ret (results_D2 rfl _ _ (w.heap.size + 1 + 1) _ rfl (((d3.set 0 _).set 1 _).set 2 _)) rfl ?_
  exact mul_long2 g1 g2 HL.out (((hb6.setCell (p := ⟨w.heap.size + 1 + 1, 0, none⟩) (by show w.heap.size ≤ w.heap.size + 1 + 1; omega) _).setCell (p := ⟨w.heap.size + 1 + 1, 1, none⟩) (by show w.heap.size ≤ w.heap.size + 1 + 1; omega) _).setCell (p := ⟨w.heap.size + 1 + 1, 2, none⟩) (by show w.heap.size ≤ w.heap.size + 1 + 1; omega) _)
set_option maxHeartbeats 4000000 in
theorem dmul_fits (n1 n2 : Bool) (a1 a2 : Option Addr) (c1 c2 : Nat) (z1 z2 : List Int) (e1 e2 : Int) (w : World) (h1 : Lie w a1 z1) (h2 : Lie w a2 z2) (g1 : DG n1 z1 e1) (g2 : DG n2 z2 e2) (hT : Tab w) (hl : Nt.val z1 * Nt.val z2 < 4294967296 ^ 4096) :
    Calls Tryd.prog 37 #[dV n1 a1 z1.length c1 e1, dV n2 a2 z2.length c2 e2] w fun e w' => DRes w w' (dv n1 z1 e1 * dv n2 z2 e2) (-(2 * (KK : Int))) e := by
  have u1 := g1.lie h1
  have u2 := g2.lie h2
  have hK := KK_int
  have b1 := g1.ex_bd
  have b2 := g2.ex_bd
  have hq : (dmayB n1 z1 e1 && dmayB n2 z2 e2) = true := by rw [g1.may, g2.may]; rfl
  have HL := Hide.mk hl
  clear hl
  obtain ⟨d1, d2, d3, hs3⟩ := dcell3 w #[.bool n1, .slice a1 z1.length c1, .int .i64 e1] #[.bool n2, .slice a2 z2.length c2, .int .i64 e2] #[.bool false, .slice none 0 0, .int .i64 0] rfl rfl rfl
  have hb3 := below3 w (.cells #[.bool n1, .slice a1 z1.length c1, .int .i64 e1] 36) (.cells #[.bool n2, .slice a2 z2.length c2, .int .i64 e2] 36) (.cells #[.bool false, .slice none 0 0, .int .i64 0] 36)
  go_enter Tryd.func37, Tryd.ntmps37
  go_wp2_with fail
  generalize hw3 : ((w.alloc (.cells #[.bool n1, .slice a1 z1.length c1, .int .i64 e1] 36)).alloc (.cells #[.bool n2, .slice a2 z2.length c2, .int .i64 e2] 36)).alloc (.cells #[.bool false, .slice none 0 0, .int .i64 0] 36) = w3 at *
  clear hw3
  obtain ⟨k0, k1, k2, k3, k4, k5⟩ := six w3 (w.heap.size + 1 + 1 + 1) (by omega) (.bool n1) (.slice a1 z1.length c1) (.int .i64 e1) (.bool n2) (.slice a2 z2.length c2) (.int .i64 e2)
  have hb4 := below_alloc w3 (.cells #[.bool n1, .slice a1 z1.length c1, .int .i64 e1, .bool n2, .slice a2 z2.length c2, .int .i64 e2] 36)
  refine (dallMay2 (w.heap.size + 1 + 1 + 1) n1 a1 c1 z1 e1 n2 a2 c2 z2 e2 _ ((u1.below hb3).below hb4) ((u2.below hb3).below hb4) _ _ rfl rfl k0 k1 k2 k3 k4 k5).mono ?_
  rintro e w5 ⟨rfl, h5⟩
  clear k0 k1 k2 k3 k4 k5
  rw [hq]
  have hb5 := below_then hb4 h5
  clear hb4 h5
  have hb0 := below_then hb3 hb5
  have hsz : w.heap.size + 1 + 1 < w3.heap.size := by omega
  replace d1 := d1.below hb5 (by omega)
  replace d2 := d2.below hb5 (by omega)
  replace d3 := d3.below hb5 hsz
  have hsz5 := Nat.lt_of_lt_of_le hsz hb5.size
  have q10 := d1.c0
  have q11 := d1.c1
  have q12 := d1.c2
  have q20 := d2.c0
  have q21 := d2.c1
  have q22 := d2.c2
  clear hq u1 u2
  go_wp2_with fail
  refine (mul_fit a1 a2 c1 c2 z1 z2 _ (h1.below hb0 (Nat.le_refl _)) (h2.below hb0 (Nat.le_refl _)) g1.good g2.good ⟨Int.mul_nonneg g1.good.nonneg g2.good.nonneg, HL.out⟩).mono ?_
  rintro e w6 ⟨z6, a6, c6, rfl, h6, _⟩
  replace d1 := d1.below h6.bel (by omega)
  replace d2 := d2.below h6.bel (by omega)
  replace d3 := d3.below h6.bel hsz5
  have hb6 := below_then hb0 h6.bel
  have hsz6 := Nat.lt_of_lt_of_le hsz5 h6.bel.size
  have G6 := h6.good
  have l6 := h6.lie
  clear q10 q11 q12 q20 q21 q22 h6
  have q10 := d1.c0
  have q12 := d1.c2
  have q20 := d2.c0
  have q22 := d2.c2
  go_wp2_with fail
  refine (formedR (n1 != n2) a6 c6 z6 (e1 + e2) _ l6 G6 (hT.below hb6 (Nat.le_refl _)) (by omega) (by omega)).mono ?_
  rintro e w9 ⟨ng, aa, n, c, xx, code, rfl, hv⟩
  replace d3 := d3.below hv.bel hsz6
  have HV := Hide.mk hv
  clear hv q10 q12 q20 q22
  have f0 := d3.c0
  have f1 := d3.c1
  have f2 := d3.c2
  have r0 := d3.fr 0
  have r1 := d3.fr 1
  have r2 := d3.fr 2
  go_wp2
  refine bodyPost_ret (results_D2 rfl _ _ (w.heap.size + 1 + 1) _ rfl (((d3.set 0 _).set 1 _).set 2 _)) rfl ?_
  obtain ⟨u1, u2, u3, u4, u5, u6, hu, hv⟩ := DRes.back HV.out hb6 (by omega) hsz6 (.bool ng) (.slice aa n c) (.int .i64 xx)
  refine ⟨u1, u2, u3, u4, u5, u6, hu, ?_⟩
  rw [← mul_val]
  exact DV.scale2 _ hv (by omega)
theorem dmul58 (n1 n2 : Bool) (a1 a2 : Option Addr) (c1 c2 : Nat) (z1 z2 : List Int) (e1 e2 : Int) (w : World) (h1 : Lie w a1 z1) (h2 : Lie w a2 z2) (g1 : DG n1 z1 e1) (g2 : DG n2 z2 e2) (hT : Tab w) :
    Calls Tryd.prog 37 #[dV n1 a1 z1.length c1 e1, dV n2 a2 z2.length c2 e2] w fun e w' => DRes w w' (dv n1 z1 e1 * dv n2 z2 e2) (-(2 * (KK : Int))) e := by
  by_cases hl : Nt.val z1 * Nt.val z2 < 4294967296 ^ 4096
  · exact dmul_fits n1 n2 a1 a2 c1 c2 z1 z2 e1 e2 w h1 h2 g1 g2 hT hl
  · exact dmul_long n1 n2 a1 a2 c1 c2 z1 z2 e1 e2 w h1 h2 g1 g2 hT (by omega)

end Go.Proofs.YteejaghimppcgaaDoor

namespace Go.Proofs.YteejaghimppcgaaDoor
open Go.RowKit
set_option linter.unusedVariables false
set_option maxRecDepth 3000
theorem below2 (w : World) (A B : Obj) : Below w.heap.size w ((w.alloc A).alloc B) := below_then (below_alloc w A) (below_alloc _ B)
set_option maxHeartbeats 1000000 in
theorem dsame40 (n1 n2 : Bool) (a1 a2 : Option Addr) (c1 c2 : Nat) (z1 z2 : List Int) (e1 e2 : Int) (w : World) (u1 : DLie w a1 z1) (u2 : DLie w a2 z2) (q : Bool) (hq : decide (n1 = n2 ∧ e1 = e2 ∧ z1 = z2) = q) :
    Calls Tryd.prog 28 #[dV n1 a1 z1.length c1 e1, dV n2 a2 z2.length c2 e2] w fun e w' => e = .returned (.bool q) ∧ Below w.heap.size w w' := by
  have hb := below2 w (.cells #[.bool n1, .slice a1 z1.length c1, .int .i64 e1] 36) (.cells #[.bool n2, .slice a2 z2.length c2, .int .i64 e2] 36)
  have HS := Hide.mk (same15 a1 a2 c1 c2 z1 z2 _ (u1.below hb).lie (u2.below hb).lie u1.len)
  have HB := Hide.mk hb
  clear hb u1 u2
  by_cases hn : n1 = n2
  · have h1 : (n1 == n2) = true := by simp [hn]
    by_cases he : e1 = e2
    · have h2 : (e1 == e2) = true := by simp [he]
      have hq2 : decide (z1 = z2) = q := by rw [← hq]; simp [hn, he]
      have HQ := Hide.mk hq2
      clear hn he hq hq2
      go_enter Tryd.func28, Tryd.ntmps28
      go_wp2_with fail
      refine HS.out.mono ?_
      rintro e w' ⟨rfl, h5⟩
      rw [HQ.out]
      have h6 := below_then HB.out h5
      clear h5 HS
      go_wp2
      go_ret
      exact ⟨rfl, h6⟩
    · have h2 : (e1 == e2) = false := by simp [he]
      have hq2 : q = false := by rw [← hq]; simp [he]
      subst hq2
      clear hn he hq HS
      go_enter Tryd.func28, Tryd.ntmps28
      go_wp2
      go_ret
      exact ⟨rfl, HB.out⟩
  · have h1 : (n1 == n2) = false := by simp [hn]
    have hq2 : q = false := by rw [← hq]; simp [hn]
    subst hq2
    clear hn hq HS
    go_enter Tryd.func28, Tryd.ntmps28
    go_wp2
    go_ret
    exact ⟨rfl, HB.out⟩
/-- A multiple of 2 to the lo, below 2 to the hi in size. -/
structure DB (lo hi : Nat) (s : Int) : Prop where
  dvd : s % 2 ^ lo = 0
  gt : -(2 ^ hi) < s
  lt : s < 2 ^ hi
theorem DB.mono {lo hi l h : Nat} {s : Int} (b : DB lo hi s) (hl : l ≤ lo) (hh : hi ≤ h) : DB l h s := by
  have := p2mono hh
  refine ⟨?_, by have := b.gt; omega, by have := b.lt; omega⟩
  obtain ⟨k, rfl⟩ : ∃ k, lo = l + k := ⟨lo - l, by omega⟩
  obtain ⟨m, hm⟩ := Int.dvd_of_emod_eq_zero b.dvd
  exact Int.emod_eq_zero_of_dvd ⟨2 ^ k * m, by rw [hm, Int.pow_add, Int.mul_assoc]⟩
theorem DB.add {lo hi : Nat} {s t : Int} (b : DB lo hi s) (c : DB lo hi t) : DB lo (hi + 1) (s + t) := by
  have e := p2succ hi
  have b1 := b.gt
  have b2 := b.lt
  have c1 := c.gt
  have c2 := c.lt
  refine ⟨?_, by omega, by omega⟩
  obtain ⟨m, hm⟩ := Int.dvd_of_emod_eq_zero b.dvd
  obtain ⟨k, hk⟩ := Int.dvd_of_emod_eq_zero c.dvd
  exact Int.emod_eq_zero_of_dvd ⟨m + k, by rw [hm, hk, Int.mul_add]⟩
theorem DB.mul {lo hi l h : Nat} {s t : Int} (b : DB lo hi s) (c : DB l h t) : DB (lo + l) (hi + h) (s * t) := by
  have b1 := b.gt
  have b2 := b.lt
  have c1 := c.gt
  have c2 := c.lt
  have hp := p2pos hi
  have hq := p2pos h
  have key : ((s * t).natAbs : Int) < 2 ^ (hi + h) := by
    rw [Int.natAbs_mul, Int.natCast_mul, Int.pow_add]
    have k1 : (s.natAbs : Int) < 2 ^ hi := by omega
    have k2 : (t.natAbs : Int) < 2 ^ h := by omega
    have k3 : (s.natAbs : Int) * (t.natAbs : Int) ≤ (s.natAbs : Int) * 2 ^ h := Int.mul_le_mul_of_nonneg_left (by omega) (by omega)
    have k4 : (s.natAbs : Int) * 2 ^ h < 2 ^ hi * 2 ^ h := Int.mul_lt_mul_of_pos_right k1 hq
    omega
  refine ⟨?_, by omega, by omega⟩
  obtain ⟨m, hm⟩ := Int.dvd_of_emod_eq_zero b.dvd
  obtain ⟨k, hk⟩ := Int.dvd_of_emod_eq_zero c.dvd
  exact Int.emod_eq_zero_of_dvd ⟨m * k, by rw [hm, hk, Int.pow_add]; generalize (2 : Int) ^ lo = P; generalize (2 : Int) ^ l = R; grind⟩
theorem DB.low {lo hi t : Nat} {s : Int} (b : DB lo hi s) (hs : s ≠ 0) (ht : LowBit (s.natAbs : Int) t) : lo ≤ t ∧ t < hi ∧ (s.natAbs : Int) / 2 ^ t < 2 ^ (hi - lo) := by
  have b1 := b.gt
  have b2 := b.lt
  have h1 : lo ≤ t := by
    have := low_lost (n := lo) ht
    have e : (s.natAbs : Int) % 2 ^ lo = 0 := by
      obtain ⟨m, hm⟩ := Int.dvd_of_emod_eq_zero b.dvd
      have hp := p2pos lo
      by_cases c : 0 ≤ s
      · exact Int.emod_eq_zero_of_dvd ⟨m, by rw [← hm]; omega⟩
      · exact Int.emod_eq_zero_of_dvd ⟨-m, by rw [Int.mul_neg, ← hm]; omega⟩
    rw [e] at this
    simp at this
    omega
  have h2 := low_half ht
  have h4 : 1 ≤ (s.natAbs : Int) / 2 ^ t := by
    have := Int.ediv_nonneg (show 0 ≤ (s.natAbs : Int) by omega) (Int.le_of_lt (p2pos t))
    have := ht.one
    omega
  have h5 : 1 * 2 ^ t ≤ (s.natAbs : Int) / 2 ^ t * 2 ^ t := Int.mul_le_mul_of_nonneg_right h4 (Int.le_of_lt (p2pos t))
  have h6 : t < hi := p2lt (by omega)
  refine ⟨h1, h6, ?_⟩
  refine Int.ediv_lt_of_lt_mul (p2pos t) ?_
  rw [← Int.pow_add]
  have := p2mono (show hi ≤ hi - lo + t by omega)
  omega
/-- A number of the value v. -/
structure DN (ng : Bool) (zs : List Int) (ex v : Int) : Prop where
  dg : DG ng zs ex
  val : dv ng zs ex = v
theorem DN.same {n1 n2 : Bool} {z1 z2 : List Int} {e1 e2 u v : Int} (h : DN n1 z1 e1 u) (k : DN n2 z2 e2 v) (e : u = v) : n1 = n2 ∧ e1 = e2 ∧ z1 = z2 := by
  obtain ⟨h1, h2, h3⟩ := h.dg.unique k.dg (by rw [h.val, k.val, e])
  exact ⟨h1, h3, h2⟩
theorem DN.inj {n1 n2 : Bool} {z1 z2 : List Int} {e1 e2 u v : Int} (h : DN n1 z1 e1 u) (k : DN n2 z2 e2 v) (e : n1 = n2 ∧ e1 = e2 ∧ z1 = z2) : u = v := by
  obtain ⟨rfl, rfl, rfl⟩ := e
  rw [← h.val, ← k.val]
/-- A new number. -/
structure IsD (w w' : World) (a : Option Addr) (c : Nat) (ng : Bool) (zs : List Int) (ex v : Int) : Prop where
  num : DN ng zs ex v
  lie : Lie w' a zs
  bel : Below w.heap.size w w'
  own : Own w.heap.size w' (.slice a zs.length c) zs
theorem dv_back {s : Int} {t k : Nat} {zs : List Int} (hs : s ≠ 0) (ht : LowBit (s.natAbs : Int) t) (hg : Good zs ((s.natAbs : Int) / 2 ^ t)) (hk : k ≤ t) : dv (decide (s < 0)) zs (-(KK : Int) - k + t) * 2 ^ k = s := by
  unfold dv pK
  rw [hg.val, show (-(KK : Int) - k + t + KK).toNat = t - k by omega, Int.mul_assoc, ← Int.pow_add, show t - k + k = t by omega]
  have h1 := low_half ht
  by_cases c : s < 0
  · rw [decide_eq_true c, sv_t, Int.neg_mul, ← h1]; omega
  · rw [decide_eq_false c, sv_f, ← h1]; omega
/-- What fits is answered. -/
theorem DV.fits {w w' : World} {s : Int} {ng : Bool} {a : Option Addr} {n c : Nat} {ex code : Int} {lo hi k : Nat} (h : DV w w' s (-(KK : Int) - k) ng a n c ex code) (hb : DB lo hi s) (h1 : hi ≤ lo + 131072) (h2 : hi ≤ 2 * KK + k) (h3 : k ≤ lo) :
    code = 0 ∧ ∃ zs v, n = zs.length ∧ v * 2 ^ k = s ∧ IsD w w' a c ng zs ex v := by
  have hK := KK_int
  rcases h.all with ⟨rfl, rfl, rfl, rfl, rfl, rfl, rfl⟩ | ⟨hs, t, ht, hh⟩
  · exact ⟨rfl, [], 0, rfl, by simp, ⟨⟨zeroDG, zero_dv _ _⟩, .inl rfl, h.bel, Own.nil _ _⟩⟩
  · obtain ⟨k1, k2, k3⟩ := hb.low hs ht
    have k4 : (s.natAbs : Int) / 2 ^ t < 4294967296 ^ 4096 := by
      have := p2mono (show hi - lo ≤ 131072 by omega)
      rw [pw32]; omega
    rcases hh with ⟨j1, j2, rfl, rfl, rfl, zs, rfl, j3, j4⟩ | ⟨j1, _⟩ | ⟨_, j1, _⟩
    · obtain ⟨a2, c2, he, _, _, hl⟩ := j4.lie
      simp only [Value.slice.injEq, true_and] at he
      obtain ⟨rfl, rfl⟩ := he
      have hp : 0 < (s.natAbs : Int) / 2 ^ t := by
        have := ht.one
        have := Int.ediv_nonneg (show 0 ≤ (s.natAbs : Int) by omega) (Int.le_of_lt (p2pos t))
        omega
      exact ⟨rfl, zs, _, rfl, dv_back hs ht j3 (by omega), ⟨⟨⟨j3.can, j3.len, .inr ⟨j3.ne hp, by rw [j3.val]; exact ht.one, by omega, by omega⟩⟩, rfl⟩, hl, h.bel, j4⟩⟩
    · omega
    · omega

/-- A number that is handed in. -/
structure Arg where
  ng : Bool
  a : Option Addr
  c : Nat
  zs : List Int
  ex : Int
def nearB (x : Arg) : Bool := decide (x.zs.length ≤ 100) && decide (-3000 ≤ x.ex) && decide (x.ex ≤ 3000) && dmayB x.ng x.zs x.ex
/-- The numbers of l lie in a row. -/
structure ARow (w : World) (b : Nat) (l : List Arg) : Prop where
  c0 : ∀ (i : Nat) (x : Arg), l[i]? = some x → w.cell? ⟨b, i * 3, none⟩ = some (.bool x.ng)
  c1 : ∀ (i : Nat) (x : Arg), l[i]? = some x → w.cell? ⟨b, i * 3 + 1, none⟩ = some (.slice x.a x.zs.length x.c)
  c2 : ∀ (i : Nat) (x : Arg), l[i]? = some x → w.cell? ⟨b, i * 3 + 2, none⟩ = some (.int .i64 x.ex)
  lie : ∀ (i : Nat) (x : Arg), l[i]? = some x → DLie w x.a x.zs
theorem all_no {l : List Arg} {k : Nat} {x : Arg} (hx : l[k]? = some x) (h : nearB x = false) : l.all nearB = false := by
  rw [List.all_eq_false]
  exact ⟨x, List.mem_of_getElem? hx, by simp [h]⟩
theorem all_yes {l : List Arg} {k : Nat} (hk : l.length ≤ k) (h : ∀ (j : Nat) (x : Arg), j < k → l[j]? = some x → nearB x = true) : l.all nearB = true := by
  rw [List.all_eq_true]
  intro x hx
  obtain ⟨j, hj, rfl⟩ := List.mem_iff_getElem.1 hx
  exact h j _ (by omega) (List.getElem?_eq_getElem hj)
set_option maxHeartbeats 4000000 in
theorem near75 (b : Nat) (l : List Arg) (w : World) (hr : ARow w b l) (hl : l.length ≤ 1000) :
    Calls Tryd.prog 54 #[.slice (some ⟨b, 0, none⟩) l.length l.length] w fun e w' => e = .returned (.bool (l.all nearB)) ∧ Below w.heap.size w w' := by
  have HR := Hide.mk hr
  clear hr
  go_enter Tryd.func54, Tryd.ntmps54
  go_wp2
  go_loopw [3] (fun i wr => ∃ k : Nat, k ≤ l.length ∧ i = .int .i64 k ∧ Hide (∀ (j : Nat) (x : Arg), j < k → l[j]? = some x → nearB x = true) ∧ Below w.heap.size w wr) (fun i _ => l.length - (intOf i).toNat)
  case atStart => exact ⟨0, Nat.zero_le _, rfl, ⟨fun j x hj => by omega⟩, Below.refl _ _⟩
  case round =>
    obtain ⟨k, hk, rfl, HN, hbel⟩ := hrel
    by_cases hlt : k < l.length
    · obtain ⟨x, hx⟩ : ∃ x, l[k]? = some x := ⟨_, List.getElem?_eq_getElem hlt⟩
      have c0 := below_cell hbel (HR.out.c0 k x hx)
      have c1 := below_cell hbel (HR.out.c1 k x hx)
      have c2 := below_cell hbel (HR.out.c2 k x hx)
      have HM := fun q hq => Hide.mk ((HR.out.lie k x hx).may x.ng x.c x.ex q hq wr hbel)
      have HX := Hide.mk hx
      clear hx
      obtain ⟨ng, a, c, zs, ex⟩ := x
      simp only at c0 c1 c2 HM
      by_cases h1 : (zs.length : Int) ≤ 100
      · by_cases h2 : -3000 ≤ ex
        · by_cases h3 : ex ≤ 3000
          · cases hm : dmayB ng zs ex
            · have HM2 := HM false hm
              have HF := Hide.mk (all_no HX.out (by simp [nearB, hm]))
              clear HM hm
              go_wp2_with fail
              refine HM2.out.mono ?_
              rintro e w' ⟨rfl, h5⟩
              have h6 := below_then hbel h5
              clear h5 HM2 c0 c1 c2
              go_wp2
              go_ret
              exact ⟨by rw [HF.out]; rfl, h6⟩
            · have HM2 := HM true hm
              have HF : Hide (∀ (j : Nat) (x : Arg), j < k + 1 → l[j]? = some x → nearB x = true) := ⟨by
                intro j x hj hx
                by_cases e : j = k
                · subst e
                  rw [HX.out] at hx
                  cases hx
                  have h1' : zs.length ≤ 100 := by omega
                  simp [nearB, hm, h1', h2, h3]
                · exact HN.out j x (by omega) hx⟩
              clear HM hm
              go_wp2_with fail
              refine HM2.out.mono ?_
              rintro e w' ⟨rfl, h5⟩
              have h6 := below_then hbel h5
              clear h5 HM2 c0 c1 c2
              go_wp2
              go_roundw
              case rel => exact ⟨k + 1, hlt, by go_num, HF, h6⟩
              case measure => simp [intOf]; omega
          · have HF := Hide.mk (all_no HX.out (by simp [nearB, h3]))
            have h3' : 3000 < ex := by omega
            clear HM h3
            go_wp2
            go_ret
            exact ⟨by rw [HF.out]; rfl, hbel⟩
        · have HF := Hide.mk (all_no HX.out (by simp [nearB, h2]))
          have h2' : ex < -3000 := by omega
          clear HM h2
          go_wp2
          go_ret
          exact ⟨by rw [HF.out]; rfl, hbel⟩
      · have HF := Hide.mk (all_no HX.out (by have : ¬ zs.length ≤ 100 := by omega
                                              simp [nearB, this]))
        have h1' : (100 : Int) < (zs.length : Int) := by omega
        clear HM h1
        go_wp2
        go_ret
        exact ⟨by rw [HF.out]; rfl, hbel⟩
    · have HF := Hide.mk (all_yes (by omega) HN.out)
      go_wp2
      go_ret
      exact ⟨by rw [HF.out]; rfl, hbel⟩

theorem dadd_fit (n1 n2 : Bool) (a1 a2 : Option Addr) (c1 c2 : Nat) (z1 z2 : List Int) (e1 e2 : Int) (w : World) {u v : Int} (h1 : Lie w a1 z1) (h2 : Lie w a2 z2) (N1 : DN n1 z1 e1 u) (N2 : DN n2 z2 e2 v) (hT : Tab w) {lo hi : Nat} (hb : DB lo hi (u + v)) (k1 : hi ≤ lo + 131072) (k2 : hi ≤ 2 * KK) :
    Calls Tryd.prog 35 #[dV n1 a1 z1.length c1 e1, dV n2 a2 z2.length c2 e2] w fun e w' => ∃ ng zs ex a c, e = .returned (.tuple #[dV ng a zs.length c ex, .int .i64 0]) ∧ IsD w w' a c ng zs ex (u + v) := by
  refine (dadd56 n1 n2 a1 a2 c1 c2 z1 z2 e1 e2 w h1 h2 N1.dg N2.dg hT).mono ?_
  rintro e w' ⟨ng, a, n, c, ex, code, rfl, hv⟩
  rw [N1.val, N2.val, show -(KK : Int) = -(KK : Int) - (0 : Nat) by omega] at hv
  obtain ⟨rfl, zs, v', rfl, h3, h4⟩ := hv.fits hb k1 (by omega) (by omega)
  rw [Int.pow_zero, Int.mul_one] at h3
  subst h3
  exact ⟨ng, zs, ex, a, c, rfl, h4⟩
theorem dmul_fit (n1 n2 : Bool) (a1 a2 : Option Addr) (c1 c2 : Nat) (z1 z2 : List Int) (e1 e2 : Int) (w : World) {u v : Int} (h1 : Lie w a1 z1) (h2 : Lie w a2 z2) (N1 : DN n1 z1 e1 u) (N2 : DN n2 z2 e2 v) (hT : Tab w) {lo hi : Nat} (hb : DB lo hi (u * v)) (k1 : hi ≤ lo + 131072) (k2 : hi ≤ 3 * KK) (k3 : KK ≤ lo) :
    Calls Tryd.prog 37 #[dV n1 a1 z1.length c1 e1, dV n2 a2 z2.length c2 e2] w fun e w' => ∃ ng zs ex a c p, e = .returned (.tuple #[dV ng a zs.length c ex, .int .i64 0]) ∧ p * 2 ^ KK = u * v ∧ IsD w w' a c ng zs ex p := by
  refine (dmul58 n1 n2 a1 a2 c1 c2 z1 z2 e1 e2 w h1 h2 N1.dg N2.dg hT).mono ?_
  rintro e w' ⟨ng, a, n, c, ex, code, rfl, hv⟩
  rw [N1.val, N2.val, show -(2 * (KK : Int)) = -(KK : Int) - (KK : Nat) by omega] at hv
  obtain ⟨rfl, zs, v', rfl, h3, h4⟩ := hv.fits hb k1 (by omega) k3
  exact ⟨ng, zs, ex, a, c, v', rfl, h3, h4⟩
theorem known_num (w : World) : DN false [3] (-2) (3 * pK (-2)) ∧ DN false [1] (-2) (pK (-2)) ∧ DN false [1] 0 (pK 0) ∧ DB (KK - 2) (KK + 1) (3 * pK (-2) + pK (-2)) ∧ 3 * pK (-2) + pK (-2) = pK 0 := by
  have hK := KK_eq
  have c3 : Nt.Can [3] := can_cons (by decide) (by decide) Nt.can_nil (by intro _; decide)
  have c1 : Nt.Can [1] := can_cons (by decide) (by decide) Nt.can_nil (by intro _; decide)
  have v3 : Nt.val [3] = 3 := val_one 3
  have v1 : Nt.val [1] = 1 := val_one 1
  have e4 : 3 * pK (-2) + pK (-2) = pK 0 := by
    have := pK_add (ex := -2) (by omega) 2
    rw [show (-2 : Int) + ((2 : Nat) : Int) = 0 by omega] at this
    rw [this]; omega
  have e0 : pK 0 = 2 ^ KK := by unfold pK; rw [show ((0 : Int) + KK).toNat = KK by omega]
  refine ⟨⟨⟨c3, by simp, .inr ⟨by simp, by rw [v3]; rfl, by omega, by omega⟩⟩, by unfold dv; rw [v3]; rfl⟩, ⟨⟨c1, by simp, .inr ⟨by simp, by rw [v1]; rfl, by omega, by omega⟩⟩, by unfold dv; rw [v1, sv_f, Int.one_mul]⟩, ⟨⟨c1, by simp, .inr ⟨by simp, by rw [v1]; rfl, by omega, by omega⟩⟩, by unfold dv; rw [v1, sv_f, Int.one_mul]⟩, ?_, e4⟩
  rw [e4, e0]
  have := p2pos KK
  have := p2succ KK
  refine ⟨?_, by omega, by omega⟩
  obtain ⟨j, hj⟩ : ∃ j, KK = j + 2 := ⟨KK - 2, by omega⟩
  rw [hj, show j + 2 - 2 = j by omega, Int.pow_add]
  exact Int.mul_emod_right _ _
set_option maxHeartbeats 2000000 in
theorem dknown34 (w : World) (hT : Tab w) : Calls Tryd.prog 20 #[] w fun e w' => e = .returned (.bool true) ∧ Below w.heap.size w w' := by
  have hK := KK_eq
  obtain ⟨m3, m1, m0, hdb, hval⟩ := known_num w
  have hb := below2 w (.cells #[.int .u32 3] 70) (.cells #[.int .u32 1] 70)
  have l3 : Lie ((w.alloc (.cells #[.int .u32 3] 70)).alloc (.cells #[.int .u32 1] 70)) (some ⟨w.heap.size, 0, none⟩) [3] := (lie_new w [3]).below (below_alloc _ _) (Nat.le_refl _)
  have l1 : Lie ((w.alloc (.cells #[.int .u32 3] 70)).alloc (.cells #[.int .u32 1] 70)) (some ⟨w.heap.size + 1, 0, none⟩) [1] := by
    have := lie_new (w.alloc (.cells #[.int .u32 3] 70)) [1]
    simpa using this
  have HA := Hide.mk (dadd_fit false false (some ⟨w.heap.size, 0, none⟩) (some ⟨w.heap.size + 1, 0, none⟩) 1 1 [3] [1] (-2) (-2) _ l3 l1 m3 m1 (hT.below hb (Nat.le_refl _)) hdb (by omega) (by omega))
  clear l3 l1 m3 m1 hdb hK
  go_enter Tryd.func20, Tryd.ntmps20
  go_wp2_with fail
  refine HA.out.mono ?_
  rintro e w5 ⟨ng, zs, ex, a, c, rfl, h5⟩
  have hb5 := below_then hb h5.bel
  have hb6 := below_then hb5 (below_alloc w5 (.cells #[.bool ng, .slice a zs.length c, .int .i64 ex] 36))
  have hb7 := below_then hb6 (below_alloc (w5.alloc (.cells #[.bool ng, .slice a zs.length c, .int .i64 ex] 36)) (.cells #[.int .u32 1] 70))
  have lz : Lie ((w5.alloc (.cells #[.bool ng, .slice a zs.length c, .int .i64 ex] 36)).alloc (.cells #[.int .u32 1] 70)) a zs := h5.lie.below (below2 _ _ _) (Nat.le_refl _)
  have l1 : Lie ((w5.alloc (.cells #[.bool ng, .slice a zs.length c, .int .i64 ex] 36)).alloc (.cells #[.int .u32 1] 70)) (some ⟨w5.heap.size + 1, 0, none⟩) [1] := by
    have := lie_new (w5.alloc (.cells #[.bool ng, .slice a zs.length c, .int .i64 ex] 36)) [1]
    simpa using this
  have HS := Hide.mk (dsame40 ng false a (some ⟨w5.heap.size + 1, 0, none⟩) c 1 zs [1] ex 0 _ (h5.num.dg.lie lz) (m0.dg.lie l1) true (by rw [decide_eq_true_eq]; exact h5.num.same m0 hval))
  clear HA h5 lz l1 m0 hval hb5 hb6
  go_wp2_with fail
  refine HS.out.mono ?_
  rintro e w8 ⟨rfl, h8⟩
  have hb8 := below_then hb7 h8
  clear HS h8
  go_wp2
  go_ret
  exact ⟨rfl, hb8⟩

/-- Variables of the law that hold numbers. -/
structure Boxes (w : World) (l : List (Nat × Array Value)) : Prop where
  all : ∀ p ∈ l, DCell w p.1 p.2
theorem Boxes.keep {w w' : World} {l : List (Nat × Array Value)} (h : Boxes w l) (hb : Below w.heap.size w w') : Boxes w' l :=
  ⟨fun p hp => (h.all p hp).below hb (Array.getElem?_eq_some_iff.1 (h.all p hp).1).1⟩
theorem Boxes.push {w w' : World} {l : List (Nat × Array Value)} (h : Boxes w l) (hb : Below w.heap.size w w') (x y z : Value) : Boxes (w'.alloc (.cells #[x, y, z] 36)) ((w'.heap.size, #[x, y, z]) :: l) := by
  refine ⟨fun p hp => ?_⟩
  rcases List.mem_cons.1 hp with rfl | hp
  · exact dcell_new _ _ _ _
  · exact ((h.keep hb).keep (below_alloc _ _)).all p hp
theorem pK_ne : (2 : Int) ^ KK ≠ 0 := by have := p2pos KK; omega
end Go.Proofs.YteejaghimppcgaaDoor
