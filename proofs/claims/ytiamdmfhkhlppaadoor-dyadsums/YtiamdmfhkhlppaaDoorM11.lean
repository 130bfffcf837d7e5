import Derived.Test.YtiamdmfhkhlppaaDoorM10
namespace Go.Proofs.YtiamdmfhkhlppaaDoor
open Go.RowKit
set_option linter.unusedVariables false
set_option maxRecDepth 3000
theorem DRes.toK {w w' : World} {s E : Int} {e : Ending} (h : DRes w w' s E e) (hE : -(KK : Int) ≤ E) : DRes w w' (s * pK E) (-(KK : Int)) e := by
  obtain ⟨ng, a, n, c, ex, code, h1, h2⟩ := h
  refine ⟨ng, a, n, c, ex, code, h1, ?_⟩
  have e : E = -(KK : Int) + ((E + KK).toNat : Nat) := by omega
  rw [e] at h2
  exact h2.scale
theorem DRes.back {w0 w w' : World} {s E : Int} {ng : Bool} {a : Option Addr} {n c : Nat} {ex code : Int} (h : DV w w' s E ng a n c ex code) (hb : Below w0.heap.size w0 w) {g : Nat} (hg : w0.heap.size ≤ g) (hg' : g < w.heap.size) (u0 u1 u2 : Value) :
    DRes w0 (((w'.setCell ⟨g, 0, none⟩ u0).setCell ⟨g, 1, none⟩ u1).setCell ⟨g, 2, none⟩ u2) s E (.returned (.tuple #[dV ng a n c ex, .int .i64 code])) := ⟨ng, a, n, c, ex, code, rfl, h.back hb hg hg' u0 u1 u2⟩
theorem pK_step {e1 e2 : Int} {k : Nat} (h : e1 - e2 - 1 = (k : Int)) (h2 : -(KK : Int) ≤ e2) : pK e1 = pK e2 * 2 ^ (k + 1) := by
  rw [show e1 = e2 + ((k + 1 : Nat) : Int) by omega, pK_add h2]

set_option maxHeartbeats 2000000 in
theorem sum_a (n1 n2 : Bool) (a1 a2 : Option Addr) (c1 c2 : Nat) (z1 z2 : List Int) (e1 e2 : Int) (w : World) (h1 : Lie w a1 z1) (h2 : Lie w a2 z2) (g1 : Good z1 (Nt.val z1)) (g2 : Good z2 (Nt.val z2)) (x1 : -16777216 ≤ e1) (y1 : e1 ≤ 16777216) (x2 : -16777216 ≤ e2) (y2 : e2 ≤ 16777216) (hT : Tab w) (p1 : z1.length ≤ 0) :
    Calls Tryd.prog 77 #[dV n1 a1 z1.length c1 e1, dV n2 a2 z2.length c2 e2] w fun e w' => DRes w w' (sv n1 (Nt.val z1) * pK e1 + sv n2 (Nt.val z2) * pK e2) (-(KK : Int)) e := by
  obtain ⟨d1, d2, d3, hs3⟩ := dcell3 w #[.bool n1, .slice a1 z1.length c1, .int .i64 e1] #[.bool n2, .slice a2 z2.length c2, .int .i64 e2] #[.bool false, .slice none 0 0, .int .i64 0] rfl rfl rfl
  have hb3 := below3 w (.cells #[.bool n1, .slice a1 z1.length c1, .int .i64 e1] 36) (.cells #[.bool n2, .slice a2 z2.length c2, .int .i64 e2] 36) (.cells #[.bool false, .slice none 0 0, .int .i64 0] 36)
  go_enter Tryd.func77, Tryd.ntmps77
  go_wp2_with fail
  generalize hw3 : ((w.alloc (.cells #[.bool n1, .slice a1 z1.length c1, .int .i64 e1] 36)).alloc (.cells #[.bool n2, .slice a2 z2.length c2, .int .i64 e2] 36)).alloc (.cells #[.bool false, .slice none 0 0, .int .i64 0] 36) = w3 at *
  clear hw3
  have q10 := d1.c0
  have q11 := d1.c1
  have q12 := d1.c2
  have q20 := d2.c0
  have q21 := d2.c1
  have q22 := d2.c2
  have l1 := h1.below hb3 (Nat.le_refl _)
  have l2 := h2.below hb3 (Nat.le_refl _)
  have t3 := hT.below hb3 (Nat.le_refl _)
  have hsz : w.heap.size + 1 + 1 < w3.heap.size := by omega
  have hK := KK_int
  refine (nought_yes a1 _ c1 _ p1).mono ?_
  rintro e w' ⟨rfl, rfl⟩
  go_wp2_with fail
  refine (formedR n2 a2 c2 z2 e2 _ l2 g2 t3 (by omega) (by omega)).mono ?_
  rintro e w9 ⟨ng, aa, n, c, xx, code, rfl, hv⟩
  replace d3 := d3.below hv.bel hsz
  have HV := Hide.mk hv
  clear hv
  have f0 := d3.c0
  have f1 := d3.c1
  have f2 := d3.c2
  have r0 := d3.fr 0
  have r1 := d3.fr 1
  have r2 := d3.fr 2
  go_wp2
  refine bodyPost_ret (results_D2 rfl _ _ (w.heap.size + 1 + 1) _ rfl (((d3.set 0 _).set 1 _).set 2 _)) rfl ?_
  have e0 : (sv n1 (Nt.val z1) * pK e1 + sv n2 (Nt.val z2) * pK e2) = sv n2 (Nt.val z2) * pK e2 := by rw [(sv_zero n1).2 (g1.nil (by omega)).2]; omega
  rw [e0]
  exact DRes.toK (DRes.back HV.out hb3 (by omega) hsz _ _ _) (by omega)
set_option maxHeartbeats 2000000 in
theorem sum_b (n1 n2 : Bool) (a1 a2 : Option Addr) (c1 c2 : Nat) (z1 z2 : List Int) (e1 e2 : Int) (w : World) (h1 : Lie w a1 z1) (h2 : Lie w a2 z2) (g1 : Good z1 (Nt.val z1)) (g2 : Good z2 (Nt.val z2)) (x1 : -16777216 ≤ e1) (y1 : e1 ≤ 16777216) (x2 : -16777216 ≤ e2) (y2 : e2 ≤ 16777216) (hT : Tab w) (p1 : 0 < z1.length) (p2 : z2.length ≤ 0) :
    Calls Tryd.prog 77 #[dV n1 a1 z1.length c1 e1, dV n2 a2 z2.length c2 e2] w fun e w' => DRes w w' (sv n1 (Nt.val z1) * pK e1 + sv n2 (Nt.val z2) * pK e2) (-(KK : Int)) e := by
  obtain ⟨d1, d2, d3, hs3⟩ := dcell3 w #[.bool n1, .slice a1 z1.length c1, .int .i64 e1] #[.bool n2, .slice a2 z2.length c2, .int .i64 e2] #[.bool false, .slice none 0 0, .int .i64 0] rfl rfl rfl
  have hb3 := below3 w (.cells #[.bool n1, .slice a1 z1.length c1, .int .i64 e1] 36) (.cells #[.bool n2, .slice a2 z2.length c2, .int .i64 e2] 36) (.cells #[.bool false, .slice none 0 0, .int .i64 0] 36)
  go_enter Tryd.func77, Tryd.ntmps77
  go_wp2_with fail
  generalize hw3 : ((w.alloc (.cells #[.bool n1, .slice a1 z1.length c1, .int .i64 e1] 36)).alloc (.cells #[.bool n2, .slice a2 z2.length c2, .int .i64 e2] 36)).alloc (.cells #[.bool false, .slice none 0 0, .int .i64 0] 36) = w3 at *
  clear hw3
  have q10 := d1.c0
  have q11 := d1.c1
  have q12 := d1.c2
  have q20 := d2.c0
  have q21 := d2.c1
  have q22 := d2.c2
  have l1 := h1.below hb3 (Nat.le_refl _)
  have l2 := h2.below hb3 (Nat.le_refl _)
  have t3 := hT.below hb3 (Nat.le_refl _)
  have hsz : w.heap.size + 1 + 1 < w3.heap.size := by omega
  have hK := KK_int
  refine (nought_no a1 _ c1 _ p1).mono ?_
  rintro e w' ⟨rfl, rfl⟩
  go_wp2_with fail
  refine (nought_yes a2 _ c2 _ p2).mono ?_
  rintro e w' ⟨rfl, rfl⟩
  go_wp2_with fail
  refine (formedR n1 a1 c1 z1 e1 _ l1 g1 t3 (by omega) (by omega)).mono ?_
  rintro e w9 ⟨ng, aa, n, c, xx, code, rfl, hv⟩
  replace d3 := d3.below hv.bel hsz
  have HV := Hide.mk hv
  clear hv
  have f0 := d3.c0
  have f1 := d3.c1
  have f2 := d3.c2
  have r0 := d3.fr 0
  have r1 := d3.fr 1
  have r2 := d3.fr 2
  go_wp2
  refine bodyPost_ret (results_D2 rfl _ _ (w.heap.size + 1 + 1) _ rfl (((d3.set 0 _).set 1 _).set 2 _)) rfl ?_
  have e0 : (sv n1 (Nt.val z1) * pK e1 + sv n2 (Nt.val z2) * pK e2) = sv n1 (Nt.val z1) * pK e1 := by rw [(sv_zero n2).2 (g2.nil (by omega)).2]; omega
  rw [e0]
  exact DRes.toK (DRes.back HV.out hb3 (by omega) hsz _ _ _) (by omega)
set_option maxHeartbeats 2000000 in
theorem sum_level (n1 n2 : Bool) (a1 a2 : Option Addr) (c1 c2 : Nat) (z1 z2 : List Int) (e1 e2 : Int) (w : World) (h1 : Lie w a1 z1) (h2 : Lie w a2 z2) (g1 : Good z1 (Nt.val z1)) (g2 : Good z2 (Nt.val z2)) (x1 : -16777216 ≤ e1) (y1 : e1 ≤ 16777216) (x2 : -16777216 ≤ e2) (y2 : e2 ≤ 16777216) (hT : Tab w) (p1 : 0 < z1.length) (p2 : 0 < z2.length) (o1 : Nt.val z1 % 2 = 1) (o2 : Nt.val z2 % 2 = 1) (he : (e1 == e2) = true) :
    Calls Tryd.prog 77 #[dV n1 a1 z1.length c1 e1, dV n2 a2 z2.length c2 e2] w fun e w' => DRes w w' (sv n1 (Nt.val z1) * pK e1 + sv n2 (Nt.val z2) * pK e2) (-(KK : Int)) e := by
  obtain rfl : e1 = e2 := by simpa using he
  obtain ⟨d1, d2, d3, hs3⟩ := dcell3 w #[.bool n1, .slice a1 z1.length c1, .int .i64 e1] #[.bool n2, .slice a2 z2.length c2, .int .i64 e1] #[.bool false, .slice none 0 0, .int .i64 0] rfl rfl rfl
  have hb3 := below3 w (.cells #[.bool n1, .slice a1 z1.length c1, .int .i64 e1] 36) (.cells #[.bool n2, .slice a2 z2.length c2, .int .i64 e1] 36) (.cells #[.bool false, .slice none 0 0, .int .i64 0] 36)
  go_enter Tryd.func77, Tryd.ntmps77
  go_wp2_with fail
  generalize hw3 : ((w.alloc (.cells #[.bool n1, .slice a1 z1.length c1, .int .i64 e1] 36)).alloc (.cells #[.bool n2, .slice a2 z2.length c2, .int .i64 e1] 36)).alloc (.cells #[.bool false, .slice none 0 0, .int .i64 0] 36) = w3 at *
  clear hw3
  have q10 := d1.c0
  have q11 := d1.c1
  have q12 := d1.c2
  have q20 := d2.c0
  have q21 := d2.c1
  have q22 := d2.c2
  have l1 := h1.below hb3 (Nat.le_refl _)
  have l2 := h2.below hb3 (Nat.le_refl _)
  have t3 := hT.below hb3 (Nat.le_refl _)
  have hsz : w.heap.size + 1 + 1 < w3.heap.size := by omega
  have hK := KK_int
  refine (nought_no a1 _ c1 _ p1).mono ?_
  rintro e w' ⟨rfl, rfl⟩
  go_wp2_with fail
  refine (nought_no a2 _ c2 _ p2).mono ?_
  rintro e w' ⟨rfl, rfl⟩
  go_wp2_with fail
  refine (level127 n1 n2 a1 a2 c1 c2 z1 z2 e1 _ l1 l2 g1 g2 o1 o2 x1 y1 t3).mono ?_
  rintro e w9 ⟨ng, aa, n, c, xx, code, rfl, hv⟩
  replace d3 := d3.below hv.bel hsz
  have HV := Hide.mk hv
  clear hv
  have f0 := d3.c0
  have f1 := d3.c1
  have f2 := d3.c2
  have r0 := d3.fr 0
  have r1 := d3.fr 1
  have r2 := d3.fr 2
  go_wp2
  refine bodyPost_ret (results_D2 rfl _ _ (w.heap.size + 1 + 1) _ rfl (((d3.set 0 _).set 1 _).set 2 _)) rfl ?_
  have e0 : (sv n1 (Nt.val z1) * pK e1 + sv n2 (Nt.val z2) * pK e1) = (sv n1 (Nt.val z1) + sv n2 (Nt.val z2)) * pK e1 := by rw [Int.add_mul]
  rw [e0]
  exact DRes.toK (DRes.back HV.out hb3 (by omega) hsz _ _ _) (by omega)
set_option maxHeartbeats 2000000 in
theorem sum_lt (n1 n2 : Bool) (a1 a2 : Option Addr) (c1 c2 : Nat) (z1 z2 : List Int) (e1 e2 : Int) (w : World) (h1 : Lie w a1 z1) (h2 : Lie w a2 z2) (g1 : Good z1 (Nt.val z1)) (g2 : Good z2 (Nt.val z2)) (x1 : -16777216 ≤ e1) (y1 : e1 ≤ 16777216) (x2 : -16777216 ≤ e2) (y2 : e2 ≤ 16777216) (hT : Tab w) (p1 : 0 < z1.length) (p2 : 0 < z2.length) (o1 : Nt.val z1 % 2 = 1) (o2 : Nt.val z2 % 2 = 1) (he : (e1 == e2) = false) (hl : e1 < e2) (k : Nat) (hk : e2 - e1 - 1 = (k : Int)) :
    Calls Tryd.prog 77 #[dV n1 a1 z1.length c1 e1, dV n2 a2 z2.length c2 e2] w fun e w' => DRes w w' (sv n1 (Nt.val z1) * pK e1 + sv n2 (Nt.val z2) * pK e2) (-(KK : Int)) e := by
  obtain ⟨d1, d2, d3, hs3⟩ := dcell3 w #[.bool n1, .slice a1 z1.length c1, .int .i64 e1] #[.bool n2, .slice a2 z2.length c2, .int .i64 e2] #[.bool false, .slice none 0 0, .int .i64 0] rfl rfl rfl
  have hb3 := below3 w (.cells #[.bool n1, .slice a1 z1.length c1, .int .i64 e1] 36) (.cells #[.bool n2, .slice a2 z2.length c2, .int .i64 e2] 36) (.cells #[.bool false, .slice none 0 0, .int .i64 0] 36)
  go_enter Tryd.func77, Tryd.ntmps77
  go_wp2_with fail
  generalize hw3 : ((w.alloc (.cells #[.bool n1, .slice a1 z1.length c1, .int .i64 e1] 36)).alloc (.cells #[.bool n2, .slice a2 z2.length c2, .int .i64 e2] 36)).alloc (.cells #[.bool false, .slice none 0 0, .int .i64 0] 36) = w3 at *
  clear hw3
  have q10 := d1.c0
  have q11 := d1.c1
  have q12 := d1.c2
  have q20 := d2.c0
  have q21 := d2.c1
  have q22 := d2.c2
  have l1 := h1.below hb3 (Nat.le_refl _)
  have l2 := h2.below hb3 (Nat.le_refl _)
  have t3 := hT.below hb3 (Nat.le_refl _)
  have hsz : w.heap.size + 1 + 1 < w3.heap.size := by omega
  have hK := KK_int
  refine (nought_no a1 _ c1 _ p1).mono ?_
  rintro e w' ⟨rfl, rfl⟩
  go_wp2_with fail
  refine (nought_no a2 _ c2 _ p2).mono ?_
  rintro e w' ⟨rfl, rfl⟩
  go_wp2_with fail
  refine (step128 n2 n1 a2 a1 c2 c1 z2 z1 e2 e1 k _ l2 l1 g2 g1 o1 x1 y2 hk t3).mono ?_
  rintro e w9 ⟨ng, aa, n, c, xx, code, rfl, hv⟩
  replace d3 := d3.below hv.bel hsz
  have HV := Hide.mk hv
  clear hv
  have f0 := d3.c0
  have f1 := d3.c1
  have f2 := d3.c2
  have r0 := d3.fr 0
  have r1 := d3.fr 1
  have r2 := d3.fr 2
  go_wp2
  refine bodyPost_ret (results_D2 rfl _ _ (w.heap.size + 1 + 1) _ rfl (((d3.set 0 _).set 1 _).set 2 _)) rfl ?_
  have e0 : (sv n1 (Nt.val z1) * pK e1 + sv n2 (Nt.val z2) * pK e2) = (sv n2 (Nt.val z2) * 2 ^ (k + 1) + sv n1 (Nt.val z1)) * pK e1 := by rw [pK_step hk (by omega), Int.add_mul, Int.add_comm, Int.mul_right_comm, Int.mul_assoc]
  rw [e0]
  exact DRes.toK (DRes.back HV.out hb3 (by omega) hsz _ _ _) (by omega)
set_option maxHeartbeats 2000000 in
theorem sum_gt (n1 n2 : Bool) (a1 a2 : Option Addr) (c1 c2 : Nat) (z1 z2 : List Int) (e1 e2 : Int) (w : World) (h1 : Lie w a1 z1) (h2 : Lie w a2 z2) (g1 : Good z1 (Nt.val z1)) (g2 : Good z2 (Nt.val z2)) (x1 : -16777216 ≤ e1) (y1 : e1 ≤ 16777216) (x2 : -16777216 ≤ e2) (y2 : e2 ≤ 16777216) (hT : Tab w) (p1 : 0 < z1.length) (p2 : 0 < z2.length) (o1 : Nt.val z1 % 2 = 1) (o2 : Nt.val z2 % 2 = 1) (he : (e1 == e2) = false) (hl : e2 < e1) (k : Nat) (hk : e1 - e2 - 1 = (k : Int)) :
    Calls Tryd.prog 77 #[dV n1 a1 z1.length c1 e1, dV n2 a2 z2.length c2 e2] w fun e w' => DRes w w' (sv n1 (Nt.val z1) * pK e1 + sv n2 (Nt.val z2) * pK e2) (-(KK : Int)) e := by
  obtain ⟨d1, d2, d3, hs3⟩ := dcell3 w #[.bool n1, .slice a1 z1.length c1, .int .i64 e1] #[.bool n2, .slice a2 z2.length c2, .int .i64 e2] #[.bool false, .slice none 0 0, .int .i64 0] rfl rfl rfl
  have hb3 := below3 w (.cells #[.bool n1, .slice a1 z1.length c1, .int .i64 e1] 36) (.cells #[.bool n2, .slice a2 z2.length c2, .int .i64 e2] 36) (.cells #[.bool false, .slice none 0 0, .int .i64 0] 36)
  go_enter Tryd.func77, Tryd.ntmps77
  go_wp2_with fail
  generalize hw3 : ((w.alloc (.cells #[.bool n1, .slice a1 z1.length c1, .int .i64 e1] 36)).alloc (.cells #[.bool n2, .slice a2 z2.length c2, .int .i64 e2] 36)).alloc (.cells #[.bool false, .slice none 0 0, .int .i64 0] 36) = w3 at *
  clear hw3
  have q10 := d1.c0
  have q11 := d1.c1
  have q12 := d1.c2
  have q20 := d2.c0
  have q21 := d2.c1
  have q22 := d2.c2
  have l1 := h1.below hb3 (Nat.le_refl _)
  have l2 := h2.below hb3 (Nat.le_refl _)
  have t3 := hT.below hb3 (Nat.le_refl _)
  have hsz : w.heap.size + 1 + 1 < w3.heap.size := by omega
  have hK := KK_int
  refine (nought_no a1 _ c1 _ p1).mono ?_
  rintro e w' ⟨rfl, rfl⟩
  go_wp2_with fail
  refine (nought_no a2 _ c2 _ p2).mono ?_
  rintro e w' ⟨rfl, rfl⟩
  go_wp2_with fail
  refine (step128 n1 n2 a1 a2 c1 c2 z1 z2 e1 e2 k _ l1 l2 g1 g2 o2 x2 y1 hk t3).mono ?_
  rintro e w9 ⟨ng, aa, n, c, xx, code, rfl, hv⟩
  replace d3 := d3.below hv.bel hsz
  have HV := Hide.mk hv
  clear hv
  have f0 := d3.c0
  have f1 := d3.c1
  have f2 := d3.c2
  have r0 := d3.fr 0
  have r1 := d3.fr 1
  have r2 := d3.fr 2
  go_wp2
  refine bodyPost_ret (results_D2 rfl _ _ (w.heap.size + 1 + 1) _ rfl (((d3.set 0 _).set 1 _).set 2 _)) rfl ?_
  have e0 : (sv n1 (Nt.val z1) * pK e1 + sv n2 (Nt.val z2) * pK e2) = (sv n1 (Nt.val z1) * 2 ^ (k + 1) + sv n2 (Nt.val z2)) * pK e2 := by rw [pK_step hk (by omega), Int.add_mul, Int.mul_right_comm, Int.mul_assoc]
  rw [e0]
  exact DRes.toK (DRes.back HV.out hb3 (by omega) hsz _ _ _) (by omega)
theorem sum103 (n1 n2 : Bool) (a1 a2 : Option Addr) (c1 c2 : Nat) (z1 z2 : List Int) (e1 e2 : Int) (w : World) (h1 : Lie w a1 z1) (h2 : Lie w a2 z2) (g1 : Good z1 (Nt.val z1)) (g2 : Good z2 (Nt.val z2)) (x1 : -16777216 ≤ e1) (y1 : e1 ≤ 16777216) (x2 : -16777216 ≤ e2) (y2 : e2 ≤ 16777216) (hT : Tab w) (o1 : 0 < z1.length → Nt.val z1 % 2 = 1) (o2 : 0 < z2.length → Nt.val z2 % 2 = 1) :
    Calls Tryd.prog 77 #[dV n1 a1 z1.length c1 e1, dV n2 a2 z2.length c2 e2] w fun e w' => DRes w w' (sv n1 (Nt.val z1) * pK e1 + sv n2 (Nt.val z2) * pK e2) (-(KK : Int)) e := by
  by_cases p1 : 0 < z1.length
  · by_cases p2 : 0 < z2.length
    · by_cases he : e1 = e2
      · exact sum_level n1 n2 a1 a2 c1 c2 z1 z2 e1 e2 w h1 h2 g1 g2 x1 y1 x2 y2 hT p1 p2 (o1 p1) (o2 p2) (by simp [he])
      · by_cases hl : e1 < e2
        · exact sum_lt n1 n2 a1 a2 c1 c2 z1 z2 e1 e2 w h1 h2 g1 g2 x1 y1 x2 y2 hT p1 p2 (o1 p1) (o2 p2) (by simp [he]) hl (e2 - e1 - 1).toNat (by omega)
        · exact sum_gt n1 n2 a1 a2 c1 c2 z1 z2 e1 e2 w h1 h2 g1 g2 x1 y1 x2 y2 hT p1 p2 (o1 p1) (o2 p2) (by simp [he]) (by omega) (e1 - e2 - 1).toNat (by omega)
    · exact sum_b n1 n2 a1 a2 c1 c2 z1 z2 e1 e2 w h1 h2 g1 g2 x1 y1 x2 y2 hT p1 (by omega)
  · exact sum_a n1 n2 a1 a2 c1 c2 z1 z2 e1 e2 w h1 h2 g1 g2 x1 y1 x2 y2 hT (by omega)


theorem six (W : World) (g : Nat) (hg : W.heap.size = g) (v0 v1 v2 v3 v4 v5 : Value) : (W.alloc (.cells #[v0, v1, v2, v3, v4, v5] 36)).cell? ⟨g, 0, none⟩ = some v0 ∧ (W.alloc (.cells #[v0, v1, v2, v3, v4, v5] 36)).cell? ⟨g, 1, none⟩ = some v1 ∧ (W.alloc (.cells #[v0, v1, v2, v3, v4, v5] 36)).cell? ⟨g, 2, none⟩ = some v2 ∧
    (W.alloc (.cells #[v0, v1, v2, v3, v4, v5] 36)).cell? ⟨g, 3, none⟩ = some v3 ∧ (W.alloc (.cells #[v0, v1, v2, v3, v4, v5] 36)).cell? ⟨g, 4, none⟩ = some v4 ∧ (W.alloc (.cells #[v0, v1, v2, v3, v4, v5] 36)).cell? ⟨g, 5, none⟩ = some v5 := by
  subst hg
  have hn := heap_alloc_new W (.cells #[v0, v1, v2, v3, v4, v5] 36)
  exact ⟨cell_of_row _ _ 0 _ 36 (0, 0) hn, cell_of_row _ _ 1 _ 36 (0, 0) hn, cell_of_row _ _ 2 _ 36 (0, 0) hn, cell_of_row _ _ 3 _ 36 (0, 0) hn, cell_of_row _ _ 4 _ 36 (0, 0) hn, cell_of_row _ _ 5 _ 36 (0, 0) hn⟩
theorem DG.lie {ng : Bool} {zs : List Int} {ex : Int} (g : DG ng zs ex) {w : World} {a : Option Addr} (h : Lie w a zs) : DLie w a zs := ⟨h, by have := g.len; unfold maxLen; omega, g.can.1⟩

set_option maxHeartbeats 2000000 in
theorem dadd_bad (n1 n2 : Bool) (a1 a2 : Option Addr) (c1 c2 : Nat) (z1 z2 : List Int) (e1 e2 : Int) (w : World) (u1 : DLie w a1 z1) (u2 : DLie w a2 z2) (hq : (dmayB n1 z1 e1 && dmayB n2 z2 e2) = false) :
    Calls Tryd.prog 35 #[dV n1 a1 z1.length c1 e1, dV n2 a2 z2.length c2 e2] w fun e w' => e = .returned (.tuple #[noD, .int .i64 2]) ∧ Below w.heap.size w w' := by
  obtain ⟨d1, d2, d3, hs3⟩ := dcell3 w #[.bool n1, .slice a1 z1.length c1, .int .i64 e1] #[.bool n2, .slice a2 z2.length c2, .int .i64 e2] #[.bool false, .slice none 0 0, .int .i64 0] rfl rfl rfl
  have hb3 := below3 w (.cells #[.bool n1, .slice a1 z1.length c1, .int .i64 e1] 36) (.cells #[.bool n2, .slice a2 z2.length c2, .int .i64 e2] 36) (.cells #[.bool false, .slice none 0 0, .int .i64 0] 36)
  go_enter Tryd.func35, Tryd.ntmps35
  go_wp2_with fail
  generalize hw3 : ((w.alloc (.cells #[.bool n1, .slice a1 z1.length c1, .int .i64 e1] 36)).alloc (.cells #[.bool n2, .slice a2 z2.length c2, .int .i64 e2] 36)).alloc (.cells #[.bool false, .slice none 0 0, .int .i64 0] 36) = w3 at *
  clear hw3
  obtain ⟨k0, k1, k2, k3, k4, k5⟩ := six w3 (w.heap.size + 1 + 1 + 1) (by omega) (.bool n1) (.slice a1 z1.length c1) (.int .i64 e1) (.bool n2) (.slice a2 z2.length c2) (.int .i64 e2)
  have hb4 := below_alloc w3 (.cells #[.bool n1, .slice a1 z1.length c1, .int .i64 e1, .bool n2, .slice a2 z2.length c2, .int .i64 e2] 36)
  refine (dallMay2 (w.heap.size + 1 + 1 + 1) n1 a1 c1 z1 e1 n2 a2 c2 z2 e2 _ ((u1.below hb3).below hb4) ((u2.below hb3).below hb4) _ _ rfl rfl k0 k1 k2 k3 k4 k5).mono ?_
  rintro e w5 ⟨rfl, h5⟩
  clear k0 k1 k2 k3 k4 k5
  rw [hq]
  have hb5 := below_then hb4 h5
  clear hb4 h5
  have hb0 := below_then hb3 hb5
  have hsz : w.heap.size + 1 + 1 < w3.heap.size := by omega
  replace d1 := d1.below hb5 (by omega)
  replace d2 := d2.below hb5 (by omega)
  replace d3 := d3.below hb5 hsz
  have hsz5 := Nat.lt_of_lt_of_le hsz hb5.size
  have q10 := d1.c0
  have q11 := d1.c1
  have q12 := d1.c2
  have q20 := d2.c0
  have q21 := d2.c1
  have q22 := d2.c2
  clear q10 q11 q12 q20 q21 q22 d1 d2
  have f0 := d3.c0
  have f1 := d3.c1
  have f2 := d3.c2
  have r0 := d3.fr 0
  have r1 := d3.fr 1
  have r2 := d3.fr 2
  go_wp2
  refine bodyPost_ret (results_D2 rfl _ _ (w.heap.size + 1 + 1) _ rfl (((d3.set 0 _).set 1 _).set 2 _)) rfl ?_
  exact ⟨rfl, (((hb0.setCell (p := ⟨w.heap.size + 1 + 1, 0, none⟩) (by show w.heap.size ≤ w.heap.size + 1 + 1; omega) _).setCell (p := ⟨w.heap.size + 1 + 1, 1, none⟩) (by show w.heap.size ≤ w.heap.size + 1 + 1; omega) _).setCell (p := ⟨w.heap.size + 1 + 1, 2, none⟩) (by show w.heap.size ≤ w.heap.size + 1 + 1; omega) _)⟩
set_option maxHeartbeats 2000000 in
theorem dsub_bad (n1 n2 : Bool) (a1 a2 : Option Addr) (c1 c2 : Nat) (z1 z2 : List Int) (e1 e2 : Int) (w : World) (u1 : DLie w a1 z1) (u2 : DLie w a2 z2) (hq : (dmayB n1 z1 e1 && dmayB n2 z2 e2) = false) :
    Calls Tryd.prog 36 #[dV n1 a1 z1.length c1 e1, dV n2 a2 z2.length c2 e2] w fun e w' => e = .returned (.tuple #[noD, .int .i64 2]) ∧ Below w.heap.size w w' := by
  obtain ⟨d1, d2, d3, hs3⟩ := dcell3 w #[.bool n1, .slice a1 z1.length c1, .int .i64 e1] #[.bool n2, .slice a2 z2.length c2, .int .i64 e2] #[.bool false, .slice none 0 0, .int .i64 0] rfl rfl rfl
  have hb3 := below3 w (.cells #[.bool n1, .slice a1 z1.length c1, .int .i64 e1] 36) (.cells #[.bool n2, .slice a2 z2.length c2, .int .i64 e2] 36) (.cells #[.bool false, .slice none 0 0, .int .i64 0] 36)
  go_enter Tryd.func36, Tryd.ntmps36
  go_wp2_with fail
  generalize hw3 : ((w.alloc (.cells #[.bool n1, .slice a1 z1.length c1, .int .i64 e1] 36)).alloc (.cells #[.bool n2, .slice a2 z2.length c2, .int .i64 e2] 36)).alloc (.cells #[.bool false, .slice none 0 0, .int .i64 0] 36) = w3 at *
  clear hw3
  obtain ⟨k0, k1, k2, k3, k4, k5⟩ := six w3 (w.heap.size + 1 + 1 + 1) (by omega) (.bool n1) (.slice a1 z1.length c1) (.int .i64 e1) (.bool n2) (.slice a2 z2.length c2) (.int .i64 e2)
  have hb4 := below_alloc w3 (.cells #[.bool n1, .slice a1 z1.length c1, .int .i64 e1, .bool n2, .slice a2 z2.length c2, .int .i64 e2] 36)
  refine (dallMay2 (w.heap.size + 1 + 1 + 1) n1 a1 c1 z1 e1 n2 a2 c2 z2 e2 _ ((u1.below hb3).below hb4) ((u2.below hb3).below hb4) _ _ rfl rfl k0 k1 k2 k3 k4 k5).mono ?_
  rintro e w5 ⟨rfl, h5⟩
  clear k0 k1 k2 k3 k4 k5
  rw [hq]
  have hb5 := below_then hb4 h5
  clear hb4 h5
  have hb0 := below_then hb3 hb5
  have hsz : w.heap.size + 1 + 1 < w3.heap.size := by omega
  replace d1 := d1.below hb5 (by omega)
  replace d2 := d2.below hb5 (by omega)
  replace d3 := d3.below hb5 hsz
  have hsz5 := Nat.lt_of_lt_of_le hsz hb5.size
  have q10 := d1.c0
  have q11 := d1.c1
  have q12 := d1.c2
  have q20 := d2.c0
  have q21 := d2.c1
  have q22 := d2.c2
  clear q10 q11 q12 q20 q21 q22 d1 d2
  have f0 := d3.c0
  have f1 := d3.c1
  have f2 := d3.c2
  have r0 := d3.fr 0
  have r1 := d3.fr 1
  have r2 := d3.fr 2
  go_wp2
  refine bodyPost_ret (results_D2 rfl _ _ (w.heap.size + 1 + 1) _ rfl (((d3.set 0 _).set 1 _).set 2 _)) rfl ?_
  exact ⟨rfl, (((hb0.setCell (p := ⟨w.heap.size + 1 + 1, 0, none⟩) (by show w.heap.size ≤ w.heap.size + 1 + 1; omega) _).setCell (p := ⟨w.heap.size + 1 + 1, 1, none⟩) (by show w.heap.size ≤ w.heap.size + 1 + 1; omega) _).setCell (p := ⟨w.heap.size + 1 + 1, 2, none⟩) (by show w.heap.size ≤ w.heap.size + 1 + 1; omega) _)⟩
set_option maxHeartbeats 2000000 in
theorem dmul_bad (n1 n2 : Bool) (a1 a2 : Option Addr) (c1 c2 : Nat) (z1 z2 : List Int) (e1 e2 : Int) (w : World) (u1 : DLie w a1 z1) (u2 : DLie w a2 z2) (hq : (dmayB n1 z1 e1 && dmayB n2 z2 e2) = false) :
    Calls Tryd.prog 37 #[dV n1 a1 z1.length c1 e1, dV n2 a2 z2.length c2 e2] w fun e w' => e = .returned (.tuple #[noD, .int .i64 2]) ∧ Below w.heap.size w w' := by
  obtain ⟨d1, d2, d3, hs3⟩ := dcell3 w #[.bool n1, .slice a1 z1.length c1, .int .i64 e1] #[.bool n2, .slice a2 z2.length c2, .int .i64 e2] #[.bool false, .slice none 0 0, .int .i64 0] rfl rfl rfl
  have hb3 := below3 w (.cells #[.bool n1, .slice a1 z1.length c1, .int .i64 e1] 36) (.cells #[.bool n2, .slice a2 z2.length c2, .int .i64 e2] 36) (.cells #[.bool false, .slice none 0 0, .int .i64 0] 36)
  go_enter Tryd.func37, Tryd.ntmps37
  go_wp2_with fail
  generalize hw3 : ((w.alloc (.cells #[.bool n1, .slice a1 z1.length c1, .int .i64 e1] 36)).alloc (.cells #[.bool n2, .slice a2 z2.length c2, .int .i64 e2] 36)).alloc (.cells #[.bool false, .slice none 0 0, .int .i64 0] 36) = w3 at *
  clear hw3
  obtain ⟨k0, k1, k2, k3, k4, k5⟩ := six w3 (w.heap.size + 1 + 1 + 1) (by omega) (.bool n1) (.slice a1 z1.length c1) (.int .i64 e1) (.bool n2) (.slice a2 z2.length c2) (.int .i64 e2)
  have hb4 := below_alloc w3 (.cells #[.bool n1, .slice a1 z1.length c1, .int .i64 e1, .bool n2, .slice a2 z2.length c2, .int .i64 e2] 36)
  refine (dallMay2 (w.heap.size + 1 + 1 + 1) n1 a1 c1 z1 e1 n2 a2 c2 z2 e2 _ ((u1.below hb3).below hb4) ((u2.below hb3).below hb4) _ _ rfl rfl k0 k1 k2 k3 k4 k5).mono ?_
  rintro e w5 ⟨rfl, h5⟩
  clear k0 k1 k2 k3 k4 k5
  rw [hq]
  have hb5 := below_then hb4 h5
  clear hb4 h5
  have hb0 := below_then hb3 hb5
  have hsz : w.heap.size + 1 + 1 < w3.heap.size := by omega
  replace d1 := d1.below hb5 (by omega)
  replace d2 := d2.below hb5 (by omega)
  replace d3 := d3.below hb5 hsz
  have hsz5 := Nat.lt_of_lt_of_le hsz hb5.size
  have q10 := d1.c0
  have q11 := d1.c1
  have q12 := d1.c2
  have q20 := d2.c0
  have q21 := d2.c1
  have q22 := d2.c2
  clear q10 q11 q12 q20 q21 q22 d1 d2
  have f0 := d3.c0
  have f1 := d3.c1
  have f2 := d3.c2
  have r0 := d3.fr 0
  have r1 := d3.fr 1
  have r2 := d3.fr 2
  go_wp2
  refine bodyPost_ret (results_D2 rfl _ _ (w.heap.size + 1 + 1) _ rfl (((d3.set 0 _).set 1 _).set 2 _)) rfl ?_
  exact ⟨rfl, (((hb0.setCell (p := ⟨w.heap.size + 1 + 1, 0, none⟩) (by show w.heap.size ≤ w.heap.size + 1 + 1; omega) _).setCell (p := ⟨w.heap.size + 1 + 1, 1, none⟩) (by show w.heap.size ≤ w.heap.size + 1 + 1; omega) _).setCell (p := ⟨w.heap.size + 1 + 1, 2, none⟩) (by show w.heap.size ≤ w.heap.size + 1 + 1; omega) _)⟩
set_option maxHeartbeats 4000000 in
theorem dadd56 (n1 n2 : Bool) (a1 a2 : Option Addr) (c1 c2 : Nat) (z1 z2 : List Int) (e1 e2 : Int) (w : World) (h1 : Lie w a1 z1) (h2 : Lie w a2 z2) (g1 : DG n1 z1 e1) (g2 : DG n2 z2 e2) (hT : Tab w) :
    Calls Tryd.prog 35 #[dV n1 a1 z1.length c1 e1, dV n2 a2 z2.length c2 e2] w fun e w' => DRes w w' (dv n1 z1 e1 + dv n2 z2 e2) (-(KK : Int)) e := by
  have u1 := g1.lie h1
  have u2 := g2.lie h2
  have hK := KK_int
  have b1 := g1.ex_bd
  have b2 := g2.ex_bd
  have hq : (dmayB n1 z1 e1 && dmayB n2 z2 e2) = true := by rw [g1.may, g2.may]; rfl
  obtain ⟨d1, d2, d3, hs3⟩ := dcell3 w #[.bool n1, .slice a1 z1.length c1, .int .i64 e1] #[.bool n2, .slice a2 z2.length c2, .int .i64 e2] #[.bool false, .slice none 0 0, .int .i64 0] rfl rfl rfl
  have hb3 := below3 w (.cells #[.bool n1, .slice a1 z1.length c1, .int .i64 e1] 36) (.cells #[.bool n2, .slice a2 z2.length c2, .int .i64 e2] 36) (.cells #[.bool false, .slice none 0 0, .int .i64 0] 36)
  go_enter Tryd.func35, Tryd.ntmps35
  go_wp2_with fail
  generalize hw3 : ((w.alloc (.cells #[.bool n1, .slice a1 z1.length c1, .int .i64 e1] 36)).alloc (.cells #[.bool n2, .slice a2 z2.length c2, .int .i64 e2] 36)).alloc (.cells #[.bool false, .slice none 0 0, .int .i64 0] 36) = w3 at *
  clear hw3
  obtain ⟨k0, k1, k2, k3, k4, k5⟩ := six w3 (w.heap.size + 1 + 1 + 1) (by omega) (.bool n1) (.slice a1 z1.length c1) (.int .i64 e1) (.bool n2) (.slice a2 z2.length c2) (.int .i64 e2)
  have hb4 := below_alloc w3 (.cells #[.bool n1, .slice a1 z1.length c1, .int .i64 e1, .bool n2, .slice a2 z2.length c2, .int .i64 e2] 36)
  refine (dallMay2 (w.heap.size + 1 + 1 + 1) n1 a1 c1 z1 e1 n2 a2 c2 z2 e2 _ ((u1.below hb3).below hb4) ((u2.below hb3).below hb4) _ _ rfl rfl k0 k1 k2 k3 k4 k5).mono ?_
  rintro e w5 ⟨rfl, h5⟩
  clear k0 k1 k2 k3 k4 k5
  rw [hq]
  have hb5 := below_then hb4 h5
  clear hb4 h5
  have hb0 := below_then hb3 hb5
  have hsz : w.heap.size + 1 + 1 < w3.heap.size := by omega
  replace d1 := d1.below hb5 (by omega)
  replace d2 := d2.below hb5 (by omega)
  replace d3 := d3.below hb5 hsz
  have hsz5 := Nat.lt_of_lt_of_le hsz hb5.size
  have q10 := d1.c0
  have q11 := d1.c1
  have q12 := d1.c2
  have q20 := d2.c0
  have q21 := d2.c1
  have q22 := d2.c2
  clear hq u1 u2
  go_wp2_with fail
  refine (sum103 n1 n2 a1 a2 c1 c2 z1 z2 e1 e2 _ (h1.below hb0 (Nat.le_refl _)) (h2.below hb0 (Nat.le_refl _)) g1.good g2.good b1.1 b1.2 b2.1 b2.2 (hT.below hb0 (Nat.le_refl _)) g1.odd g2.odd).mono ?_
  rintro e w9 ⟨ng, aa, n, c, xx, code, rfl, hv⟩
  replace d3 := d3.below hv.bel hsz5
  have HV := Hide.mk hv
  clear hv q10 q11 q12 q20 q21 q22
  have f0 := d3.c0
  have f1 := d3.c1
  have f2 := d3.c2
  have r0 := d3.fr 0
  have r1 := d3.fr 1
  have r2 := d3.fr 2
  go_wp2
  refine bodyPost_ret (results_D2 rfl _ _ (w.heap.size + 1 + 1) _ rfl (((d3.set 0 _).set 1 _).set 2 _)) rfl ?_
  exact DRes.back HV.out hb0 (by omega) hsz5 _ _ _
set_option maxHeartbeats 4000000 in
theorem dsub57 (n1 n2 : Bool) (a1 a2 : Option Addr) (c1 c2 : Nat) (z1 z2 : List Int) (e1 e2 : Int) (w : World) (h1 : Lie w a1 z1) (h2 : Lie w a2 z2) (g1 : DG n1 z1 e1) (g2 : DG n2 z2 e2) (hT : Tab w) :
    Calls Tryd.prog 36 #[dV n1 a1 z1.length c1 e1, dV n2 a2 z2.length c2 e2] w fun e w' => DRes w w' (dv n1 z1 e1 - dv n2 z2 e2) (-(KK : Int)) e := by
  have u1 := g1.lie h1
  have u2 := g2.lie h2
  have hK := KK_int
  have b1 := g1.ex_bd
  have b2 := g2.ex_bd
  have hq : (dmayB n1 z1 e1 && dmayB n2 z2 e2) = true := by rw [g1.may, g2.may]; rfl
  obtain ⟨d1, d2, d3, hs3⟩ := dcell3 w #[.bool n1, .slice a1 z1.length c1, .int .i64 e1] #[.bool n2, .slice a2 z2.length c2, .int .i64 e2] #[.bool false, .slice none 0 0, .int .i64 0] rfl rfl rfl
  have hb3 := below3 w (.cells #[.bool n1, .slice a1 z1.length c1, .int .i64 e1] 36) (.cells #[.bool n2, .slice a2 z2.length c2, .int .i64 e2] 36) (.cells #[.bool false, .slice none 0 0, .int .i64 0] 36)
  go_enter Tryd.func36, Tryd.ntmps36
  go_wp2_with fail
  generalize hw3 : ((w.alloc (.cells #[.bool n1, .slice a1 z1.length c1, .int .i64 e1] 36)).alloc (.cells #[.bool n2, .slice a2 z2.length c2, .int .i64 e2] 36)).alloc (.cells #[.bool false, .slice none 0 0, .int .i64 0] 36) = w3 at *
  clear hw3
  obtain ⟨k0, k1, k2, k3, k4, k5⟩ := six w3 (w.heap.size + 1 + 1 + 1) (by omega) (.bool n1) (.slice a1 z1.length c1) (.int .i64 e1) (.bool n2) (.slice a2 z2.length c2) (.int .i64 e2)
  have hb4 := below_alloc w3 (.cells #[.bool n1, .slice a1 z1.length c1, .int .i64 e1, .bool n2, .slice a2 z2.length c2, .int .i64 e2] 36)
  refine (dallMay2 (w.heap.size + 1 + 1 + 1) n1 a1 c1 z1 e1 n2 a2 c2 z2 e2 _ ((u1.below hb3).below hb4) ((u2.below hb3).below hb4) _ _ rfl rfl k0 k1 k2 k3 k4 k5).mono ?_
  rintro e w5 ⟨rfl, h5⟩
  clear k0 k1 k2 k3 k4 k5
  rw [hq]
  have hb5 := below_then hb4 h5
  clear hb4 h5
  have hb0 := below_then hb3 hb5
  have hsz : w.heap.size + 1 + 1 < w3.heap.size := by omega
  replace d1 := d1.below hb5 (by omega)
  replace d2 := d2.below hb5 (by omega)
  replace d3 := d3.below hb5 hsz
  have hsz5 := Nat.lt_of_lt_of_le hsz hb5.size
  have q10 := d1.c0
  have q11 := d1.c1
  have q12 := d1.c2
  have q20 := d2.c0
  have q21 := d2.c1
  have q22 := d2.c2
  clear hq u1 u2
  have r20 := d2.fr 0
  have hbs := hb0.setCell (p := ⟨w.heap.size + 1, 0, none⟩) (by show w.heap.size ≤ w.heap.size + 1; omega) (.bool (!n2))
  have d3s : DCell (w5.setCell ⟨w.heap.size + 1, 0, none⟩ (.bool (!n2))) (w.heap.size + 1 + 1) #[.bool false, .slice none 0 0, .int .i64 0] := ⟨by rw [heap_setCell_other _ _ _ _ (by show w.heap.size + 1 + 1 ≠ w.heap.size + 1; omega)]; exact d3.1, rfl⟩
  have hszs : w.heap.size + 1 + 1 < (w5.setCell ⟨w.heap.size + 1, 0, none⟩ (.bool (!n2))).heap.size := by simpa using hsz5
  go_wp2_with fail
  refine (sum103 n1 (!n2) a1 a2 c1 c2 z1 z2 e1 e2 _ (h1.below hbs (Nat.le_refl _)) (h2.below hbs (Nat.le_refl _)) g1.good g2.good b1.1 b1.2 b2.1 b2.2 (hT.below hbs (Nat.le_refl _)) g1.odd g2.odd).mono ?_
  rintro e w9 ⟨ng, aa, n, c, xx, code, rfl, hv⟩
  clear d3
  have d3 := d3s.below hv.bel hszs
  have HV := Hide.mk hv
  clear hv q10 q11 q12 q20 q21 q22 d3s r20
  have f0 := d3.c0
  have f1 := d3.c1
  have f2 := d3.c2
  have r0 := d3.fr 0
  have r1 := d3.fr 1
  have r2 := d3.fr 2
  go_wp2
  refine bodyPost_ret (results_D2 rfl _ _ (w.heap.size + 1 + 1) _ rfl (((d3.set 0 _).set 1 _).set 2 _)) rfl ?_
  have e0 : dv n1 z1 e1 - dv n2 z2 e2 = sv n1 (Nt.val z1) * pK e1 + sv (!n2) (Nt.val z2) * pK e2 := by unfold dv; rw [sv_not, Int.neg_mul]; omega
  rw [e0]
  exact DRes.back HV.out hbs (by omega) hszs _ _ _
theorem mul_longG (a b : Option Addr) (ca cb : Nat) (za zb : List Int) (w : World) {x y : Int} (ha : Lie w a za) (hb : Lie w b zb) (ga : Good za x) (gb : Good zb y) (hf : 4294967296 ^ 4096 ≤ x * y) :
    Calls Tryd.prog 78 #[.slice a za.length ca, .slice b zb.length cb] w fun e w' => e = .returned (.tuple #[.slice none 0 0, .int .i64 3]) ∧ Below w.heap.size w w' := by
  refine (mul26 a b ca cb za zb w ha hb ga.can.1 gb.can.1 ga.may gb.may).mono ?_
  rintro e w' ⟨zs, h1, h2, h3, h4⟩
  rw [ga.val, gb.val] at h2
  rcases h4 with ⟨h5, _⟩ | ⟨_, h5⟩
  · have := (Nt.can_len h1 4096).2 h5
    omega
  · exact ⟨h5, h3⟩
theorem DV.scale2 {w w' : World} {s E E' : Int} {ng : Bool} {a : Option Addr} {n c : Nat} {ex code : Int} (k : Nat) (h : DV w w' s E ng a n c ex code) (hE : E = E' + k) : DV w w' (s * 2 ^ k) E' ng a n c ex code := by
  subst hE; exact h.scale
theorem mul_val {n1 n2 : Bool} {z1 z2 : List Int} {e1 e2 : Int} : sv (n1 != n2) (Nt.val z1 * Nt.val z2) * 2 ^ ((e1 + KK).toNat + (e2 + KK).toNat) = dv n1 z1 e1 * dv n2 z2 e2 := by
  unfold dv pK
  rw [Int.pow_add]
  generalize (2 : Int) ^ (e1 + KK).toNat = P
  generalize (2 : Int) ^ (e2 + KK).toNat = R
  generalize Nt.val z1 = x
  generalize Nt.val z2 = y
  have e : sv (n1 != n2) (x * y) = sv n1 x * sv n2 y := by cases n1 <;> cases n2 <;> simp [sv, Int.neg_mul, Int.mul_neg]
  rw [e]
  generalize sv n1 x = u
  generalize sv n2 y = v
  grind
theorem odd_mul {x y : Int} (hx : x % 2 = 1) (hy : y % 2 = 1) : x * y % 2 = 1 := by
  rw [Int.mul_emod, hx, hy]; rfl
theorem mul_long2 {n1 n2 : Bool} {z1 z2 : List Int} {e1 e2 : Int} {w w' : World} (g1 : DG n1 z1 e1) (g2 : DG n2 z2 e2) (hl : 4294967296 ^ 4096 ≤ Nt.val z1 * Nt.val z2) (hb : Below w.heap.size w w') : DRes w w' (dv n1 z1 e1 * dv n2 z2 e2) (-(2 * (KK : Int))) (.returned (.tuple #[noD, .int .i64 3])) := by
  have p1 : 0 < z1.length := by
    by_cases c : 0 < z1.length
    · exact c
    · obtain ⟨rfl, _, _⟩ := g1.nil (by omega)
      rw [Nt.val_nil, Int.zero_mul] at hl
      have := Nt.pw_pos 4096
      omega
  have p2 : 0 < z2.length := by
    by_cases c : 0 < z2.length
    · exact c
    · obtain ⟨rfl, _, _⟩ := g2.nil (by omega)
      rw [Nt.val_nil, Int.mul_zero] at hl
      have := Nt.pw_pos 4096
      omega
  have ho := odd_mul (g1.odd p1) (g2.odd p2)
  have h0 : 0 ≤ Nt.val z1 * Nt.val z2 := by have := Nt.pw_pos 4096; omega
  have b1 := g1.ex_bd
  have b2 := g2.ex_bd
  have hK := KK_int
  refine ⟨false, none, 0, 0, 0, 3, rfl, ?_⟩
  rw [← mul_val]
  exact DV.scale2 _ (DV.long (E := e1 + e2) hb (by rw [sv_abs _ h0]; exact ho) (by rw [sv_abs _ h0]; exact hl)) (by omega)
set_option maxHeartbeats 4000000 in
theorem dmul_long (n1 n2 : Bool) (a1 a2 : Option Addr) (c1 c2 : Nat) (z1 z2 : List Int) (e1 e2 : Int) (w : World) (h1 : Lie w a1 z1) (h2 : Lie w a2 z2) (g1 : DG n1 z1 e1) (g2 : DG n2 z2 e2) (hT : Tab w) (hl : 4294967296 ^ 4096 ≤ Nt.val z1 * Nt.val z2) :
    Calls Tryd.prog 37 #[dV n1 a1 z1.length c1 e1, dV n2 a2 z2.length c2 e2] w fun e w' => DRes w w' (dv n1 z1 e1 * dv n2 z2 e2) (-(2 * (KK : Int))) e := by
  have u1 := g1.lie h1
  have u2 := g2.lie h2
  have hK := KK_int
  have b1 := g1.ex_bd
  have b2 := g2.ex_bd
  have hq : (dmayB n1 z1 e1 && dmayB n2 z2 e2) = true := by rw [g1.may, g2.may]; rfl
  have HL := Hide.mk hl
  clear hl
  obtain ⟨d1, d2, d3, hs3⟩ := dcell3 w #[.bool n1, .slice a1 z1.length c1, .int .i64 e1] #[.bool n2, .slice a2 z2.length c2, .int .i64 e2] #[.bool false, .slice none 0 0, .int .i64 0] rfl rfl rfl
  have hb3 := below3 w (.cells #[.bool n1, .slice a1 z1.length c1, .int .i64 e1] 36) (.cells #[.bool n2, .slice a2 z2.length c2, .int .i64 e2] 36) (.cells #[.bool false, .slice none 0 0, .int .i64 0] 36)
  go_enter Tryd.func37, Tryd.ntmps37
  go_wp2_with fail
  generalize hw3 : ((w.alloc (.cells #[.bool n1, .slice a1 z1.length c1, .int .i64 e1] 36)).alloc (.cells #[.bool n2, .slice a2 z2.length c2, .int .i64 e2] 36)).alloc (.cells #[.bool false, .slice none 0 0, .int .i64 0] 36) = w3 at *
  clear hw3
  obtain ⟨k0, k1, k2, k3, k4, k5⟩ := six w3 (w.heap.size + 1 + 1 + 1) (by omega) (.bool n1) (.slice a1 z1.length c1) (.int .i64 e1) (.bool n2) (.slice a2 z2.length c2) (.int .i64 e2)
  have hb4 := below_alloc w3 (.cells #[.bool n1, .slice a1 z1.length c1, .int .i64 e1, .bool n2, .slice a2 z2.length c2, .int .i64 e2] 36)
  refine (dallMay2 (w.heap.size + 1 + 1 + 1) n1 a1 c1 z1 e1 n2 a2 c2 z2 e2 _ ((u1.below hb3).below hb4) ((u2.below hb3).below hb4) _ _ rfl rfl k0 k1 k2 k3 k4 k5).mono ?_
  rintro e w5 ⟨rfl, h5⟩
  clear k0 k1 k2 k3 k4 k5
  rw [hq]
  have hb5 := below_then hb4 h5
  clear hb4 h5
  have hb0 := below_then hb3 hb5
  have hsz : w.heap.size + 1 + 1 < w3.heap.size := by omega
  replace d1 := d1.below hb5 (by omega)
  replace d2 := d2.below hb5 (by omega)
  replace d3 := d3.below hb5 hsz
  have hsz5 := Nat.lt_of_lt_of_le hsz hb5.size
  have q10 := d1.c0
  have q11 := d1.c1
  have q12 := d1.c2
  have q20 := d2.c0
  have q21 := d2.c1
  have q22 := d2.c2
  clear hq u1 u2
  go_wp2_with fail
  refine (mul_longG a1 a2 c1 c2 z1 z2 _ (h1.below hb0 (Nat.le_refl _)) (h2.below hb0 (Nat.le_refl _)) g1.good g2.good HL.out).mono ?_
  rintro e w6 ⟨rfl, h6⟩
  replace d3 := d3.below h6 hsz5
  have hb6 := below_then hb0 h6
  clear q10 q11 q12 q20 q21 q22 h6 d1 d2
  have f0 := d3.c0
  have f1 := d3.c1
  have f2 := d3.c2
  have r0 := d3.fr 0
  have r1 := d3.fr 1
  have r2 := d3.fr 2
  go_wp2
  refine bodyPost_ret (results_D2 rfl _ _ (w.heap.size + 1 + 1) _ rfl (((d3.set 0 _).set 1 _).set 2 _)) rfl ?_
  exact mul_long2 g1 g2 HL.out (((hb6.setCell (p := ⟨w.heap.size + 1 + 1, 0, none⟩) (by show w.heap.size ≤ w.heap.size + 1 + 1; omega) _).setCell (p := ⟨w.heap.size + 1 + 1, 1, none⟩) (by show w.heap.size ≤ w.heap.size + 1 + 1; omega) _).setCell (p := ⟨w.heap.size + 1 + 1, 2, none⟩) (by show w.heap.size ≤ w.heap.size + 1 + 1; omega) _)
set_option maxHeartbeats 4000000 in
theorem dmul_fits (n1 n2 : Bool) (a1 a2 : Option Addr) (c1 c2 : Nat) (z1 z2 : List Int) (e1 e2 : Int) (w : World) (h1 : Lie w a1 z1) (h2 : Lie w a2 z2) (g1 : DG n1 z1 e1) (g2 : DG n2 z2 e2) (hT : Tab w) (hl : Nt.val z1 * Nt.val z2 < 4294967296 ^ 4096) :
    Calls Tryd.prog 37 #[dV n1 a1 z1.length c1 e1, dV n2 a2 z2.length c2 e2] w fun e w' => DRes w w' (dv n1 z1 e1 * dv n2 z2 e2) (-(2 * (KK : Int))) e := by
  have u1 := g1.lie h1
  have u2 := g2.lie h2
  have hK := KK_int
  have b1 := g1.ex_bd
  have b2 := g2.ex_bd
  have hq : (dmayB n1 z1 e1 && dmayB n2 z2 e2) = true := by rw [g1.may, g2.may]; rfl
  have HL := Hide.mk hl
  clear hl
  obtain ⟨d1, d2, d3, hs3⟩ := dcell3 w #[.bool n1, .slice a1 z1.length c1, .int .i64 e1] #[.bool n2, .slice a2 z2.length c2, .int .i64 e2] #[.bool false, .slice none 0 0, .int .i64 0] rfl rfl rfl
  have hb3 := below3 w (.cells #[.bool n1, .slice a1 z1.length c1, .int .i64 e1] 36) (.cells #[.bool n2, .slice a2 z2.length c2, .int .i64 e2] 36) (.cells #[.bool false, .slice none 0 0, .int .i64 0] 36)
  go_enter Tryd.func37, Tryd.ntmps37
  go_wp2_with fail
  generalize hw3 : ((w.alloc (.cells #[.bool n1, .slice a1 z1.length c1, .int .i64 e1] 36)).alloc (.cells #[.bool n2, .slice a2 z2.length c2, .int .i64 e2] 36)).alloc (.cells #[.bool false, .slice none 0 0, .int .i64 0] 36) = w3 at *
  clear hw3
  obtain ⟨k0, k1, k2, k3, k4, k5⟩ := six w3 (w.heap.size + 1 + 1 + 1) (by omega) (.bool n1) (.slice a1 z1.length c1) (.int .i64 e1) (.bool n2) (.slice a2 z2.length c2) (.int .i64 e2)
  have hb4 := below_alloc w3 (.cells #[.bool n1, .slice a1 z1.length c1, .int .i64 e1, .bool n2, .slice a2 z2.length c2, .int .i64 e2] 36)
  refine (dallMay2 (w.heap.size + 1 + 1 + 1) n1 a1 c1 z1 e1 n2 a2 c2 z2 e2 _ ((u1.below hb3).below hb4) ((u2.below hb3).below hb4) _ _ rfl rfl k0 k1 k2 k3 k4 k5).mono ?_
  rintro e w5 ⟨rfl, h5⟩
  clear k0 k1 k2 k3 k4 k5
  rw [hq]
  have hb5 := below_then hb4 h5
  clear hb4 h5
  have hb0 := below_then hb3 hb5
  have hsz : w.heap.size + 1 + 1 < w3.heap.size := by omega
  replace d1 := d1.below hb5 (by omega)
  replace d2 := d2.below hb5 (by omega)
  replace d3 := d3.below hb5 hsz
  have hsz5 := Nat.lt_of_lt_of_le hsz hb5.size
  have q10 := d1.c0
  have q11 := d1.c1
  have q12 := d1.c2
  have q20 := d2.c0
  have q21 := d2.c1
  have q22 := d2.c2
  clear hq u1 u2
  go_wp2_with fail
  refine (mul_fit a1 a2 c1 c2 z1 z2 _ (h1.below hb0 (Nat.le_refl _)) (h2.below hb0 (Nat.le_refl _)) g1.good g2.good ⟨Int.mul_nonneg g1.good.nonneg g2.good.nonneg, HL.out⟩).mono ?_
  rintro e w6 ⟨z6, a6, c6, rfl, h6, _⟩
  replace d1 := d1.below h6.bel (by omega)
  replace d2 := d2.below h6.bel (by omega)
  replace d3 := d3.below h6.bel hsz5
  have hb6 := below_then hb0 h6.bel
  have hsz6 := Nat.lt_of_lt_of_le hsz5 h6.bel.size
  have G6 := h6.good
  have l6 := h6.lie
  clear q10 q11 q12 q20 q21 q22 h6
  have q10 := d1.c0
  have q12 := d1.c2
  have q20 := d2.c0
  have q22 := d2.c2
  go_wp2_with fail
  refine (formedR (n1 != n2) a6 c6 z6 (e1 + e2) _ l6 G6 (hT.below hb6 (Nat.le_refl _)) (by omega) (by omega)).mono ?_
  rintro e w9 ⟨ng, aa, n, c, xx, code, rfl, hv⟩
  replace d3 := d3.below hv.bel hsz6
  have HV := Hide.mk hv
  clear hv q10 q12 q20 q22
  have f0 := d3.c0
  have f1 := d3.c1
  have f2 := d3.c2
  have r0 := d3.fr 0
  have r1 := d3.fr 1
  have r2 := d3.fr 2
  go_wp2
  refine bodyPost_ret (results_D2 rfl _ _ (w.heap.size + 1 + 1) _ rfl (((d3.set 0 _).set 1 _).set 2 _)) rfl ?_
  obtain ⟨u1, u2, u3, u4, u5, u6, hu, hv⟩ := DRes.back HV.out hb6 (by omega) hsz6 (.bool ng) (.slice aa n c) (.int .i64 xx)
  refine ⟨u1, u2, u3, u4, u5, u6, hu, ?_⟩
  rw [← mul_val]
  exact DV.scale2 _ hv (by omega)
theorem dmul58 (n1 n2 : Bool) (a1 a2 : Option Addr) (c1 c2 : Nat) (z1 z2 : List Int) (e1 e2 : Int) (w : World) (h1 : Lie w a1 z1) (h2 : Lie w a2 z2) (g1 : DG n1 z1 e1) (g2 : DG n2 z2 e2) (hT : Tab w) :
    Calls Tryd.prog 37 #[dV n1 a1 z1.length c1 e1, dV n2 a2 z2.length c2 e2] w fun e w' => DRes w w' (dv n1 z1 e1 * dv n2 z2 e2) (-(2 * (KK : Int))) e := by
  by_cases hl : Nt.val z1 * Nt.val z2 < 4294967296 ^ 4096
  · exact dmul_fits n1 n2 a1 a2 c1 c2 z1 z2 e1 e2 w h1 h2 g1 g2 hT hl
  · exact dmul_long n1 n2 a1 a2 c1 c2 z1 z2 e1 e2 w h1 h2 g1 g2 hT (by omega)

end Go.Proofs.YtiamdmfhkhlppaaDoor
