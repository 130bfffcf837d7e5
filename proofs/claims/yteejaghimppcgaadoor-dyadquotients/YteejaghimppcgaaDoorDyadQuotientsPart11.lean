import Derived.Test.YteejaghimppcgaaDoorM10
import Derived.Test.YteejaghimppcgaaDoorDyadQuotientsPart8
import Derived.RegionTactic
import Derived.WalkKit
import Derived.WalkSpells
import Derived.Below
import Derived.Laws.ResultCell
import Derived.Laws.Rows
import Derived.Laws.BitsAllLaws
namespace Go.Proofs.YteejaghimppcgaaDoor
open Go.RowKit
set_option linter.unusedVariables false
set_option maxRecDepth 3000
theorem DRes.toK {w w' : World} {s E : Int} {e : Ending} (h : DRes w w' s E e) (hE : -(KK : Int) ≤ E) : DRes w w' (s * pK E) (-(KK : Int)) e := by
  obtain ⟨ng, a, n, c, ex, code, h1, h2⟩ := h
  refine ⟨ng, a, n, c, ex, code, h1, ?_⟩
  have e : E = -(KK : Int) + ((E + KK).toNat : Nat) := by omega
  rw [e] at h2
  exact h2.scale
theorem DRes.back {w0 w w' : World} {s E : Int} {ng : Bool} {a : Option Addr} {n c : Nat} {ex code : Int} (h : DV w w' s E ng a n c ex code) (hb : Below w0.heap.size w0 w) {g : Nat} (hg : w0.heap.size ≤ g) (hg' : g < w.heap.size) (u0 u1 u2 : Value) :
    DRes w0 (((w'.setCell ⟨g, 0, none⟩ u0).setCell ⟨g, 1, none⟩ u1).setCell ⟨g, 2, none⟩ u2) s E (.returned (.tuple #[dV ng a n c ex, .int .i64 code])) := ⟨ng, a, n, c, ex, code, rfl, h.back hb hg hg' u0 u1 u2⟩
theorem pK_step {e1 e2 : Int} {k : Nat} (h : e1 - e2 - 1 = (k : Int)) (h2 : -(KK : Int) ≤ e2) : pK e1 = pK e2 * 2 ^ (k + 1) := by
  rw [show e1 = e2 + ((k + 1 : Nat) : Int) by omega, pK_add h2]

set_option maxHeartbeats 2000000 in
theorem sum_a (n1 n2 : Bool) (a1 a2 : Option Addr) (c1 c2 : Nat) (z1 z2 : List Int) (e1 e2 : Int) (w : World) (h1 : Lie w a1 z1) (h2 : Lie w a2 z2) (g1 : Good z1 (Nt.val z1)) (g2 : Good z2 (Nt.val z2)) (x1 : -16777216 ≤ e1) (y1 : e1 ≤ 16777216) (x2 : -16777216 ≤ e2) (y2 : e2 ≤ 16777216) (hT : Tab w) (p1 : z1.length ≤ 0) :
    Calls Tryd.prog 77 #[dV n1 a1 z1.length c1 e1, dV n2 a2 z2.length c2 e2] w fun e w' => DRes w w' (sv n1 (Nt.val z1) * pK e1 + sv n2 (Nt.val z2) * pK e2) (-(KK : Int)) e := by
  obtain ⟨d1, d2, d3, hs3⟩ := dcell3 w #[.bool n1, .slice a1 z1.length c1, .int .i64 e1] #[.bool n2, .slice a2 z2.length c2, .int .i64 e2] #[.bool false, .slice none 0 0, .int .i64 0] rfl rfl rfl
  have hb3 := below3 w (.cells #[.bool n1, .slice a1 z1.length c1, .int .i64 e1] 36) (.cells #[.bool n2, .slice a2 z2.length c2, .int .i64 e2] 36) (.cells #[.bool false, .slice none 0 0, .int .i64 0] 36)
  go_enter Tryd.func77, Tryd.ntmps77
  go_wp2_with fail
  generalize hw3 : ((w.alloc (.cells #[.bool n1, .slice a1 z1.length c1, .int .i64 e1] 36)).alloc (.cells #[.bool n2, .slice a2 z2.length c2, .int .i64 e2] 36)).alloc (.cells #[.bool false, .slice none 0 0, .int .i64 0] 36) = w3 at *
  clear hw3
  have q10 := d1.c0
  have q11 := d1.c1
  have q12 := d1.c2
  have q20 := d2.c0
  have q21 := d2.c1
  have q22 := d2.c2
  have l1 := h1.below hb3 (Nat.le_refl _)
  have l2 := h2.below hb3 (Nat.le_refl _)
  have t3 := hT.below hb3 (Nat.le_refl _)
  have hsz : w.heap.size + 1 + 1 < w3.heap.size := by omega
  have hK := KK_int
  refine (nought_yes a1 _ c1 _ p1).mono ?_
  rintro e w' ⟨rfl, rfl⟩
  go_wp2_with fail
  refine (formedR n2 a2 c2 z2 e2 _ l2 g2 t3 (by omega) (by omega)).mono ?_
  rintro e w9 ⟨ng, aa, n, c, xx, code, rfl, hv⟩
  replace d3 := d3.below hv.bel hsz
  have HV := Hide.mk hv
  clear hv
  have f0 := d3.c0
  have f1 := d3.c1
  have f2 := d3.c2
  have r0 := d3.fr 0
  have r1 := d3.fr 1
  have r2 := d3.fr 2
  go_wp2
  refine bodyPost_ret (results_D2 rfl _ _ (w.heap.size + 1 + 1) _ rfl (((d3.set 0 _).set 1 _).set 2 _)) rfl ?_
  have e0 : (sv n1 (Nt.val z1) * pK e1 + sv n2 (Nt.val z2) * pK e2) = sv n2 (Nt.val z2) * pK e2 := by rw [(sv_zero n1).2 (g1.nil (by omega)).2]; omega
  rw [e0]
  exact DRes.toK (DRes.back HV.out hb3 (by omega) hsz _ _ _) (by omega)
set_option maxHeartbeats 2000000 in
theorem sum_b (n1 n2 : Bool) (a1 a2 : Option Addr) (c1 c2 : Nat) (z1 z2 : List Int) (e1 e2 : Int) (w : World) (h1 : Lie w a1 z1) (h2 : Lie w a2 z2) (g1 : Good z1 (Nt.val z1)) (g2 : Good z2 (Nt.val z2)) (x1 : -16777216 ≤ e1) (y1 : e1 ≤ 16777216) (x2 : -16777216 ≤ e2) (y2 : e2 ≤ 16777216) (hT : Tab w) (p1 : 0 < z1.length) (p2 : z2.length ≤ 0) :
    Calls Tryd.prog 77 #[dV n1 a1 z1.length c1 e1, dV n2 a2 z2.length c2 e2] w fun e w' => DRes w w' (sv n1 (Nt.val z1) * pK e1 + sv n2 (Nt.val z2) * pK e2) (-(KK : Int)) e := by
  obtain ⟨d1, d2, d3, hs3⟩ := dcell3 w #[.bool n1, .slice a1 z1.length c1, .int .i64 e1] #[.bool n2, .slice a2 z2.length c2, .int .i64 e2] #[.bool false, .slice none 0 0, .int .i64 0] rfl rfl rfl
  have hb3 := below3 w (.cells #[.bool n1, .slice a1 z1.length c1, .int .i64 e1] 36) (.cells #[.bool n2, .slice a2 z2.length c2, .int .i64 e2] 36) (.cells #[.bool false, .slice none 0 0, .int .i64 0] 36)
  go_enter Tryd.func77, Tryd.ntmps77
  go_wp2_with fail
  generalize hw3 : ((w.alloc (.cells #[.bool n1, .slice a1 z1.length c1, .int .i64 e1] 36)).alloc (.cells #[.bool n2, .slice a2 z2.length c2, .int .i64 e2] 36)).alloc (.cells #[.bool false, .slice none 0 0, .int .i64 0] 36) = w3 at *
  clear hw3
  have q10 := d1.c0
  have q11 := d1.c1
  have q12 := d1.c2
  have q20 := d2.c0
  have q21 := d2.c1
  have q22 := d2.c2
  have l1 := h1.below hb3 (Nat.le_refl _)
  have l2 := h2.below hb3 (Nat.le_refl _)
  have t3 := hT.below hb3 (Nat.le_refl _)
  have hsz : w.heap.size + 1 + 1 < w3.heap.size := by omega
  have hK := KK_int
  refine (nought_no a1 _ c1 _ p1).mono ?_
  rintro e w' ⟨rfl, rfl⟩
  go_wp2_with fail
  refine (nought_yes a2 _ c2 _ p2).mono ?_
  rintro e w' ⟨rfl, rfl⟩
  go_wp2_with fail
  refine (formedR n1 a1 c1 z1 e1 _ l1 g1 t3 (by omega) (by omega)).mono ?_
  rintro e w9 ⟨ng, aa, n, c, xx, code, rfl, hv⟩
  replace d3 := d3.below hv.bel hsz
  have HV := Hide.mk hv
  clear hv
  have f0 := d3.c0
  have f1 := d3.c1
  have f2 := d3.c2
  have r0 := d3.fr 0
  have r1 := d3.fr 1
  have r2 := d3.fr 2
  go_wp2
  refine bodyPost_ret (results_D2 rfl _ _ (w.heap.size + 1 + 1) _ rfl (((d3.set 0 _).set 1 _).set 2 _)) rfl ?_
  have e0 : (sv n1 (Nt.val z1) * pK e1 + sv n2 (Nt.val z2) * pK e2) = sv n1 (Nt.val z1) * pK e1 := by rw [(sv_zero n2).2 (g2.nil (by omega)).2]; omega
  rw [e0]
  exact DRes.toK (DRes.back HV.out hb3 (by omega) hsz _ _ _) (by omega)
set_option maxHeartbeats 2000000 in
theorem sum_level (n1 n2 : Bool) (a1 a2 : Option Addr) (c1 c2 : Nat) (z1 z2 : List Int) (e1 e2 : Int) (w : World) (h1 : Lie w a1 z1) (h2 : Lie w a2 z2) (g1 : Good z1 (Nt.val z1)) (g2 : Good z2 (Nt.val z2)) (x1 : -16777216 ≤ e1) (y1 : e1 ≤ 16777216) (x2 : -16777216 ≤ e2) (y2 : e2 ≤ 16777216) (hT : Tab w) (p1 : 0 < z1.length) (p2 : 0 < z2.length) (o1 : Nt.val z1 % 2 = 1) (o2 : Nt.val z2 % 2 = 1) (he : (e1 == e2) = true) :
    Calls Tryd.prog 77 #[dV n1 a1 z1.length c1 e1, dV n2 a2 z2.length c2 e2] w fun e w' => DRes w w' (sv n1 (Nt.val z1) * pK e1 + sv n2 (Nt.val z2) * pK e2) (-(KK : Int)) e := by
  obtain rfl : e1 = e2 := by simpa using he
  obtain ⟨d1, d2, d3, hs3⟩ := dcell3 w #[.bool n1, .slice a1 z1.length c1, .int .i64 e1] #[.bool n2, .slice a2 z2.length c2, .int .i64 e1] #[.bool false, .slice none 0 0, .int .i64 0] rfl rfl rfl
  have hb3 := below3 w (.cells #[.bool n1, .slice a1 z1.length c1, .int .i64 e1] 36) (.cells #[.bool n2, .slice a2 z2.length c2, .int .i64 e1] 36) (.cells #[.bool false, .slice none 0 0, .int .i64 0] 36)
  go_enter Tryd.func77, Tryd.ntmps77
  go_wp2_with fail
  generalize hw3 : ((w.alloc (.cells #[.bool n1, .slice a1 z1.length c1, .int .i64 e1] 36)).alloc (.cells #[.bool n2, .slice a2 z2.length c2, .int .i64 e1] 36)).alloc (.cells #[.bool false, .slice none 0 0, .int .i64 0] 36) = w3 at *
  clear hw3
  have q10 := d1.c0
  have q11 := d1.c1
  have q12 := d1.c2
  have q20 := d2.c0
  have q21 := d2.c1
  have q22 := d2.c2
  have l1 := h1.below hb3 (Nat.le_refl _)
  have l2 := h2.below hb3 (Nat.le_refl _)
  have t3 := hT.below hb3 (Nat.le_refl _)
  have hsz : w.heap.size + 1 + 1 < w3.heap.size := by omega
  have hK := KK_int
  refine (nought_no a1 _ c1 _ p1).mono ?_
  rintro e w' ⟨rfl, rfl⟩
  go_wp2_with fail
  refine (nought_no a2 _ c2 _ p2).mono ?_
  rintro e w' ⟨rfl, rfl⟩
  go_wp2_with fail
  refine (level127 n1 n2 a1 a2 c1 c2 z1 z2 e1 _ l1 l2 g1 g2 o1 o2 x1 y1 t3).mono ?_
  rintro e w9 ⟨ng, aa, n, c, xx, code, rfl, hv⟩
  replace d3 := d3.below hv.bel hsz
  have HV := Hide.mk hv
  clear hv
  have f0 := d3.c0
  have f1 := d3.c1
  have f2 := d3.c2
  have r0 := d3.fr 0
  have r1 := d3.fr 1
  have r2 := d3.fr 2
  go_wp2
  refine bodyPost_ret (results_D2 rfl _ _ (w.heap.size + 1 + 1) _ rfl (((d3.set 0 _).set 1 _).set 2 _)) rfl ?_
  have e0 : (sv n1 (Nt.val z1) * pK e1 + sv n2 (Nt.val z2) * pK e1) = (sv n1 (Nt.val z1) + sv n2 (Nt.val z2)) * pK e1 := by rw [Int.add_mul]
  rw [e0]
  exact DRes.toK (DRes.back HV.out hb3 (by omega) hsz _ _ _) (by omega)
set_option maxHeartbeats 2000000 in
theorem sum_lt (n1 n2 : Bool) (a1 a2 : Option Addr) (c1 c2 : Nat) (z1 z2 : List Int) (e1 e2 : Int) (w : World) (h1 : Lie w a1 z1) (h2 : Lie w a2 z2) (g1 : Good z1 (Nt.val z1)) (g2 : Good z2 (Nt.val z2)) (x1 : -16777216 ≤ e1) (y1 : e1 ≤ 16777216) (x2 : -16777216 ≤ e2) (y2 : e2 ≤ 16777216) (hT : Tab w) (p1 : 0 < z1.length) (p2 : 0 < z2.length) (o1 : Nt.val z1 % 2 = 1) (o2 : Nt.val z2 % 2 = 1) (he : (e1 == e2) = false) (hl : e1 < e2) (k : Nat) (hk : e2 - e1 - 1 = (k : Int)) :
    Calls Tryd.prog 77 #[dV n1 a1 z1.length c1 e1, dV n2 a2 z2.length c2 e2] w fun e w' => DRes w w' (sv n1 (Nt.val z1) * pK e1 + sv n2 (Nt.val z2) * pK e2) (-(KK : Int)) e := by
  obtain ⟨d1, d2, d3, hs3⟩ := dcell3 w #[.bool n1, .slice a1 z1.length c1, .int .i64 e1] #[.bool n2, .slice a2 z2.length c2, .int .i64 e2] #[.bool false, .slice none 0 0, .int .i64 0] rfl rfl rfl
  have hb3 := below3 w (.cells #[.bool n1, .slice a1 z1.length c1, .int .i64 e1] 36) (.cells #[.bool n2, .slice a2 z2.length c2, .int .i64 e2] 36) (.cells #[.bool false, .slice none 0 0, .int .i64 0] 36)
  go_enter Tryd.func77, Tryd.ntmps77
  go_wp2_with fail
  generalize hw3 : ((w.alloc (.cells #[.bool n1, .slice a1 z1.length c1, .int .i64 e1] 36)).alloc (.cells #[.bool n2, .slice a2 z2.length c2, .int .i64 e2] 36)).alloc (.cells #[.bool false, .slice none 0 0, .int .i64 0] 36) = w3 at *
  clear hw3
  have q10 := d1.c0
  have q11 := d1.c1
  have q12 := d1.c2
  have q20 := d2.c0
  have q21 := d2.c1
  have q22 := d2.c2
  have l1 := h1.below hb3 (Nat.le_refl _)
  have l2 := h2.below hb3 (Nat.le_refl _)
  have t3 := hT.below hb3 (Nat.le_refl _)
  have hsz : w.heap.size + 1 + 1 < w3.heap.size := by omega
  have hK := KK_int
  refine (nought_no a1 _ c1 _ p1).mono ?_
  rintro e w' ⟨rfl, rfl⟩
  go_wp2_with fail
  refine (nought_no a2 _ c2 _ p2).mono ?_
  rintro e w' ⟨rfl, rfl⟩
  go_wp2_with fail
  refine (step128 n2 n1 a2 a1 c2 c1 z2 z1 e2 e1 k _ l2 l1 g2 g1 o1 x1 y2 hk t3).mono ?_
  rintro e w9 ⟨ng, aa, n, c, xx, code, rfl, hv⟩
  replace d3 := d3.below hv.bel hsz
  have HV := Hide.mk hv
  clear hv
  have f0 := d3.c0
  have f1 := d3.c1
  have f2 := d3.c2
  have r0 := d3.fr 0
  have r1 := d3.fr 1
  have r2 := d3.fr 2
  go_wp2
  refine bodyPost_ret (results_D2 rfl _ _ (w.heap.size + 1 + 1) _ rfl (((d3.set 0 _).set 1 _).set 2 _)) rfl ?_
  have e0 : (sv n1 (Nt.val z1) * pK e1 + sv n2 (Nt.val z2) * pK e2) = (sv n2 (Nt.val z2) * 2 ^ (k + 1) + sv n1 (Nt.val z1)) * pK e1 := by rw [pK_step hk (by omega), Int.add_mul, Int.add_comm, Int.mul_right_comm, Int.mul_assoc]
  rw [e0]
  exact DRes.toK (DRes.back HV.out hb3 (by omega) hsz _ _ _) (by omega)
set_option maxHeartbeats 2000000 in
theorem sum_gt (n1 n2 : Bool) (a1 a2 : Option Addr) (c1 c2 : Nat) (z1 z2 : List Int) (e1 e2 : Int) (w : World) (h1 : Lie w a1 z1) (h2 : Lie w a2 z2) (g1 : Good z1 (Nt.val z1)) (g2 : Good z2 (Nt.val z2)) (x1 : -16777216 ≤ e1) (y1 : e1 ≤ 16777216) (x2 : -16777216 ≤ e2) (y2 : e2 ≤ 16777216) (hT : Tab w) (p1 : 0 < z1.length) (p2 : 0 < z2.length) (o1 : Nt.val z1 % 2 = 1) (o2 : Nt.val z2 % 2 = 1) (he : (e1 == e2) = false) (hl : e2 < e1) (k : Nat) (hk : e1 - e2 - 1 = (k : Int)) :
    Calls Tryd.prog 77 #[dV n1 a1 z1.length c1 e1, dV n2 a2 z2.length c2 e2] w fun e w' => DRes w w' (sv n1 (Nt.val z1) * pK e1 + sv n2 (Nt.val z2) * pK e2) (-(KK : Int)) e := by
  obtain ⟨d1, d2, d3, hs3⟩ := dcell3 w #[.bool n1, .slice a1 z1.length c1, .int .i64 e1] #[.bool n2, .slice a2 z2.length c2, .int .i64 e2] #[.bool false, .slice none 0 0, .int .i64 0] rfl rfl rfl
  have hb3 := below3 w (.cells #[.bool n1, .slice a1 z1.length c1, .int .i64 e1] 36) (.cells #[.bool n2, .slice a2 z2.length c2, .int .i64 e2] 36) (.cells #[.bool false, .slice none 0 0, .int .i64 0] 36)
  go_enter Tryd.func77, Tryd.ntmps77
  go_wp2_with fail
  generalize hw3 : ((w.alloc (.cells #[.bool n1, .slice a1 z1.length c1, .int .i64 e1] 36)).alloc (.cells #[.bool n2, .slice a2 z2.length c2, .int .i64 e2] 36)).alloc (.cells #[.bool false, .slice none 0 0, .int .i64 0] 36) = w3 at *
  clear hw3
  have q10 := d1.c0
  have q11 := d1.c1
  have q12 := d1.c2
  have q20 := d2.c0
  have q21 := d2.c1
  have q22 := d2.c2
  have l1 := h1.below hb3 (Nat.le_refl _)
  have l2 := h2.below hb3 (Nat.le_refl _)
  have t3 := hT.below hb3 (Nat.le_refl _)
  have hsz : w.heap.size + 1 + 1 < w3.heap.size := by omega
  have hK := KK_int
  refine (nought_no a1 _ c1 _ p1).mono ?_
  rintro e w' ⟨rfl, rfl⟩
  go_wp2_with fail
  refine (nought_no a2 _ c2 _ p2).mono ?_
  rintro e w' ⟨rfl, rfl⟩
  go_wp2_with fail
  refine (step128 n1 n2 a1 a2 c1 c2 z1 z2 e1 e2 k _ l1 l2 g1 g2 o2 x2 y1 hk t3).mono ?_
  rintro e w9 ⟨ng, aa, n, c, xx, code, rfl, hv⟩
  replace d3 := d3.below hv.bel hsz
  have HV := Hide.mk hv
  clear hv
  have f0 := d3.c0
  have f1 := d3.c1
  have f2 := d3.c2
  have r0 := d3.fr 0
  have r1 := d3.fr 1
  have r2 := d3.fr 2
  go_wp2
  refine bodyPost_ret (results_D2 rfl _ _ (w.heap.size + 1 + 1) _ rfl (((d3.set 0 _).set 1 _).set 2 _)) rfl ?_
  have e0 : (sv n1 (Nt.val z1) * pK e1 + sv n2 (Nt.val z2) * pK e2) = (sv n1 (Nt.val z1) * 2 ^ (k + 1) + sv n2 (Nt.val z2)) * pK e2 := by rw [pK_step hk (by omega), Int.add_mul, Int.mul_right_comm, Int.mul_assoc]
  rw [e0]
  exact DRes.toK (DRes.back HV.out hb3 (by omega) hsz _ _ _) (by omega)
theorem sum103 (n1 n2 : Bool) (a1 a2 : Option Addr) (c1 c2 : Nat) (z1 z2 : List Int) (e1 e2 : Int) (w : World) (h1 : Lie w a1 z1) (h2 : Lie w a2 z2) (g1 : Good z1 (Nt.val z1)) (g2 : Good z2 (Nt.val z2)) (x1 : -16777216 ≤ e1) (y1 : e1 ≤ 16777216) (x2 : -16777216 ≤ e2) (y2 : e2 ≤ 16777216) (hT : Tab w) (o1 : 0 < z1.length → Nt.val z1 % 2 = 1) (o2 : 0 < z2.length → Nt.val z2 % 2 = 1) :
    Calls Tryd.prog 77 #[dV n1 a1 z1.length c1 e1, dV n2 a2 z2.length c2 e2] w fun e w' => DRes w w' (sv n1 (Nt.val z1) * pK e1 + sv n2 (Nt.val z2) * pK e2) (-(KK : Int)) e := by
  by_cases p1 : 0 < z1.length
  · by_cases p2 : 0 < z2.length
    · by_cases he : e1 = e2
      · exact sum_level n1 n2 a1 a2 c1 c2 z1 z2 e1 e2 w h1 h2 g1 g2 x1 y1 x2 y2 hT p1 p2 (o1 p1) (o2 p2) (by simp [he])
      · by_cases hl : e1 < e2
        · exact sum_lt n1 n2 a1 a2 c1 c2 z1 z2 e1 e2 w h1 h2 g1 g2 x1 y1 x2 y2 hT p1 p2 (o1 p1) (o2 p2) (by simp [he]) hl (e2 - e1 - 1).toNat (by omega)
        · exact sum_gt n1 n2 a1 a2 c1 c2 z1 z2 e1 e2 w h1 h2 g1 g2 x1 y1 x2 y2 hT p1 p2 (o1 p1) (o2 p2) (by simp [he]) (by omega) (e1 - e2 - 1).toNat (by omega)
    · exact sum_b n1 n2 a1 a2 c1 c2 z1 z2 e1 e2 w h1 h2 g1 g2 x1 y1 x2 y2 hT p1 (by omega)
  · exact sum_a n1 n2 a1 a2 c1 c2 z1 z2 e1 e2 w h1 h2 g1 g2 x1 y1 x2 y2 hT (by omega)


theorem six (W : World) (g : Nat) (hg : W.heap.size = g) (v0 v1 v2 v3 v4 v5 : Value) : (W.alloc (.cells #[v0, v1, v2, v3, v4, v5] 36)).cell? ⟨g, 0, none⟩ = some v0 ∧ (W.alloc (.cells #[v0, v1, v2, v3, v4, v5] 36)).cell? ⟨g, 1, none⟩ = some v1 ∧ (W.alloc (.cells #[v0, v1, v2, v3, v4, v5] 36)).cell? ⟨g, 2, none⟩ = some v2 ∧
    (W.alloc (.cells #[v0, v1, v2, v3, v4, v5] 36)).cell? ⟨g, 3, none⟩ = some v3 ∧ (W.alloc (.cells #[v0, v1, v2, v3, v4, v5] 36)).cell? ⟨g, 4, none⟩ = some v4 ∧ (W.alloc (.cells #[v0, v1, v2, v3, v4, v5] 36)).cell? ⟨g, 5, none⟩ = some v5 := by
  subst hg
  have hn := heap_alloc_new W (.cells #[v0, v1, v2, v3, v4, v5] 36)
  exact ⟨cell_of_row _ _ 0 _ 36 (0, 0) hn, cell_of_row _ _ 1 _ 36 (0, 0) hn, cell_of_row _ _ 2 _ 36 (0, 0) hn, cell_of_row _ _ 3 _ 36 (0, 0) hn, cell_of_row _ _ 4 _ 36 (0, 0) hn, cell_of_row _ _ 5 _ 36 (0, 0) hn⟩
theorem DG.lie {ng : Bool} {zs : List Int} {ex : Int} (g : DG ng zs ex) {w : World} {a : Option Addr} (h : Lie w a zs) : DLie w a zs := ⟨h, by have := g.len; unfold maxLen; omega, g.can.1⟩

set_option maxHeartbeats 4000000 in
theorem dadd56 (n1 n2 : Bool) (a1 a2 : Option Addr) (c1 c2 : Nat) (z1 z2 : List Int) (e1 e2 : Int) (w : World) (h1 : Lie w a1 z1) (h2 : Lie w a2 z2) (g1 : DG n1 z1 e1) (g2 : DG n2 z2 e2) (hT : Tab w) :
    Calls Tryd.prog 35 #[dV n1 a1 z1.length c1 e1, dV n2 a2 z2.length c2 e2] w fun e w' => DRes w w' (dv n1 z1 e1 + dv n2 z2 e2) (-(KK : Int)) e := by
  have u1 := g1.lie h1
  have u2 := g2.lie h2
  have hK := KK_int
  have b1 := g1.ex_bd
  have b2 := g2.ex_bd
  have hq : (dmayB n1 z1 e1 && dmayB n2 z2 e2) = true := by rw [g1.may, g2.may]; rfl
  obtain ⟨d1, d2, d3, hs3⟩ := dcell3 w #[.bool n1, .slice a1 z1.length c1, .int .i64 e1] #[.bool n2, .slice a2 z2.length c2, .int .i64 e2] #[.bool false, .slice none 0 0, .int .i64 0] rfl rfl rfl
  have hb3 := below3 w (.cells #[.bool n1, .slice a1 z1.length c1, .int .i64 e1] 36) (.cells #[.bool n2, .slice a2 z2.length c2, .int .i64 e2] 36) (.cells #[.bool false, .slice none 0 0, .int .i64 0] 36)
  go_enter Tryd.func35, Tryd.ntmps35
  go_wp2_with fail
  generalize hw3 : ((w.alloc (.cells #[.bool n1, .slice a1 z1.length c1, .int .i64 e1] 36)).alloc (.cells #[.bool n2, .slice a2 z2.length c2, .int .i64 e2] 36)).alloc (.cells #[.bool false, .slice none 0 0, .int .i64 0] 36) = w3 at *
  clear hw3
  obtain ⟨k0, k1, k2, k3, k4, k5⟩ := six w3 (w.heap.size + 1 + 1 + 1) (by omega) (.bool n1) (.slice a1 z1.length c1) (.int .i64 e1) (.bool n2) (.slice a2 z2.length c2) (.int .i64 e2)
  have hb4 := below_alloc w3 (.cells #[.bool n1, .slice a1 z1.length c1, .int .i64 e1, .bool n2, .slice a2 z2.length c2, .int .i64 e2] 36)
  refine (dallMay2 (w.heap.size + 1 + 1 + 1) n1 a1 c1 z1 e1 n2 a2 c2 z2 e2 _ ((u1.below hb3).below hb4) ((u2.below hb3).below hb4) _ _ rfl rfl k0 k1 k2 k3 k4 k5).mono ?_
  rintro e w5 ⟨rfl, h5⟩
  clear k0 k1 k2 k3 k4 k5
  rw [hq]
  have hb5 := below_then hb4 h5
  clear hb4 h5
  have hb0 := below_then hb3 hb5
  have hsz : w.heap.size + 1 + 1 < w3.heap.size := by omega
  replace d1 := d1.below hb5 (by omega)
  replace d2 := d2.below hb5 (by omega)
  replace d3 := d3.below hb5 hsz
  have hsz5 := Nat.lt_of_lt_of_le hsz hb5.size
  have q10 := d1.c0
  have q11 := d1.c1
  have q12 := d1.c2
  have q20 := d2.c0
  have q21 := d2.c1
  have q22 := d2.c2
  clear hq u1 u2
  go_wp2_with fail
  refine (sum103 n1 n2 a1 a2 c1 c2 z1 z2 e1 e2 _ (h1.below hb0 (Nat.le_refl _)) (h2.below hb0 (Nat.le_refl _)) g1.good g2.good b1.1 b1.2 b2.1 b2.2 (hT.below hb0 (Nat.le_refl _)) g1.odd g2.odd).mono ?_
  rintro e w9 ⟨ng, aa, n, c, xx, code, rfl, hv⟩
  replace d3 := d3.below hv.bel hsz5
  have HV := Hide.mk hv
  clear hv q10 q11 q12 q20 q21 q22
  have f0 := d3.c0
  have f1 := d3.c1
  have f2 := d3.c2
  have r0 := d3.fr 0
  have r1 := d3.fr 1
  have r2 := d3.fr 2
  go_wp2
  refine bodyPost_ret (results_D2 rfl _ _ (w.heap.size + 1 + 1) _ rfl (((d3.set 0 _).set 1 _).set 2 _)) rfl ?_
  exact DRes.back HV.out hb0 (by omega) hsz5 _ _ _
end Go.Proofs.YteejaghimppcgaaDoor

namespace Go.Proofs.YteejaghimppcgaaDoor
open Go.RowKit
set_option linter.unusedVariables false
set_option maxRecDepth 3000
theorem below2 (w : World) (A B : Obj) : Below w.heap.size w ((w.alloc A).alloc B) := below_then (below_alloc w A) (below_alloc _ B)
set_option maxHeartbeats 1000000 in
theorem dsame40 (n1 n2 : Bool) (a1 a2 : Option Addr) (c1 c2 : Nat) (z1 z2 : List Int) (e1 e2 : Int) (w : World) (u1 : DLie w a1 z1) (u2 : DLie w a2 z2) (q : Bool) (hq : decide (n1 = n2 ∧ e1 = e2 ∧ z1 = z2) = q) :
    Calls Tryd.prog 28 #[dV n1 a1 z1.length c1 e1, dV n2 a2 z2.length c2 e2] w fun e w' => e = .returned (.bool q) ∧ Below w.heap.size w w' := by
  have hb := below2 w (.cells #[.bool n1, .slice a1 z1.length c1, .int .i64 e1] 36) (.cells #[.bool n2, .slice a2 z2.length c2, .int .i64 e2] 36)
  have HS := Hide.mk (same15 a1 a2 c1 c2 z1 z2 _ (u1.below hb).lie (u2.below hb).lie u1.len)
  have HB := Hide.mk hb
  clear hb u1 u2
  by_cases hn : n1 = n2
  · have h1 : (n1 == n2) = true := by simp [hn]
    by_cases he : e1 = e2
    · have h2 : (e1 == e2) = true := by simp [he]
      have hq2 : decide (z1 = z2) = q := by rw [← hq]; simp [hn, he]
      have HQ := Hide.mk hq2
      clear hn he hq hq2
      go_enter Tryd.func28, Tryd.ntmps28
      go_wp2_with fail
      refine HS.out.mono ?_
      rintro e w' ⟨rfl, h5⟩
      rw [HQ.out]
      have h6 := below_then HB.out h5
      clear h5 HS
      go_wp2
      go_ret
      exact ⟨rfl, h6⟩
    · have h2 : (e1 == e2) = false := by simp [he]
      have hq2 : q = false := by rw [← hq]; simp [he]
      subst hq2
      clear hn he hq HS
      go_enter Tryd.func28, Tryd.ntmps28
      go_wp2
      go_ret
      exact ⟨rfl, HB.out⟩
  · have h1 : (n1 == n2) = false := by simp [hn]
    have hq2 : q = false := by rw [← hq]; simp [hn]
    subst hq2
    clear hn hq HS
    go_enter Tryd.func28, Tryd.ntmps28
    go_wp2
    go_ret
    exact ⟨rfl, HB.out⟩
/-- A multiple of 2 to the lo, below 2 to the hi in size. -/
structure DB (lo hi : Nat) (s : Int) : Prop where
  dvd : s % 2 ^ lo = 0
  gt : -(2 ^ hi) < s
  lt : s < 2 ^ hi
theorem DB.mono {lo hi l h : Nat} {s : Int} (b : DB lo hi s) (hl : l ≤ lo) (hh : hi ≤ h) : DB l h s := by
  have := p2mono hh
  refine ⟨?_, by have := b.gt; omega, by have := b.lt; omega⟩
  obtain ⟨k, rfl⟩ : ∃ k, lo = l + k := ⟨lo - l, by omega⟩
  obtain ⟨m, hm⟩ := Int.dvd_of_emod_eq_zero b.dvd
  exact Int.emod_eq_zero_of_dvd ⟨2 ^ k * m, by rw [hm, Int.pow_add, Int.mul_assoc]⟩
theorem DB.add {lo hi : Nat} {s t : Int} (b : DB lo hi s) (c : DB lo hi t) : DB lo (hi + 1) (s + t) := by
  have e := p2succ hi
  have b1 := b.gt
  have b2 := b.lt
  have c1 := c.gt
  have c2 := c.lt
  refine ⟨?_, by omega, by omega⟩
  obtain ⟨m, hm⟩ := Int.dvd_of_emod_eq_zero b.dvd
  obtain ⟨k, hk⟩ := Int.dvd_of_emod_eq_zero c.dvd
  exact Int.emod_eq_zero_of_dvd ⟨m + k, by rw [hm, hk, Int.mul_add]⟩
theorem DB.low {lo hi t : Nat} {s : Int} (b : DB lo hi s) (hs : s ≠ 0) (ht : LowBit (s.natAbs : Int) t) : lo ≤ t ∧ t < hi ∧ (s.natAbs : Int) / 2 ^ t < 2 ^ (hi - lo) := by
  have b1 := b.gt
  have b2 := b.lt
  have h1 : lo ≤ t := by
    have := low_lost (n := lo) ht
    have e : (s.natAbs : Int) % 2 ^ lo = 0 := by
      obtain ⟨m, hm⟩ := Int.dvd_of_emod_eq_zero b.dvd
      have hp := p2pos lo
      by_cases c : 0 ≤ s
      · exact Int.emod_eq_zero_of_dvd ⟨m, by rw [← hm]; omega⟩
      · exact Int.emod_eq_zero_of_dvd ⟨-m, by rw [Int.mul_neg, ← hm]; omega⟩
    rw [e] at this
    simp at this
    omega
  have h2 := low_half ht
  have h4 : 1 ≤ (s.natAbs : Int) / 2 ^ t := by
    have := Int.ediv_nonneg (show 0 ≤ (s.natAbs : Int) by omega) (Int.le_of_lt (p2pos t))
    have := ht.one
    omega
  have h5 : 1 * 2 ^ t ≤ (s.natAbs : Int) / 2 ^ t * 2 ^ t := Int.mul_le_mul_of_nonneg_right h4 (Int.le_of_lt (p2pos t))
  have h6 : t < hi := p2lt (by omega)
  refine ⟨h1, h6, ?_⟩
  refine Int.ediv_lt_of_lt_mul (p2pos t) ?_
  rw [← Int.pow_add]
  have := p2mono (show hi ≤ hi - lo + t by omega)
  omega
/-- A number of the value v. -/
structure DN (ng : Bool) (zs : List Int) (ex v : Int) : Prop where
  dg : DG ng zs ex
  val : dv ng zs ex = v
theorem DN.same {n1 n2 : Bool} {z1 z2 : List Int} {e1 e2 u v : Int} (h : DN n1 z1 e1 u) (k : DN n2 z2 e2 v) (e : u = v) : n1 = n2 ∧ e1 = e2 ∧ z1 = z2 := by
  obtain ⟨h1, h2, h3⟩ := h.dg.unique k.dg (by rw [h.val, k.val, e])
  exact ⟨h1, h3, h2⟩
theorem DN.inj {n1 n2 : Bool} {z1 z2 : List Int} {e1 e2 u v : Int} (h : DN n1 z1 e1 u) (k : DN n2 z2 e2 v) (e : n1 = n2 ∧ e1 = e2 ∧ z1 = z2) : u = v := by
  obtain ⟨rfl, rfl, rfl⟩ := e
  rw [← h.val, ← k.val]
/-- A new number. -/
structure IsD (w w' : World) (a : Option Addr) (c : Nat) (ng : Bool) (zs : List Int) (ex v : Int) : Prop where
  num : DN ng zs ex v
  lie : Lie w' a zs
  bel : Below w.heap.size w w'
  own : Own w.heap.size w' (.slice a zs.length c) zs
theorem dv_back {s : Int} {t k : Nat} {zs : List Int} (hs : s ≠ 0) (ht : LowBit (s.natAbs : Int) t) (hg : Good zs ((s.natAbs : Int) / 2 ^ t)) (hk : k ≤ t) : dv (decide (s < 0)) zs (-(KK : Int) - k + t) * 2 ^ k = s := by
  unfold dv pK
  rw [hg.val, show (-(KK : Int) - k + t + KK).toNat = t - k by omega, Int.mul_assoc, ← Int.pow_add, show t - k + k = t by omega]
  have h1 := low_half ht
  by_cases c : s < 0
  · rw [decide_eq_true c, sv_t, Int.neg_mul, ← h1]; omega
  · rw [decide_eq_false c, sv_f, ← h1]; omega
/-- What fits is answered. -/
theorem DV.fits {w w' : World} {s : Int} {ng : Bool} {a : Option Addr} {n c : Nat} {ex code : Int} {lo hi k : Nat} (h : DV w w' s (-(KK : Int) - k) ng a n c ex code) (hb : DB lo hi s) (h1 : hi ≤ lo + 131072) (h2 : hi ≤ 2 * KK + k) (h3 : k ≤ lo) :
    code = 0 ∧ ∃ zs v, n = zs.length ∧ v * 2 ^ k = s ∧ IsD w w' a c ng zs ex v := by
  have hK := KK_int
  rcases h.all with ⟨rfl, rfl, rfl, rfl, rfl, rfl, rfl⟩ | ⟨hs, t, ht, hh⟩
  · exact ⟨rfl, [], 0, rfl, by simp, ⟨⟨zeroDG, zero_dv _ _⟩, .inl rfl, h.bel, Own.nil _ _⟩⟩
  · obtain ⟨k1, k2, k3⟩ := hb.low hs ht
    have k4 : (s.natAbs : Int) / 2 ^ t < 4294967296 ^ 4096 := by
      have := p2mono (show hi - lo ≤ 131072 by omega)
      rw [pw32]; omega
    rcases hh with ⟨j1, j2, rfl, rfl, rfl, zs, rfl, j3, j4⟩ | ⟨j1, _⟩ | ⟨_, j1, _⟩
    · obtain ⟨a2, c2, he, _, _, hl⟩ := j4.lie
      simp only [Value.slice.injEq, true_and] at he
      obtain ⟨rfl, rfl⟩ := he
      have hp : 0 < (s.natAbs : Int) / 2 ^ t := by
        have := ht.one
        have := Int.ediv_nonneg (show 0 ≤ (s.natAbs : Int) by omega) (Int.le_of_lt (p2pos t))
        omega
      exact ⟨rfl, zs, _, rfl, dv_back hs ht j3 (by omega), ⟨⟨⟨j3.can, j3.len, .inr ⟨j3.ne hp, by rw [j3.val]; exact ht.one, by omega, by omega⟩⟩, rfl⟩, hl, h.bel, j4⟩⟩
    · omega
    · omega

/-- A number that is handed in. -/
structure Arg where
  ng : Bool
  a : Option Addr
  c : Nat
  zs : List Int
  ex : Int
def nearB (x : Arg) : Bool := decide (x.zs.length ≤ 100) && decide (-3000 ≤ x.ex) && decide (x.ex ≤ 3000) && dmayB x.ng x.zs x.ex
/-- The numbers of l lie in a row. -/
structure ARow (w : World) (b : Nat) (l : List Arg) : Prop where
  c0 : ∀ (i : Nat) (x : Arg), l[i]? = some x → w.cell? ⟨b, i * 3, none⟩ = some (.bool x.ng)
  c1 : ∀ (i : Nat) (x : Arg), l[i]? = some x → w.cell? ⟨b, i * 3 + 1, none⟩ = some (.slice x.a x.zs.length x.c)
  c2 : ∀ (i : Nat) (x : Arg), l[i]? = some x → w.cell? ⟨b, i * 3 + 2, none⟩ = some (.int .i64 x.ex)
  lie : ∀ (i : Nat) (x : Arg), l[i]? = some x → DLie w x.a x.zs
theorem dadd_fit (n1 n2 : Bool) (a1 a2 : Option Addr) (c1 c2 : Nat) (z1 z2 : List Int) (e1 e2 : Int) (w : World) {u v : Int} (h1 : Lie w a1 z1) (h2 : Lie w a2 z2) (N1 : DN n1 z1 e1 u) (N2 : DN n2 z2 e2 v) (hT : Tab w) {lo hi : Nat} (hb : DB lo hi (u + v)) (k1 : hi ≤ lo + 131072) (k2 : hi ≤ 2 * KK) :
    Calls Tryd.prog 35 #[dV n1 a1 z1.length c1 e1, dV n2 a2 z2.length c2 e2] w fun e w' => ∃ ng zs ex a c, e = .returned (.tuple #[dV ng a zs.length c ex, .int .i64 0]) ∧ IsD w w' a c ng zs ex (u + v) := by
  refine (dadd56 n1 n2 a1 a2 c1 c2 z1 z2 e1 e2 w h1 h2 N1.dg N2.dg hT).mono ?_
  rintro e w' ⟨ng, a, n, c, ex, code, rfl, hv⟩
  rw [N1.val, N2.val, show -(KK : Int) = -(KK : Int) - (0 : Nat) by omega] at hv
  obtain ⟨rfl, zs, v', rfl, h3, h4⟩ := hv.fits hb k1 (by omega) (by omega)
  rw [Int.pow_zero, Int.mul_one] at h3
  subst h3
  exact ⟨ng, zs, ex, a, c, rfl, h4⟩
theorem known_num (w : World) : DN false [3] (-2) (3 * pK (-2)) ∧ DN false [1] (-2) (pK (-2)) ∧ DN false [1] 0 (pK 0) ∧ DB (KK - 2) (KK + 1) (3 * pK (-2) + pK (-2)) ∧ 3 * pK (-2) + pK (-2) = pK 0 := by
  have hK := KK_eq
  have c3 : Nt.Can [3] := can_cons (by decide) (by decide) Nt.can_nil (by intro _; decide)
  have c1 : Nt.Can [1] := can_cons (by decide) (by decide) Nt.can_nil (by intro _; decide)
  have v3 : Nt.val [3] = 3 := val_one 3
  have v1 : Nt.val [1] = 1 := val_one 1
  have e4 : 3 * pK (-2) + pK (-2) = pK 0 := by
    have := pK_add (ex := -2) (by omega) 2
    rw [show (-2 : Int) + ((2 : Nat) : Int) = 0 by omega] at this
    rw [this]; omega
  have e0 : pK 0 = 2 ^ KK := by unfold pK; rw [show ((0 : Int) + KK).toNat = KK by omega]
  refine ⟨⟨⟨c3, by simp, .inr ⟨by simp, by rw [v3]; rfl, by omega, by omega⟩⟩, by unfold dv; rw [v3]; rfl⟩, ⟨⟨c1, by simp, .inr ⟨by simp, by rw [v1]; rfl, by omega, by omega⟩⟩, by unfold dv; rw [v1, sv_f, Int.one_mul]⟩, ⟨⟨c1, by simp, .inr ⟨by simp, by rw [v1]; rfl, by omega, by omega⟩⟩, by unfold dv; rw [v1, sv_f, Int.one_mul]⟩, ?_, e4⟩
  rw [e4, e0]
  have := p2pos KK
  have := p2succ KK
  refine ⟨?_, by omega, by omega⟩
  obtain ⟨j, hj⟩ : ∃ j, KK = j + 2 := ⟨KK - 2, by omega⟩
  rw [hj, show j + 2 - 2 = j by omega, Int.pow_add]
  exact Int.mul_emod_right _ _
set_option maxHeartbeats 2000000 in
theorem dknown34 (w : World) (hT : Tab w) : Calls Tryd.prog 20 #[] w fun e w' => e = .returned (.bool true) ∧ Below w.heap.size w w' := by
  have hK := KK_eq
  obtain ⟨m3, m1, m0, hdb, hval⟩ := known_num w
  have hb := below2 w (.cells #[.int .u32 3] 70) (.cells #[.int .u32 1] 70)
  have l3 : Lie ((w.alloc (.cells #[.int .u32 3] 70)).alloc (.cells #[.int .u32 1] 70)) (some ⟨w.heap.size, 0, none⟩) [3] := (lie_new w [3]).below (below_alloc _ _) (Nat.le_refl _)
  have l1 : Lie ((w.alloc (.cells #[.int .u32 3] 70)).alloc (.cells #[.int .u32 1] 70)) (some ⟨w.heap.size + 1, 0, none⟩) [1] := by
    have := lie_new (w.alloc (.cells #[.int .u32 3] 70)) [1]
    simpa using this
  have HA := Hide.mk (dadd_fit false false (some ⟨w.heap.size, 0, none⟩) (some ⟨w.heap.size + 1, 0, none⟩) 1 1 [3] [1] (-2) (-2) _ l3 l1 m3 m1 (hT.below hb (Nat.le_refl _)) hdb (by omega) (by omega))
  clear l3 l1 m3 m1 hdb hK
  go_enter Tryd.func20, Tryd.ntmps20
  go_wp2_with fail
  refine HA.out.mono ?_
  rintro e w5 ⟨ng, zs, ex, a, c, rfl, h5⟩
  have hb5 := below_then hb h5.bel
  have hb6 := below_then hb5 (below_alloc w5 (.cells #[.bool ng, .slice a zs.length c, .int .i64 ex] 36))
  have hb7 := below_then hb6 (below_alloc (w5.alloc (.cells #[.bool ng, .slice a zs.length c, .int .i64 ex] 36)) (.cells #[.int .u32 1] 70))
  have lz : Lie ((w5.alloc (.cells #[.bool ng, .slice a zs.length c, .int .i64 ex] 36)).alloc (.cells #[.int .u32 1] 70)) a zs := h5.lie.below (below2 _ _ _) (Nat.le_refl _)
  have l1 : Lie ((w5.alloc (.cells #[.bool ng, .slice a zs.length c, .int .i64 ex] 36)).alloc (.cells #[.int .u32 1] 70)) (some ⟨w5.heap.size + 1, 0, none⟩) [1] := by
    have := lie_new (w5.alloc (.cells #[.bool ng, .slice a zs.length c, .int .i64 ex] 36)) [1]
    simpa using this
  have HS := Hide.mk (dsame40 ng false a (some ⟨w5.heap.size + 1, 0, none⟩) c 1 zs [1] ex 0 _ (h5.num.dg.lie lz) (m0.dg.lie l1) true (by rw [decide_eq_true_eq]; exact h5.num.same m0 hval))
  clear HA h5 lz l1 m0 hval hb5 hb6
  go_wp2_with fail
  refine HS.out.mono ?_
  rintro e w8 ⟨rfl, h8⟩
  have hb8 := below_then hb7 h8
  clear HS h8
  go_wp2
  go_ret
  exact ⟨rfl, hb8⟩

/-- Variables of the law that hold numbers. -/
structure Boxes (w : World) (l : List (Nat × Array Value)) : Prop where
  all : ∀ p ∈ l, DCell w p.1 p.2
theorem Boxes.keep {w w' : World} {l : List (Nat × Array Value)} (h : Boxes w l) (hb : Below w.heap.size w w') : Boxes w' l :=
  ⟨fun p hp => (h.all p hp).below hb (Array.getElem?_eq_some_iff.1 (h.all p hp).1).1⟩
theorem Boxes.push {w w' : World} {l : List (Nat × Array Value)} (h : Boxes w l) (hb : Below w.heap.size w w') (x y z : Value) : Boxes (w'.alloc (.cells #[x, y, z] 36)) ((w'.heap.size, #[x, y, z]) :: l) := by
  refine ⟨fun p hp => ?_⟩
  rcases List.mem_cons.1 hp with rfl | hp
  · exact dcell_new _ _ _ _
  · exact ((h.keep hb).keep (below_alloc _ _)).all p hp
end Go.Proofs.YteejaghimppcgaaDoor

namespace Go.Proofs.YteejaghimppcgaaDoor
open Go.RowKit
set_option linter.unusedVariables false
set_option maxRecDepth 3000
theorem dcell2 (w : World) (A B : Array Value) (h1 : A.size = 3) (h2 : B.size = 3) :
    DCell ((w.alloc (.cells A 36)).alloc (.cells B 36)) w.heap.size A ∧ DCell ((w.alloc (.cells A 36)).alloc (.cells B 36)) (w.heap.size + 1) B ∧ ((w.alloc (.cells A 36)).alloc (.cells B 36)).heap.size = w.heap.size + 2 := by
  have e1 : (w.alloc (.cells A 36)).heap.size = w.heap.size + 1 := by simp
  have k1 : DCell (w.alloc (.cells A 36)) w.heap.size A := ⟨heap_alloc_new w _, h1⟩
  have k2 : DCell ((w.alloc (.cells A 36)).alloc (.cells B 36)) (w.heap.size + 1) B := ⟨by rw [← e1]; exact heap_alloc_new _ _, h2⟩
  exact ⟨k1.below (below_alloc (w.alloc (.cells A 36)) (.cells B 36)) (by rw [e1]; omega), k2, by simp⟩
end Go.Proofs.YteejaghimppcgaaDoor

set_option linter.unusedVariables false
namespace Go.Drawn
open Go
section
variable {P : Program} {ops : Array Oper} {Q : Exit → Act → World → Prop} {md : Region.Mode} {I : World → Prop}
/-- Two operations are ready: both ways. -/
theorem pair {i j : Nat} {oi oj : Oper} {n : Nat} {listed : Array Bool} {a : Act} {w : World} (hr : Region.ready md ops listed = [i, j]) (hi : ops[i]? = some oi) (hj : ops[j]? = some oj)
    (h1 : ∀ K : Act → World → Prop, (∀ a w, I w → wpIn P md ops Q I n (listed.setIfInBounds i true) a w → K a w) → if Region.wanted oi (yielded ops a.tmps) = true then Oper.wp P oi a w K Q else K (a.put oi.dst undef) w)
    (h2 : ∀ K : Act → World → Prop, (∀ a w, I w → wpIn P md ops Q I n (listed.setIfInBounds j true) a w → K a w) → if Region.wanted oj (yielded ops a.tmps) = true then Oper.wp P oj a w K Q else K (a.put oj.dst undef) w) :
    wpIn P md ops Q I (n + 1) listed a w := by
  refine ⟨fun h0 => absurd (hr.symm.trans h0) (by simp), fun k hk => ?_⟩
  rw [hr] at hk
  rcases List.mem_cons.1 hk with rfl | hk
  · exact wpOp_step hi (fun K hK => h1 K fun a w k1 k2 => hK a w ⟨k1, k2⟩)
  · obtain rfl := List.mem_singleton.1 hk
    exact wpOp_step hj (fun K hK => h2 K fun a w k1 k2 => hK a w ⟨k1, k2⟩)
end
end Go.Drawn

namespace Go.Proofs.YteejaghimppcgaaDoor
open Go.RowKit
set_option linter.unusedVariables false
set_option maxRecDepth 3000
theorem DV.after {w w' w2 : World} {s E : Int} {ng : Bool} {a : Option Addr} {n c : Nat} {ex code : Int} (h : DV w w' s E ng a n c ex code) (hb : Below w'.heap.size w' w2) : DV w w2 s E ng a n c ex code := by
  refine ⟨below_then h.bel hb, ?_⟩
  rcases h.all with h1 | ⟨h1, t, h2, h3⟩
  · exact .inl h1
  · refine .inr ⟨h1, t, h2, ?_⟩
    rcases h3 with ⟨k1, k2, k3, k4, k5, zs, k6, k7, k8⟩ | h3
    · exact .inl ⟨k1, k2, k3, k4, k5, zs, k6, k7, k8.below hb (Nat.le_refl _)⟩
    · exact .inr h3
theorem DN.low {ng : Bool} {zs : List Int} {ex v : Int} (h : DN ng zs ex v) (hz : 0 < zs.length) : LowBit (v.natAbs : Int) (ex + KK).toNat ∧ v ≠ 0 := by
  have hp := pK_pos ex
  have hx := h.dg.pos hz
  have e : (v.natAbs : Int) = Nt.val zs * 2 ^ (ex + KK).toNat := by
    rw [← h.val]; unfold dv pK
    rw [natAbs_mul_pow, sv_abs _ (by omega)]
  have hl := (odd_low (h.dg.odd hz)).up (ex + KK).toNat
  rw [Nat.zero_add] at hl
  refine ⟨by rw [e]; exact hl, fun c => ?_⟩
  have : Nt.val zs * 2 ^ (ex + KK).toNat ≠ 0 := fun c2 => by rcases Int.mul_eq_zero.1 c2 with c3 | c3 <;> have := p2pos (ex + KK).toNat <;> omega
  omega
theorem DN.whole {ng : Bool} {zs : List Int} {ex v : Int} (h : DN ng zs ex v) : (0 ≤ ex ↔ v % 2 ^ KK = 0) := by
  have hx := h.dg.ex_bd
  have hK := KK_int
  by_cases hz : 0 < zs.length
  · obtain ⟨hl, hv⟩ := h.low hz
    have := low_lost (n := KK) hl
    have e : (v.natAbs : Int) % 2 ^ KK = 0 ↔ v % 2 ^ KK = 0 := by
      constructor
      · intro c
        obtain ⟨m, hm⟩ := Int.dvd_of_emod_eq_zero c
        by_cases q : 0 ≤ v
        · exact Int.emod_eq_zero_of_dvd ⟨m, by rw [← hm]; omega⟩
        · exact Int.emod_eq_zero_of_dvd ⟨-m, by rw [Int.mul_neg, ← hm]; omega⟩
      · intro c
        obtain ⟨m, hm⟩ := Int.dvd_of_emod_eq_zero c
        by_cases q : 0 ≤ v
        · exact Int.emod_eq_zero_of_dvd ⟨m, by rw [← hm]; omega⟩
        · exact Int.emod_eq_zero_of_dvd ⟨-m, by rw [Int.mul_neg, ← hm]; omega⟩
    by_cases c : 0 ≤ ex
    · rw [decide_eq_false (by omega)] at this
      exact ⟨fun _ => e.1 (by simpa using this), fun _ => c⟩
    · rw [decide_eq_true (by omega)] at this
      exact ⟨fun k => absurd k c, fun k => absurd (e.2 k) (by simpa using this)⟩
  · obtain ⟨rfl, rfl, rfl⟩ := h.dg.nil (by omega)
    rw [← h.val, zero_dv]
    simp
theorem set_cell {w : World} {g b j i : Nat} (h : b ≠ g) (u : Value) : (w.setCell ⟨g, j, none⟩ u).cell? ⟨b, i, none⟩ = w.cell? ⟨b, i, none⟩ :=
  World.cell?_setCell_other _ _ _ _ (by intro c; cases c; exact h rfl)
theorem set3_cell {w : World} {g b i : Nat} (h : b ≠ g) (u0 u1 u2 : Value) : (((w.setCell ⟨g, 0, none⟩ u0).setCell ⟨g, 1, none⟩ u1).setCell ⟨g, 2, none⟩ u2).cell? ⟨b, i, none⟩ = w.cell? ⟨b, i, none⟩ := by
  rw [set_cell h, set_cell h, set_cell h]
/-- A fresh box holds no digit. -/
theorem no_digit {w : World} {g i : Nat} {k : IntKind} {x : Int} (hd : DCell w g #[.bool false, .slice none 0 0, .int .i64 0]) (hk : k ≠ .i64) : w.cell? ⟨g, i, none⟩ ≠ some (.int k x) := by
  rw [cell_of_row w g i _ 36 (0, 0) hd.1]
  match i with
  | 0 => intro h; cases h
  | 1 => intro h; cases h
  | 2 => intro h; injection h with h; injection h with h1 h2; exact hk h1.symm
  | n + 3 => intro h; simp at h
theorem Live.set3 {w : World} {g : Nat} (hd : DCell w g #[.bool false, .slice none 0 0, .int .i64 0]) (u0 u1 u2 : Value) {l : List (Option Addr × List Int)} (h : Live w l) : Live (((w.setCell ⟨g, 0, none⟩ u0).setCell ⟨g, 1, none⟩ u1).setCell ⟨g, 2, none⟩ u2) l := by
  refine ⟨fun p hp => ?_⟩
  rcases h.all p hp with h1 | ⟨b, o, h1, h2⟩
  · exact .inl h1
  · refine .inr ⟨b, o, h1, fun i hi => ?_⟩
    have k := h2 i hi
    rw [set3_cell (fun c => no_digit (k := .u32) hd (by decide) (by rw [← c]; exact k))]
    exact k
theorem Tab.set3 {w : World} {g : Nat} (hd : DCell w g #[.bool false, .slice none 0 0, .int .i64 0]) (u0 u1 u2 : Value) (h : Tab w) : Tab (((w.setCell ⟨g, 0, none⟩ u0).setCell ⟨g, 1, none⟩ u1).setCell ⟨g, 2, none⟩ u2) := by
  intro j hj
  have k := h j hj
  rw [set3_cell (fun c => no_digit (k := .u8) hd (by decide) (by rw [← c]; exact k))]
  exact k
theorem Boxes.set3 {w : World} {g : Nat} (hd : DCell w g #[.bool false, .slice none 0 0, .int .i64 0]) (u0 u1 u2 : Value) {l : List (Nat × Array Value)} (h : Boxes w l) (hl : ∀ p ∈ l, p.1 ≠ g) : Boxes (((w.setCell ⟨g, 0, none⟩ u0).setCell ⟨g, 1, none⟩ u1).setCell ⟨g, 2, none⟩ u2) ((g, #[u0, u1, u2]) :: l) := by
  refine ⟨fun p hp => ?_⟩
  rcases List.mem_cons.1 hp with rfl | hp
  · exact ((hd.set 0 u0).set 1 u1).set 2 u2
  · have k := h.all p hp
    refine ⟨?_, k.2⟩
    rw [heap_setCell_other _ _ _ _ (hl p hp), heap_setCell_other _ _ _ _ (hl p hp), heap_setCell_other _ _ _ _ (hl p hp)]
    exact k.1
end Go.Proofs.YteejaghimppcgaaDoor

namespace Go.Proofs.YteejaghimppcgaaDoor
open Go.RowKit
set_option linter.unusedVariables false
set_option maxRecDepth 3000
theorem drefmay_nil37 (ng : Bool) (a : Option Addr) (cap : Nat) (ex : Int) (w : World) (q : Bool) (hq : (!ng && ex == 0) = q) :
    Calls Tryd.prog 24 #[dV ng a 0 cap ex] w fun e w' => e = .returned (.bool q) ∧ Below w.heap.size w w' := by
  have HM := Hide.mk (refMay_yes a cap [] (w.alloc (.cells #[.bool ng, .slice a 0 cap, .int .i64 ex] 36)) (.inl rfl) (by unfold maxLen; simp) rfl)
  cases ng
  · by_cases h0 : ex = 0
    · subst h0
      have : q = true := by rw [← hq]; rfl
      subst this
      go_enter Tryd.func24, Tryd.ntmps24
      go_wp2_with fail
      refine HM.out.mono ?_
      rintro e w' ⟨rfl, rfl⟩
      go_wp2
      go_ret
      exact ⟨rfl, below_alloc _ _⟩
    · have hb : (ex == 0) = false := by simp [h0]
      have : q = false := by rw [← hq, hb]; rfl
      subst this
      go_enter Tryd.func24, Tryd.ntmps24
      go_wp2_with fail
      refine HM.out.mono ?_
      rintro e w' ⟨rfl, rfl⟩
      go_wp2
      go_ret
      exact ⟨rfl, below_alloc _ _⟩
  · have : q = false := by rw [← hq]; rfl
    subst this
    go_enter Tryd.func24, Tryd.ntmps24
    go_wp2_with fail
    refine HM.out.mono ?_
    rintro e w' ⟨rfl, rfl⟩
    go_wp2
    go_ret
    exact ⟨rfl, below_alloc _ _⟩
set_option maxHeartbeats 1000000 in
theorem drefmay_num37 (ng : Bool) (a : Option Addr) (cap : Nat) (zs : List Int) (ex : Int) (w : World) (ha : Lie w a zs) (hl : zs.length ≤ maxLen) (hr : Nt.Rng zs) (hz : 0 < zs.length) :
    Calls Tryd.prog 24 #[dV ng a zs.length cap ex] w fun e w' => e = .returned (.bool (mayB zs && zs.getD 0 0 % 2 == 1 && decide (-16777216 ≤ ex) && decide (ex ≤ 16777216))) ∧ Below w.heap.size w w' := by
  have hb := below_alloc w (.cells #[.bool ng, .slice a zs.length cap, .int .i64 ex] 36)
  have HM := fun q (h : mayB zs = q) => Hide.mk (show Calls Tryd.prog 14 #[.slice a zs.length cap] (w.alloc (.cells #[.bool ng, .slice a zs.length cap, .int .i64 ex] 36)) fun e w' => e = .returned (.bool q) ∧ (w.alloc (.cells #[.bool ng, .slice a zs.length cap, .int .i64 ex] 36)) = w' by rw [← h]; exact refMay14 a cap zs _ (ha.below hb (Nat.le_refl _)) hl)
  obtain ⟨b, o, rfl⟩ := lie_some ha hz
  have hc : (w.alloc (.cells #[.bool ng, .slice (some ⟨b, o, none⟩) zs.length cap, .int .i64 ex] 36)).cell? ⟨b, o, none⟩ = some (.int .u32 (zs.getD 0 0)) := lie_cell (ha.below hb (Nat.le_refl _)) rfl hz
  have h01 := hr 0
  have HB := Hide.mk hb
  have hne : ((zs.length : Int) == 0) = false := beq_eq_false_iff_ne.2 (by omega)
  clear ha hb hr
  generalize zs.getD 0 0 = x at *
  cases hp : mayB zs
  · have HM2 := HM false hp
    clear HM hp hc
    go_enter Tryd.func24, Tryd.ntmps24
    go_wp2_with fail
    refine HM2.out.mono ?_
    rintro e w' ⟨rfl, rfl⟩
    go_wp2
    go_ret
    exact ⟨rfl, HB.out⟩
  · have HM2 := HM true hp
    clear HM hp
    rw [Bool.true_and]
    by_cases hodd : x % 2 = 1
    · have ho : (x % 2 == 1) = true := by simp [hodd]
      rw [ho, Bool.true_and]
      clear hodd
      by_cases h1 : -16777216 ≤ ex
      · by_cases h2 : ex ≤ 16777216
        · rw [decide_eq_true h1, decide_eq_true h2]
          go_enter Tryd.func24, Tryd.ntmps24
          go_wp2_with fail
          refine HM2.out.mono ?_
          rintro e w' ⟨rfl, rfl⟩
          go_wp2
          go_ret
          exact ⟨by simp, HB.out⟩
        · rw [decide_eq_true h1, decide_eq_false h2]
          go_enter Tryd.func24, Tryd.ntmps24
          go_wp2_with fail
          refine HM2.out.mono ?_
          rintro e w' ⟨rfl, rfl⟩
          go_wp2
          go_ret
          exact ⟨by simp [h2], HB.out⟩
      · rw [decide_eq_false h1, Bool.false_and]
        go_enter Tryd.func24, Tryd.ntmps24
        go_wp2_with fail
        refine HM2.out.mono ?_
        rintro e w' ⟨rfl, rfl⟩
        go_wp2
        go_ret
        exact ⟨rfl, HB.out⟩
    · have ho : (x % 2 == 1) = false := by simp [hodd]
      rw [ho, Bool.false_and]
      clear hodd
      go_enter Tryd.func24, Tryd.ntmps24
      go_wp2_with fail
      refine HM2.out.mono ?_
      rintro e w' ⟨rfl, rfl⟩
      go_wp2
      go_ret
      exact ⟨rfl, HB.out⟩
theorem drefmay37 (ng : Bool) (a : Option Addr) (cap : Nat) (zs : List Int) (ex : Int) (w : World) (u : DLie w a zs) (q : Bool) (hq : dmayB ng zs ex = q) :
    Calls Tryd.prog 24 #[dV ng a zs.length cap ex] w fun e w' => e = .returned (.bool q) ∧ Below w.heap.size w w' := by
  by_cases hz : 0 < zs.length
  · have e : dmayB ng zs ex = (mayB zs && zs.getD 0 0 % 2 == 1 && decide (-16777216 ≤ ex) && decide (ex ≤ 16777216)) := by
      unfold dmayB; rw [if_neg (by omega)]
    rw [← hq, e]
    exact drefmay_num37 ng a cap zs ex w u.lie u.len u.rng hz
  · have e0 : zs = [] := List.length_eq_zero_iff.1 (by omega)
    subst e0
    exact drefmay_nil37 ng a cap ex w q hq
theorem dnone_yes (w : World) (code : Int) :
    Calls Tryd.prog 25 #[noD, .bool false, .int .i64 code, .int .i64 code] w fun e w' => e = .returned (.bool true) ∧ Below w.heap.size w w' := by
  have hb := below_alloc w (.cells #[.bool false, .slice none 0 0, .int .i64 0] 36)
  have hcc : (code == code) = true := by simp
  have HS := Hide.mk (dsame40 false false none none 0 0 [] [] 0 0 (w.alloc (.cells #[.bool false, .slice none 0 0, .int .i64 0] 36)) ⟨.inl rfl, by unfold maxLen; simp, Nt.rng_nil⟩ ⟨.inl rfl, by unfold maxLen; simp, Nt.rng_nil⟩ true (by simp))
  go_enter Tryd.func25, Tryd.ntmps25
  go_wp2_with fail
  refine HS.out.mono ?_
  rintro e w2 ⟨rfl, h2⟩
  have hb2 := below_then hb h2
  clear h2 HS
  go_wp2
  go_ret
  exact ⟨rfl, hb2⟩
theorem own_none (W : World) (g : Nat) (hg : W.heap.size = g) : Own g (W.alloc (.cells #[] 70)) (.slice (some ⟨g, 0, none⟩) 0 0) [] := by
  subst hg
  exact World.ownsRow_made W #[] 0 (Nat.le_refl _) (by unfold maxLen; omega) (by simp)
/-- What is behind the copy: the boxes are written. -/
theorem lent_end {w W w1 : World} {g0 g1 : Nat} {a : Option Addr} {c : Nat} {za : List Int} (hb : Below w.heap.size w w1) (hg0 : w.heap.size ≤ g0) (hg1 : w.heap.size ≤ g1) {B : Nat} (h0 : g0 < B) (h1 : g1 < B) (ho : Own B w1 (.slice a za.length c) za) (hB : w.heap.size ≤ B) (x0 x1 x2 x3 : Value) :
    Lie ((((w1.setCell ⟨g0, 1, none⟩ x0).setCell ⟨g1, 0, none⟩ x1).setCell ⟨g1, 1, none⟩ x2).setCell ⟨g1, 2, none⟩ x3) a za ∧ Below w.heap.size w ((((w1.setCell ⟨g0, 1, none⟩ x0).setCell ⟨g1, 0, none⟩ x1).setCell ⟨g1, 1, none⟩ x2).setCell ⟨g1, 2, none⟩ x3) ∧ Own w.heap.size ((((w1.setCell ⟨g0, 1, none⟩ x0).setCell ⟨g1, 0, none⟩ x1).setCell ⟨g1, 1, none⟩ x2).setCell ⟨g1, 2, none⟩ x3) (.slice a za.length c) za := by
  have o1 := (((ho.setOff (j := 1) h0 x0).setOff (j := 0) h1 x1).setOff (j := 1) h1 x2).setOff (j := 2) h1 x3
  obtain ⟨a2, c2, he, _, _, hl⟩ := o1.lie
  simp only [Value.slice.injEq, true_and] at he
  obtain ⟨rfl, rfl⟩ := he
  exact ⟨hl, (((hb.setCell (p := ⟨g0, 1, none⟩) hg0 x0).setCell (p := ⟨g1, 0, none⟩) hg1 x1).setCell (p := ⟨g1, 1, none⟩) hg1 x2).setCell (p := ⟨g1, 2, none⟩) hg1 x3, o1.mono hB⟩
theorem DCell.off {w : World} {g g' j : Nat} {cs : Array Value} (h : DCell w g cs) (hne : g ≠ g') (x : Value) : DCell (w.setCell ⟨g', j, none⟩ x) g cs := ⟨by rw [heap_setCell_other _ _ _ _ hne]; exact h.1, h.2⟩
set_option maxHeartbeats 2000000 in
theorem dlent35 (ng : Bool) (a : Option Addr) (ca : Nat) (za : List Int) (ex : Int) (w : World) (ha : Lie w a za) (hl : za.length ≤ 1000000) (hnil : a = none → ca = 0) :
    Calls Tryd.prog 21 #[dV ng a za.length ca ex] w fun e w' => ∃ a' c, e = .returned (dV ng a' za.length c ex) ∧ Lie w' a' za ∧ Below w.heap.size w w' ∧ Own w.heap.size w' (.slice a' za.length c) za := by
  obtain ⟨i0, hi, hz0, hz1, hz2⟩ := info_parts Tryd.info49
  obtain ⟨d1, d2, hs2⟩ := dcell2 w #[.bool ng, .slice a za.length ca, .int .i64 ex] #[.bool false, .slice none 0 0, .int .i64 0] rfl rfl
  have hb2 := below2 w (.cells #[.bool ng, .slice a za.length ca, .int .i64 ex] 36) (.cells #[.bool false, .slice none 0 0, .int .i64 0] 36)
  have hown := Hide.mk (own_none ((w.alloc (.cells #[.bool ng, .slice a za.length ca, .int .i64 ex] 36)).alloc (.cells #[.bool false, .slice none 0 0, .int .i64 0] 36)) (w.heap.size + 1 + 1) hs2)
  have hb3 := below_alloc ((w.alloc (.cells #[.bool ng, .slice a za.length ca, .int .i64 ex] 36)).alloc (.cells #[.bool false, .slice none 0 0, .int .i64 0] 36)) (.cells #[] 70)
  have e1 := Hide.mk (d1.below hb3 (by omega))
  have e2 := Hide.mk (d2.below hb3 (by omega))
  have hb4 := Hide.mk (below_then hb2 hb3)
  have hsz : Hide (w.heap.size + 1 + 1 ≤ (((w.alloc (.cells #[.bool ng, .slice a za.length ca, .int .i64 ex] 36)).alloc (.cells #[.bool false, .slice none 0 0, .int .i64 0] 36)).alloc (.cells #[] 70)).heap.size) := ⟨by have := hb3.size; omega⟩
  clear d1 d2 hb2 hb3
  cases a with
  | none =>
    have h0 := hnil rfl
    subst h0
    have hz : za = [] := by
      rcases ha with h | ⟨b, o, h, _⟩
      · exact h
      · cases h
    subst hz
    clear hs2
    go_enter Tryd.func21, Tryd.ntmps21
    go_wp2_with (at_builtin; refine wpList_append_own_none rfl (.tmp 3) (.tmp 5) 22 rfl (w.heap.size + 1 + 1) 70 i0 1 Tryd.underlying22 hi _ 0 [] rfl hown.out rfl ?_)
    obtain ⟨_, dd, hs⟩ := dcell2 w #[.bool ng, .slice (some ⟨w.heap.size + 1 + 1, 0, none⟩) 0 0, .int .i64 ex] #[.bool ng, .slice (some ⟨w.heap.size + 1 + 1, 0, none⟩) 0 0, .int .i64 ex] rfl rfl
    refine bodyPost_ret (results_D1 rfl _ _ (w.heap.size + 1) _ rfl (dd.below (below_alloc _ _) (by omega))) rfl ?_
    exact ⟨some ⟨w.heap.size + 1 + 1, 0, none⟩, 0, rfl, .inl rfl, below3 _ _ _ _, (own_none _ _ hs).mono (by omega)⟩
  | some ad =>
    have hs : Hide (∀ j v, (za.map (Value.int .u32))[j]? = some v → (((w.alloc (.cells #[.bool ng, .slice (some ad) za.length ca, .int .i64 ex] 36)).alloc (.cells #[.bool false, .slice none 0 0, .int .i64 0] 36)).alloc (.cells #[] 70)).cell? (ad.add j) = some v) := ⟨by
      by_cases h0 : 0 < za.length
      · obtain ⟨ad', e, h⟩ := (ha.below hb4.out (Nat.le_refl _)).src h0
        cases e
        exact h
      · have : za = [] := List.length_eq_zero_iff.1 (by omega)
        subst this
        intro j v h
        simp at h⟩
    have h1 := Hide.mk (oneCell_ints za)
    have hmm : Hide (0 + za.length ≤ maxLen) := ⟨by unfold maxLen; omega⟩
    clear ha hnil hs2
    go_enter Tryd.func21, Tryd.ntmps21
    go_wp2_with (at_builtin; refine wpList_append_own _ rfl (.tmp 3) (.tmp 5) 22 rfl (w.heap.size + 1 + 1) 70 i0 (.int .u32 0) 1 4 Tryd.underlying22 hi hz0 hz1 hz2 rfl (by decide) _ 0 [] rfl hown.out ad za.length ca (za.map (Value.int .u32)) rfl (by simp) hs.out h1.out hmm.out (by omega) (by simp) ?_; intro v' w1 hown' hgrow _; have hown2 : Own (w.heap.size + 1 + 1) w1 v' za := (by unfold Own; simpa using hown'); have hbb := own_grown hown.out hgrow (Below.refl (w.heap.size + 1 + 1) _) hsz.out; have HO := Hide.mk hown2; obtain ⟨a', c, rfl, _, _, _⟩ := hown2.lie; clear hown' hgrow; have g1 := e1.out.below hbb (by omega); have g2 := e2.out.below hbb (by omega); have f10 := g1.c0; have f11 := g1.c1; have f12 := g1.c2; have r10 := g1.fr 0; have r11 := g1.fr 1; have r12 := g1.fr 2; have f20 := g2.c0; have f21 := g2.c1; have f22 := g2.c2; have r20 := g2.fr 0; have r21 := g2.fr 1; have r22 := g2.fr 2; have HG := Hide.mk g2; have HBB := Hide.mk (hb4.out.trans (hbb.mono (by omega))); clear g1 g2 hbb hown2)
    refine bodyPost_ret (results_D1 rfl _ _ (w.heap.size + 1) _ rfl ((((HG.out.off (by omega) _).set 0 _).set 1 _).set 2 _)) rfl ?_
    obtain ⟨k1, k2, k3⟩ := lent_end (W := w) (g0 := w.heap.size) (g1 := w.heap.size + 1) HBB.out (Nat.le_refl _) (by omega) (B := w.heap.size + 1 + 1) (by omega) (by omega) HO.out (by omega) (.slice a' za.length c) (.bool ng) (.slice a' za.length c) (.int .i64 ex)
    exact ⟨a', c, rfl, k1, k2, k3⟩

/-- Digits that may be written over: a row of their own, from block B on. -/
def WrA (B : Nat) (w : World) (a : Option Addr) (n : Nat) : Prop := n = 0 ∨ ∃ g cur, a = some ⟨g, 0, none⟩ ∧ B ≤ g ∧ w.heap[g]? = some (.cells cur 70 (0, 0)) ∧ n ≤ cur.size
theorem Own.wrA {B : Nat} {w : World} {a : Option Addr} {c : Nat} {zs : List Int} (h : Own B w (.slice a zs.length c) zs) : WrA B w a zs.length := by
  rcases h.2 with ⟨hv, h0⟩ | ⟨g, cap, cur, hv, hB, hg, hn, hm, hsz, ht⟩
  · exact .inl h0
  · simp only [Value.slice.injEq] at hv
    exact .inr ⟨g, cur, hv.1, hB, hg, by omega⟩
theorem WrA.below {B C : Nat} {w w' : World} {a : Option Addr} {n : Nat} (h : WrA B w a n) (hb : Below w.heap.size w w') : WrA B w' a n := by
  rcases h with h | ⟨g, cur, h1, h2, h3, h4⟩
  · exact .inl h
  · exact .inr ⟨g, cur, h1, h2, (hb.block g (Array.getElem?_eq_some_iff.1 h3).1).trans h3, h4⟩
theorem WrA.set {B g k : Nat} {w : World} {a : Option Addr} {n : Nat} {cur : Array Value} (h : WrA B w a n) (hg : w.heap[g]? = some (.cells cur 70 (0, 0))) (u : Value) : WrA B (w.setCell ⟨g, k, none⟩ u) a n := by
  rcases h with h | ⟨g', cur', h1, h2, h3, h4⟩
  · exact .inl h
  · by_cases e : g' = g
    · subst e
      rw [hg] at h3
      cases h3
      exact .inr ⟨g', _, h1, h2, heap_setCell_same w g' k cur 70 u hg, by simpa using h4⟩
    · exact .inr ⟨g', cur', h1, h2, by rw [heap_setCell_other _ _ _ _ e]; exact h3, h4⟩
/-- What stays while the digits are written over. -/
structure MInv (B : Nat) (w : World) (b : Nat) (rc : Array Value) (l : List Arg) (wr : World) : Prop where
  bel : Below B w wr
  row : wr.heap[b]? = some (.cells rc 36 (0, 0))
  wr : ∀ (i : Nat) (x : Arg), l[i]? = some x → WrA B wr x.a x.zs.length
theorem MInv.set {B b g k : Nat} {w wr : World} {rc cur : Array Value} {l : List Arg} (h : MInv B w b rc l wr) (hB : B ≤ g) (hg : wr.heap[g]? = some (.cells cur 70 (0, 0))) (u : Value) : MInv B w b rc l (wr.setCell ⟨g, k, none⟩ u) := by
  have hne : b ≠ g := by
    intro e
    subst e
    have := h.row
    rw [hg] at this
    cases this
  exact ⟨h.bel.setCell (p := ⟨g, k, none⟩) hB u, by rw [heap_setCell_other _ _ _ _ hne]; exact h.row, fun i x hx => (h.wr i x hx).set hg u⟩
set_option maxHeartbeats 4000000 in
theorem dmark42 (B b : Nat) (rc : Array Value) (l : List Arg) (w : World) (h : MInv B w b rc l w) (hc : ∀ (i : Nat) (x : Arg), l[i]? = some x → rc[i * 3 + 1]? = some (.slice x.a x.zs.length x.c)) (hl : l.length ≤ 1000) (hz : ∀ (i : Nat) (x : Arg), l[i]? = some x → x.zs.length ≤ 1000000) :
    Calls Tryd.prog 33 #[.slice (some ⟨b, 0, none⟩) l.length l.length] w fun e w' => e = .returned (.tuple #[]) ∧ Below B w w' := by
  have HM := Hide.mk h
  have HC := Hide.mk hc
  have HZ := Hide.mk hz
  clear h hc hz
  go_enter Tryd.func33, Tryd.ntmps33
  go_wp2
  go_loopw [2] (fun i wr => ∃ k : Nat, k ≤ l.length ∧ i = .int .i64 k ∧ Hide (MInv B w b rc l wr)) (fun i _ => l.length - (intOf i).toNat)
  case atStart => exact ⟨0, Nat.zero_le _, rfl, HM⟩
  case round =>
    obtain ⟨k, hk, rfl, HI⟩ := hrel
    by_cases hlt : k < l.length
    · obtain ⟨x, hx⟩ : ∃ x, l[k]? = some x := ⟨_, List.getElem?_eq_getElem hlt⟩
      have HX := Hide.mk hx
      have hrc := HC.out k x hx
      have HRC := Hide.mk hrc
      have hzx := HZ.out k x hx
      clear hx hrc
      obtain ⟨ng, a, c, zs, ex⟩ := x
      simp only at hzx
      go_wp2
      go_loopw [3] (fun j wq => ∃ m : Nat, m ≤ zs.length ∧ j = .int .i64 m ∧ Hide (MInv B w b rc l wq)) (fun j _ => zs.length - (intOf j).toNat)
      case atStart => exact ⟨0, Nat.zero_le _, rfl, HI⟩
      case round =>
        obtain ⟨m, hm, rfl, HJ⟩ := hrel
        have c1 : wr.cell? ⟨b, k * 3 + 1, none⟩ = some (.slice a zs.length c) := by rw [cell_of_row _ _ _ _ 36 (0, 0) HJ.out.row]; exact HRC.out
        by_cases hmt : m < zs.length
        · rcases HJ.out.wr k _ HX.out with h0 | ⟨g, cur, h1, h2, h3, h4⟩
          · exact absurd h0 (by simp only; omega)
          · simp only at h1 h4
            subst h1
            obtain ⟨u, hu⟩ : ∃ u, wr.cell? ⟨g, m, none⟩ = some u := ⟨cur[m]'(by omega), by rw [cell_of_row wr g m _ 70 (0, 0) h3]; simp [show m < cur.size by omega]⟩
            have hf := frozen_of_row wr g m _ 70 h3
            have HJ2 := Hide.mk (HJ.out.set (k := m) h2 h3 (.int .u32 77))
            clear h3 h4
            go_wp2
            go_roundw
            case rel => exact ⟨m + 1, hmt, by go_num, HJ2⟩
            case measure => simp [intOf]; omega
        · go_wp2
          go_roundw
          case rel => exact ⟨k + 1, hlt, by go_num, HJ⟩
          case measure => simp [intOf]; omega
    · go_wp2
      go_end0
      exact ⟨rfl, HI.out.bel⟩

end Go.Proofs.YteejaghimppcgaaDoor

namespace Go.Proofs.YteejaghimppcgaaDoor
open Go.RowKit
set_option linter.unusedVariables false
set_option maxRecDepth 3000
/-- The value as an int64, where it is one. -/
def i64r (ng : Bool) (x ex : Int) (B : Nat) : Int × Bool :=
  if ex < 0 ∨ 64 < B + ex then (0, false) else if ng then (if x * 2 ^ ex.toNat ≤ 9223372036854775808 then (-(x * 2 ^ ex.toNat), true) else (0, false)) else (if x * 2 ^ ex.toNat < 9223372036854775808 then (x * 2 ^ ex.toNat, true) else (0, false))
end Go.Proofs.YteejaghimppcgaaDoor

/-
  Boxes: blocks of cells that a call has made, which stay as they are while others are called.
-/
set_option linter.unusedVariables false
namespace Go.Box
open Go Go.RowKit
/-- From w to W nothing of w's has turned, and the blocks of L lie there. -/
structure Bx (w : World) (L : List (Nat × Obj)) (W : World) : Prop where
  bel : Below w.heap.size w W
  box : ∀ p ∈ L, W.heap[p.1]? = some p.2
variable {w W W' : World} {L L' : List (Nat × Obj)}
theorem Bx.nil (w : World) : Bx w [] w := ⟨Below.refl _ _, fun _ h => by cases h⟩
theorem Bx.lt (h : Bx w L W) {p : Nat × Obj} (hp : p ∈ L) : p.1 < W.heap.size := (Array.getElem?_eq_some_iff.1 (h.box p hp)).1
theorem Bx.head {g : Nat} {o : Obj} (h : Bx w ((g, o) :: L) W) : W.heap[g]? = some o := h.box _ (.head _)
theorem Bx.tail {q : Nat × Obj} (h : Bx w (q :: L) W) : Bx w L W := ⟨h.bel, fun p hp => h.box p (.tail _ hp)⟩
theorem Bx.sub (h : Bx w L W) (hs : ∀ p ∈ L', p ∈ L) : Bx w L' W := ⟨h.bel, fun p hp => h.box p (hs p hp)⟩
theorem Bx.push (h : Bx w L W) (o : Obj) : Bx w ((W.heap.size, o) :: L) (W.alloc o) := by
  refine ⟨h.bel.alloc h.bel.size o, fun p hp => ?_⟩
  rcases List.mem_cons.1 hp with rfl | hp
  · exact heap_alloc_new W o
  · rw [Below.heap_alloc _ _ _ (h.lt hp)]; exact h.box p hp
theorem Bx.keep (h : Bx w L W) (hb : Below W.heap.size W W') : Bx w L W' :=
  ⟨h.bel.trans (hb.mono h.bel.size), fun p hp => (hb.block _ (h.lt hp)).trans (h.box p hp)⟩
theorem Bx.drew (h : Bx w L W) : Bx w L W.drew := ⟨h.bel.drew, h.box⟩
theorem Bx.cell (h : Bx w L W) (g : Nat) (cs : Array Value) (t : TypeId) (hm : (g, Obj.cells cs t (0, 0)) ∈ L) (j : Nat) : W.cell? ⟨g, j, none⟩ = cs[j]? := cell_of_row W g j cs t (0, 0) (h.box _ hm)
theorem Bx.frozen (h : Bx w L W) (g : Nat) (cs : Array Value) (t : TypeId) (hm : (g, Obj.cells cs t (0, 0)) ∈ L) (j : Nat) : W.frozen? ⟨g, j, none⟩ = false := frozen_of_row W g j cs t (h.box _ hm)
theorem Bx.set {g : Nat} {cs : Array Value} {t : TypeId} (h : Bx w ((g, Obj.cells cs t (0, 0)) :: L) W) (hg : w.heap.size ≤ g) (hne : ∀ p ∈ L, p.1 ≠ g) (j : Nat) (x : Value) :
    Bx w ((g, Obj.cells (cs.setIfInBounds j x) t (0, 0)) :: L) (W.setCell ⟨g, j, none⟩ x) := by
  refine ⟨h.bel.setCell hg x, fun p hp => ?_⟩
  rcases List.mem_cons.1 hp with rfl | hp
  · exact heap_setCell_same W g j cs t x (h.box _ (.head _))
  · rw [Below.heap_setCell _ _ _ _ (hne p hp)]; exact h.box p (.tail _ hp)
theorem Bx.apart (h : Bx w L W) : ∀ p ∈ L, p.1 ≠ W.heap.size := fun p hp e => by have := h.lt hp; omega
theorem Bx.fill3 {g : Nat} {z0 z1 z2 : Value} {t : TypeId} (h : Bx w ((g, Obj.cells #[z0, z1, z2] t (0, 0)) :: L) W) (hg : w.heap.size ≤ g) (hne : ∀ p ∈ L, p.1 ≠ g) (a b c : Value) :
    Bx w ((g, Obj.cells #[a, b, c] t (0, 0)) :: L) (((W.setCell ⟨g, 0, none⟩ a).setCell ⟨g, 1, none⟩ b).setCell ⟨g, 2, none⟩ c) := by
  have := ((h.set hg hne 0 a).set hg hne 1 b).set hg hne 2 c
  simpa using this
theorem Bx.fill4 {g : Nat} {z0 z1 z2 z3 : Value} {t : TypeId} (h : Bx w ((g, Obj.cells #[z0, z1, z2, z3] t (0, 0)) :: L) W) (hg : w.heap.size ≤ g) (hne : ∀ p ∈ L, p.1 ≠ g) (a b c d : Value) :
    Bx w ((g, Obj.cells #[a, b, c, d] t (0, 0)) :: L) ((((W.setCell ⟨g, 0, none⟩ a).setCell ⟨g, 1, none⟩ b).setCell ⟨g, 2, none⟩ c).setCell ⟨g, 3, none⟩ d) := by
  have := (((h.set hg hne 0 a).set hg hne 1 b).set hg hne 2 c).set hg hne 3 d
  simpa using this
end Go.Box

set_option linter.unusedVariables false
namespace Go.Wd
open Go
/-- The numbers of a format (true: F64): the sign's bit, 2 to the F, F, E, L, the infinite word. -/
def sg (b : Bool) : Int := match b with | true => 9223372036854775808 | false => 2147483648
def fr (b : Bool) : Int := match b with | true => 4503599627370496 | false => 8388608
def fc (b : Bool) : Int := match b with | true => 52 | false => 23
def bt (b : Bool) : Int := match b with | true => 64 | false => 32
def tp (b : Bool) : Int := match b with | true => 2047 | false => 255
def lo (b : Bool) : Int := match b with | true => -1074 | false => -149
def fm (b : Bool) : Int := match b with | true => 2 | false => 1
def inf (b : Bool) : Int := match b with | true => 9218868437227405312 | false => 2139095040
def nan (b : Bool) : Int := match b with | true => 9221120237041090560 | false => 2143289344
/-- A word's sign, field, fraction, class. -/
def ng (b : Bool) (x : Int) : Bool := decide (sg b ≤ x)
def sz (b : Bool) (x : Int) : Int := x % sg b
def fd (b : Bool) (x : Int) : Int := x % sg b / fr b
def fn (b : Bool) (x : Int) : Int := x % fr b
def cl (b : Bool) (x : Int) : Int := if sz b x = 0 then 1 else if sz b x < fr b then 2 else if sz b x < inf b then 3 else if sz b x = inf b then 4 else 5
/-- A size with a sign. -/
def sd (b : Bool) (s : Int) (n : Bool) : Int := if n then s + sg b else s
/-- One step up of what is no NaN and not +infinite. -/
def up (b : Bool) (x : Int) : Int := if sz b x = 0 then 1 else if sg b ≤ x then x - 1 else x + 1
def Ok (b : Bool) (x : Int) : Prop := 0 ≤ x ∧ x < 2 * sg b
/-- Without that bit. -/
theorem clearBit (k : Nat) {x S : Int} (hS : S = 2 ^ k) (hk : k ≤ 63) (h0 : 0 ≤ x) (h1 : x < 2 * S) : bits .andNot .u64 x S = x % S := by
  have e : (2 : Int) ^ k = ((2 ^ k : Nat) : Int) := by simp
  have hp : 0 < 2 ^ k := Nat.two_pow_pos k
  have hq : 2 ^ k ≤ 2 ^ 63 := Nat.pow_le_pow_right (by decide) hk
  have hr : (2 : Nat) ^ 63 = 9223372036854775808 := by decide
  subst hS
  rw [e] at *
  obtain ⟨n, rfl⟩ : ∃ n : Nat, x = n := ⟨x.toNat, by omega⟩
  rw [u64_andNot_nat n _ (by omega) (by omega)]
  have : n &&& (18446744073709551615 - 2 ^ k) = n % 2 ^ k := by
    have hn : n < 2 ^ (k + 1) := by rw [Nat.pow_succ]; omega
    apply Nat.eq_of_testBit_eq
    intro i
    rw [Nat.testBit_and, Nat.testBit_mod_two_pow]
    have h64 : 18446744073709551615 - 2 ^ k = 2 ^ 64 - (2 ^ k + 1) := by
      rw [show (2 : Nat) ^ 64 = 18446744073709551616 by decide]; omega
    rw [h64, Nat.testBit_two_pow_sub_succ (by rw [show (2 : Nat) ^ 64 = 18446744073709551616 by decide]; omega), Nat.testBit_two_pow]
    by_cases hi : i < k
    · simp [hi, show k ≠ i by omega, show i < 64 by omega]
    · by_cases he : k = i
      · subst he; simp
      · have : n.testBit i = false := Nat.testBit_lt_two_pow (Nat.lt_of_lt_of_le hn (Nat.pow_le_pow_right (by decide) (by omega)))
        simp [this]
  rw [this]
  omega
end Go.Wd

namespace Go.Proofs.YteejaghimppcgaaDoor
open Go.RowKit Go.Wd Go.Box
set_option linter.unusedVariables false
set_option maxRecDepth 3000
/-- A format's shape. -/
abbrev S (b : Bool) : Value := .agg #[.int .i64 (bt b), .int .i64 (fc b), .int .i64 (tp b), .int .i64 (lo b)]
abbrev SO (b : Bool) : Obj := .cells #[.int .i64 (bt b), .int .i64 (fc b), .int .i64 (tp b), .int .i64 (lo b)] 97 (0, 0)
abbrev noS : Value := .agg #[.int .i64 0, .int .i64 0, .int .i64 0, .int .i64 0]
theorem S32 : S false = .agg #[.int .i64 32, .int .i64 23, .int .i64 255, .int .i64 (-149)] := rfl
theorem S64 : S true = .agg #[.int .i64 64, .int .i64 52, .int .i64 2047, .int .i64 (-1074)] := rfl
theorem pow31 : sg false = 2 ^ 31 := by decide
theorem pow63 : sg true = 2 ^ 63 := by decide
theorem shape_cells {w W : World} {L : List (Nat × Obj)} (h : Bx w L W) (g : Nat) (b : Bool) (hm : (g, SO b) ∈ L) :
    W.cell? ⟨g, 0, none⟩ = some (.int .i64 (bt b)) ∧ W.cell? ⟨g, 1, none⟩ = some (.int .i64 (fc b)) ∧ W.cell? ⟨g, 2, none⟩ = some (.int .i64 (tp b)) ∧ W.cell? ⟨g, 3, none⟩ = some (.int .i64 (lo b)) :=
  ⟨h.cell g _ _ hm 0, h.cell g _ _ hm 1, h.cell g _ _ hm 2, h.cell g _ _ hm 3⟩
theorem wSignBit (b : Bool) (w : World) :
    Calls Tryd.prog 137 #[S b] w fun e w' => e = .returned (.int .u64 (sg b)) ∧ Below w.heap.size w w' := by
  cases b
  · rw [S32]
    go_enter Tryd.func137, Tryd.ntmps137
    go_wp2
    go_ret
    exact ⟨rfl, below_alloc _ _⟩
  · rw [S64]
    go_enter Tryd.func137, Tryd.ntmps137
    go_wp2
    go_ret
    exact ⟨rfl, below_alloc _ _⟩
theorem wFullWord (b : Bool) (w : World) :
    Calls Tryd.prog 156 #[S b] w fun e w' => e = .returned (.int .u64 (2 * sg b - 1)) ∧ Below w.heap.size w w' := by
  cases b
  · rw [S32]
    go_enter Tryd.func156, Tryd.ntmps156
    go_wp2
    go_ret
    exact ⟨rfl, below_alloc _ _⟩
  · rw [S64]
    go_enter Tryd.func156, Tryd.ntmps156
    go_wp2
    go_ret
    exact ⟨rfl, below_alloc _ _⟩
theorem wInfinite (b : Bool) (w : World) :
    Calls Tryd.prog 142 #[S b] w fun e w' => e = .returned (.int .u64 (inf b)) ∧ Below w.heap.size w w' := by
  cases b
  · rw [S32]
    go_enter Tryd.func142, Tryd.ntmps142
    go_wp2
    go_ret
    exact ⟨rfl, below_alloc _ _⟩
  · rw [S64]
    go_enter Tryd.func142, Tryd.ntmps142
    go_wp2
    go_ret
    exact ⟨rfl, below_alloc _ _⟩
theorem andNot_sg (b : Bool) {x : Int} (h : Ok b x) : bits .andNot .u64 x (sg b) = sz b x := by
  cases b
  · exact clearBit 31 pow31 (by decide) h.1 h.2
  · exact clearBit 63 pow63 (by decide) h.1 h.2
theorem wSize (b : Bool) (x : Int) (h : Ok b x) (w : World) :
    Calls Tryd.prog 143 #[S b, .int .u64 x] w fun e w' => e = .returned (.int .u64 (sz b x)) ∧ Below w.heap.size w w' := by
  have hb := below_alloc w (SO b)
  have HS := Hide.mk (andNot_sg b h)
  go_enter Tryd.func143, Tryd.ntmps143
  go_wp2_with fail
  refine (wSignBit b _).mono ?_
  rintro e w' ⟨rfl, h2⟩
  have h3 := below_then hb h2
  clear h2 hb
  go_wp2
  go_ret
  exact ⟨by rw [← HS.out]; rfl, h3⟩
theorem Tryd.sizeShape : (Tryd.prog.info? 97).map (·.size) = some 4 := by kernel_rfl
theorem results_S2 {fn : Func} {p u : Tmp} (h : fn.results = #[.cell p 97, .tmp u]) (tmps : Array Value) (w : World) (g : Nat) (cs : Array Value) (hp : tmps.getD p undef = .pointer (some ⟨g, 0, none⟩)) (hg : w.heap[g]? = some (.cells cs 97 (0, 0))) (hs : cs.size = 4) :
    (results fn tmps).run Tryd.prog w = .ok (.tuple #[.agg cs, tmps.getD u undef]) w := by
  rw [results_cell_tmp h, hp]
  simp [asAddr, run_loadVar_row w g 97 97 cs (0, 0) _ hg Tryd.underlying97 rfl (by rw [Tryd.sizeShape, hs])]
theorem wShapeOf (b : Bool) (w : World) :
    Calls Tryd.prog 144 #[.int .u8 (fm b)] w fun e w' => e = .returned (.tuple #[S b, .int .i64 0]) ∧ Below w.heap.size w w' := by
  cases b
  · rw [show fm false = 1 from rfl, S32]
    go_enter Tryd.func144, Tryd.ntmps144
    go_wp2
    have B1 := (Bx.nil w).push (.cells #[.int .i64 32, .int .i64 23, .int .i64 255, .int .i64 (-149)] 97 (0, 0))
    refine bodyPost_ret (results_S2 rfl _ _ w.heap.size _ rfl B1.head rfl) rfl ?_
    exact ⟨rfl, B1.bel⟩
  · rw [show fm true = 2 from rfl, S64]
    go_enter Tryd.func144, Tryd.ntmps144
    go_wp2
    have B1 := (Bx.nil w).push (.cells #[.int .i64 64, .int .i64 52, .int .i64 2047, .int .i64 (-1074)] 97 (0, 0))
    refine bodyPost_ret (results_S2 rfl _ _ w.heap.size _ rfl B1.head rfl) rfl ?_
    exact ⟨rfl, B1.bel⟩
/-- No format. -/
def Bad (f : Int) : Prop := f ≠ 1 ∧ f ≠ 2
theorem wShapeOf_bad (f : Int) (h : Bad f) (w : World) :
    Calls Tryd.prog 144 #[.int .u8 f] w fun e w' => e = .returned (.tuple #[noS, .int .i64 4]) ∧ Below w.heap.size w w' := by
  have h1 : (f == 1) = false := beq_eq_false_iff_ne.2 h.1
  have h2 : (f == 2) = false := beq_eq_false_iff_ne.2 h.2
  go_enter Tryd.func144, Tryd.ntmps144
  go_wp2
  have B1 := (Bx.nil w).push (.cells #[.int .i64 0, .int .i64 0, .int .i64 0, .int .i64 0] 97 (0, 0))
  refine bodyPost_ret (results_S2 rfl _ _ w.heap.size _ rfl B1.head rfl) rfl ?_
  exact ⟨rfl, B1.bel⟩
end Go.Proofs.YteejaghimppcgaaDoor
