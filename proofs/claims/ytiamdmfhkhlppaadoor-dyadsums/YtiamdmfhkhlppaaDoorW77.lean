import Derived.Test.YtiamdmfhkhlppaaDoorM16
namespace Go.Proofs.YtiamdmfhkhlppaaDoor
open Go.RowKit
set_option linter.unusedVariables false
set_option maxRecDepth 3000
set_option maxHeartbeats 2000000 in
theorem dneg47 (ng : Bool) (a : Option Addr) (c : Nat) (zs : List Int) (ex : Int)  (w : World) (hl : Lie w a zs) (g : DG ng zs ex) (hT : Tab w) :
    Calls Tryd.prog 22 #[dV ng a zs.length c ex] w fun e w' => DRes w w' (-dv ng zs ex) (-(KK : Int)) e := by
  obtain ⟨d1, d2, hs2⟩ := dcell2 w #[.bool ng, .slice a zs.length c, .int .i64 ex] #[.bool false, .slice none 0 0, .int .i64 0] rfl rfl
  have hb2 := below2 w (.cells #[.bool ng, .slice a zs.length c, .int .i64 ex] 36) (.cells #[.bool false, .slice none 0 0, .int .i64 0] 36)
  have hx := g.ex_bd
  have hK := KK_int
  have u := g.lie hl
  go_enter Tryd.func22, Tryd.ntmps22
  go_wp2_with fail
  generalize hw2 : (w.alloc (.cells #[.bool ng, .slice a zs.length c, .int .i64 ex] 36)).alloc (.cells #[.bool false, .slice none 0 0, .int .i64 0] 36) = w2 at *
  clear hw2
  refine (u.may ng c ex true g.may _ hb2).mono ?_
  rintro e w3 ⟨rfl, h3⟩
  have HB := below_then hb2 h3
  replace d1 := d1.below h3 (by omega)
  replace d2 := d2.below h3 (by omega)
  have hsz : w.heap.size + 1 < w3.heap.size := by have := h3.size; omega
  clear h3 hb2 hs2 u
  have q0 := d1.c0
  have q1 := d1.c1
  have q2 := d1.c2
  have l3 := hl.below HB (Nat.le_refl _)
  have t3 := hT.below HB (Nat.le_refl _)
  go_wp2_with fail
  refine (formedR (!ng) a c zs ex _ l3 g.good t3 (by omega) (by omega)).mono ?_
  rintro e w9 ⟨n9, a9, k9, c9, x9, code, rfl, hv⟩
  replace d2 := d2.below hv.bel hsz
  have HV := Hide.mk hv
  clear hv q0 q1 q2
  have f0 := d2.c0
  have f1 := d2.c1
  have f2 := d2.c2
  have r0 := d2.fr 0
  have r1 := d2.fr 1
  have r2 := d2.fr 2
  go_wp2
  refine bodyPost_ret (results_D2 rfl _ _ (w.heap.size + 1) _ rfl (((d2.set 0 _).set 1 _).set 2 _)) rfl ?_
  have e0 : -dv ng zs ex = sv (!ng) (Nt.val zs) * pK ex := by unfold dv; rw [sv_not, Int.neg_mul]
  rw [e0]
  exact DRes.toK (DRes.back HV.out HB (by omega) hsz _ _ _) (by omega)
set_option maxHeartbeats 2000000 in
theorem dneg_bad (ng : Bool) (a : Option Addr) (c : Nat) (zs : List Int) (ex : Int)  (w : World) (u : DLie w a zs) (hq : dmayB ng zs ex = false) :
    Calls Tryd.prog 22 #[dV ng a zs.length c ex] w fun e w' => e = .returned (.tuple #[noD, .int .i64 2]) ∧ Below w.heap.size w w' := by
  obtain ⟨d1, d2, hs2⟩ := dcell2 w #[.bool ng, .slice a zs.length c, .int .i64 ex] #[.bool false, .slice none 0 0, .int .i64 0] rfl rfl
  have hb2 := below2 w (.cells #[.bool ng, .slice a zs.length c, .int .i64 ex] 36) (.cells #[.bool false, .slice none 0 0, .int .i64 0] 36)
  go_enter Tryd.func22, Tryd.ntmps22
  go_wp2_with fail
  generalize hw2 : (w.alloc (.cells #[.bool ng, .slice a zs.length c, .int .i64 ex] 36)).alloc (.cells #[.bool false, .slice none 0 0, .int .i64 0] 36) = w2 at *
  clear hw2
  refine (u.may ng c ex false hq _ hb2).mono ?_
  rintro e w3 ⟨rfl, h3⟩
  have HB := below_then hb2 h3
  replace d1 := d1.below h3 (by omega)
  replace d2 := d2.below h3 (by omega)
  have hsz : w.heap.size + 1 < w3.heap.size := by have := h3.size; omega
  clear h3 hb2 hs2 u
  have f0 := d2.c0
  have f1 := d2.c1
  have f2 := d2.c2
  have r0 := d2.fr 0
  have r1 := d2.fr 1
  have r2 := d2.fr 2
  go_wp2
  refine bodyPost_ret (results_D2 rfl _ _ (w.heap.size + 1) _ rfl (((d2.set 0 _).set 1 _).set 2 _)) rfl ?_
  exact ⟨rfl, ((HB.setCell (p := ⟨w.heap.size + 1, 0, none⟩) (by show w.heap.size ≤ w.heap.size + 1; omega) _).setCell (p := ⟨w.heap.size + 1, 1, none⟩) (by show w.heap.size ≤ w.heap.size + 1; omega) _).setCell (p := ⟨w.heap.size + 1, 2, none⟩) (by show w.heap.size ≤ w.heap.size + 1; omega) _⟩
set_option maxHeartbeats 2000000 in
theorem dabs48 (ng : Bool) (a : Option Addr) (c : Nat) (zs : List Int) (ex : Int)  (w : World) (hl : Lie w a zs) (g : DG ng zs ex) (hT : Tab w) :
    Calls Tryd.prog 23 #[dV ng a zs.length c ex] w fun e w' => DRes w w' (Nt.val zs * pK ex) (-(KK : Int)) e := by
  obtain ⟨d1, d2, hs2⟩ := dcell2 w #[.bool ng, .slice a zs.length c, .int .i64 ex] #[.bool false, .slice none 0 0, .int .i64 0] rfl rfl
  have hb2 := below2 w (.cells #[.bool ng, .slice a zs.length c, .int .i64 ex] 36) (.cells #[.bool false, .slice none 0 0, .int .i64 0] 36)
  have hx := g.ex_bd
  have hK := KK_int
  have u := g.lie hl
  go_enter Tryd.func23, Tryd.ntmps23
  go_wp2_with fail
  generalize hw2 : (w.alloc (.cells #[.bool ng, .slice a zs.length c, .int .i64 ex] 36)).alloc (.cells #[.bool false, .slice none 0 0, .int .i64 0] 36) = w2 at *
  clear hw2
  refine (u.may ng c ex true g.may _ hb2).mono ?_
  rintro e w3 ⟨rfl, h3⟩
  have HB := below_then hb2 h3
  replace d1 := d1.below h3 (by omega)
  replace d2 := d2.below h3 (by omega)
  have hsz : w.heap.size + 1 < w3.heap.size := by have := h3.size; omega
  clear h3 hb2 hs2 u
  have q0 := d1.c0
  have q1 := d1.c1
  have q2 := d1.c2
  have l3 := hl.below HB (Nat.le_refl _)
  have t3 := hT.below HB (Nat.le_refl _)
  go_wp2_with fail
  refine (formedR false a c zs ex _ l3 g.good t3 (by omega) (by omega)).mono ?_
  rintro e w9 ⟨n9, a9, k9, c9, x9, code, rfl, hv⟩
  replace d2 := d2.below hv.bel hsz
  have HV := Hide.mk hv
  clear hv q0 q1 q2
  have f0 := d2.c0
  have f1 := d2.c1
  have f2 := d2.c2
  have r0 := d2.fr 0
  have r1 := d2.fr 1
  have r2 := d2.fr 2
  go_wp2
  refine bodyPost_ret (results_D2 rfl _ _ (w.heap.size + 1) _ rfl (((d2.set 0 _).set 1 _).set 2 _)) rfl ?_
  exact DRes.toK (DRes.back HV.out HB (by omega) hsz _ _ _) (by omega)
set_option maxHeartbeats 2000000 in
theorem dabs_bad (ng : Bool) (a : Option Addr) (c : Nat) (zs : List Int) (ex : Int)  (w : World) (u : DLie w a zs) (hq : dmayB ng zs ex = false) :
    Calls Tryd.prog 23 #[dV ng a zs.length c ex] w fun e w' => e = .returned (.tuple #[noD, .int .i64 2]) ∧ Below w.heap.size w w' := by
  obtain ⟨d1, d2, hs2⟩ := dcell2 w #[.bool ng, .slice a zs.length c, .int .i64 ex] #[.bool false, .slice none 0 0, .int .i64 0] rfl rfl
  have hb2 := below2 w (.cells #[.bool ng, .slice a zs.length c, .int .i64 ex] 36) (.cells #[.bool false, .slice none 0 0, .int .i64 0] 36)
  go_enter Tryd.func23, Tryd.ntmps23
  go_wp2_with fail
  generalize hw2 : (w.alloc (.cells #[.bool ng, .slice a zs.length c, .int .i64 ex] 36)).alloc (.cells #[.bool false, .slice none 0 0, .int .i64 0] 36) = w2 at *
  clear hw2
  refine (u.may ng c ex false hq _ hb2).mono ?_
  rintro e w3 ⟨rfl, h3⟩
  have HB := below_then hb2 h3
  replace d1 := d1.below h3 (by omega)
  replace d2 := d2.below h3 (by omega)
  have hsz : w.heap.size + 1 < w3.heap.size := by have := h3.size; omega
  clear h3 hb2 hs2 u
  have f0 := d2.c0
  have f1 := d2.c1
  have f2 := d2.c2
  have r0 := d2.fr 0
  have r1 := d2.fr 1
  have r2 := d2.fr 2
  go_wp2
  refine bodyPost_ret (results_D2 rfl _ _ (w.heap.size + 1) _ rfl (((d2.set 0 _).set 1 _).set 2 _)) rfl ?_
  exact ⟨rfl, ((HB.setCell (p := ⟨w.heap.size + 1, 0, none⟩) (by show w.heap.size ≤ w.heap.size + 1; omega) _).setCell (p := ⟨w.heap.size + 1, 1, none⟩) (by show w.heap.size ≤ w.heap.size + 1; omega) _).setCell (p := ⟨w.heap.size + 1, 2, none⟩) (by show w.heap.size ≤ w.heap.size + 1; omega) _⟩
end Go.Proofs.YtiamdmfhkhlppaaDoor
