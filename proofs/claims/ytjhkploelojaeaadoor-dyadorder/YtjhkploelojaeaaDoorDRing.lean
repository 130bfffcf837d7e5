import Derived.Test.YtjhkploelojaeaaDoorM12
namespace Go.Proofs.YtjhkploelojaeaaDoor
open Go.RowKit
set_option linter.unusedVariables false
set_option maxRecDepth 3000
theorem ring_db {lo hi : Nat} {ua ub uc : Int} (hlo : lo = KK - 3000) (hhi : hi = KK + 6201) (Da : DB lo hi ua) (Db : DB lo hi ub) (Dc : DB lo hi uc) :
    DB lo (hi + 1) (ua + ub) ∧ DB lo (hi + 1) (ub + ua) ∧ DB lo (hi + 1) (ub + uc) ∧ DB lo (hi + 2) (ua + ub + uc) ∧ DB lo (hi + 2) (ua + (ub + uc)) ∧ DB lo (hi + 2) (ua + ub - ub) := by
  have D1 := Da.mono (Nat.le_refl _) (show hi ≤ hi + 1 by omega)
  have D2 := Dc.mono (Nat.le_refl _) (show hi ≤ hi + 1 by omega)
  have D3 := Db.neg.mono (Nat.le_refl _) (show hi ≤ hi + 1 by omega)
  exact ⟨Da.add Db, Db.add Da, Db.add Dc, (Da.add Db).add D2, D1.add (Db.add Dc), by have := (Da.add Db).add D3; rwa [← Int.sub_eq_add_neg] at this⟩
theorem DB.prod {lo hi l h : Nat} {u v p : Int} (D : DB lo hi u) (E : DB l h v) (hp : p * 2 ^ KK = u * v) (k1 : KK ≤ lo + l) (k2 : KK ≤ hi + h) : DB (lo + l - KK) (hi + h - KK) p :=
  DB.shift (by rw [hp]; exact D.mul E) k1 k2
set_option maxHeartbeats 4000000 in
theorem dring_no (n1 n2 n3 : Bool) (a1 a2 a3 : Option Addr) (c1 c2 c3 : Nat) (z1 z2 z3 : List Int) (e1 e2 e3 : Int) (w : World) (u1 : DLie w a1 z1) (u2 : DLie w a2 z2) (u3 : DLie w a3 z3) (hT : Tab w) (hq : List.all [⟨n1, a1, c1, z1, e1⟩, ⟨n2, a2, c2, z2, e2⟩, ⟨n3, a3, c3, z3, e3⟩] nearB = false) :
    Calls Tryd.prog 12 #[dV n1 a1 z1.length c1 e1, dV n2 a2 z2.length c2 e2, dV n3 a3 z3.length c3 e3] w fun e w' => e = .returned (.bool true) ∧ Below w.heap.size w w' := by
  obtain ⟨d1, d2, d3, hs3⟩ := dcell3 w #[.bool n1, .slice a1 z1.length c1, .int .i64 e1] #[.bool n2, .slice a2 z2.length c2, .int .i64 e2] #[.bool n3, .slice a3 z3.length c3, .int .i64 e3] rfl rfl rfl
  have hb3 := below3 w (.cells #[.bool n1, .slice a1 z1.length c1, .int .i64 e1] 44) (.cells #[.bool n2, .slice a2 z2.length c2, .int .i64 e2] 44) (.cells #[.bool n3, .slice a3 z3.length c3, .int .i64 e3] 44)
  go_enter Tryd.func12, Tryd.ntmps12
  go_wp2_with fail
  generalize hw3 : ((w.alloc (.cells #[.bool n1, .slice a1 z1.length c1, .int .i64 e1] 44)).alloc (.cells #[.bool n2, .slice a2 z2.length c2, .int .i64 e2] 44)).alloc (.cells #[.bool n3, .slice a3 z3.length c3, .int .i64 e3] 44) = w3 at *
  clear hw3
  have hr := arow3 w3 (w.heap.size + 1 + 1 + 1) (by omega) ⟨n1, a1, c1, z1, e1⟩ ⟨n2, a2, c2, z2, e2⟩ ⟨n3, a3, c3, z3, e3⟩ (u1.below hb3) (u2.below hb3) (u3.below hb3)
  have HR := Hide.mk (near75 _ _ _ hr (by simp))
  have hb4 := below_alloc w3 (.cells #[.bool n1, .slice a1 z1.length c1, .int .i64 e1, .bool n2, .slice a2 z2.length c2, .int .i64 e2, .bool n3, .slice a3 z3.length c3, .int .i64 e3] 44)
  clear hr
  rw [hq] at HR
  refine HR.out.mono ?_
  rintro e w4 ⟨rfl, h4⟩
  clear HR
  have hb5 := below_then hb4 h4
  have HB : Below w.heap.size w w4 := below_then hb3 hb5
  have BX : Boxes w4 [(w.heap.size, #[.bool n1, .slice a1 z1.length c1, .int .i64 e1]), (w.heap.size + 1, #[.bool n2, .slice a2 z2.length c2, .int .i64 e2]), (w.heap.size + 1 + 1, #[.bool n3, .slice a3 z3.length c3, .int .i64 e3])] := ⟨by
    intro p hp
    simp only [List.mem_cons, List.not_mem_nil, or_false] at hp
    rcases hp with rfl | rfl | rfl
    · exact d1.below hb5 (by show w.heap.size < w3.heap.size; omega)
    · exact d2.below hb5 (by show w.heap.size + 1 < w3.heap.size; omega)
    · exact d3.below hb5 (by show w.heap.size + 1 + 1 < w3.heap.size; omega)⟩
  have L : Live w4 [(a1, z1), (a2, z2), (a3, z3)] := ⟨by simp [(u1.below HB).lie, (u2.below HB).lie, (u3.below HB).lie]⟩
  have HT := Hide.mk (hT.below HB (Nat.le_refl _))
  clear d1 d2 d3 hs3 hb3 hb4 hb5 h4 u1 u2 u3 hT
  go_wp2_with fail
  refine (dknown34 _ HT.out).mono ?_
  rintro e w9 ⟨rfl, h9⟩
  have hb9 := below_then HB h9
  clear h9
  go_wp2
  go_ret
  exact ⟨rfl, hb9⟩
set_option maxHeartbeats 8000000 in
theorem dring_main (n1 n2 n3 : Bool) (a1 a2 a3 : Option Addr) (c1 c2 c3 : Nat) (z1 z2 z3 : List Int) (e1 e2 e3 : Int) (w : World) (u1 : DLie w a1 z1) (u2 : DLie w a2 z2) (u3 : DLie w a3 z3) (hT : Tab w) (hq : List.all [⟨n1, a1, c1, z1, e1⟩, ⟨n2, a2, c2, z2, e2⟩, ⟨n3, a3, c3, z3, e3⟩] nearB = true) :
    Calls Tryd.prog 12 #[dV n1 a1 z1.length c1 e1, dV n2 a2 z2.length c2 e2, dV n3 a3 z3.length c3 e3] w fun e w' => e = .returned (.bool true) ∧ Below w.heap.size w w' := by
  have hq1 : nearB ⟨n1, a1, c1, z1, e1⟩ = true := by simp only [List.all_cons, List.all_nil, Bool.and_true, Bool.and_eq_true] at hq; exact hq.1
  have hq2 : nearB ⟨n2, a2, c2, z2, e2⟩ = true := by simp only [List.all_cons, List.all_nil, Bool.and_true, Bool.and_eq_true] at hq; exact hq.2.1
  have hq3 : nearB ⟨n3, a3, c3, z3, e3⟩ = true := by simp only [List.all_cons, List.all_nil, Bool.and_true, Bool.and_eq_true] at hq; exact hq.2.2
  obtain ⟨NA, DA⟩ := near_db u1.rng hq1
  simp only at NA DA
  generalize dv n1 z1 e1 = vA at *
  obtain ⟨NB, DB⟩ := near_db u2.rng hq2
  simp only at NB DB
  generalize dv n2 z2 e2 = vB at *
  obtain ⟨NC, DC⟩ := near_db u3.rng hq3
  simp only at NC DC
  generalize dv n3 z3 e3 = vC at *
  clear hq1 hq2 hq3
  have hK := KK_eq
  obtain ⟨lo, hlo⟩ : ∃ lo, lo = KK - 3000 := ⟨_, rfl⟩
  obtain ⟨hi, hhi⟩ : ∃ hi, hi = KK + 6201 := ⟨_, rfl⟩
  rw [← hlo, ← hhi] at DA DB DC
  obtain ⟨F1, F2, F3, F4, F5, F6⟩ := ring_db hlo hhi DA DB DC
  have H1 := Hide.mk F1
  have H2 := Hide.mk F2
  have H3 := Hide.mk F3
  have H4 := Hide.mk F4
  have H5 := Hide.mk F5
  have H6 := Hide.mk F6
  have HDA := Hide.mk DA
  have HDB := Hide.mk DB
  have HDC := Hide.mk DC
  have HS : Hide (hi + 2 ≤ lo + 131072 ∧ hi + 2 ≤ 2 * KK) := ⟨by omega⟩
  have HM : Hide (hi + (hi + 1) ≤ lo + lo + 131072 ∧ hi + (hi + 1) ≤ 3 * KK ∧ KK ≤ lo + lo) := ⟨by omega⟩
  have HM2 : Hide (hi + hi - KK + hi ≤ lo + lo - KK + lo + 131072 ∧ hi + hi - KK + hi ≤ 3 * KK ∧ KK ≤ lo + lo - KK + lo ∧ KK ≤ hi + hi) := ⟨by omega⟩
  clear F1 F2 F3 F4 F5 F6 DA DB DC hlo hhi hK
  obtain ⟨d1, d2, d3, hs3⟩ := dcell3 w #[.bool n1, .slice a1 z1.length c1, .int .i64 e1] #[.bool n2, .slice a2 z2.length c2, .int .i64 e2] #[.bool n3, .slice a3 z3.length c3, .int .i64 e3] rfl rfl rfl
  have hb3 := below3 w (.cells #[.bool n1, .slice a1 z1.length c1, .int .i64 e1] 44) (.cells #[.bool n2, .slice a2 z2.length c2, .int .i64 e2] 44) (.cells #[.bool n3, .slice a3 z3.length c3, .int .i64 e3] 44)
  go_enter Tryd.func12, Tryd.ntmps12
  go_wp2_with fail
  generalize hw3 : ((w.alloc (.cells #[.bool n1, .slice a1 z1.length c1, .int .i64 e1] 44)).alloc (.cells #[.bool n2, .slice a2 z2.length c2, .int .i64 e2] 44)).alloc (.cells #[.bool n3, .slice a3 z3.length c3, .int .i64 e3] 44) = w3 at *
  clear hw3
  have hr := arow3 w3 (w.heap.size + 1 + 1 + 1) (by omega) ⟨n1, a1, c1, z1, e1⟩ ⟨n2, a2, c2, z2, e2⟩ ⟨n3, a3, c3, z3, e3⟩ (u1.below hb3) (u2.below hb3) (u3.below hb3)
  have HR := Hide.mk (near75 _ _ _ hr (by simp))
  have hb4 := below_alloc w3 (.cells #[.bool n1, .slice a1 z1.length c1, .int .i64 e1, .bool n2, .slice a2 z2.length c2, .int .i64 e2, .bool n3, .slice a3 z3.length c3, .int .i64 e3] 44)
  clear hr
  rw [hq] at HR
  refine HR.out.mono ?_
  rintro e w4 ⟨rfl, h4⟩
  clear HR
  have hb5 := below_then hb4 h4
  have HB : Below w.heap.size w w4 := below_then hb3 hb5
  have BX : Boxes w4 [(w.heap.size, #[.bool n1, .slice a1 z1.length c1, .int .i64 e1]), (w.heap.size + 1, #[.bool n2, .slice a2 z2.length c2, .int .i64 e2]), (w.heap.size + 1 + 1, #[.bool n3, .slice a3 z3.length c3, .int .i64 e3])] := ⟨by
    intro p hp
    simp only [List.mem_cons, List.not_mem_nil, or_false] at hp
    rcases hp with rfl | rfl | rfl
    · exact d1.below hb5 (by show w.heap.size < w3.heap.size; omega)
    · exact d2.below hb5 (by show w.heap.size + 1 < w3.heap.size; omega)
    · exact d3.below hb5 (by show w.heap.size + 1 + 1 < w3.heap.size; omega)⟩
  have L : Live w4 [(a1, z1), (a2, z2), (a3, z3)] := ⟨by simp [(u1.below HB).lie, (u2.below HB).lie, (u3.below HB).lie]⟩
  have HT := Hide.mk (hT.below HB (Nat.le_refl _))
  clear d1 d2 d3 hs3 hb3 hb4 hb5 h4 u1 u2 u3 hT
  have fA0 := (BX.all (w.heap.size, #[.bool n1, .slice a1 z1.length c1, .int .i64 e1]) (.head _)).c0
  have fA1 := (BX.all (w.heap.size, #[.bool n1, .slice a1 z1.length c1, .int .i64 e1]) (.head _)).c1
  have fA2 := (BX.all (w.heap.size, #[.bool n1, .slice a1 z1.length c1, .int .i64 e1]) (.head _)).c2
  have fB0 := (BX.all (w.heap.size + 1, #[.bool n2, .slice a2 z2.length c2, .int .i64 e2]) (.tail _ (.head _))).c0
  have fB1 := (BX.all (w.heap.size + 1, #[.bool n2, .slice a2 z2.length c2, .int .i64 e2]) (.tail _ (.head _))).c1
  have fB2 := (BX.all (w.heap.size + 1, #[.bool n2, .slice a2 z2.length c2, .int .i64 e2]) (.tail _ (.head _))).c2
  go_wp2_with fail
  refine (dadd_fit n1 n2 a1 a2 c1 c2 z1 z2 e1 e2 _ (L.all (a1, z1) (.head _)) (L.all (a2, z2) (.tail _ (.head _))) NA NB HT.out H1.out (by have := HS.out.1; omega) (by have := HS.out.2; omega)).mono ?_
  rintro e wab ⟨nab, zab, xab, aab, cab, rfl, hab⟩
  clear fA0 fA1 fA2 fB0 fB1 fB2
  have Nab := hab.num
  replace L := (L.push hab.lie hab.bel).keep (below_alloc wab (.cells #[.bool nab, .slice aab zab.length cab, .int .i64 xab] 44))
  replace BX := BX.push hab.bel (.bool nab) (.slice aab zab.length cab) (.int .i64 xab)
  replace HT := Hide.mk ((HT.out.below hab.bel (Nat.le_refl _)).below (below_alloc wab (.cells #[.bool nab, .slice aab zab.length cab, .int .i64 xab] 44)) (Nat.le_refl _))
  replace HB := below_then (below_then HB hab.bel) (below_alloc wab (.cells #[.bool nab, .slice aab zab.length cab, .int .i64 xab] 44))
  clear hab
  have fB0 := (BX.all (w.heap.size + 1, #[.bool n2, .slice a2 z2.length c2, .int .i64 e2]) (.tail _ (.tail _ (.head _)))).c0
  have fB1 := (BX.all (w.heap.size + 1, #[.bool n2, .slice a2 z2.length c2, .int .i64 e2]) (.tail _ (.tail _ (.head _)))).c1
  have fB2 := (BX.all (w.heap.size + 1, #[.bool n2, .slice a2 z2.length c2, .int .i64 e2]) (.tail _ (.tail _ (.head _)))).c2
  have fA0 := (BX.all (w.heap.size, #[.bool n1, .slice a1 z1.length c1, .int .i64 e1]) (.tail _ (.head _))).c0
  have fA1 := (BX.all (w.heap.size, #[.bool n1, .slice a1 z1.length c1, .int .i64 e1]) (.tail _ (.head _))).c1
  have fA2 := (BX.all (w.heap.size, #[.bool n1, .slice a1 z1.length c1, .int .i64 e1]) (.tail _ (.head _))).c2
  go_wp2_with fail
  refine (dadd_fit n2 n1 a2 a1 c2 c1 z2 z1 e2 e1 _ (L.all (a2, z2) (.tail _ (.tail _ (.head _)))) (L.all (a1, z1) (.tail _ (.head _))) NB NA HT.out H2.out (by have := HS.out.1; omega) (by have := HS.out.2; omega)).mono ?_
  rintro e wba ⟨nba, zba, xba, aba, cba, rfl, hba⟩
  clear fB0 fB1 fB2 fA0 fA1 fA2
  have Nba := hba.num
  replace L := (L.push hba.lie hba.bel).keep (below_alloc wba (.cells #[.bool nba, .slice aba zba.length cba, .int .i64 xba] 44))
  replace BX := BX.push hba.bel (.bool nba) (.slice aba zba.length cba) (.int .i64 xba)
  replace HT := Hide.mk ((HT.out.below hba.bel (Nat.le_refl _)).below (below_alloc wba (.cells #[.bool nba, .slice aba zba.length cba, .int .i64 xba] 44)) (Nat.le_refl _))
  replace HB := below_then (below_then HB hba.bel) (below_alloc wba (.cells #[.bool nba, .slice aba zba.length cba, .int .i64 xba] 44))
  clear hba
  have fB0 := (BX.all (w.heap.size + 1, #[.bool n2, .slice a2 z2.length c2, .int .i64 e2]) (.tail _ (.tail _ (.tail _ (.head _))))).c0
  have fB1 := (BX.all (w.heap.size + 1, #[.bool n2, .slice a2 z2.length c2, .int .i64 e2]) (.tail _ (.tail _ (.tail _ (.head _))))).c1
  have fB2 := (BX.all (w.heap.size + 1, #[.bool n2, .slice a2 z2.length c2, .int .i64 e2]) (.tail _ (.tail _ (.tail _ (.head _))))).c2
  have fC0 := (BX.all (w.heap.size + 1 + 1, #[.bool n3, .slice a3 z3.length c3, .int .i64 e3]) (.tail _ (.tail _ (.tail _ (.tail _ (.head _)))))).c0
  have fC1 := (BX.all (w.heap.size + 1 + 1, #[.bool n3, .slice a3 z3.length c3, .int .i64 e3]) (.tail _ (.tail _ (.tail _ (.tail _ (.head _)))))).c1
  have fC2 := (BX.all (w.heap.size + 1 + 1, #[.bool n3, .slice a3 z3.length c3, .int .i64 e3]) (.tail _ (.tail _ (.tail _ (.tail _ (.head _)))))).c2
  go_wp2_with fail
  refine (dadd_fit n2 n3 a2 a3 c2 c3 z2 z3 e2 e3 _ (L.all (a2, z2) (.tail _ (.tail _ (.tail _ (.head _))))) (L.all (a3, z3) (.tail _ (.tail _ (.tail _ (.tail _ (.head _)))))) NB NC HT.out H3.out (by have := HS.out.1; omega) (by have := HS.out.2; omega)).mono ?_
  rintro e wbc ⟨nbc, zbc, xbc, abc, cbc, rfl, hbc⟩
  clear fB0 fB1 fB2 fC0 fC1 fC2
  have Nbc := hbc.num
  replace L := (L.push hbc.lie hbc.bel).keep (below_alloc wbc (.cells #[.bool nbc, .slice abc zbc.length cbc, .int .i64 xbc] 44))
  replace BX := BX.push hbc.bel (.bool nbc) (.slice abc zbc.length cbc) (.int .i64 xbc)
  replace HT := Hide.mk ((HT.out.below hbc.bel (Nat.le_refl _)).below (below_alloc wbc (.cells #[.bool nbc, .slice abc zbc.length cbc, .int .i64 xbc] 44)) (Nat.le_refl _))
  replace HB := below_then (below_then HB hbc.bel) (below_alloc wbc (.cells #[.bool nbc, .slice abc zbc.length cbc, .int .i64 xbc] 44))
  clear hbc
  have fab0 := (BX.all (wab.heap.size, #[.bool nab, .slice aab zab.length cab, .int .i64 xab]) (.tail _ (.tail _ (.head _)))).c0
  have fab1 := (BX.all (wab.heap.size, #[.bool nab, .slice aab zab.length cab, .int .i64 xab]) (.tail _ (.tail _ (.head _)))).c1
  have fab2 := (BX.all (wab.heap.size, #[.bool nab, .slice aab zab.length cab, .int .i64 xab]) (.tail _ (.tail _ (.head _)))).c2
  have fC0 := (BX.all (w.heap.size + 1 + 1, #[.bool n3, .slice a3 z3.length c3, .int .i64 e3]) (.tail _ (.tail _ (.tail _ (.tail _ (.tail _ (.head _))))))).c0
  have fC1 := (BX.all (w.heap.size + 1 + 1, #[.bool n3, .slice a3 z3.length c3, .int .i64 e3]) (.tail _ (.tail _ (.tail _ (.tail _ (.tail _ (.head _))))))).c1
  have fC2 := (BX.all (w.heap.size + 1 + 1, #[.bool n3, .slice a3 z3.length c3, .int .i64 e3]) (.tail _ (.tail _ (.tail _ (.tail _ (.tail _ (.head _))))))).c2
  go_wp2_with fail
  refine (dadd_fit nab n3 aab a3 cab c3 zab z3 xab e3 _ (L.all (aab, zab) (.tail _ (.tail _ (.head _)))) (L.all (a3, z3) (.tail _ (.tail _ (.tail _ (.tail _ (.tail _ (.head _))))))) Nab NC HT.out H4.out (by have := HS.out.1; omega) (by have := HS.out.2; omega)).mono ?_
  rintro e wone ⟨none, zone, xone, aone, cone, rfl, hone⟩
  clear fab0 fab1 fab2 fC0 fC1 fC2
  have None := hone.num
  replace L := (L.push hone.lie hone.bel).keep (below_alloc wone (.cells #[.bool none, .slice aone zone.length cone, .int .i64 xone] 44))
  replace BX := BX.push hone.bel (.bool none) (.slice aone zone.length cone) (.int .i64 xone)
  replace HT := Hide.mk ((HT.out.below hone.bel (Nat.le_refl _)).below (below_alloc wone (.cells #[.bool none, .slice aone zone.length cone, .int .i64 xone] 44)) (Nat.le_refl _))
  replace HB := below_then (below_then HB hone.bel) (below_alloc wone (.cells #[.bool none, .slice aone zone.length cone, .int .i64 xone] 44))
  clear hone
  have fA0 := (BX.all (w.heap.size, #[.bool n1, .slice a1 z1.length c1, .int .i64 e1]) (.tail _ (.tail _ (.tail _ (.tail _ (.head _)))))).c0
  have fA1 := (BX.all (w.heap.size, #[.bool n1, .slice a1 z1.length c1, .int .i64 e1]) (.tail _ (.tail _ (.tail _ (.tail _ (.head _)))))).c1
  have fA2 := (BX.all (w.heap.size, #[.bool n1, .slice a1 z1.length c1, .int .i64 e1]) (.tail _ (.tail _ (.tail _ (.tail _ (.head _)))))).c2
  have fbc0 := (BX.all (wbc.heap.size, #[.bool nbc, .slice abc zbc.length cbc, .int .i64 xbc]) (.tail _ (.head _))).c0
  have fbc1 := (BX.all (wbc.heap.size, #[.bool nbc, .slice abc zbc.length cbc, .int .i64 xbc]) (.tail _ (.head _))).c1
  have fbc2 := (BX.all (wbc.heap.size, #[.bool nbc, .slice abc zbc.length cbc, .int .i64 xbc]) (.tail _ (.head _))).c2
  go_wp2_with fail
  refine (dadd_fit n1 nbc a1 abc c1 cbc z1 zbc e1 xbc _ (L.all (a1, z1) (.tail _ (.tail _ (.tail _ (.tail _ (.head _)))))) (L.all (abc, zbc) (.tail _ (.head _))) NA Nbc HT.out H5.out (by have := HS.out.1; omega) (by have := HS.out.2; omega)).mono ?_
  rintro e wtwo ⟨ntwo, ztwo, xtwo, atwo, ctwo, rfl, htwo⟩
  clear fA0 fA1 fA2 fbc0 fbc1 fbc2
  have Ntwo := htwo.num
  replace L := (L.push htwo.lie htwo.bel).keep (below_alloc wtwo (.cells #[.bool ntwo, .slice atwo ztwo.length ctwo, .int .i64 xtwo] 44))
  replace BX := BX.push htwo.bel (.bool ntwo) (.slice atwo ztwo.length ctwo) (.int .i64 xtwo)
  replace HT := Hide.mk ((HT.out.below htwo.bel (Nat.le_refl _)).below (below_alloc wtwo (.cells #[.bool ntwo, .slice atwo ztwo.length ctwo, .int .i64 xtwo] 44)) (Nat.le_refl _))
  replace HB := below_then (below_then HB htwo.bel) (below_alloc wtwo (.cells #[.bool ntwo, .slice atwo ztwo.length ctwo, .int .i64 xtwo] 44))
  clear htwo
  have fab0 := (BX.all (wab.heap.size, #[.bool nab, .slice aab zab.length cab, .int .i64 xab]) (.tail _ (.tail _ (.tail _ (.tail _ (.head _)))))).c0
  have fab1 := (BX.all (wab.heap.size, #[.bool nab, .slice aab zab.length cab, .int .i64 xab]) (.tail _ (.tail _ (.tail _ (.tail _ (.head _)))))).c1
  have fab2 := (BX.all (wab.heap.size, #[.bool nab, .slice aab zab.length cab, .int .i64 xab]) (.tail _ (.tail _ (.tail _ (.tail _ (.head _)))))).c2
  have fB0 := (BX.all (w.heap.size + 1, #[.bool n2, .slice a2 z2.length c2, .int .i64 e2]) (.tail _ (.tail _ (.tail _ (.tail _ (.tail _ (.tail _ (.head _)))))))).c0
  have fB1 := (BX.all (w.heap.size + 1, #[.bool n2, .slice a2 z2.length c2, .int .i64 e2]) (.tail _ (.tail _ (.tail _ (.tail _ (.tail _ (.tail _ (.head _)))))))).c1
  have fB2 := (BX.all (w.heap.size + 1, #[.bool n2, .slice a2 z2.length c2, .int .i64 e2]) (.tail _ (.tail _ (.tail _ (.tail _ (.tail _ (.tail _ (.head _)))))))).c2
  go_wp2_with fail
  refine (dsub_fit nab n2 aab a2 cab c2 zab z2 xab e2 _ (L.all (aab, zab) (.tail _ (.tail _ (.tail _ (.tail _ (.head _)))))) (L.all (a2, z2) (.tail _ (.tail _ (.tail _ (.tail _ (.tail _ (.tail _ (.head _)))))))) Nab NB HT.out H6.out (by have := HS.out.1; omega) (by have := HS.out.2; omega)).mono ?_
  rintro e wback ⟨nback, zback, xback, aback, cback, rfl, hback⟩
  clear fab0 fab1 fab2 fB0 fB1 fB2
  have Nback := hback.num
  replace L := (L.push hback.lie hback.bel).keep (below_alloc wback (.cells #[.bool nback, .slice aback zback.length cback, .int .i64 xback] 44))
  replace BX := BX.push hback.bel (.bool nback) (.slice aback zback.length cback) (.int .i64 xback)
  replace HT := Hide.mk ((HT.out.below hback.bel (Nat.le_refl _)).below (below_alloc wback (.cells #[.bool nback, .slice aback zback.length cback, .int .i64 xback] 44)) (Nat.le_refl _))
  replace HB := below_then (below_then HB hback.bel) (below_alloc wback (.cells #[.bool nback, .slice aback zback.length cback, .int .i64 xback] 44))
  clear hback
  have fab0 := (BX.all (wab.heap.size, #[.bool nab, .slice aab zab.length cab, .int .i64 xab]) (.tail _ (.tail _ (.tail _ (.tail _ (.tail _ (.head _))))))).c0
  have fab1 := (BX.all (wab.heap.size, #[.bool nab, .slice aab zab.length cab, .int .i64 xab]) (.tail _ (.tail _ (.tail _ (.tail _ (.tail _ (.head _))))))).c1
  have fab2 := (BX.all (wab.heap.size, #[.bool nab, .slice aab zab.length cab, .int .i64 xab]) (.tail _ (.tail _ (.tail _ (.tail _ (.tail _ (.head _))))))).c2
  have fba0 := (BX.all (wba.heap.size, #[.bool nba, .slice aba zba.length cba, .int .i64 xba]) (.tail _ (.tail _ (.tail _ (.tail _ (.head _)))))).c0
  have fba1 := (BX.all (wba.heap.size, #[.bool nba, .slice aba zba.length cba, .int .i64 xba]) (.tail _ (.tail _ (.tail _ (.tail _ (.head _)))))).c1
  have fba2 := (BX.all (wba.heap.size, #[.bool nba, .slice aba zba.length cba, .int .i64 xba]) (.tail _ (.tail _ (.tail _ (.tail _ (.head _)))))).c2
  go_wp2_with fail
  refine (dsame40 nab nba aab aba cab cba zab zba xab xba _ (Nab.dg.lie (L.all (aab, zab) (.tail _ (.tail _ (.tail _ (.tail _ (.tail _ (.head _)))))))) (Nba.dg.lie (L.all (aba, zba) (.tail _ (.tail _ (.tail _ (.tail _ (.head _))))))) true (decide_eq_true (Nab.same Nba (Int.add_comm _ _)))).mono ?_
  rintro e v1 ⟨rfl, hs1⟩
  clear fab0 fab1 fab2 fba0 fba1 fba2
  replace L := L.keep hs1
  replace BX := BX.keep hs1
  replace HT := Hide.mk (HT.out.below hs1 (Nat.le_refl _))
  replace HB := below_then HB hs1
  clear hs1
  have fone0 := (BX.all (wone.heap.size, #[.bool none, .slice aone zone.length cone, .int .i64 xone]) (.tail _ (.tail _ (.head _)))).c0
  have fone1 := (BX.all (wone.heap.size, #[.bool none, .slice aone zone.length cone, .int .i64 xone]) (.tail _ (.tail _ (.head _)))).c1
  have fone2 := (BX.all (wone.heap.size, #[.bool none, .slice aone zone.length cone, .int .i64 xone]) (.tail _ (.tail _ (.head _)))).c2
  have ftwo0 := (BX.all (wtwo.heap.size, #[.bool ntwo, .slice atwo ztwo.length ctwo, .int .i64 xtwo]) (.tail _ (.head _))).c0
  have ftwo1 := (BX.all (wtwo.heap.size, #[.bool ntwo, .slice atwo ztwo.length ctwo, .int .i64 xtwo]) (.tail _ (.head _))).c1
  have ftwo2 := (BX.all (wtwo.heap.size, #[.bool ntwo, .slice atwo ztwo.length ctwo, .int .i64 xtwo]) (.tail _ (.head _))).c2
  go_wp2_with fail
  refine (dsame40 none ntwo aone atwo cone ctwo zone ztwo xone xtwo _ (None.dg.lie (L.all (aone, zone) (.tail _ (.tail _ (.head _))))) (Ntwo.dg.lie (L.all (atwo, ztwo) (.tail _ (.head _)))) true (decide_eq_true (None.same Ntwo (Int.add_assoc _ _ _)))).mono ?_
  rintro e v2 ⟨rfl, hs2⟩
  clear fone0 fone1 fone2 ftwo0 ftwo1 ftwo2
  replace L := L.keep hs2
  replace BX := BX.keep hs2
  replace HT := Hide.mk (HT.out.below hs2 (Nat.le_refl _))
  replace HB := below_then HB hs2
  clear hs2
  have fback0 := (BX.all (wback.heap.size, #[.bool nback, .slice aback zback.length cback, .int .i64 xback]) (.head _)).c0
  have fback1 := (BX.all (wback.heap.size, #[.bool nback, .slice aback zback.length cback, .int .i64 xback]) (.head _)).c1
  have fback2 := (BX.all (wback.heap.size, #[.bool nback, .slice aback zback.length cback, .int .i64 xback]) (.head _)).c2
  have fA0 := (BX.all (w.heap.size, #[.bool n1, .slice a1 z1.length c1, .int .i64 e1]) (.tail _ (.tail _ (.tail _ (.tail _ (.tail _ (.tail _ (.head _)))))))).c0
  have fA1 := (BX.all (w.heap.size, #[.bool n1, .slice a1 z1.length c1, .int .i64 e1]) (.tail _ (.tail _ (.tail _ (.tail _ (.tail _ (.tail _ (.head _)))))))).c1
  have fA2 := (BX.all (w.heap.size, #[.bool n1, .slice a1 z1.length c1, .int .i64 e1]) (.tail _ (.tail _ (.tail _ (.tail _ (.tail _ (.tail _ (.head _)))))))).c2
  go_wp2_with fail
  refine (dsame40 nback n1 aback a1 cback c1 zback z1 xback e1 _ (Nback.dg.lie (L.all (aback, zback) (.head _))) (NA.dg.lie (L.all (a1, z1) (.tail _ (.tail _ (.tail _ (.tail _ (.tail _ (.tail _ (.head _))))))))) true (decide_eq_true (Nback.same NA (by omega)))).mono ?_
  rintro e v3 ⟨rfl, hs3⟩
  clear fback0 fback1 fback2 fA0 fA1 fA2
  replace L := L.keep hs3
  replace BX := BX.keep hs3
  replace HT := Hide.mk (HT.out.below hs3 (Nat.le_refl _))
  replace HB := below_then HB hs3
  clear hs3
  have fA0 := (BX.all (w.heap.size, #[.bool n1, .slice a1 z1.length c1, .int .i64 e1]) (.tail _ (.tail _ (.tail _ (.tail _ (.tail _ (.tail _ (.head _)))))))).c0
  have fA1 := (BX.all (w.heap.size, #[.bool n1, .slice a1 z1.length c1, .int .i64 e1]) (.tail _ (.tail _ (.tail _ (.tail _ (.tail _ (.tail _ (.head _)))))))).c1
  have fA2 := (BX.all (w.heap.size, #[.bool n1, .slice a1 z1.length c1, .int .i64 e1]) (.tail _ (.tail _ (.tail _ (.tail _ (.tail _ (.tail _ (.head _)))))))).c2
  have fB0 := (BX.all (w.heap.size + 1, #[.bool n2, .slice a2 z2.length c2, .int .i64 e2]) (.tail _ (.tail _ (.tail _ (.tail _ (.tail _ (.tail _ (.tail _ (.head _))))))))).c0
  have fB1 := (BX.all (w.heap.size + 1, #[.bool n2, .slice a2 z2.length c2, .int .i64 e2]) (.tail _ (.tail _ (.tail _ (.tail _ (.tail _ (.tail _ (.tail _ (.head _))))))))).c1
  have fB2 := (BX.all (w.heap.size + 1, #[.bool n2, .slice a2 z2.length c2, .int .i64 e2]) (.tail _ (.tail _ (.tail _ (.tail _ (.tail _ (.tail _ (.tail _ (.head _))))))))).c2
  go_wp2_with fail
  refine (dmul_fit n1 n2 a1 a2 c1 c2 z1 z2 e1 e2 _ (L.all (a1, z1) (.tail _ (.tail _ (.tail _ (.tail _ (.tail _ (.tail _ (.head _)))))))) (L.all (a2, z2) (.tail _ (.tail _ (.tail _ (.tail _ (.tail _ (.tail _ (.tail _ (.head _))))))))) NA NB HT.out (HDA.out.mul HDB.out) (by have := HM.out.1; omega) (by have := HM.out.2.1; omega) HM.out.2.2).mono ?_
  rintro e wpm ⟨npm, zpm, xpm, apm, cpm, ppm, rfl, kpm, hpm⟩
  clear fA0 fA1 fA2 fB0 fB1 fB2
  have Kpm := Hide.mk kpm
  clear kpm
  have Npm := hpm.num
  replace L := (L.push hpm.lie hpm.bel).keep (below_alloc wpm (.cells #[.bool npm, .slice apm zpm.length cpm, .int .i64 xpm] 44))
  replace BX := BX.push hpm.bel (.bool npm) (.slice apm zpm.length cpm) (.int .i64 xpm)
  replace HT := Hide.mk ((HT.out.below hpm.bel (Nat.le_refl _)).below (below_alloc wpm (.cells #[.bool npm, .slice apm zpm.length cpm, .int .i64 xpm] 44)) (Nat.le_refl _))
  replace HB := below_then (below_then HB hpm.bel) (below_alloc wpm (.cells #[.bool npm, .slice apm zpm.length cpm, .int .i64 xpm] 44))
  clear hpm
  have fB0 := (BX.all (w.heap.size + 1, #[.bool n2, .slice a2 z2.length c2, .int .i64 e2]) (.tail _ (.tail _ (.tail _ (.tail _ (.tail _ (.tail _ (.tail _ (.tail _ (.head _)))))))))).c0
  have fB1 := (BX.all (w.heap.size + 1, #[.bool n2, .slice a2 z2.length c2, .int .i64 e2]) (.tail _ (.tail _ (.tail _ (.tail _ (.tail _ (.tail _ (.tail _ (.tail _ (.head _)))))))))).c1
  have fB2 := (BX.all (w.heap.size + 1, #[.bool n2, .slice a2 z2.length c2, .int .i64 e2]) (.tail _ (.tail _ (.tail _ (.tail _ (.tail _ (.tail _ (.tail _ (.tail _ (.head _)))))))))).c2
  have fA0 := (BX.all (w.heap.size, #[.bool n1, .slice a1 z1.length c1, .int .i64 e1]) (.tail _ (.tail _ (.tail _ (.tail _ (.tail _ (.tail _ (.tail _ (.head _))))))))).c0
  have fA1 := (BX.all (w.heap.size, #[.bool n1, .slice a1 z1.length c1, .int .i64 e1]) (.tail _ (.tail _ (.tail _ (.tail _ (.tail _ (.tail _ (.tail _ (.head _))))))))).c1
  have fA2 := (BX.all (w.heap.size, #[.bool n1, .slice a1 z1.length c1, .int .i64 e1]) (.tail _ (.tail _ (.tail _ (.tail _ (.tail _ (.tail _ (.tail _ (.head _))))))))).c2
  go_wp2_with fail
  refine (dmul_fit n2 n1 a2 a1 c2 c1 z2 z1 e2 e1 _ (L.all (a2, z2) (.tail _ (.tail _ (.tail _ (.tail _ (.tail _ (.tail _ (.tail _ (.tail _ (.head _)))))))))) (L.all (a1, z1) (.tail _ (.tail _ (.tail _ (.tail _ (.tail _ (.tail _ (.tail _ (.head _))))))))) NB NA HT.out (HDB.out.mul HDA.out) (by have := HM.out.1; omega) (by have := HM.out.2.1; omega) HM.out.2.2).mono ?_
  rintro e wqm ⟨nqm, zqm, xqm, aqm, cqm, pqm, rfl, kqm, hqm⟩
  clear fB0 fB1 fB2 fA0 fA1 fA2
  have Kqm := Hide.mk kqm
  clear kqm
  have Nqm := hqm.num
  replace L := (L.push hqm.lie hqm.bel).keep (below_alloc wqm (.cells #[.bool nqm, .slice aqm zqm.length cqm, .int .i64 xqm] 44))
  replace BX := BX.push hqm.bel (.bool nqm) (.slice aqm zqm.length cqm) (.int .i64 xqm)
  replace HT := Hide.mk ((HT.out.below hqm.bel (Nat.le_refl _)).below (below_alloc wqm (.cells #[.bool nqm, .slice aqm zqm.length cqm, .int .i64 xqm] 44)) (Nat.le_refl _))
  replace HB := below_then (below_then HB hqm.bel) (below_alloc wqm (.cells #[.bool nqm, .slice aqm zqm.length cqm, .int .i64 xqm] 44))
  clear hqm
  have fA0 := (BX.all (w.heap.size, #[.bool n1, .slice a1 z1.length c1, .int .i64 e1]) (.tail _ (.tail _ (.tail _ (.tail _ (.tail _ (.tail _ (.tail _ (.tail _ (.head _)))))))))).c0
  have fA1 := (BX.all (w.heap.size, #[.bool n1, .slice a1 z1.length c1, .int .i64 e1]) (.tail _ (.tail _ (.tail _ (.tail _ (.tail _ (.tail _ (.tail _ (.tail _ (.head _)))))))))).c1
  have fA2 := (BX.all (w.heap.size, #[.bool n1, .slice a1 z1.length c1, .int .i64 e1]) (.tail _ (.tail _ (.tail _ (.tail _ (.tail _ (.tail _ (.tail _ (.tail _ (.head _)))))))))).c2
  have fC0 := (BX.all (w.heap.size + 1 + 1, #[.bool n3, .slice a3 z3.length c3, .int .i64 e3]) (.tail _ (.tail _ (.tail _ (.tail _ (.tail _ (.tail _ (.tail _ (.tail _ (.tail _ (.tail _ (.head _)))))))))))).c0
  have fC1 := (BX.all (w.heap.size + 1 + 1, #[.bool n3, .slice a3 z3.length c3, .int .i64 e3]) (.tail _ (.tail _ (.tail _ (.tail _ (.tail _ (.tail _ (.tail _ (.tail _ (.tail _ (.tail _ (.head _)))))))))))).c1
  have fC2 := (BX.all (w.heap.size + 1 + 1, #[.bool n3, .slice a3 z3.length c3, .int .i64 e3]) (.tail _ (.tail _ (.tail _ (.tail _ (.tail _ (.tail _ (.tail _ (.tail _ (.tail _ (.tail _ (.head _)))))))))))).c2
  go_wp2_with fail
  refine (dmul_fit n1 n3 a1 a3 c1 c3 z1 z3 e1 e3 _ (L.all (a1, z1) (.tail _ (.tail _ (.tail _ (.tail _ (.tail _ (.tail _ (.tail _ (.tail _ (.head _)))))))))) (L.all (a3, z3) (.tail _ (.tail _ (.tail _ (.tail _ (.tail _ (.tail _ (.tail _ (.tail _ (.tail _ (.tail _ (.head _)))))))))))) NA NC HT.out (HDA.out.mul HDC.out) (by have := HM.out.1; omega) (by have := HM.out.2.1; omega) HM.out.2.2).mono ?_
  rintro e wtm ⟨ntm, ztm, xtm, atm, ctm, ptm, rfl, ktm, htm⟩
  clear fA0 fA1 fA2 fC0 fC1 fC2
  have Ktm := Hide.mk ktm
  clear ktm
  have Ntm := htm.num
  replace L := (L.push htm.lie htm.bel).keep (below_alloc wtm (.cells #[.bool ntm, .slice atm ztm.length ctm, .int .i64 xtm] 44))
  replace BX := BX.push htm.bel (.bool ntm) (.slice atm ztm.length ctm) (.int .i64 xtm)
  replace HT := Hide.mk ((HT.out.below htm.bel (Nat.le_refl _)).below (below_alloc wtm (.cells #[.bool ntm, .slice atm ztm.length ctm, .int .i64 xtm] 44)) (Nat.le_refl _))
  replace HB := below_then (below_then HB htm.bel) (below_alloc wtm (.cells #[.bool ntm, .slice atm ztm.length ctm, .int .i64 xtm] 44))
  clear htm
  have fA0 := (BX.all (w.heap.size, #[.bool n1, .slice a1 z1.length c1, .int .i64 e1]) (.tail _ (.tail _ (.tail _ (.tail _ (.tail _ (.tail _ (.tail _ (.tail _ (.tail _ (.head _))))))))))).c0
  have fA1 := (BX.all (w.heap.size, #[.bool n1, .slice a1 z1.length c1, .int .i64 e1]) (.tail _ (.tail _ (.tail _ (.tail _ (.tail _ (.tail _ (.tail _ (.tail _ (.tail _ (.head _))))))))))).c1
  have fA2 := (BX.all (w.heap.size, #[.bool n1, .slice a1 z1.length c1, .int .i64 e1]) (.tail _ (.tail _ (.tail _ (.tail _ (.tail _ (.tail _ (.tail _ (.tail _ (.tail _ (.head _))))))))))).c2
  have fbc0 := (BX.all (wbc.heap.size, #[.bool nbc, .slice abc zbc.length cbc, .int .i64 xbc]) (.tail _ (.tail _ (.tail _ (.tail _ (.tail _ (.tail _ (.head _)))))))).c0
  have fbc1 := (BX.all (wbc.heap.size, #[.bool nbc, .slice abc zbc.length cbc, .int .i64 xbc]) (.tail _ (.tail _ (.tail _ (.tail _ (.tail _ (.tail _ (.head _)))))))).c1
  have fbc2 := (BX.all (wbc.heap.size, #[.bool nbc, .slice abc zbc.length cbc, .int .i64 xbc]) (.tail _ (.tail _ (.tail _ (.tail _ (.tail _ (.tail _ (.head _)))))))).c2
  go_wp2_with fail
  refine (dmul_fit n1 nbc a1 abc c1 cbc z1 zbc e1 xbc _ (L.all (a1, z1) (.tail _ (.tail _ (.tail _ (.tail _ (.tail _ (.tail _ (.tail _ (.tail _ (.tail _ (.head _))))))))))) (L.all (abc, zbc) (.tail _ (.tail _ (.tail _ (.tail _ (.tail _ (.tail _ (.head _)))))))) NA Nbc HT.out (HDA.out.mul H3.out) (by have := HM.out.1; omega) (by have := HM.out.2.1; omega) HM.out.2.2).mono ?_
  rintro e wsm ⟨nsm, zsm, xsm, asm, csm, psm, rfl, ksm, hsm⟩
  clear fA0 fA1 fA2 fbc0 fbc1 fbc2
  have Ksm := Hide.mk ksm
  clear ksm
  have Nsm := hsm.num
  replace L := (L.push hsm.lie hsm.bel).keep (below_alloc wsm (.cells #[.bool nsm, .slice asm zsm.length csm, .int .i64 xsm] 44))
  replace BX := BX.push hsm.bel (.bool nsm) (.slice asm zsm.length csm) (.int .i64 xsm)
  replace HT := Hide.mk ((HT.out.below hsm.bel (Nat.le_refl _)).below (below_alloc wsm (.cells #[.bool nsm, .slice asm zsm.length csm, .int .i64 xsm] 44)) (Nat.le_refl _))
  replace HB := below_then (below_then HB hsm.bel) (below_alloc wsm (.cells #[.bool nsm, .slice asm zsm.length csm, .int .i64 xsm] 44))
  clear hsm
  have HP := Hide.mk (DB.prod HDA.out HDB.out Kpm.out HM.out.2.2 HM2.out.2.2.2)
  have HPT := Hide.mk (DB.prod HDA.out HDC.out Ktm.out HM.out.2.2 HM2.out.2.2.2)
  have HPR := fun r (h : r * 2 ^ KK = vB * vC) => Hide.mk (DB.prod HDB.out HDC.out h HM.out.2.2 HM2.out.2.2.2)
  have fpm0 := (BX.all (wpm.heap.size, #[.bool npm, .slice apm zpm.length cpm, .int .i64 xpm]) (.tail _ (.tail _ (.tail _ (.head _))))).c0
  have fpm1 := (BX.all (wpm.heap.size, #[.bool npm, .slice apm zpm.length cpm, .int .i64 xpm]) (.tail _ (.tail _ (.tail _ (.head _))))).c1
  have fpm2 := (BX.all (wpm.heap.size, #[.bool npm, .slice apm zpm.length cpm, .int .i64 xpm]) (.tail _ (.tail _ (.tail _ (.head _))))).c2
  have ftm0 := (BX.all (wtm.heap.size, #[.bool ntm, .slice atm ztm.length ctm, .int .i64 xtm]) (.tail _ (.head _))).c0
  have ftm1 := (BX.all (wtm.heap.size, #[.bool ntm, .slice atm ztm.length ctm, .int .i64 xtm]) (.tail _ (.head _))).c1
  have ftm2 := (BX.all (wtm.heap.size, #[.bool ntm, .slice atm ztm.length ctm, .int .i64 xtm]) (.tail _ (.head _))).c2
  go_wp2_with fail
  refine (dadd_fit npm ntm apm atm cpm ctm zpm ztm xpm xtm _ (L.all (apm, zpm) (.tail _ (.tail _ (.tail _ (.head _))))) (L.all (atm, ztm) (.tail _ (.head _))) Npm Ntm HT.out (HP.out.add HPT.out) (by have := HM.out.1; have := HM.out.2.2; have := HM2.out.2.2.2; omega) (by have := HM.out.2.1; have := HM2.out.2.2.2; omega)).mono ?_
  rintro e wum ⟨num, zum, xum, aum, cum, rfl, hum⟩
  clear fpm0 fpm1 fpm2 ftm0 ftm1 ftm2
  have Num := hum.num
  replace L := (L.push hum.lie hum.bel).keep (below_alloc wum (.cells #[.bool num, .slice aum zum.length cum, .int .i64 xum] 44))
  replace BX := BX.push hum.bel (.bool num) (.slice aum zum.length cum) (.int .i64 xum)
  replace HT := Hide.mk ((HT.out.below hum.bel (Nat.le_refl _)).below (below_alloc wum (.cells #[.bool num, .slice aum zum.length cum, .int .i64 xum] 44)) (Nat.le_refl _))
  replace HB := below_then (below_then HB hum.bel) (below_alloc wum (.cells #[.bool num, .slice aum zum.length cum, .int .i64 xum] 44))
  clear hum
  have fpm0 := (BX.all (wpm.heap.size, #[.bool npm, .slice apm zpm.length cpm, .int .i64 xpm]) (.tail _ (.tail _ (.tail _ (.tail _ (.head _)))))).c0
  have fpm1 := (BX.all (wpm.heap.size, #[.bool npm, .slice apm zpm.length cpm, .int .i64 xpm]) (.tail _ (.tail _ (.tail _ (.tail _ (.head _)))))).c1
  have fpm2 := (BX.all (wpm.heap.size, #[.bool npm, .slice apm zpm.length cpm, .int .i64 xpm]) (.tail _ (.tail _ (.tail _ (.tail _ (.head _)))))).c2
  have fC0 := (BX.all (w.heap.size + 1 + 1, #[.bool n3, .slice a3 z3.length c3, .int .i64 e3]) (.tail _ (.tail _ (.tail _ (.tail _ (.tail _ (.tail _ (.tail _ (.tail _ (.tail _ (.tail _ (.tail _ (.tail _ (.tail _ (.head _))))))))))))))).c0
  have fC1 := (BX.all (w.heap.size + 1 + 1, #[.bool n3, .slice a3 z3.length c3, .int .i64 e3]) (.tail _ (.tail _ (.tail _ (.tail _ (.tail _ (.tail _ (.tail _ (.tail _ (.tail _ (.tail _ (.tail _ (.tail _ (.tail _ (.head _))))))))))))))).c1
  have fC2 := (BX.all (w.heap.size + 1 + 1, #[.bool n3, .slice a3 z3.length c3, .int .i64 e3]) (.tail _ (.tail _ (.tail _ (.tail _ (.tail _ (.tail _ (.tail _ (.tail _ (.tail _ (.tail _ (.tail _ (.tail _ (.tail _ (.head _))))))))))))))).c2
  go_wp2_with fail
  refine (dmul_fit npm n3 apm a3 cpm c3 zpm z3 xpm e3 _ (L.all (apm, zpm) (.tail _ (.tail _ (.tail _ (.tail _ (.head _)))))) (L.all (a3, z3) (.tail _ (.tail _ (.tail _ (.tail _ (.tail _ (.tail _ (.tail _ (.tail _ (.tail _ (.tail _ (.tail _ (.tail _ (.tail _ (.head _))))))))))))))) Npm NC HT.out (HP.out.mul HDC.out) HM2.out.1 HM2.out.2.1 HM2.out.2.2.1).mono ?_
  rintro e wxm ⟨nxm, zxm, xxm, axm, cxm, pxm, rfl, kxm, hxm⟩
  clear fpm0 fpm1 fpm2 fC0 fC1 fC2
  have Kxm := Hide.mk kxm
  clear kxm
  have Nxm := hxm.num
  replace L := (L.push hxm.lie hxm.bel).keep (below_alloc wxm (.cells #[.bool nxm, .slice axm zxm.length cxm, .int .i64 xxm] 44))
  replace BX := BX.push hxm.bel (.bool nxm) (.slice axm zxm.length cxm) (.int .i64 xxm)
  replace HT := Hide.mk ((HT.out.below hxm.bel (Nat.le_refl _)).below (below_alloc wxm (.cells #[.bool nxm, .slice axm zxm.length cxm, .int .i64 xxm] 44)) (Nat.le_refl _))
  replace HB := below_then (below_then HB hxm.bel) (below_alloc wxm (.cells #[.bool nxm, .slice axm zxm.length cxm, .int .i64 xxm] 44))
  clear hxm
  have fB0 := (BX.all (w.heap.size + 1, #[.bool n2, .slice a2 z2.length c2, .int .i64 e2]) (.tail _ (.tail _ (.tail _ (.tail _ (.tail _ (.tail _ (.tail _ (.tail _ (.tail _ (.tail _ (.tail _ (.tail _ (.tail _ (.head _))))))))))))))).c0
  have fB1 := (BX.all (w.heap.size + 1, #[.bool n2, .slice a2 z2.length c2, .int .i64 e2]) (.tail _ (.tail _ (.tail _ (.tail _ (.tail _ (.tail _ (.tail _ (.tail _ (.tail _ (.tail _ (.tail _ (.tail _ (.tail _ (.head _))))))))))))))).c1
  have fB2 := (BX.all (w.heap.size + 1, #[.bool n2, .slice a2 z2.length c2, .int .i64 e2]) (.tail _ (.tail _ (.tail _ (.tail _ (.tail _ (.tail _ (.tail _ (.tail _ (.tail _ (.tail _ (.tail _ (.tail _ (.tail _ (.head _))))))))))))))).c2
  have fC0 := (BX.all (w.heap.size + 1 + 1, #[.bool n3, .slice a3 z3.length c3, .int .i64 e3]) (.tail _ (.tail _ (.tail _ (.tail _ (.tail _ (.tail _ (.tail _ (.tail _ (.tail _ (.tail _ (.tail _ (.tail _ (.tail _ (.tail _ (.head _)))))))))))))))).c0
  have fC1 := (BX.all (w.heap.size + 1 + 1, #[.bool n3, .slice a3 z3.length c3, .int .i64 e3]) (.tail _ (.tail _ (.tail _ (.tail _ (.tail _ (.tail _ (.tail _ (.tail _ (.tail _ (.tail _ (.tail _ (.tail _ (.tail _ (.tail _ (.head _)))))))))))))))).c1
  have fC2 := (BX.all (w.heap.size + 1 + 1, #[.bool n3, .slice a3 z3.length c3, .int .i64 e3]) (.tail _ (.tail _ (.tail _ (.tail _ (.tail _ (.tail _ (.tail _ (.tail _ (.tail _ (.tail _ (.tail _ (.tail _ (.tail _ (.tail _ (.head _)))))))))))))))).c2
  go_wp2_with fail
  refine (dmul_fit n2 n3 a2 a3 c2 c3 z2 z3 e2 e3 _ (L.all (a2, z2) (.tail _ (.tail _ (.tail _ (.tail _ (.tail _ (.tail _ (.tail _ (.tail _ (.tail _ (.tail _ (.tail _ (.tail _ (.tail _ (.head _))))))))))))))) (L.all (a3, z3) (.tail _ (.tail _ (.tail _ (.tail _ (.tail _ (.tail _ (.tail _ (.tail _ (.tail _ (.tail _ (.tail _ (.tail _ (.tail _ (.tail _ (.head _)))))))))))))))) NB NC HT.out (HDB.out.mul HDC.out) (by have := HM.out.1; omega) (by have := HM.out.2.1; omega) HM.out.2.2).mono ?_
  rintro e wrm ⟨nrm, zrm, xrm, arm, crm, prm, rfl, krm, hrm⟩
  clear fB0 fB1 fB2 fC0 fC1 fC2
  have Krm := Hide.mk krm
  clear krm
  have Nrm := hrm.num
  replace L := (L.push hrm.lie hrm.bel).keep (below_alloc wrm (.cells #[.bool nrm, .slice arm zrm.length crm, .int .i64 xrm] 44))
  replace BX := BX.push hrm.bel (.bool nrm) (.slice arm zrm.length crm) (.int .i64 xrm)
  replace HT := Hide.mk ((HT.out.below hrm.bel (Nat.le_refl _)).below (below_alloc wrm (.cells #[.bool nrm, .slice arm zrm.length crm, .int .i64 xrm] 44)) (Nat.le_refl _))
  replace HB := below_then (below_then HB hrm.bel) (below_alloc wrm (.cells #[.bool nrm, .slice arm zrm.length crm, .int .i64 xrm] 44))
  clear hrm
  have HR2 := HPR _ Krm.out
  have fA0 := (BX.all (w.heap.size, #[.bool n1, .slice a1 z1.length c1, .int .i64 e1]) (.tail _ (.tail _ (.tail _ (.tail _ (.tail _ (.tail _ (.tail _ (.tail _ (.tail _ (.tail _ (.tail _ (.tail _ (.tail _ (.head _))))))))))))))).c0
  have fA1 := (BX.all (w.heap.size, #[.bool n1, .slice a1 z1.length c1, .int .i64 e1]) (.tail _ (.tail _ (.tail _ (.tail _ (.tail _ (.tail _ (.tail _ (.tail _ (.tail _ (.tail _ (.tail _ (.tail _ (.tail _ (.head _))))))))))))))).c1
  have fA2 := (BX.all (w.heap.size, #[.bool n1, .slice a1 z1.length c1, .int .i64 e1]) (.tail _ (.tail _ (.tail _ (.tail _ (.tail _ (.tail _ (.tail _ (.tail _ (.tail _ (.tail _ (.tail _ (.tail _ (.tail _ (.head _))))))))))))))).c2
  have frm0 := (BX.all (wrm.heap.size, #[.bool nrm, .slice arm zrm.length crm, .int .i64 xrm]) (.head _)).c0
  have frm1 := (BX.all (wrm.heap.size, #[.bool nrm, .slice arm zrm.length crm, .int .i64 xrm]) (.head _)).c1
  have frm2 := (BX.all (wrm.heap.size, #[.bool nrm, .slice arm zrm.length crm, .int .i64 xrm]) (.head _)).c2
  go_wp2_with fail
  refine (dmul_fit n1 nrm a1 arm c1 crm z1 zrm e1 xrm _ (L.all (a1, z1) (.tail _ (.tail _ (.tail _ (.tail _ (.tail _ (.tail _ (.tail _ (.tail _ (.tail _ (.tail _ (.tail _ (.tail _ (.tail _ (.head _))))))))))))))) (L.all (arm, zrm) (.head _)) NA Nrm HT.out ((HDA.out.mul HR2.out)) (by have := HM2.out.1; omega) (by have := HM2.out.2.1; omega) (by have := HM2.out.2.2.1; omega)).mono ?_
  rintro e wym ⟨nym, zym, xym, aym, cym, pym, rfl, kym, hym⟩
  clear fA0 fA1 fA2 frm0 frm1 frm2
  have Kym := Hide.mk kym
  clear kym
  have Nym := hym.num
  replace L := (L.push hym.lie hym.bel).keep (below_alloc wym (.cells #[.bool nym, .slice aym zym.length cym, .int .i64 xym] 44))
  replace BX := BX.push hym.bel (.bool nym) (.slice aym zym.length cym) (.int .i64 xym)
  replace HT := Hide.mk ((HT.out.below hym.bel (Nat.le_refl _)).below (below_alloc wym (.cells #[.bool nym, .slice aym zym.length cym, .int .i64 xym] 44)) (Nat.le_refl _))
  replace HB := below_then (below_then HB hym.bel) (below_alloc wym (.cells #[.bool nym, .slice aym zym.length cym, .int .i64 xym] 44))
  clear hym
  have fpm0 := (BX.all (wpm.heap.size, #[.bool npm, .slice apm zpm.length cpm, .int .i64 xpm]) (.tail _ (.tail _ (.tail _ (.tail _ (.tail _ (.tail _ (.tail _ (.head _))))))))).c0
  have fpm1 := (BX.all (wpm.heap.size, #[.bool npm, .slice apm zpm.length cpm, .int .i64 xpm]) (.tail _ (.tail _ (.tail _ (.tail _ (.tail _ (.tail _ (.tail _ (.head _))))))))).c1
  have fpm2 := (BX.all (wpm.heap.size, #[.bool npm, .slice apm zpm.length cpm, .int .i64 xpm]) (.tail _ (.tail _ (.tail _ (.tail _ (.tail _ (.tail _ (.tail _ (.head _))))))))).c2
  have fqm0 := (BX.all (wqm.heap.size, #[.bool nqm, .slice aqm zqm.length cqm, .int .i64 xqm]) (.tail _ (.tail _ (.tail _ (.tail _ (.tail _ (.tail _ (.head _)))))))).c0
  have fqm1 := (BX.all (wqm.heap.size, #[.bool nqm, .slice aqm zqm.length cqm, .int .i64 xqm]) (.tail _ (.tail _ (.tail _ (.tail _ (.tail _ (.tail _ (.head _)))))))).c1
  have fqm2 := (BX.all (wqm.heap.size, #[.bool nqm, .slice aqm zqm.length cqm, .int .i64 xqm]) (.tail _ (.tail _ (.tail _ (.tail _ (.tail _ (.tail _ (.head _)))))))).c2
  go_wp2_with fail
  refine (dsame40 npm nqm apm aqm cpm cqm zpm zqm xpm xqm _ (Npm.dg.lie (L.all (apm, zpm) (.tail _ (.tail _ (.tail _ (.tail _ (.tail _ (.tail _ (.tail _ (.head _)))))))))) (Nqm.dg.lie (L.all (aqm, zqm) (.tail _ (.tail _ (.tail _ (.tail _ (.tail _ (.tail _ (.head _))))))))) true (decide_eq_true (Npm.same Nqm (ring_pq pK_ne Kpm.out Kqm.out)))).mono ?_
  rintro e v4 ⟨rfl, hs4⟩
  clear fpm0 fpm1 fpm2 fqm0 fqm1 fqm2
  replace L := L.keep hs4
  replace BX := BX.keep hs4
  replace HT := Hide.mk (HT.out.below hs4 (Nat.le_refl _))
  replace HB := below_then HB hs4
  clear hs4
  have fsm0 := (BX.all (wsm.heap.size, #[.bool nsm, .slice asm zsm.length csm, .int .i64 xsm]) (.tail _ (.tail _ (.tail _ (.tail _ (.head _)))))).c0
  have fsm1 := (BX.all (wsm.heap.size, #[.bool nsm, .slice asm zsm.length csm, .int .i64 xsm]) (.tail _ (.tail _ (.tail _ (.tail _ (.head _)))))).c1
  have fsm2 := (BX.all (wsm.heap.size, #[.bool nsm, .slice asm zsm.length csm, .int .i64 xsm]) (.tail _ (.tail _ (.tail _ (.tail _ (.head _)))))).c2
  have fum0 := (BX.all (wum.heap.size, #[.bool num, .slice aum zum.length cum, .int .i64 xum]) (.tail _ (.tail _ (.tail _ (.head _))))).c0
  have fum1 := (BX.all (wum.heap.size, #[.bool num, .slice aum zum.length cum, .int .i64 xum]) (.tail _ (.tail _ (.tail _ (.head _))))).c1
  have fum2 := (BX.all (wum.heap.size, #[.bool num, .slice aum zum.length cum, .int .i64 xum]) (.tail _ (.tail _ (.tail _ (.head _))))).c2
  go_wp2_with fail
  refine (dsame40 nsm num asm aum csm cum zsm zum xsm xum _ (Nsm.dg.lie (L.all (asm, zsm) (.tail _ (.tail _ (.tail _ (.tail _ (.head _))))))) (Num.dg.lie (L.all (aum, zum) (.tail _ (.tail _ (.tail _ (.head _)))))) true (decide_eq_true (Nsm.same Num (ring_su pK_ne Ksm.out Kpm.out Ktm.out)))).mono ?_
  rintro e v5 ⟨rfl, hs5⟩
  clear fsm0 fsm1 fsm2 fum0 fum1 fum2
  replace L := L.keep hs5
  replace BX := BX.keep hs5
  replace HT := Hide.mk (HT.out.below hs5 (Nat.le_refl _))
  replace HB := below_then HB hs5
  clear hs5
  have fxm0 := (BX.all (wxm.heap.size, #[.bool nxm, .slice axm zxm.length cxm, .int .i64 xxm]) (.tail _ (.tail _ (.head _)))).c0
  have fxm1 := (BX.all (wxm.heap.size, #[.bool nxm, .slice axm zxm.length cxm, .int .i64 xxm]) (.tail _ (.tail _ (.head _)))).c1
  have fxm2 := (BX.all (wxm.heap.size, #[.bool nxm, .slice axm zxm.length cxm, .int .i64 xxm]) (.tail _ (.tail _ (.head _)))).c2
  have fym0 := (BX.all (wym.heap.size, #[.bool nym, .slice aym zym.length cym, .int .i64 xym]) (.head _)).c0
  have fym1 := (BX.all (wym.heap.size, #[.bool nym, .slice aym zym.length cym, .int .i64 xym]) (.head _)).c1
  have fym2 := (BX.all (wym.heap.size, #[.bool nym, .slice aym zym.length cym, .int .i64 xym]) (.head _)).c2
  go_wp2_with fail
  refine (dsame40 nxm nym axm aym cxm cym zxm zym xxm xym _ (Nxm.dg.lie (L.all (axm, zxm) (.tail _ (.tail _ (.head _))))) (Nym.dg.lie (L.all (aym, zym) (.head _))) true (decide_eq_true (Nxm.same Nym (ring_xy pK_ne Kxm.out Kpm.out Kym.out Krm.out)))).mono ?_
  rintro e v6 ⟨rfl, hs6⟩
  clear fxm0 fxm1 fxm2 fym0 fym1 fym2
  replace L := L.keep hs6
  replace BX := BX.keep hs6
  replace HT := Hide.mk (HT.out.below hs6 (Nat.le_refl _))
  replace HB := below_then HB hs6
  clear hs6
  go_wp2_with fail
  refine (dknown34 _ HT.out).mono ?_
  rintro e w9 ⟨rfl, h9⟩
  have hb9 := below_then HB h9
  clear h9 L BX HT HB
  go_wp2
  go_ret
  exact ⟨rfl, hb9⟩
theorem dring12 (n1 n2 n3 : Bool) (a1 a2 a3 : Option Addr) (c1 c2 c3 : Nat) (z1 z2 z3 : List Int) (e1 e2 e3 : Int) (w : World) (u1 : DLie w a1 z1) (u2 : DLie w a2 z2) (u3 : DLie w a3 z3) (hT : Tab w) :
    Calls Tryd.prog 12 #[dV n1 a1 z1.length c1 e1, dV n2 a2 z2.length c2 e2, dV n3 a3 z3.length c3 e3] w fun e w' => e = .returned (.bool true) ∧ Below w.heap.size w w' := by
  cases hq : List.all [⟨n1, a1, c1, z1, e1⟩, ⟨n2, a2, c2, z2, e2⟩, ⟨n3, a3, c3, z3, e3⟩] nearB
  · exact dring_no n1 n2 n3 a1 a2 a3 c1 c2 c3 z1 z2 z3 e1 e2 e3 w u1 u2 u3 hT hq
  · exact dring_main n1 n2 n3 a1 a2 a3 c1 c2 c3 z1 z2 z3 e1 e2 e3 w u1 u2 u3 hT hq
end Go.Proofs.YtjhkploelojaeaaDoor
