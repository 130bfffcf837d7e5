import Derived.Test.YtjhkploelojaeaaDoorM13
import Derived.Test.YtjhkploelojaeaaDoorDRing
namespace Go.Proofs.YtjhkploelojaeaaDoor
open Go.RowKit
set_option linter.unusedVariables false
set_option maxRecDepth 3000
theorem sgn_cases (u v : Int) : (u < v ∧ sgn u v = -1) ∨ (u = v ∧ sgn u v = 0) ∨ (v < u ∧ sgn u v = 1) := by
  unfold sgn
  rcases Int.lt_trichotomy u v with c | c | c
  · exact .inl ⟨c, if_pos c⟩
  · exact .inr (.inl ⟨c, by subst c; simp⟩)
  · exact .inr (.inr ⟨c, by rw [if_neg (by omega), if_pos c]⟩)
theorem order_facts (a b c : Int) : sgn (a - b) 0 = sgn a b ∧ sgn b a = -sgn a b ∧ (sgn a b = -1 ∨ sgn a b = 0 ∨ sgn a b = 1) ∧ (sgn b c = -1 ∨ sgn b c = 0 ∨ sgn b c = 1) ∧ (sgn a c = -1 ∨ sgn a c = 0 ∨ sgn a c = 1) ∧ (sgn a b ≤ 0 → sgn b c ≤ 0 → sgn a c ≤ 0) ∧ (sgn a b < 0 → sgn b c ≤ 0 → sgn a c < 0) ∧ (sgn a b = 0 ↔ a = b) := by
  have h1 := sgn_cases a b
  have h2 := sgn_cases b c
  have h3 := sgn_cases a c
  have h4 := sgn_cases b a
  have h5 := sgn_cases (a - b) 0
  generalize sgn a b = x at *
  generalize sgn b c = y at *
  generalize sgn a c = z at *
  generalize sgn b a = t at *
  generalize sgn (a - b) 0 = r at *
  omega
set_option maxHeartbeats 4000000 in
theorem dorder_no (n1 n2 n3 : Bool) (a1 a2 a3 : Option Addr) (c1 c2 c3 : Nat) (z1 z2 z3 : List Int) (e1 e2 e3 : Int) (w : World) (u1 : DLie w a1 z1) (u2 : DLie w a2 z2) (u3 : DLie w a3 z3) (hT : Tab w) (hq : List.all [⟨n1, a1, c1, z1, e1⟩, ⟨n2, a2, c2, z2, e2⟩, ⟨n3, a3, c3, z3, e3⟩] nearB = false) :
    Calls Tryd.prog 13 #[dV n1 a1 z1.length c1 e1, dV n2 a2 z2.length c2 e2, dV n3 a3 z3.length c3 e3] w fun e w' => e = .returned (.bool true) ∧ Below w.heap.size w w' := by
  obtain ⟨d1, d2, d3, hs3⟩ := dcell3 w #[.bool n1, .slice a1 z1.length c1, .int .i64 e1] #[.bool n2, .slice a2 z2.length c2, .int .i64 e2] #[.bool n3, .slice a3 z3.length c3, .int .i64 e3] rfl rfl rfl
  have hb3 := below3 w (.cells #[.bool n1, .slice a1 z1.length c1, .int .i64 e1] 44) (.cells #[.bool n2, .slice a2 z2.length c2, .int .i64 e2] 44) (.cells #[.bool n3, .slice a3 z3.length c3, .int .i64 e3] 44)
  go_enter Tryd.func13, Tryd.ntmps13
  go_wp2_with fail
  generalize hw3 : ((w.alloc (.cells #[.bool n1, .slice a1 z1.length c1, .int .i64 e1] 44)).alloc (.cells #[.bool n2, .slice a2 z2.length c2, .int .i64 e2] 44)).alloc (.cells #[.bool n3, .slice a3 z3.length c3, .int .i64 e3] 44) = w3 at *
  clear hw3
  have hr := arow3 w3 (w.heap.size + 1 + 1 + 1) (by omega) ⟨n1, a1, c1, z1, e1⟩ ⟨n2, a2, c2, z2, e2⟩ ⟨n3, a3, c3, z3, e3⟩ (u1.below hb3) (u2.below hb3) (u3.below hb3)
  have HR := Hide.mk (near75 _ _ _ hr (by simp))
  have hb4 := below_alloc w3 (.cells #[.bool n1, .slice a1 z1.length c1, .int .i64 e1, .bool n2, .slice a2 z2.length c2, .int .i64 e2, .bool n3, .slice a3 z3.length c3, .int .i64 e3] 44)
  clear hr
  rw [hq] at HR
  refine HR.out.mono ?_
  rintro e w4 ⟨rfl, h4⟩
  clear HR
  have hb5 := below_then hb4 h4
  have HB : Below w.heap.size w w4 := below_then hb3 hb5
  have BX : Boxes w4 [(w.heap.size, #[.bool n1, .slice a1 z1.length c1, .int .i64 e1]), (w.heap.size + 1, #[.bool n2, .slice a2 z2.length c2, .int .i64 e2]), (w.heap.size + 1 + 1, #[.bool n3, .slice a3 z3.length c3, .int .i64 e3])] := ⟨by
    intro p hp
    simp only [List.mem_cons, List.not_mem_nil, or_false] at hp
    rcases hp with rfl | rfl | rfl
    · exact d1.below hb5 (by show w.heap.size < w3.heap.size; omega)
    · exact d2.below hb5 (by show w.heap.size + 1 < w3.heap.size; omega)
    · exact d3.below hb5 (by show w.heap.size + 1 + 1 < w3.heap.size; omega)⟩
  have L : Live w4 [(a1, z1), (a2, z2), (a3, z3)] := ⟨by simp [(u1.below HB).lie, (u2.below HB).lie, (u3.below HB).lie]⟩
  have HT := Hide.mk (hT.below HB (Nat.le_refl _))
  clear d1 d2 d3 hs3 hb3 hb4 hb5 h4 u1 u2 u3 hT
  go_wp2_with fail
  refine (dknown34 _ HT.out).mono ?_
  rintro e w9 ⟨rfl, h9⟩
  have hb9 := below_then HB h9
  clear h9
  go_wp2
  go_ret
  exact ⟨rfl, hb9⟩
theorem order_yes {n1 n2 : Bool} {z1 z2 : List Int} {e1 e2 u v x : Int} (h1 : DN n1 z1 e1 u) (h2 : DN n2 z2 e2 v) (h : x = 0 ↔ u = v) (hx : x = 0) : decide (n1 = n2 ∧ e1 = e2 ∧ z1 = z2) = true := decide_eq_true (h1.same h2 (h.1 hx))
theorem order_no {n1 n2 : Bool} {z1 z2 : List Int} {e1 e2 u v x : Int} (h1 : DN n1 z1 e1 u) (h2 : DN n2 z2 e2 v) (h : x = 0 ↔ u = v) (hx : x ≠ 0) : decide (n1 = n2 ∧ e1 = e2 ∧ z1 = z2) = false := decide_eq_false (fun k => hx (h.2 (h1.inj h2 k)))
set_option maxHeartbeats 8000000 in
theorem dorder_main (n1 n2 n3 : Bool) (a1 a2 a3 : Option Addr) (c1 c2 c3 : Nat) (z1 z2 z3 : List Int) (e1 e2 e3 : Int) (w : World) (u1 : DLie w a1 z1) (u2 : DLie w a2 z2) (u3 : DLie w a3 z3) (hT : Tab w) (hq : List.all [⟨n1, a1, c1, z1, e1⟩, ⟨n2, a2, c2, z2, e2⟩, ⟨n3, a3, c3, z3, e3⟩] nearB = true) :
    Calls Tryd.prog 13 #[dV n1 a1 z1.length c1 e1, dV n2 a2 z2.length c2 e2, dV n3 a3 z3.length c3 e3] w fun e w' => e = .returned (.bool true) ∧ Below w.heap.size w w' := by
  have hq1 : nearB ⟨n1, a1, c1, z1, e1⟩ = true := by simp only [List.all_cons, List.all_nil, Bool.and_true, Bool.and_eq_true] at hq; exact hq.1
  have hq2 : nearB ⟨n2, a2, c2, z2, e2⟩ = true := by simp only [List.all_cons, List.all_nil, Bool.and_true, Bool.and_eq_true] at hq; exact hq.2.1
  have hq3 : nearB ⟨n3, a3, c3, z3, e3⟩ = true := by simp only [List.all_cons, List.all_nil, Bool.and_true, Bool.and_eq_true] at hq; exact hq.2.2
  obtain ⟨NA, DA⟩ := near_db u1.rng hq1
  simp only at NA DA
  generalize dv n1 z1 e1 = vA at *
  obtain ⟨NB, DB⟩ := near_db u2.rng hq2
  simp only at NB DB
  generalize dv n2 z2 e2 = vB at *
  obtain ⟨NC, DC⟩ := near_db u3.rng hq3
  simp only at NC DC
  generalize dv n3 z3 e3 = vC at *
  clear hq1 hq2 hq3
  have hK := KK_eq
  obtain ⟨lo, hlo⟩ : ∃ lo, lo = KK - 3000 := ⟨_, rfl⟩
  obtain ⟨hi, hhi⟩ : ∃ hi, hi = KK + 6201 := ⟨_, rfl⟩
  rw [← hlo, ← hhi] at DA DB DC
  have D1 := DA.add DB.neg
  rw [← Int.sub_eq_add_neg] at D1
  have HD1 := Hide.mk D1
  have HS : Hide (hi + 1 ≤ lo + 131072 ∧ hi + 1 ≤ 2 * KK) := ⟨by omega⟩
  clear DA DB DC D1 hlo hhi hK
  obtain ⟨o1, o2, o3, o4, o5, o6, o7, o8⟩ := order_facts vA vB vC
  obtain ⟨x, hx⟩ : ∃ x, sgn vA vB = x := ⟨_, rfl⟩
  obtain ⟨y, hy⟩ : ∃ y, sgn vB vC = y := ⟨_, rfl⟩
  obtain ⟨z, hz⟩ : ∃ z, sgn vA vC = z := ⟨_, rfl⟩
  rw [hx] at o1 o2 o3 o6 o7 o8
  rw [hy] at o4 o6 o7
  rw [hz] at o5 o6 o7
  have hb : -1 ≤ x ∧ x ≤ 1 := by omega
  have hxl := hb.1
  have hxr := hb.2
  clear hb
  have Hhx := Hide.mk hx
  have Hhy := Hide.mk hy
  have Hhz := Hide.mk hz
  have Ho1 := Hide.mk o1
  have Ho2 := Hide.mk o2
  have Ho3 := Hide.mk o3
  have Ho4 := Hide.mk o4
  have Ho5 := Hide.mk o5
  have Ho6 := Hide.mk o6
  have Ho7 := Hide.mk o7
  have Ho8 := Hide.mk o8
  clear hx hy hz o1 o2 o3 o4 o5 o6 o7 o8
  obtain ⟨d1, d2, d3, hs3⟩ := dcell3 w #[.bool n1, .slice a1 z1.length c1, .int .i64 e1] #[.bool n2, .slice a2 z2.length c2, .int .i64 e2] #[.bool n3, .slice a3 z3.length c3, .int .i64 e3] rfl rfl rfl
  have hb3 := below3 w (.cells #[.bool n1, .slice a1 z1.length c1, .int .i64 e1] 44) (.cells #[.bool n2, .slice a2 z2.length c2, .int .i64 e2] 44) (.cells #[.bool n3, .slice a3 z3.length c3, .int .i64 e3] 44)
  go_enter Tryd.func13, Tryd.ntmps13
  go_wp2_with fail
  generalize hw3 : ((w.alloc (.cells #[.bool n1, .slice a1 z1.length c1, .int .i64 e1] 44)).alloc (.cells #[.bool n2, .slice a2 z2.length c2, .int .i64 e2] 44)).alloc (.cells #[.bool n3, .slice a3 z3.length c3, .int .i64 e3] 44) = w3 at *
  clear hw3
  have hr := arow3 w3 (w.heap.size + 1 + 1 + 1) (by omega) ⟨n1, a1, c1, z1, e1⟩ ⟨n2, a2, c2, z2, e2⟩ ⟨n3, a3, c3, z3, e3⟩ (u1.below hb3) (u2.below hb3) (u3.below hb3)
  have HR := Hide.mk (near75 _ _ _ hr (by simp))
  have hb4 := below_alloc w3 (.cells #[.bool n1, .slice a1 z1.length c1, .int .i64 e1, .bool n2, .slice a2 z2.length c2, .int .i64 e2, .bool n3, .slice a3 z3.length c3, .int .i64 e3] 44)
  clear hr
  rw [hq] at HR
  refine HR.out.mono ?_
  rintro e w4 ⟨rfl, h4⟩
  clear HR
  have hb5 := below_then hb4 h4
  have HB : Below w.heap.size w w4 := below_then hb3 hb5
  have BX : Boxes w4 [(w.heap.size, #[.bool n1, .slice a1 z1.length c1, .int .i64 e1]), (w.heap.size + 1, #[.bool n2, .slice a2 z2.length c2, .int .i64 e2]), (w.heap.size + 1 + 1, #[.bool n3, .slice a3 z3.length c3, .int .i64 e3])] := ⟨by
    intro p hp
    simp only [List.mem_cons, List.not_mem_nil, or_false] at hp
    rcases hp with rfl | rfl | rfl
    · exact d1.below hb5 (by show w.heap.size < w3.heap.size; omega)
    · exact d2.below hb5 (by show w.heap.size + 1 < w3.heap.size; omega)
    · exact d3.below hb5 (by show w.heap.size + 1 + 1 < w3.heap.size; omega)⟩
  have L : Live w4 [(a1, z1), (a2, z2), (a3, z3)] := ⟨by simp [(u1.below HB).lie, (u2.below HB).lie, (u3.below HB).lie]⟩
  have HT := Hide.mk (hT.below HB (Nat.le_refl _))
  clear d1 d2 d3 hs3 hb3 hb4 hb5 h4 u1 u2 u3 hT
  have fA0 := (BX.all (w.heap.size, #[.bool n1, .slice a1 z1.length c1, .int .i64 e1]) (.head _)).c0
  have fA1 := (BX.all (w.heap.size, #[.bool n1, .slice a1 z1.length c1, .int .i64 e1]) (.head _)).c1
  have fA2 := (BX.all (w.heap.size, #[.bool n1, .slice a1 z1.length c1, .int .i64 e1]) (.head _)).c2
  have fB0 := (BX.all (w.heap.size + 1, #[.bool n2, .slice a2 z2.length c2, .int .i64 e2]) (.tail _ (.head _))).c0
  have fB1 := (BX.all (w.heap.size + 1, #[.bool n2, .slice a2 z2.length c2, .int .i64 e2]) (.tail _ (.head _))).c1
  have fB2 := (BX.all (w.heap.size + 1, #[.bool n2, .slice a2 z2.length c2, .int .i64 e2]) (.tail _ (.head _))).c2
  go_wp2_with fail
  refine (dsub_fit n1 n2 a1 a2 c1 c2 z1 z2 e1 e2 _ (L.all (a1, z1) (.head _)) (L.all (a2, z2) (.tail _ (.head _))) NA NB HT.out HD1.out HS.out.1 HS.out.2).mono ?_
  rintro e wdd ⟨ndd, zdd, xdd, add, cdd, rfl, hdd⟩
  clear fA0 fA1 fA2 fB0 fB1 fB2
  have Ndd := hdd.num
  replace L := (L.push hdd.lie hdd.bel).keep (below_alloc wdd (.cells #[.bool ndd, .slice add zdd.length cdd, .int .i64 xdd] 44))
  replace BX := BX.push hdd.bel (.bool ndd) (.slice add zdd.length cdd) (.int .i64 xdd)
  replace HT := Hide.mk ((HT.out.below hdd.bel (Nat.le_refl _)).below (below_alloc wdd (.cells #[.bool ndd, .slice add zdd.length cdd, .int .i64 xdd] 44)) (Nat.le_refl _))
  replace HB := below_then (below_then HB hdd.bel) (below_alloc wdd (.cells #[.bool ndd, .slice add zdd.length cdd, .int .i64 xdd] 44))
  clear hdd
  have fA0 := (BX.all (w.heap.size, #[.bool n1, .slice a1 z1.length c1, .int .i64 e1]) (.tail _ (.head _))).c0
  have fA1 := (BX.all (w.heap.size, #[.bool n1, .slice a1 z1.length c1, .int .i64 e1]) (.tail _ (.head _))).c1
  have fA2 := (BX.all (w.heap.size, #[.bool n1, .slice a1 z1.length c1, .int .i64 e1]) (.tail _ (.head _))).c2
  have fB0 := (BX.all (w.heap.size + 1, #[.bool n2, .slice a2 z2.length c2, .int .i64 e2]) (.tail _ (.tail _ (.head _)))).c0
  have fB1 := (BX.all (w.heap.size + 1, #[.bool n2, .slice a2 z2.length c2, .int .i64 e2]) (.tail _ (.tail _ (.head _)))).c1
  have fB2 := (BX.all (w.heap.size + 1, #[.bool n2, .slice a2 z2.length c2, .int .i64 e2]) (.tail _ (.tail _ (.head _)))).c2
  go_wp2_with fail
  refine (dcmp55 n1 n2 a1 a2 c1 c2 z1 z2 e1 e2 _ (L.all (a1, z1) (.tail _ (.head _))) (L.all (a2, z2) (.tail _ (.tail _ (.head _)))) NA NB HT.out x Hhx.out).mono ?_
  rintro e v1 ⟨rfl, hv1⟩
  clear fA0 fA1 fA2 fB0 fB1 fB2
  replace L := L.keep hv1
  replace BX := BX.keep hv1
  replace HT := Hide.mk (HT.out.below hv1 (Nat.le_refl _))
  replace HB := below_then HB hv1
  clear hv1
  have fB0 := (BX.all (w.heap.size + 1, #[.bool n2, .slice a2 z2.length c2, .int .i64 e2]) (.tail _ (.tail _ (.head _)))).c0
  have fB1 := (BX.all (w.heap.size + 1, #[.bool n2, .slice a2 z2.length c2, .int .i64 e2]) (.tail _ (.tail _ (.head _)))).c1
  have fB2 := (BX.all (w.heap.size + 1, #[.bool n2, .slice a2 z2.length c2, .int .i64 e2]) (.tail _ (.tail _ (.head _)))).c2
  have fA0 := (BX.all (w.heap.size, #[.bool n1, .slice a1 z1.length c1, .int .i64 e1]) (.tail _ (.head _))).c0
  have fA1 := (BX.all (w.heap.size, #[.bool n1, .slice a1 z1.length c1, .int .i64 e1]) (.tail _ (.head _))).c1
  have fA2 := (BX.all (w.heap.size, #[.bool n1, .slice a1 z1.length c1, .int .i64 e1]) (.tail _ (.head _))).c2
  go_wp2_with fail
  refine (dcmp55 n2 n1 a2 a1 c2 c1 z2 z1 e2 e1 _ (L.all (a2, z2) (.tail _ (.tail _ (.head _)))) (L.all (a1, z1) (.tail _ (.head _))) NB NA HT.out (-x) Ho2.out).mono ?_
  rintro e v2 ⟨rfl, hv2⟩
  clear fB0 fB1 fB2 fA0 fA1 fA2
  replace L := L.keep hv2
  replace BX := BX.keep hv2
  replace HT := Hide.mk (HT.out.below hv2 (Nat.le_refl _))
  replace HB := below_then HB hv2
  clear hv2
  have fB0 := (BX.all (w.heap.size + 1, #[.bool n2, .slice a2 z2.length c2, .int .i64 e2]) (.tail _ (.tail _ (.head _)))).c0
  have fB1 := (BX.all (w.heap.size + 1, #[.bool n2, .slice a2 z2.length c2, .int .i64 e2]) (.tail _ (.tail _ (.head _)))).c1
  have fB2 := (BX.all (w.heap.size + 1, #[.bool n2, .slice a2 z2.length c2, .int .i64 e2]) (.tail _ (.tail _ (.head _)))).c2
  have fC0 := (BX.all (w.heap.size + 1 + 1, #[.bool n3, .slice a3 z3.length c3, .int .i64 e3]) (.tail _ (.tail _ (.tail _ (.head _))))).c0
  have fC1 := (BX.all (w.heap.size + 1 + 1, #[.bool n3, .slice a3 z3.length c3, .int .i64 e3]) (.tail _ (.tail _ (.tail _ (.head _))))).c1
  have fC2 := (BX.all (w.heap.size + 1 + 1, #[.bool n3, .slice a3 z3.length c3, .int .i64 e3]) (.tail _ (.tail _ (.tail _ (.head _))))).c2
  go_wp2_with fail
  refine (dcmp55 n2 n3 a2 a3 c2 c3 z2 z3 e2 e3 _ (L.all (a2, z2) (.tail _ (.tail _ (.head _)))) (L.all (a3, z3) (.tail _ (.tail _ (.tail _ (.head _))))) NB NC HT.out y Hhy.out).mono ?_
  rintro e v3 ⟨rfl, hv3⟩
  clear fB0 fB1 fB2 fC0 fC1 fC2
  replace L := L.keep hv3
  replace BX := BX.keep hv3
  replace HT := Hide.mk (HT.out.below hv3 (Nat.le_refl _))
  replace HB := below_then HB hv3
  clear hv3
  have fA0 := (BX.all (w.heap.size, #[.bool n1, .slice a1 z1.length c1, .int .i64 e1]) (.tail _ (.head _))).c0
  have fA1 := (BX.all (w.heap.size, #[.bool n1, .slice a1 z1.length c1, .int .i64 e1]) (.tail _ (.head _))).c1
  have fA2 := (BX.all (w.heap.size, #[.bool n1, .slice a1 z1.length c1, .int .i64 e1]) (.tail _ (.head _))).c2
  have fC0 := (BX.all (w.heap.size + 1 + 1, #[.bool n3, .slice a3 z3.length c3, .int .i64 e3]) (.tail _ (.tail _ (.tail _ (.head _))))).c0
  have fC1 := (BX.all (w.heap.size + 1 + 1, #[.bool n3, .slice a3 z3.length c3, .int .i64 e3]) (.tail _ (.tail _ (.tail _ (.head _))))).c1
  have fC2 := (BX.all (w.heap.size + 1 + 1, #[.bool n3, .slice a3 z3.length c3, .int .i64 e3]) (.tail _ (.tail _ (.tail _ (.head _))))).c2
  go_wp2_with fail
  refine (dcmp55 n1 n3 a1 a3 c1 c3 z1 z3 e1 e3 _ (L.all (a1, z1) (.tail _ (.head _))) (L.all (a3, z3) (.tail _ (.tail _ (.tail _ (.head _))))) NA NC HT.out z Hhz.out).mono ?_
  rintro e v4 ⟨rfl, hv4⟩
  clear fA0 fA1 fA2 fC0 fC1 fC2
  replace L := L.keep hv4
  replace BX := BX.keep hv4
  replace HT := Hide.mk (HT.out.below hv4 (Nat.le_refl _))
  replace HB := below_then HB hv4
  clear hv4
  have hbx : (x != x) = false := by simp
  have hbn : (-x != -x) = false := by simp
  have fdd0 := (BX.all (wdd.heap.size, #[.bool ndd, .slice add zdd.length cdd, .int .i64 xdd]) (.head _)).c0
  have fdd1 := (BX.all (wdd.heap.size, #[.bool ndd, .slice add zdd.length cdd, .int .i64 xdd]) (.head _)).c1
  have fdd2 := (BX.all (wdd.heap.size, #[.bool ndd, .slice add zdd.length cdd, .int .i64 xdd]) (.head _)).c2
  go_wp2_with fail
  refine (dsign49 ndd add cdd zdd xdd (vA - vB) _ (L.all (add, zdd) (.head _)) Ndd x Ho1.out).mono ?_
  rintro e v5 ⟨rfl, hv5⟩
  clear fdd0 fdd1 fdd2
  replace L := L.keep hv5
  replace BX := BX.keep hv5
  replace HT := Hide.mk (HT.out.below hv5 (Nat.le_refl _))
  replace HB := below_then HB hv5
  clear hv5
  rcases Ho3.out with rfl | rfl | rfl
  · have HQ := Hide.mk (order_no NA NB Ho8.out (by decide))
    rcases Ho4.out with rfl | rfl | rfl <;> rcases Ho5.out with rfl | rfl | rfl <;> first
      | (exfalso; have h6 := Ho6.out; have h7 := Ho7.out; omega)
      | (have fA0 := (BX.all (w.heap.size, #[.bool n1, .slice a1 z1.length c1, .int .i64 e1]) (.tail _ (.head _))).c0; have fA1 := (BX.all (w.heap.size, #[.bool n1, .slice a1 z1.length c1, .int .i64 e1]) (.tail _ (.head _))).c1; have fA2 := (BX.all (w.heap.size, #[.bool n1, .slice a1 z1.length c1, .int .i64 e1]) (.tail _ (.head _))).c2; have fB0 := (BX.all (w.heap.size + 1, #[.bool n2, .slice a2 z2.length c2, .int .i64 e2]) (.tail _ (.tail _ (.head _)))).c0; have fB1 := (BX.all (w.heap.size + 1, #[.bool n2, .slice a2 z2.length c2, .int .i64 e2]) (.tail _ (.tail _ (.head _)))).c1; have fB2 := (BX.all (w.heap.size + 1, #[.bool n2, .slice a2 z2.length c2, .int .i64 e2]) (.tail _ (.tail _ (.head _)))).c2; go_wp2_with fail; refine (dsame40 n1 n2 a1 a2 c1 c2 z1 z2 e1 e2 _ (NA.dg.lie (L.all (a1, z1) (.tail _ (.head _)))) (NB.dg.lie (L.all (a2, z2) (.tail _ (.tail _ (.head _))))) false HQ.out).mono ?_; rintro e v6 ⟨rfl, h6⟩; have HT6 := HT.out.below h6 (Nat.le_refl _); have hb6 := below_then HB h6; clear h6 fA0 fA1 fA2 fB0 fB1 fB2 L BX HB HT; go_wp2_with fail; refine (dknown34 _ HT6).mono ?_; rintro e w9 ⟨rfl, h9⟩; have hb9 := below_then hb6 h9; clear h9 HT6; go_wp2; go_ret; exact ⟨rfl, hb9⟩)
  · have HQ := Hide.mk (order_yes NA NB Ho8.out (by decide))
    rcases Ho4.out with rfl | rfl | rfl <;> rcases Ho5.out with rfl | rfl | rfl <;> first
      | (exfalso; have h6 := Ho6.out; have h7 := Ho7.out; omega)
      | (have fA0 := (BX.all (w.heap.size, #[.bool n1, .slice a1 z1.length c1, .int .i64 e1]) (.tail _ (.head _))).c0; have fA1 := (BX.all (w.heap.size, #[.bool n1, .slice a1 z1.length c1, .int .i64 e1]) (.tail _ (.head _))).c1; have fA2 := (BX.all (w.heap.size, #[.bool n1, .slice a1 z1.length c1, .int .i64 e1]) (.tail _ (.head _))).c2; have fB0 := (BX.all (w.heap.size + 1, #[.bool n2, .slice a2 z2.length c2, .int .i64 e2]) (.tail _ (.tail _ (.head _)))).c0; have fB1 := (BX.all (w.heap.size + 1, #[.bool n2, .slice a2 z2.length c2, .int .i64 e2]) (.tail _ (.tail _ (.head _)))).c1; have fB2 := (BX.all (w.heap.size + 1, #[.bool n2, .slice a2 z2.length c2, .int .i64 e2]) (.tail _ (.tail _ (.head _)))).c2; go_wp2_with fail; refine (dsame40 n1 n2 a1 a2 c1 c2 z1 z2 e1 e2 _ (NA.dg.lie (L.all (a1, z1) (.tail _ (.head _)))) (NB.dg.lie (L.all (a2, z2) (.tail _ (.tail _ (.head _))))) true HQ.out).mono ?_; rintro e v6 ⟨rfl, h6⟩; have HT6 := HT.out.below h6 (Nat.le_refl _); have hb6 := below_then HB h6; clear h6 fA0 fA1 fA2 fB0 fB1 fB2 L BX HB HT; go_wp2_with fail; refine (dknown34 _ HT6).mono ?_; rintro e w9 ⟨rfl, h9⟩; have hb9 := below_then hb6 h9; clear h9 HT6; go_wp2; go_ret; exact ⟨rfl, hb9⟩)
  · have HQ := Hide.mk (order_no NA NB Ho8.out (by decide))
    rcases Ho4.out with rfl | rfl | rfl <;> rcases Ho5.out with rfl | rfl | rfl <;> first
      | (exfalso; have h6 := Ho6.out; have h7 := Ho7.out; omega)
      | (have fA0 := (BX.all (w.heap.size, #[.bool n1, .slice a1 z1.length c1, .int .i64 e1]) (.tail _ (.head _))).c0; have fA1 := (BX.all (w.heap.size, #[.bool n1, .slice a1 z1.length c1, .int .i64 e1]) (.tail _ (.head _))).c1; have fA2 := (BX.all (w.heap.size, #[.bool n1, .slice a1 z1.length c1, .int .i64 e1]) (.tail _ (.head _))).c2; have fB0 := (BX.all (w.heap.size + 1, #[.bool n2, .slice a2 z2.length c2, .int .i64 e2]) (.tail _ (.tail _ (.head _)))).c0; have fB1 := (BX.all (w.heap.size + 1, #[.bool n2, .slice a2 z2.length c2, .int .i64 e2]) (.tail _ (.tail _ (.head _)))).c1; have fB2 := (BX.all (w.heap.size + 1, #[.bool n2, .slice a2 z2.length c2, .int .i64 e2]) (.tail _ (.tail _ (.head _)))).c2; go_wp2_with fail; refine (dsame40 n1 n2 a1 a2 c1 c2 z1 z2 e1 e2 _ (NA.dg.lie (L.all (a1, z1) (.tail _ (.head _)))) (NB.dg.lie (L.all (a2, z2) (.tail _ (.tail _ (.head _))))) false HQ.out).mono ?_; rintro e v6 ⟨rfl, h6⟩; have HT6 := HT.out.below h6 (Nat.le_refl _); have hb6 := below_then HB h6; clear h6 fA0 fA1 fA2 fB0 fB1 fB2 L BX HB HT; go_wp2_with fail; refine (dknown34 _ HT6).mono ?_; rintro e w9 ⟨rfl, h9⟩; have hb9 := below_then hb6 h9; clear h9 HT6; go_wp2; go_ret; exact ⟨rfl, hb9⟩)
theorem dorder13 (n1 n2 n3 : Bool) (a1 a2 a3 : Option Addr) (c1 c2 c3 : Nat) (z1 z2 z3 : List Int) (e1 e2 e3 : Int) (w : World) (u1 : DLie w a1 z1) (u2 : DLie w a2 z2) (u3 : DLie w a3 z3) (hT : Tab w) :
    Calls Tryd.prog 13 #[dV n1 a1 z1.length c1 e1, dV n2 a2 z2.length c2 e2, dV n3 a3 z3.length c3 e3] w fun e w' => e = .returned (.bool true) ∧ Below w.heap.size w w' := by
  cases hq : List.all [⟨n1, a1, c1, z1, e1⟩, ⟨n2, a2, c2, z2, e2⟩, ⟨n3, a3, c3, z3, e3⟩] nearB
  · exact dorder_no n1 n2 n3 a1 a2 a3 c1 c2 c3 z1 z2 z3 e1 e2 e3 w u1 u2 u3 hT hq
  · exact dorder_main n1 n2 n3 a1 a2 a3 c1 c2 c3 z1 z2 z3 e1 e2 e3 w u1 u2 u3 hT hq
end Go.Proofs.YtjhkploelojaeaaDoor
