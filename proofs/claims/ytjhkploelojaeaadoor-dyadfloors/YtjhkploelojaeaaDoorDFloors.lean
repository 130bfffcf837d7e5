import Derived.Test.YtjhkploelojaeaaDoorM14
namespace Go.Proofs.YtjhkploelojaeaaDoor
open Go.RowKit
set_option linter.unusedVariables false
set_option maxRecDepth 3000
set_option maxHeartbeats 4000000 in
theorem dfloors_no (n1 : Bool) (a1 : Option Addr) (c1 : Nat) (z1 : List Int) (e1 : Int) (w : World) (u1 : DLie w a1 z1) (hT : Tab w) (hq : List.all [⟨n1, a1, c1, z1, e1⟩] nearB = false) :
    Calls Tryd.prog 15 #[dV n1 a1 z1.length c1 e1] w fun e w' => e = .returned (.bool true) ∧ Below w.heap.size w w' := by
  have hb1 := below_alloc w (.cells #[.bool n1, .slice a1 z1.length c1, .int .i64 e1] 44)
  have d1 := dcell_new w (.bool n1) (.slice a1 z1.length c1) (.int .i64 e1)
  have hs1 : (w.alloc (.cells #[.bool n1, .slice a1 z1.length c1, .int .i64 e1] 44)).heap.size = w.heap.size + 1 := by simp
  go_enter Tryd.func15, Tryd.ntmps15
  go_wp2_with fail
  generalize hw1 : w.alloc (.cells #[.bool n1, .slice a1 z1.length c1, .int .i64 e1] 44) = w1 at *
  clear hw1
  have hr := arow1 w1 (w.heap.size + 1) hs1 ⟨n1, a1, c1, z1, e1⟩ (u1.below hb1)
  have HR := Hide.mk (near75 _ _ _ hr (by simp))
  have hb4 := below_alloc w1 (.cells #[.bool n1, .slice a1 z1.length c1, .int .i64 e1] 44)
  clear hr
  rw [hq] at HR
  refine HR.out.mono ?_
  rintro e w4 ⟨rfl, h4⟩
  clear HR
  have hb5 := below_then hb4 h4
  have HB : Below w.heap.size w w4 := below_then hb1 hb5
  have BX : Boxes w4 [(w.heap.size, #[.bool n1, .slice a1 z1.length c1, .int .i64 e1])] := ⟨by
    intro p hp
    obtain rfl := List.mem_singleton.1 hp
    exact d1.below hb5 (by show w.heap.size < w1.heap.size; omega)⟩
  have L : Live w4 [(a1, z1)] := ⟨by simp [(u1.below HB).lie]⟩
  have HT := Hide.mk (hT.below HB (Nat.le_refl _))
  clear d1 hs1 hb1 hb4 hb5 h4 u1 hT
  go_wp2_with fail
  refine (dknown34 _ HT.out).mono ?_
  rintro e w9 ⟨rfl, h9⟩
  have hb9 := below_then HB h9
  clear h9
  go_wp2
  go_ret
  exact ⟨rfl, hb9⟩
set_option maxHeartbeats 8000000 in
theorem dfloors_w (n1 : Bool) (a1 : Option Addr) (c1 : Nat) (z1 : List Int) (e1 : Int) (w : World) (u1 : DLie w a1 z1) (hT : Tab w) (hq : List.all [⟨n1, a1, c1, z1, e1⟩] nearB = true) (hw : 0 ≤ e1) :
    Calls Tryd.prog 15 #[dV n1 a1 z1.length c1 e1] w fun e w' => e = .returned (.bool true) ∧ Below w.heap.size w w' := by
  have hq1 : nearB ⟨n1, a1, c1, z1, e1⟩ = true := by simpa using hq
  obtain ⟨NA, DA⟩ := near_db u1.rng hq1
  simp only at NA DA
  generalize dv n1 z1 e1 = vA at *
  clear hq1
  have hK := KK_eq
  obtain ⟨lo, hlo⟩ : ∃ lo, lo = KK - 3000 := ⟨_, rfl⟩
  obtain ⟨hi, hhi⟩ : ∃ hi, hi = KK + 6201 := ⟨_, rfl⟩
  rw [← hlo, ← hhi] at DA
  obtain ⟨f, hf⟩ : ∃ f, f = vA / 2 ^ KK * 2 ^ KK := ⟨_, rfl⟩
  have HF := Hide.mk hf
  obtain ⟨m1, m2, m3, m4, m5⟩ := floor_facts hf
  have D1 := floor_db DA hf (by omega) (by omega)
  have D2 : DB lo (hi + 1) (2 ^ KK) := by
    have h1 := p2pos KK
    have h2 := p2mono (show KK + 1 ≤ hi + 1 by omega)
    rw [p2succ] at h2
    obtain ⟨j, hj⟩ : ∃ j, KK = lo + j := ⟨KK - lo, by omega⟩
    exact ⟨by rw [hj, Int.pow_add]; exact Int.mul_emod_right _ _, by omega, by omega⟩
  have HD1 := Hide.mk D1
  have HD2 := Hide.mk (D1.add D2)
  have HS : Hide (hi + 2 ≤ lo + 131072 ∧ hi + 2 ≤ 2 * KK) := ⟨by omega⟩
  have hs1 : sgn f vA = 0 := by rw [m4 (NA.whole.1 hw)]; unfold sgn; simp
  have hs2 : sgn (f + 2 ^ KK) vA = 1 := by unfold sgn; rw [if_neg (by omega), if_pos (by omega)]
  have HS1 := Hide.mk hs1
  have HS2 := Hide.mk hs2
  have HM := Hide.mk m3
  clear hs1 hs2 m1 m2 m3 m4 m5 D1 D2 DA hlo hhi hK hf
  have hb1 := below_alloc w (.cells #[.bool n1, .slice a1 z1.length c1, .int .i64 e1] 44)
  have d1 := dcell_new w (.bool n1) (.slice a1 z1.length c1) (.int .i64 e1)
  have hs1 : (w.alloc (.cells #[.bool n1, .slice a1 z1.length c1, .int .i64 e1] 44)).heap.size = w.heap.size + 1 := by simp
  go_enter Tryd.func15, Tryd.ntmps15
  go_wp2_with fail
  generalize hw1 : w.alloc (.cells #[.bool n1, .slice a1 z1.length c1, .int .i64 e1] 44) = w1 at *
  clear hw1
  have hr := arow1 w1 (w.heap.size + 1) hs1 ⟨n1, a1, c1, z1, e1⟩ (u1.below hb1)
  have HR := Hide.mk (near75 _ _ _ hr (by simp))
  have hb4 := below_alloc w1 (.cells #[.bool n1, .slice a1 z1.length c1, .int .i64 e1] 44)
  clear hr
  rw [hq] at HR
  refine HR.out.mono ?_
  rintro e w4 ⟨rfl, h4⟩
  clear HR
  have hb5 := below_then hb4 h4
  have HB : Below w.heap.size w w4 := below_then hb1 hb5
  have BX : Boxes w4 [(w.heap.size, #[.bool n1, .slice a1 z1.length c1, .int .i64 e1])] := ⟨by
    intro p hp
    obtain rfl := List.mem_singleton.1 hp
    exact d1.below hb5 (by show w.heap.size < w1.heap.size; omega)⟩
  have L : Live w4 [(a1, z1)] := ⟨by simp [(u1.below HB).lie]⟩
  have HT := Hide.mk (hT.below HB (Nat.le_refl _))
  clear d1 hs1 hb1 hb4 hb5 h4 u1 hT
  have fA0 := (BX.all (w.heap.size, #[.bool n1, .slice a1 z1.length c1, .int .i64 e1]) (.head _)).c0
  have fA1 := (BX.all (w.heap.size, #[.bool n1, .slice a1 z1.length c1, .int .i64 e1]) (.head _)).c1
  have fA2 := (BX.all (w.heap.size, #[.bool n1, .slice a1 z1.length c1, .int .i64 e1]) (.head _)).c2
  go_wp2_with fail
  refine (dfloor_fit n1 a1 c1 z1 e1 _ (L.all (a1, z1) (.head _)) NA HT.out HF.out HD1.out (by have := HS.out.1; omega) (by have := HS.out.2; omega)).mono ?_
  rintro e wf ⟨nf, zf, xf, af, cf, rfl, hf⟩
  clear fA0 fA1 fA2
  have hwf : w.heap.size < wf.heap.size := Nat.lt_of_lt_of_le (Array.getElem?_eq_some_iff.1 (BX.all (w.heap.size, #[.bool n1, .slice a1 z1.length c1, .int .i64 e1]) (.head _)).1).1 hf.bel.size
  have Nf := hf.num
  replace L := (L.push hf.lie hf.bel).keep (below_alloc wf (.cells #[.bool nf, .slice af zf.length cf, .int .i64 xf] 44))
  replace BX := BX.push hf.bel (.bool nf) (.slice af zf.length cf) (.int .i64 xf)
  replace HT := Hide.mk ((HT.out.below hf.bel (Nat.le_refl _)).below (below_alloc wf (.cells #[.bool nf, .slice af zf.length cf, .int .i64 xf] 44)) (Nat.le_refl _))
  replace HB := below_then (below_then HB hf.bel) (below_alloc wf (.cells #[.bool nf, .slice af zf.length cf, .int .i64 xf] 44))
  clear hf
  have ff0 := (BX.all (wf.heap.size, #[.bool nf, .slice af zf.length cf, .int .i64 xf]) (.head _)).c0
  have ff1 := (BX.all (wf.heap.size, #[.bool nf, .slice af zf.length cf, .int .i64 xf]) (.head _)).c1
  have ff2 := (BX.all (wf.heap.size, #[.bool nf, .slice af zf.length cf, .int .i64 xf]) (.head _)).c2
  have fA0 := (BX.all (w.heap.size, #[.bool n1, .slice a1 z1.length c1, .int .i64 e1]) (.tail _ (.head _))).c0
  have fA1 := (BX.all (w.heap.size, #[.bool n1, .slice a1 z1.length c1, .int .i64 e1]) (.tail _ (.head _))).c1
  have fA2 := (BX.all (w.heap.size, #[.bool n1, .slice a1 z1.length c1, .int .i64 e1]) (.tail _ (.head _))).c2
  go_wp2_with fail
  refine (dcmp55 nf n1 af a1 cf c1 zf z1 xf e1 _ (L.all (af, zf) (.head _)) (L.all (a1, z1) (.tail _ (.head _))) Nf NA HT.out 0 HS1.out).mono ?_
  rintro e w7 ⟨rfl, h7⟩
  clear ff0 ff1 ff2 fA0 fA1 fA2
  replace L := L.keep h7
  replace BX := BX.keep h7
  replace HT := Hide.mk (HT.out.below h7 (Nat.le_refl _))
  replace HB := below_then HB h7
  clear h7
  have hxf : 0 ≤ xf := Nf.whole.2 HM.out
  go_wp2_with fail
  have DF := (BX.all (wf.heap.size, #[.bool nf, .slice af zf.length cf, .int .i64 xf]) (.head _))
  have hlt : wf.heap.size < w7.heap.size := (Array.getElem?_eq_some_iff.1 DF.1).1
  have HI : Below w7.heap.size w7 w7.drew := (Below.refl _ _).drew
  replace L : Live w7.drew _ := L.keep (Below.refl _ _).drew
  replace HT : Hide (Tab w7.drew) := ⟨HT.out.below (Below.refl _ _).drew (Nat.le_refl _)⟩
  replace HB : Below w.heap.size w w7.drew := HB.drew
  replace BX : Boxes w7.drew _ := BX.keep (Below.refl _ _).drew
  refine Drawn.enter (fun W => Below w7.heap.size w7 W) (by kernel_rfl) ?_
  refine Drawn.take (i := 0) (v := dV nf af zf.length cf xf) rfl (by kernel_rfl) (by kernel_rfl) (by kernel_rfl) (fun _ _ _ h => h) rfl (fun W hW => ?_) HI ?_
  · have hc0 := below_cell2 hW hlt DF.c0
    have hc1 := below_cell2 hW hlt DF.c1
    have hc2 := below_cell2 hW hlt DF.c2
    go_simp
  refine Drawn.pair (i := 1) (j := 6) (by kernel_rfl) rfl rfl (fun K hK => ?_) (fun K hK => ?_)
  · go_simp
    refine (dint_one _ HT.out).mono ?_
    rintro e wi ⟨ni, zi, xi, ai, ci, rfl, hi1⟩
    have Ni := hi1.num
    have bi := hi1.bel
    replace L := L.push hi1.lie bi
    clear hi1
    replace HI := HI.trans (bi.mono HI.size)
    replace BX := BX.keep bi
    replace HT := Hide.mk (HT.out.below bi (Nat.le_refl _))
    replace HB := below_then HB bi
    clear bi
    refine hK _ _ HI ?_
    clear hK K
    refine Drawn.pair (i := 2) (j := 6) (by kernel_rfl) rfl rfl (fun K hK => ?_) (fun K hK => ?_)
    · go_simp
      refine (dadd_fit nf ni af ai cf ci zf zi xf xi _ (L.all (af, zf) (.tail _ (.head _))) (L.all (ai, zi) (.head _)) Nf Ni HT.out HD2.out HS.out.1 HS.out.2).mono ?_
      rintro e wm ⟨nm, zm, xm, am, cm, rfl, hm1⟩
      have Nm := hm1.num
      have bm := hm1.bel
      replace L := L.push hm1.lie bm
      clear hm1
      replace HI := HI.trans (bm.mono HI.size)
      replace BX := BX.keep bm
      replace HT := Hide.mk (HT.out.below bm (Nat.le_refl _))
      replace HB := below_then HB bm
      clear bm
      refine hK _ _ HI ?_
      clear hK K
      refine Drawn.take (i := 3) (v := .tuple #[dV nm am zm.length cm xm, .int .i64 0]) rfl (by kernel_rfl) (by kernel_rfl) (by kernel_rfl) (fun _ _ _ h => h) rfl (fun W hW => ?_) HI ?_
      · go_simp
      refine Drawn.take (i := 4) (v := dV nm am zm.length cm xm) rfl (by kernel_rfl) (by kernel_rfl) (by kernel_rfl) (fun _ _ _ h => h) rfl (fun W hW => ?_) HI ?_
      · go_simp
      refine Drawn.take (i := 5) (v := .int .i64 0) rfl (by kernel_rfl) (by kernel_rfl) (by kernel_rfl) (fun _ _ _ h => h) rfl (fun W hW => ?_) HI ?_
      · go_simp
      refine Drawn.one (j := 6) (by kernel_rfl) rfl (fun K hK => ?_)
      go_simp
      have ba := below_alloc wm (.cells #[.bool false, .slice none 0 0, .int .i64 0] 44)
      have HIa := HI.trans (ba.mono HI.size)
      refine hK _ _ HIa ?_
      clear hK K
      refine Drawn.one (j := 7) (by kernel_rfl) rfl (fun K hK => ?_)
      go_simp
      have bb := below_alloc wm (.cells #[.bool nm, .slice am zm.length cm, .int .i64 xm] 44)
      replace HI := HI.trans (bb.mono HI.size)
      refine hK _ _ HI ?_
      clear hK K ba HIa
      replace L := L.keep bb
      replace BX := BX.push (Below.refl _ _) (.bool nm) (.slice am zm.length cm) (.int .i64 xm)
      replace HT := Hide.mk (HT.out.below bb (Nat.le_refl _))
      replace HB := below_then HB bb
      clear bb
      refine Drawn.take (i := 8) (v := .int .i64 0) rfl (by kernel_rfl) (by kernel_rfl) (by kernel_rfl) (fun _ _ _ h => h) rfl (fun W hW => ?_) HI ?_
      · go_simp
      refine Drawn.done (by kernel_rfl) ?_
      have fm0 := (BX.all (wm.heap.size, #[.bool nm, .slice am zm.length cm, .int .i64 xm]) (.head _)).c0
      have fm1 := (BX.all (wm.heap.size, #[.bool nm, .slice am zm.length cm, .int .i64 xm]) (.head _)).c1
      have fm2 := (BX.all (wm.heap.size, #[.bool nm, .slice am zm.length cm, .int .i64 xm]) (.head _)).c2
      have fA0 := (BX.all (w.heap.size, #[.bool n1, .slice a1 z1.length c1, .int .i64 e1]) (.tail _ (.tail _ (.head _)))).c0
      have fA1 := (BX.all (w.heap.size, #[.bool n1, .slice a1 z1.length c1, .int .i64 e1]) (.tail _ (.tail _ (.head _)))).c1
      have fA2 := (BX.all (w.heap.size, #[.bool n1, .slice a1 z1.length c1, .int .i64 e1]) (.tail _ (.tail _ (.head _)))).c2
      go_wp2_with fail
      refine (dcmp55 nm n1 am a1 cm c1 zm z1 xm e1 _ (L.all (am, zm) (.head _)) (L.all (a1, z1) (.tail _ (.tail _ (.tail _ (.head _))))) Nm NA HT.out 1 HS2.out).mono ?_
      rintro e w8 ⟨rfl, h8⟩
      clear fm0 fm1 fm2 fA0 fA1 fA2
      replace L := L.keep h8
      replace BX := BX.keep h8
      replace HT := Hide.mk (HT.out.below h8 (Nat.le_refl _))
      replace HB := below_then HB h8
      clear h8
      have ff0 := (BX.all (wf.heap.size, #[.bool nf, .slice af zf.length cf, .int .i64 xf]) (.tail _ (.head _))).c0
      have ff1 := (BX.all (wf.heap.size, #[.bool nf, .slice af zf.length cf, .int .i64 xf]) (.tail _ (.head _))).c1
      have ff2 := (BX.all (wf.heap.size, #[.bool nf, .slice af zf.length cf, .int .i64 xf]) (.tail _ (.head _))).c2
      have fA0 := (BX.all (w.heap.size, #[.bool n1, .slice a1 z1.length c1, .int .i64 e1]) (.tail _ (.tail _ (.head _)))).c0
      have fA1 := (BX.all (w.heap.size, #[.bool n1, .slice a1 z1.length c1, .int .i64 e1]) (.tail _ (.tail _ (.head _)))).c1
      have fA2 := (BX.all (w.heap.size, #[.bool n1, .slice a1 z1.length c1, .int .i64 e1]) (.tail _ (.tail _ (.head _)))).c2
      go_wp2_with fail
      refine (dknown34 _ HT.out).mono ?_
      rintro e w9 ⟨rfl, h9⟩
      have hb9 := below_then HB h9
      clear h9 L BX HT HB ff0 ff1 ff2 fA0 fA1 fA2
      go_wp2
      go_ret
      exact ⟨rfl, hb9⟩
    · go_simp
      have ba := below_alloc wi (.cells #[.bool false, .slice none 0 0, .int .i64 0] 44)
      have HD : DCell (wi.alloc (.cells #[.bool false, .slice none 0 0, .int .i64 0] 44)) wi.heap.size #[.bool false, .slice none 0 0, .int .i64 0] := dcell_new _ _ _ _
      have hgl : wi.heap.size < (wi.alloc (.cells #[.bool false, .slice none 0 0, .int .i64 0] 44)).heap.size := by simp
      have hgw : w7.heap.size ≤ wi.heap.size := HI.size
      replace L := L.keep ba
      replace HI := HI.trans (ba.mono HI.size)
      replace BX := BX.keep ba
      replace HT := Hide.mk (HT.out.below ba (Nat.le_refl _))
      replace HB := below_then HB ba
      clear ba
      refine hK _ _ HI ?_
      clear hK K
      refine Drawn.one (j := 2) (by kernel_rfl) rfl (fun K hK => ?_)
      go_simp
      refine (dadd_fit nf ni af ai cf ci zf zi xf xi _ (L.all (af, zf) (.tail _ (.head _))) (L.all (ai, zi) (.head _)) Nf Ni HT.out HD2.out HS.out.1 HS.out.2).mono ?_
      rintro e wm ⟨nm, zm, xm, am, cm, rfl, hm1⟩
      have Nm := hm1.num
      have bm := hm1.bel
      replace L := L.push hm1.lie bm
      clear hm1
      replace HI := HI.trans (bm.mono HI.size)
      replace BX := BX.keep bm
      replace HT := Hide.mk (HT.out.below bm (Nat.le_refl _))
      replace HB := below_then HB bm
      replace HD := HD.below bm hgl
      replace hgl := Nat.lt_of_lt_of_le hgl bm.size
      clear bm
      refine hK _ _ HI ?_
      clear hK K
      refine Drawn.take (i := 3) (v := .tuple #[dV nm am zm.length cm xm, .int .i64 0]) rfl (by kernel_rfl) (by kernel_rfl) (by kernel_rfl) (fun _ _ _ h => h) rfl (fun W hW => ?_) HI ?_
      · go_simp
      refine Drawn.take (i := 4) (v := dV nm am zm.length cm xm) rfl (by kernel_rfl) (by kernel_rfl) (by kernel_rfl) (fun _ _ _ h => h) rfl (fun W hW => ?_) HI ?_
      · go_simp
      refine Drawn.take (i := 5) (v := .int .i64 0) rfl (by kernel_rfl) (by kernel_rfl) (by kernel_rfl) (fun _ _ _ h => h) rfl (fun W hW => ?_) HI ?_
      · go_simp
      have f0 := HD.c0
      have f1 := HD.c1
      have f2 := HD.c2
      have r0 := HD.fr 0
      have r1 := HD.fr 1
      have r2 := HD.fr 2
      refine Drawn.one (j := 7) (by kernel_rfl) rfl (fun K hK => ?_)
      go_simp
      have HBs := ((HB.setCell (p := ⟨wi.heap.size, 0, none⟩) (by show w.heap.size ≤ wi.heap.size; omega) (.bool nm)).setCell (p := ⟨wi.heap.size, 1, none⟩) (by show w.heap.size ≤ wi.heap.size; omega) (.slice am zm.length cm)).setCell (p := ⟨wi.heap.size, 2, none⟩) (by show w.heap.size ≤ wi.heap.size; omega) (.int .i64 xm)
      have HIs := ((HI.setCell (p := ⟨wi.heap.size, 0, none⟩) (by show w7.heap.size ≤ wi.heap.size; omega) (.bool nm)).setCell (p := ⟨wi.heap.size, 1, none⟩) (by show w7.heap.size ≤ wi.heap.size; omega) (.slice am zm.length cm)).setCell (p := ⟨wi.heap.size, 2, none⟩) (by show w7.heap.size ≤ wi.heap.size; omega) (.int .i64 xm)
      refine hK _ _ HIs ?_
      clear hK K f0 f1 f2 r0 r1 r2
      replace L := Live.set3 HD (.bool nm) (.slice am zm.length cm) (.int .i64 xm) L
      replace HT := Hide.mk (Tab.set3 HD (.bool nm) (.slice am zm.length cm) (.int .i64 xm) HT.out)
      replace BX := Boxes.set3 HD (.bool nm) (.slice am zm.length cm) (.int .i64 xm) BX (by
        intro p hp
        simp only [List.mem_cons, List.not_mem_nil, or_false] at hp
        rcases hp with rfl | rfl
        · show wf.heap.size ≠ wi.heap.size; omega
        · show w.heap.size ≠ wi.heap.size; omega)
      replace HB := HBs
      clear HBs
      refine Drawn.take (i := 8) (v := .int .i64 0) rfl (by kernel_rfl) (by kernel_rfl) (by kernel_rfl) (fun _ _ _ h => h) rfl (fun W hW => ?_) HIs ?_
      · go_simp
      refine Drawn.done (by kernel_rfl) ?_
      have fm0 := (BX.all (wi.heap.size, #[.bool nm, .slice am zm.length cm, .int .i64 xm]) (.head _)).c0
      have fm1 := (BX.all (wi.heap.size, #[.bool nm, .slice am zm.length cm, .int .i64 xm]) (.head _)).c1
      have fm2 := (BX.all (wi.heap.size, #[.bool nm, .slice am zm.length cm, .int .i64 xm]) (.head _)).c2
      have fA0 := (BX.all (w.heap.size, #[.bool n1, .slice a1 z1.length c1, .int .i64 e1]) (.tail _ (.tail _ (.head _)))).c0
      have fA1 := (BX.all (w.heap.size, #[.bool n1, .slice a1 z1.length c1, .int .i64 e1]) (.tail _ (.tail _ (.head _)))).c1
      have fA2 := (BX.all (w.heap.size, #[.bool n1, .slice a1 z1.length c1, .int .i64 e1]) (.tail _ (.tail _ (.head _)))).c2
      go_wp2_with fail
      refine (dcmp55 nm n1 am a1 cm c1 zm z1 xm e1 _ (L.all (am, zm) (.head _)) (L.all (a1, z1) (.tail _ (.tail _ (.tail _ (.head _))))) Nm NA HT.out 1 HS2.out).mono ?_
      rintro e w8 ⟨rfl, h8⟩
      clear fm0 fm1 fm2 fA0 fA1 fA2
      replace L := L.keep h8
      replace BX := BX.keep h8
      replace HT := Hide.mk (HT.out.below h8 (Nat.le_refl _))
      replace HB := below_then HB h8
      clear h8
      have ff0 := (BX.all (wf.heap.size, #[.bool nf, .slice af zf.length cf, .int .i64 xf]) (.tail _ (.head _))).c0
      have ff1 := (BX.all (wf.heap.size, #[.bool nf, .slice af zf.length cf, .int .i64 xf]) (.tail _ (.head _))).c1
      have ff2 := (BX.all (wf.heap.size, #[.bool nf, .slice af zf.length cf, .int .i64 xf]) (.tail _ (.head _))).c2
      have fA0 := (BX.all (w.heap.size, #[.bool n1, .slice a1 z1.length c1, .int .i64 e1]) (.tail _ (.tail _ (.head _)))).c0
      have fA1 := (BX.all (w.heap.size, #[.bool n1, .slice a1 z1.length c1, .int .i64 e1]) (.tail _ (.tail _ (.head _)))).c1
      have fA2 := (BX.all (w.heap.size, #[.bool n1, .slice a1 z1.length c1, .int .i64 e1]) (.tail _ (.tail _ (.head _)))).c2
      go_wp2_with fail
      refine (dknown34 _ HT.out).mono ?_
      rintro e w9 ⟨rfl, h9⟩
      have hb9 := below_then HB h9
      clear h9 L BX HT HB ff0 ff1 ff2 fA0 fA1 fA2
      go_wp2
      go_ret
      exact ⟨rfl, hb9⟩
  · go_simp
    have ba := below_alloc w7.drew (.cells #[.bool false, .slice none 0 0, .int .i64 0] 44)
    have HD : DCell (w7.drew.alloc (.cells #[.bool false, .slice none 0 0, .int .i64 0] 44)) w7.heap.size #[.bool false, .slice none 0 0, .int .i64 0] := dcell_new _ _ _ _
    have hgl : w7.heap.size < (w7.drew.alloc (.cells #[.bool false, .slice none 0 0, .int .i64 0] 44)).heap.size := by simp
    have hgw : w7.heap.size ≤ w7.heap.size := HI.size
    replace L := L.keep ba
    replace HI := HI.trans (ba.mono HI.size)
    replace BX := BX.keep ba
    replace HT := Hide.mk (HT.out.below ba (Nat.le_refl _))
    replace HB := below_then HB ba
    clear ba
    refine hK _ _ HI ?_
    clear hK K
    refine Drawn.one (j := 1) (by kernel_rfl) rfl (fun K hK => ?_)
    go_simp
    refine (dint_one _ HT.out).mono ?_
    rintro e wi ⟨ni, zi, xi, ai, ci, rfl, hi1⟩
    have Ni := hi1.num
    have bi := hi1.bel
    replace L := L.push hi1.lie bi
    clear hi1
    replace HI := HI.trans (bi.mono HI.size)
    replace BX := BX.keep bi
    replace HT := Hide.mk (HT.out.below bi (Nat.le_refl _))
    replace HB := below_then HB bi
    replace HD := HD.below bi hgl
    replace hgl := Nat.lt_of_lt_of_le hgl bi.size
    clear bi
    refine hK _ _ HI ?_
    clear hK K
    refine Drawn.one (j := 2) (by kernel_rfl) rfl (fun K hK => ?_)
    go_simp
    refine (dadd_fit nf ni af ai cf ci zf zi xf xi _ (L.all (af, zf) (.tail _ (.head _))) (L.all (ai, zi) (.head _)) Nf Ni HT.out HD2.out HS.out.1 HS.out.2).mono ?_
    rintro e wm ⟨nm, zm, xm, am, cm, rfl, hm1⟩
    have Nm := hm1.num
    have bm := hm1.bel
    replace L := L.push hm1.lie bm
    clear hm1
    replace HI := HI.trans (bm.mono HI.size)
    replace BX := BX.keep bm
    replace HT := Hide.mk (HT.out.below bm (Nat.le_refl _))
    replace HB := below_then HB bm
    replace HD := HD.below bm hgl
    replace hgl := Nat.lt_of_lt_of_le hgl bm.size
    clear bm
    refine hK _ _ HI ?_
    clear hK K
    refine Drawn.take (i := 3) (v := .tuple #[dV nm am zm.length cm xm, .int .i64 0]) rfl (by kernel_rfl) (by kernel_rfl) (by kernel_rfl) (fun _ _ _ h => h) rfl (fun W hW => ?_) HI ?_
    · go_simp
    refine Drawn.take (i := 4) (v := dV nm am zm.length cm xm) rfl (by kernel_rfl) (by kernel_rfl) (by kernel_rfl) (fun _ _ _ h => h) rfl (fun W hW => ?_) HI ?_
    · go_simp
    refine Drawn.take (i := 5) (v := .int .i64 0) rfl (by kernel_rfl) (by kernel_rfl) (by kernel_rfl) (fun _ _ _ h => h) rfl (fun W hW => ?_) HI ?_
    · go_simp
    have f0 := HD.c0
    have f1 := HD.c1
    have f2 := HD.c2
    have r0 := HD.fr 0
    have r1 := HD.fr 1
    have r2 := HD.fr 2
    refine Drawn.one (j := 7) (by kernel_rfl) rfl (fun K hK => ?_)
    go_simp
    have HBs := ((HB.setCell (p := ⟨w7.heap.size, 0, none⟩) (by show w.heap.size ≤ w7.heap.size; omega) (.bool nm)).setCell (p := ⟨w7.heap.size, 1, none⟩) (by show w.heap.size ≤ w7.heap.size; omega) (.slice am zm.length cm)).setCell (p := ⟨w7.heap.size, 2, none⟩) (by show w.heap.size ≤ w7.heap.size; omega) (.int .i64 xm)
    have HIs := ((HI.setCell (p := ⟨w7.heap.size, 0, none⟩) (by show w7.heap.size ≤ w7.heap.size; omega) (.bool nm)).setCell (p := ⟨w7.heap.size, 1, none⟩) (by show w7.heap.size ≤ w7.heap.size; omega) (.slice am zm.length cm)).setCell (p := ⟨w7.heap.size, 2, none⟩) (by show w7.heap.size ≤ w7.heap.size; omega) (.int .i64 xm)
    refine hK _ _ HIs ?_
    clear hK K f0 f1 f2 r0 r1 r2
    replace L := Live.set3 HD (.bool nm) (.slice am zm.length cm) (.int .i64 xm) L
    replace HT := Hide.mk (Tab.set3 HD (.bool nm) (.slice am zm.length cm) (.int .i64 xm) HT.out)
    replace BX := Boxes.set3 HD (.bool nm) (.slice am zm.length cm) (.int .i64 xm) BX (by
      intro p hp
      simp only [List.mem_cons, List.not_mem_nil, or_false] at hp
      rcases hp with rfl | rfl
      · show wf.heap.size ≠ w7.heap.size; omega
      · show w.heap.size ≠ w7.heap.size; omega)
    replace HB := HBs
    clear HBs
    refine Drawn.take (i := 8) (v := .int .i64 0) rfl (by kernel_rfl) (by kernel_rfl) (by kernel_rfl) (fun _ _ _ h => h) rfl (fun W hW => ?_) HIs ?_
    · go_simp
    refine Drawn.done (by kernel_rfl) ?_
    have fm0 := (BX.all (w7.heap.size, #[.bool nm, .slice am zm.length cm, .int .i64 xm]) (.head _)).c0
    have fm1 := (BX.all (w7.heap.size, #[.bool nm, .slice am zm.length cm, .int .i64 xm]) (.head _)).c1
    have fm2 := (BX.all (w7.heap.size, #[.bool nm, .slice am zm.length cm, .int .i64 xm]) (.head _)).c2
    have fA0 := (BX.all (w.heap.size, #[.bool n1, .slice a1 z1.length c1, .int .i64 e1]) (.tail _ (.tail _ (.head _)))).c0
    have fA1 := (BX.all (w.heap.size, #[.bool n1, .slice a1 z1.length c1, .int .i64 e1]) (.tail _ (.tail _ (.head _)))).c1
    have fA2 := (BX.all (w.heap.size, #[.bool n1, .slice a1 z1.length c1, .int .i64 e1]) (.tail _ (.tail _ (.head _)))).c2
    go_wp2_with fail
    refine (dcmp55 nm n1 am a1 cm c1 zm z1 xm e1 _ (L.all (am, zm) (.head _)) (L.all (a1, z1) (.tail _ (.tail _ (.tail _ (.head _))))) Nm NA HT.out 1 HS2.out).mono ?_
    rintro e w8 ⟨rfl, h8⟩
    clear fm0 fm1 fm2 fA0 fA1 fA2
    replace L := L.keep h8
    replace BX := BX.keep h8
    replace HT := Hide.mk (HT.out.below h8 (Nat.le_refl _))
    replace HB := below_then HB h8
    clear h8
    have ff0 := (BX.all (wf.heap.size, #[.bool nf, .slice af zf.length cf, .int .i64 xf]) (.tail _ (.head _))).c0
    have ff1 := (BX.all (wf.heap.size, #[.bool nf, .slice af zf.length cf, .int .i64 xf]) (.tail _ (.head _))).c1
    have ff2 := (BX.all (wf.heap.size, #[.bool nf, .slice af zf.length cf, .int .i64 xf]) (.tail _ (.head _))).c2
    have fA0 := (BX.all (w.heap.size, #[.bool n1, .slice a1 z1.length c1, .int .i64 e1]) (.tail _ (.tail _ (.head _)))).c0
    have fA1 := (BX.all (w.heap.size, #[.bool n1, .slice a1 z1.length c1, .int .i64 e1]) (.tail _ (.tail _ (.head _)))).c1
    have fA2 := (BX.all (w.heap.size, #[.bool n1, .slice a1 z1.length c1, .int .i64 e1]) (.tail _ (.tail _ (.head _)))).c2
    go_wp2_with fail
    refine (dknown34 _ HT.out).mono ?_
    rintro e w9 ⟨rfl, h9⟩
    have hb9 := below_then HB h9
    clear h9 L BX HT HB ff0 ff1 ff2 fA0 fA1 fA2
    go_wp2
    go_ret
    exact ⟨rfl, hb9⟩
set_option maxHeartbeats 8000000 in
theorem dfloors_p (n1 : Bool) (a1 : Option Addr) (c1 : Nat) (z1 : List Int) (e1 : Int) (w : World) (u1 : DLie w a1 z1) (hT : Tab w) (hq : List.all [⟨n1, a1, c1, z1, e1⟩] nearB = true) (hw : e1 < 0) :
    Calls Tryd.prog 15 #[dV n1 a1 z1.length c1 e1] w fun e w' => e = .returned (.bool true) ∧ Below w.heap.size w w' := by
  have hdc : decide (0 ≤ e1) = false := decide_eq_false (by omega)
  have hq1 : nearB ⟨n1, a1, c1, z1, e1⟩ = true := by simpa using hq
  obtain ⟨NA, DA⟩ := near_db u1.rng hq1
  simp only at NA DA
  generalize dv n1 z1 e1 = vA at *
  clear hq1
  have hK := KK_eq
  obtain ⟨lo, hlo⟩ : ∃ lo, lo = KK - 3000 := ⟨_, rfl⟩
  obtain ⟨hi, hhi⟩ : ∃ hi, hi = KK + 6201 := ⟨_, rfl⟩
  rw [← hlo, ← hhi] at DA
  obtain ⟨f, hf⟩ : ∃ f, f = vA / 2 ^ KK * 2 ^ KK := ⟨_, rfl⟩
  have HF := Hide.mk hf
  obtain ⟨m1, m2, m3, m4, m5⟩ := floor_facts hf
  have D1 := floor_db DA hf (by omega) (by omega)
  have D2 : DB lo (hi + 1) (2 ^ KK) := by
    have h1 := p2pos KK
    have h2 := p2mono (show KK + 1 ≤ hi + 1 by omega)
    rw [p2succ] at h2
    obtain ⟨j, hj⟩ : ∃ j, KK = lo + j := ⟨KK - lo, by omega⟩
    exact ⟨by rw [hj, Int.pow_add]; exact Int.mul_emod_right _ _, by omega, by omega⟩
  have HD1 := Hide.mk D1
  have HD2 := Hide.mk (D1.add D2)
  have HS : Hide (hi + 2 ≤ lo + 131072 ∧ hi + 2 ≤ 2 * KK) := ⟨by omega⟩
  have hs1 : sgn f vA = -1 := by have := m5 (fun c => by have := NA.whole.2 c; omega); unfold sgn; rw [if_pos this]
  have hs2 : sgn (f + 2 ^ KK) vA = 1 := by unfold sgn; rw [if_neg (by omega), if_pos (by omega)]
  have HS1 := Hide.mk hs1
  have HS2 := Hide.mk hs2
  have HM := Hide.mk m3
  clear hs1 hs2 m1 m2 m3 m4 m5 D1 D2 DA hlo hhi hK hf
  have hb1 := below_alloc w (.cells #[.bool n1, .slice a1 z1.length c1, .int .i64 e1] 44)
  have d1 := dcell_new w (.bool n1) (.slice a1 z1.length c1) (.int .i64 e1)
  have hs1 : (w.alloc (.cells #[.bool n1, .slice a1 z1.length c1, .int .i64 e1] 44)).heap.size = w.heap.size + 1 := by simp
  go_enter Tryd.func15, Tryd.ntmps15
  go_wp2_with fail
  generalize hw1 : w.alloc (.cells #[.bool n1, .slice a1 z1.length c1, .int .i64 e1] 44) = w1 at *
  clear hw1
  have hr := arow1 w1 (w.heap.size + 1) hs1 ⟨n1, a1, c1, z1, e1⟩ (u1.below hb1)
  have HR := Hide.mk (near75 _ _ _ hr (by simp))
  have hb4 := below_alloc w1 (.cells #[.bool n1, .slice a1 z1.length c1, .int .i64 e1] 44)
  clear hr
  rw [hq] at HR
  refine HR.out.mono ?_
  rintro e w4 ⟨rfl, h4⟩
  clear HR
  have hb5 := below_then hb4 h4
  have HB : Below w.heap.size w w4 := below_then hb1 hb5
  have BX : Boxes w4 [(w.heap.size, #[.bool n1, .slice a1 z1.length c1, .int .i64 e1])] := ⟨by
    intro p hp
    obtain rfl := List.mem_singleton.1 hp
    exact d1.below hb5 (by show w.heap.size < w1.heap.size; omega)⟩
  have L : Live w4 [(a1, z1)] := ⟨by simp [(u1.below HB).lie]⟩
  have HT := Hide.mk (hT.below HB (Nat.le_refl _))
  clear d1 hs1 hb1 hb4 hb5 h4 u1 hT
  have fA0 := (BX.all (w.heap.size, #[.bool n1, .slice a1 z1.length c1, .int .i64 e1]) (.head _)).c0
  have fA1 := (BX.all (w.heap.size, #[.bool n1, .slice a1 z1.length c1, .int .i64 e1]) (.head _)).c1
  have fA2 := (BX.all (w.heap.size, #[.bool n1, .slice a1 z1.length c1, .int .i64 e1]) (.head _)).c2
  go_wp2_with fail
  refine (dfloor_fit n1 a1 c1 z1 e1 _ (L.all (a1, z1) (.head _)) NA HT.out HF.out HD1.out (by have := HS.out.1; omega) (by have := HS.out.2; omega)).mono ?_
  rintro e wf ⟨nf, zf, xf, af, cf, rfl, hf⟩
  clear fA0 fA1 fA2
  have hwf : w.heap.size < wf.heap.size := Nat.lt_of_lt_of_le (Array.getElem?_eq_some_iff.1 (BX.all (w.heap.size, #[.bool n1, .slice a1 z1.length c1, .int .i64 e1]) (.head _)).1).1 hf.bel.size
  have Nf := hf.num
  replace L := (L.push hf.lie hf.bel).keep (below_alloc wf (.cells #[.bool nf, .slice af zf.length cf, .int .i64 xf] 44))
  replace BX := BX.push hf.bel (.bool nf) (.slice af zf.length cf) (.int .i64 xf)
  replace HT := Hide.mk ((HT.out.below hf.bel (Nat.le_refl _)).below (below_alloc wf (.cells #[.bool nf, .slice af zf.length cf, .int .i64 xf] 44)) (Nat.le_refl _))
  replace HB := below_then (below_then HB hf.bel) (below_alloc wf (.cells #[.bool nf, .slice af zf.length cf, .int .i64 xf] 44))
  clear hf
  have ff0 := (BX.all (wf.heap.size, #[.bool nf, .slice af zf.length cf, .int .i64 xf]) (.head _)).c0
  have ff1 := (BX.all (wf.heap.size, #[.bool nf, .slice af zf.length cf, .int .i64 xf]) (.head _)).c1
  have ff2 := (BX.all (wf.heap.size, #[.bool nf, .slice af zf.length cf, .int .i64 xf]) (.head _)).c2
  have fA0 := (BX.all (w.heap.size, #[.bool n1, .slice a1 z1.length c1, .int .i64 e1]) (.tail _ (.head _))).c0
  have fA1 := (BX.all (w.heap.size, #[.bool n1, .slice a1 z1.length c1, .int .i64 e1]) (.tail _ (.head _))).c1
  have fA2 := (BX.all (w.heap.size, #[.bool n1, .slice a1 z1.length c1, .int .i64 e1]) (.tail _ (.head _))).c2
  go_wp2_with fail
  refine (dcmp55 nf n1 af a1 cf c1 zf z1 xf e1 _ (L.all (af, zf) (.head _)) (L.all (a1, z1) (.tail _ (.head _))) Nf NA HT.out (-1) HS1.out).mono ?_
  rintro e w7 ⟨rfl, h7⟩
  clear ff0 ff1 ff2 fA0 fA1 fA2
  replace L := L.keep h7
  replace BX := BX.keep h7
  replace HT := Hide.mk (HT.out.below h7 (Nat.le_refl _))
  replace HB := below_then HB h7
  clear h7
  have hxf : 0 ≤ xf := Nf.whole.2 HM.out
  go_wp2_with fail
  have DF := (BX.all (wf.heap.size, #[.bool nf, .slice af zf.length cf, .int .i64 xf]) (.head _))
  have hlt : wf.heap.size < w7.heap.size := (Array.getElem?_eq_some_iff.1 DF.1).1
  have HI : Below w7.heap.size w7 w7.drew := (Below.refl _ _).drew
  replace L : Live w7.drew _ := L.keep (Below.refl _ _).drew
  replace HT : Hide (Tab w7.drew) := ⟨HT.out.below (Below.refl _ _).drew (Nat.le_refl _)⟩
  replace HB : Below w.heap.size w w7.drew := HB.drew
  replace BX : Boxes w7.drew _ := BX.keep (Below.refl _ _).drew
  refine Drawn.enter (fun W => Below w7.heap.size w7 W) (by kernel_rfl) ?_
  refine Drawn.take (i := 0) (v := dV nf af zf.length cf xf) rfl (by kernel_rfl) (by kernel_rfl) (by kernel_rfl) (fun _ _ _ h => h) rfl (fun W hW => ?_) HI ?_
  · have hc0 := below_cell2 hW hlt DF.c0
    have hc1 := below_cell2 hW hlt DF.c1
    have hc2 := below_cell2 hW hlt DF.c2
    go_simp
  refine Drawn.pair (i := 1) (j := 6) (by kernel_rfl) rfl rfl (fun K hK => ?_) (fun K hK => ?_)
  · go_simp
    refine (dint_one _ HT.out).mono ?_
    rintro e wi ⟨ni, zi, xi, ai, ci, rfl, hi1⟩
    have Ni := hi1.num
    have bi := hi1.bel
    replace L := L.push hi1.lie bi
    clear hi1
    replace HI := HI.trans (bi.mono HI.size)
    replace BX := BX.keep bi
    replace HT := Hide.mk (HT.out.below bi (Nat.le_refl _))
    replace HB := below_then HB bi
    clear bi
    refine hK _ _ HI ?_
    clear hK K
    refine Drawn.pair (i := 2) (j := 6) (by kernel_rfl) rfl rfl (fun K hK => ?_) (fun K hK => ?_)
    · go_simp
      refine (dadd_fit nf ni af ai cf ci zf zi xf xi _ (L.all (af, zf) (.tail _ (.head _))) (L.all (ai, zi) (.head _)) Nf Ni HT.out HD2.out HS.out.1 HS.out.2).mono ?_
      rintro e wm ⟨nm, zm, xm, am, cm, rfl, hm1⟩
      have Nm := hm1.num
      have bm := hm1.bel
      replace L := L.push hm1.lie bm
      clear hm1
      replace HI := HI.trans (bm.mono HI.size)
      replace BX := BX.keep bm
      replace HT := Hide.mk (HT.out.below bm (Nat.le_refl _))
      replace HB := below_then HB bm
      clear bm
      refine hK _ _ HI ?_
      clear hK K
      refine Drawn.take (i := 3) (v := .tuple #[dV nm am zm.length cm xm, .int .i64 0]) rfl (by kernel_rfl) (by kernel_rfl) (by kernel_rfl) (fun _ _ _ h => h) rfl (fun W hW => ?_) HI ?_
      · go_simp
      refine Drawn.take (i := 4) (v := dV nm am zm.length cm xm) rfl (by kernel_rfl) (by kernel_rfl) (by kernel_rfl) (fun _ _ _ h => h) rfl (fun W hW => ?_) HI ?_
      · go_simp
      refine Drawn.take (i := 5) (v := .int .i64 0) rfl (by kernel_rfl) (by kernel_rfl) (by kernel_rfl) (fun _ _ _ h => h) rfl (fun W hW => ?_) HI ?_
      · go_simp
      refine Drawn.one (j := 6) (by kernel_rfl) rfl (fun K hK => ?_)
      go_simp
      have ba := below_alloc wm (.cells #[.bool false, .slice none 0 0, .int .i64 0] 44)
      have HIa := HI.trans (ba.mono HI.size)
      refine hK _ _ HIa ?_
      clear hK K
      refine Drawn.one (j := 7) (by kernel_rfl) rfl (fun K hK => ?_)
      go_simp
      have bb := below_alloc wm (.cells #[.bool nm, .slice am zm.length cm, .int .i64 xm] 44)
      replace HI := HI.trans (bb.mono HI.size)
      refine hK _ _ HI ?_
      clear hK K ba HIa
      replace L := L.keep bb
      replace BX := BX.push (Below.refl _ _) (.bool nm) (.slice am zm.length cm) (.int .i64 xm)
      replace HT := Hide.mk (HT.out.below bb (Nat.le_refl _))
      replace HB := below_then HB bb
      clear bb
      refine Drawn.take (i := 8) (v := .int .i64 0) rfl (by kernel_rfl) (by kernel_rfl) (by kernel_rfl) (fun _ _ _ h => h) rfl (fun W hW => ?_) HI ?_
      · go_simp
      refine Drawn.done (by kernel_rfl) ?_
      have fm0 := (BX.all (wm.heap.size, #[.bool nm, .slice am zm.length cm, .int .i64 xm]) (.head _)).c0
      have fm1 := (BX.all (wm.heap.size, #[.bool nm, .slice am zm.length cm, .int .i64 xm]) (.head _)).c1
      have fm2 := (BX.all (wm.heap.size, #[.bool nm, .slice am zm.length cm, .int .i64 xm]) (.head _)).c2
      have fA0 := (BX.all (w.heap.size, #[.bool n1, .slice a1 z1.length c1, .int .i64 e1]) (.tail _ (.tail _ (.head _)))).c0
      have fA1 := (BX.all (w.heap.size, #[.bool n1, .slice a1 z1.length c1, .int .i64 e1]) (.tail _ (.tail _ (.head _)))).c1
      have fA2 := (BX.all (w.heap.size, #[.bool n1, .slice a1 z1.length c1, .int .i64 e1]) (.tail _ (.tail _ (.head _)))).c2
      go_wp2_with fail
      refine (dcmp55 nm n1 am a1 cm c1 zm z1 xm e1 _ (L.all (am, zm) (.head _)) (L.all (a1, z1) (.tail _ (.tail _ (.tail _ (.head _))))) Nm NA HT.out 1 HS2.out).mono ?_
      rintro e w8 ⟨rfl, h8⟩
      clear fm0 fm1 fm2 fA0 fA1 fA2
      replace L := L.keep h8
      replace BX := BX.keep h8
      replace HT := Hide.mk (HT.out.below h8 (Nat.le_refl _))
      replace HB := below_then HB h8
      clear h8
      have ff0 := (BX.all (wf.heap.size, #[.bool nf, .slice af zf.length cf, .int .i64 xf]) (.tail _ (.head _))).c0
      have ff1 := (BX.all (wf.heap.size, #[.bool nf, .slice af zf.length cf, .int .i64 xf]) (.tail _ (.head _))).c1
      have ff2 := (BX.all (wf.heap.size, #[.bool nf, .slice af zf.length cf, .int .i64 xf]) (.tail _ (.head _))).c2
      have fA0 := (BX.all (w.heap.size, #[.bool n1, .slice a1 z1.length c1, .int .i64 e1]) (.tail _ (.tail _ (.head _)))).c0
      have fA1 := (BX.all (w.heap.size, #[.bool n1, .slice a1 z1.length c1, .int .i64 e1]) (.tail _ (.tail _ (.head _)))).c1
      have fA2 := (BX.all (w.heap.size, #[.bool n1, .slice a1 z1.length c1, .int .i64 e1]) (.tail _ (.tail _ (.head _)))).c2
      go_wp2_with fail
      refine (dknown34 _ HT.out).mono ?_
      rintro e w9 ⟨rfl, h9⟩
      have hb9 := below_then HB h9
      clear h9 L BX HT HB ff0 ff1 ff2 fA0 fA1 fA2
      go_wp2
      go_ret
      exact ⟨by simp, hb9⟩
    · go_simp
      have ba := below_alloc wi (.cells #[.bool false, .slice none 0 0, .int .i64 0] 44)
      have HD : DCell (wi.alloc (.cells #[.bool false, .slice none 0 0, .int .i64 0] 44)) wi.heap.size #[.bool false, .slice none 0 0, .int .i64 0] := dcell_new _ _ _ _
      have hgl : wi.heap.size < (wi.alloc (.cells #[.bool false, .slice none 0 0, .int .i64 0] 44)).heap.size := by simp
      have hgw : w7.heap.size ≤ wi.heap.size := HI.size
      replace L := L.keep ba
      replace HI := HI.trans (ba.mono HI.size)
      replace BX := BX.keep ba
      replace HT := Hide.mk (HT.out.below ba (Nat.le_refl _))
      replace HB := below_then HB ba
      clear ba
      refine hK _ _ HI ?_
      clear hK K
      refine Drawn.one (j := 2) (by kernel_rfl) rfl (fun K hK => ?_)
      go_simp
      refine (dadd_fit nf ni af ai cf ci zf zi xf xi _ (L.all (af, zf) (.tail _ (.head _))) (L.all (ai, zi) (.head _)) Nf Ni HT.out HD2.out HS.out.1 HS.out.2).mono ?_
      rintro e wm ⟨nm, zm, xm, am, cm, rfl, hm1⟩
      have Nm := hm1.num
      have bm := hm1.bel
      replace L := L.push hm1.lie bm
      clear hm1
      replace HI := HI.trans (bm.mono HI.size)
      replace BX := BX.keep bm
      replace HT := Hide.mk (HT.out.below bm (Nat.le_refl _))
      replace HB := below_then HB bm
      replace HD := HD.below bm hgl
      replace hgl := Nat.lt_of_lt_of_le hgl bm.size
      clear bm
      refine hK _ _ HI ?_
      clear hK K
      refine Drawn.take (i := 3) (v := .tuple #[dV nm am zm.length cm xm, .int .i64 0]) rfl (by kernel_rfl) (by kernel_rfl) (by kernel_rfl) (fun _ _ _ h => h) rfl (fun W hW => ?_) HI ?_
      · go_simp
      refine Drawn.take (i := 4) (v := dV nm am zm.length cm xm) rfl (by kernel_rfl) (by kernel_rfl) (by kernel_rfl) (fun _ _ _ h => h) rfl (fun W hW => ?_) HI ?_
      · go_simp
      refine Drawn.take (i := 5) (v := .int .i64 0) rfl (by kernel_rfl) (by kernel_rfl) (by kernel_rfl) (fun _ _ _ h => h) rfl (fun W hW => ?_) HI ?_
      · go_simp
      have f0 := HD.c0
      have f1 := HD.c1
      have f2 := HD.c2
      have r0 := HD.fr 0
      have r1 := HD.fr 1
      have r2 := HD.fr 2
      refine Drawn.one (j := 7) (by kernel_rfl) rfl (fun K hK => ?_)
      go_simp
      have HBs := ((HB.setCell (p := ⟨wi.heap.size, 0, none⟩) (by show w.heap.size ≤ wi.heap.size; omega) (.bool nm)).setCell (p := ⟨wi.heap.size, 1, none⟩) (by show w.heap.size ≤ wi.heap.size; omega) (.slice am zm.length cm)).setCell (p := ⟨wi.heap.size, 2, none⟩) (by show w.heap.size ≤ wi.heap.size; omega) (.int .i64 xm)
      have HIs := ((HI.setCell (p := ⟨wi.heap.size, 0, none⟩) (by show w7.heap.size ≤ wi.heap.size; omega) (.bool nm)).setCell (p := ⟨wi.heap.size, 1, none⟩) (by show w7.heap.size ≤ wi.heap.size; omega) (.slice am zm.length cm)).setCell (p := ⟨wi.heap.size, 2, none⟩) (by show w7.heap.size ≤ wi.heap.size; omega) (.int .i64 xm)
      refine hK _ _ HIs ?_
      clear hK K f0 f1 f2 r0 r1 r2
      replace L := Live.set3 HD (.bool nm) (.slice am zm.length cm) (.int .i64 xm) L
      replace HT := Hide.mk (Tab.set3 HD (.bool nm) (.slice am zm.length cm) (.int .i64 xm) HT.out)
      replace BX := Boxes.set3 HD (.bool nm) (.slice am zm.length cm) (.int .i64 xm) BX (by
        intro p hp
        simp only [List.mem_cons, List.not_mem_nil, or_false] at hp
        rcases hp with rfl | rfl
        · show wf.heap.size ≠ wi.heap.size; omega
        · show w.heap.size ≠ wi.heap.size; omega)
      replace HB := HBs
      clear HBs
      refine Drawn.take (i := 8) (v := .int .i64 0) rfl (by kernel_rfl) (by kernel_rfl) (by kernel_rfl) (fun _ _ _ h => h) rfl (fun W hW => ?_) HIs ?_
      · go_simp
      refine Drawn.done (by kernel_rfl) ?_
      have fm0 := (BX.all (wi.heap.size, #[.bool nm, .slice am zm.length cm, .int .i64 xm]) (.head _)).c0
      have fm1 := (BX.all (wi.heap.size, #[.bool nm, .slice am zm.length cm, .int .i64 xm]) (.head _)).c1
      have fm2 := (BX.all (wi.heap.size, #[.bool nm, .slice am zm.length cm, .int .i64 xm]) (.head _)).c2
      have fA0 := (BX.all (w.heap.size, #[.bool n1, .slice a1 z1.length c1, .int .i64 e1]) (.tail _ (.tail _ (.head _)))).c0
      have fA1 := (BX.all (w.heap.size, #[.bool n1, .slice a1 z1.length c1, .int .i64 e1]) (.tail _ (.tail _ (.head _)))).c1
      have fA2 := (BX.all (w.heap.size, #[.bool n1, .slice a1 z1.length c1, .int .i64 e1]) (.tail _ (.tail _ (.head _)))).c2
      go_wp2_with fail
      refine (dcmp55 nm n1 am a1 cm c1 zm z1 xm e1 _ (L.all (am, zm) (.head _)) (L.all (a1, z1) (.tail _ (.tail _ (.tail _ (.head _))))) Nm NA HT.out 1 HS2.out).mono ?_
      rintro e w8 ⟨rfl, h8⟩
      clear fm0 fm1 fm2 fA0 fA1 fA2
      replace L := L.keep h8
      replace BX := BX.keep h8
      replace HT := Hide.mk (HT.out.below h8 (Nat.le_refl _))
      replace HB := below_then HB h8
      clear h8
      have ff0 := (BX.all (wf.heap.size, #[.bool nf, .slice af zf.length cf, .int .i64 xf]) (.tail _ (.head _))).c0
      have ff1 := (BX.all (wf.heap.size, #[.bool nf, .slice af zf.length cf, .int .i64 xf]) (.tail _ (.head _))).c1
      have ff2 := (BX.all (wf.heap.size, #[.bool nf, .slice af zf.length cf, .int .i64 xf]) (.tail _ (.head _))).c2
      have fA0 := (BX.all (w.heap.size, #[.bool n1, .slice a1 z1.length c1, .int .i64 e1]) (.tail _ (.tail _ (.head _)))).c0
      have fA1 := (BX.all (w.heap.size, #[.bool n1, .slice a1 z1.length c1, .int .i64 e1]) (.tail _ (.tail _ (.head _)))).c1
      have fA2 := (BX.all (w.heap.size, #[.bool n1, .slice a1 z1.length c1, .int .i64 e1]) (.tail _ (.tail _ (.head _)))).c2
      go_wp2_with fail
      refine (dknown34 _ HT.out).mono ?_
      rintro e w9 ⟨rfl, h9⟩
      have hb9 := below_then HB h9
      clear h9 L BX HT HB ff0 ff1 ff2 fA0 fA1 fA2
      go_wp2
      go_ret
      exact ⟨by simp, hb9⟩
  · go_simp
    have ba := below_alloc w7.drew (.cells #[.bool false, .slice none 0 0, .int .i64 0] 44)
    have HD : DCell (w7.drew.alloc (.cells #[.bool false, .slice none 0 0, .int .i64 0] 44)) w7.heap.size #[.bool false, .slice none 0 0, .int .i64 0] := dcell_new _ _ _ _
    have hgl : w7.heap.size < (w7.drew.alloc (.cells #[.bool false, .slice none 0 0, .int .i64 0] 44)).heap.size := by simp
    have hgw : w7.heap.size ≤ w7.heap.size := HI.size
    replace L := L.keep ba
    replace HI := HI.trans (ba.mono HI.size)
    replace BX := BX.keep ba
    replace HT := Hide.mk (HT.out.below ba (Nat.le_refl _))
    replace HB := below_then HB ba
    clear ba
    refine hK _ _ HI ?_
    clear hK K
    refine Drawn.one (j := 1) (by kernel_rfl) rfl (fun K hK => ?_)
    go_simp
    refine (dint_one _ HT.out).mono ?_
    rintro e wi ⟨ni, zi, xi, ai, ci, rfl, hi1⟩
    have Ni := hi1.num
    have bi := hi1.bel
    replace L := L.push hi1.lie bi
    clear hi1
    replace HI := HI.trans (bi.mono HI.size)
    replace BX := BX.keep bi
    replace HT := Hide.mk (HT.out.below bi (Nat.le_refl _))
    replace HB := below_then HB bi
    replace HD := HD.below bi hgl
    replace hgl := Nat.lt_of_lt_of_le hgl bi.size
    clear bi
    refine hK _ _ HI ?_
    clear hK K
    refine Drawn.one (j := 2) (by kernel_rfl) rfl (fun K hK => ?_)
    go_simp
    refine (dadd_fit nf ni af ai cf ci zf zi xf xi _ (L.all (af, zf) (.tail _ (.head _))) (L.all (ai, zi) (.head _)) Nf Ni HT.out HD2.out HS.out.1 HS.out.2).mono ?_
    rintro e wm ⟨nm, zm, xm, am, cm, rfl, hm1⟩
    have Nm := hm1.num
    have bm := hm1.bel
    replace L := L.push hm1.lie bm
    clear hm1
    replace HI := HI.trans (bm.mono HI.size)
    replace BX := BX.keep bm
    replace HT := Hide.mk (HT.out.below bm (Nat.le_refl _))
    replace HB := below_then HB bm
    replace HD := HD.below bm hgl
    replace hgl := Nat.lt_of_lt_of_le hgl bm.size
    clear bm
    refine hK _ _ HI ?_
    clear hK K
    refine Drawn.take (i := 3) (v := .tuple #[dV nm am zm.length cm xm, .int .i64 0]) rfl (by kernel_rfl) (by kernel_rfl) (by kernel_rfl) (fun _ _ _ h => h) rfl (fun W hW => ?_) HI ?_
    · go_simp
    refine Drawn.take (i := 4) (v := dV nm am zm.length cm xm) rfl (by kernel_rfl) (by kernel_rfl) (by kernel_rfl) (fun _ _ _ h => h) rfl (fun W hW => ?_) HI ?_
    · go_simp
    refine Drawn.take (i := 5) (v := .int .i64 0) rfl (by kernel_rfl) (by kernel_rfl) (by kernel_rfl) (fun _ _ _ h => h) rfl (fun W hW => ?_) HI ?_
    · go_simp
    have f0 := HD.c0
    have f1 := HD.c1
    have f2 := HD.c2
    have r0 := HD.fr 0
    have r1 := HD.fr 1
    have r2 := HD.fr 2
    refine Drawn.one (j := 7) (by kernel_rfl) rfl (fun K hK => ?_)
    go_simp
    have HBs := ((HB.setCell (p := ⟨w7.heap.size, 0, none⟩) (by show w.heap.size ≤ w7.heap.size; omega) (.bool nm)).setCell (p := ⟨w7.heap.size, 1, none⟩) (by show w.heap.size ≤ w7.heap.size; omega) (.slice am zm.length cm)).setCell (p := ⟨w7.heap.size, 2, none⟩) (by show w.heap.size ≤ w7.heap.size; omega) (.int .i64 xm)
    have HIs := ((HI.setCell (p := ⟨w7.heap.size, 0, none⟩) (by show w7.heap.size ≤ w7.heap.size; omega) (.bool nm)).setCell (p := ⟨w7.heap.size, 1, none⟩) (by show w7.heap.size ≤ w7.heap.size; omega) (.slice am zm.length cm)).setCell (p := ⟨w7.heap.size, 2, none⟩) (by show w7.heap.size ≤ w7.heap.size; omega) (.int .i64 xm)
    refine hK _ _ HIs ?_
    clear hK K f0 f1 f2 r0 r1 r2
    replace L := Live.set3 HD (.bool nm) (.slice am zm.length cm) (.int .i64 xm) L
    replace HT := Hide.mk (Tab.set3 HD (.bool nm) (.slice am zm.length cm) (.int .i64 xm) HT.out)
    replace BX := Boxes.set3 HD (.bool nm) (.slice am zm.length cm) (.int .i64 xm) BX (by
      intro p hp
      simp only [List.mem_cons, List.not_mem_nil, or_false] at hp
      rcases hp with rfl | rfl
      · show wf.heap.size ≠ w7.heap.size; omega
      · show w.heap.size ≠ w7.heap.size; omega)
    replace HB := HBs
    clear HBs
    refine Drawn.take (i := 8) (v := .int .i64 0) rfl (by kernel_rfl) (by kernel_rfl) (by kernel_rfl) (fun _ _ _ h => h) rfl (fun W hW => ?_) HIs ?_
    · go_simp
    refine Drawn.done (by kernel_rfl) ?_
    have fm0 := (BX.all (w7.heap.size, #[.bool nm, .slice am zm.length cm, .int .i64 xm]) (.head _)).c0
    have fm1 := (BX.all (w7.heap.size, #[.bool nm, .slice am zm.length cm, .int .i64 xm]) (.head _)).c1
    have fm2 := (BX.all (w7.heap.size, #[.bool nm, .slice am zm.length cm, .int .i64 xm]) (.head _)).c2
    have fA0 := (BX.all (w.heap.size, #[.bool n1, .slice a1 z1.length c1, .int .i64 e1]) (.tail _ (.tail _ (.head _)))).c0
    have fA1 := (BX.all (w.heap.size, #[.bool n1, .slice a1 z1.length c1, .int .i64 e1]) (.tail _ (.tail _ (.head _)))).c1
    have fA2 := (BX.all (w.heap.size, #[.bool n1, .slice a1 z1.length c1, .int .i64 e1]) (.tail _ (.tail _ (.head _)))).c2
    go_wp2_with fail
    refine (dcmp55 nm n1 am a1 cm c1 zm z1 xm e1 _ (L.all (am, zm) (.head _)) (L.all (a1, z1) (.tail _ (.tail _ (.tail _ (.head _))))) Nm NA HT.out 1 HS2.out).mono ?_
    rintro e w8 ⟨rfl, h8⟩
    clear fm0 fm1 fm2 fA0 fA1 fA2
    replace L := L.keep h8
    replace BX := BX.keep h8
    replace HT := Hide.mk (HT.out.below h8 (Nat.le_refl _))
    replace HB := below_then HB h8
    clear h8
    have ff0 := (BX.all (wf.heap.size, #[.bool nf, .slice af zf.length cf, .int .i64 xf]) (.tail _ (.head _))).c0
    have ff1 := (BX.all (wf.heap.size, #[.bool nf, .slice af zf.length cf, .int .i64 xf]) (.tail _ (.head _))).c1
    have ff2 := (BX.all (wf.heap.size, #[.bool nf, .slice af zf.length cf, .int .i64 xf]) (.tail _ (.head _))).c2
    have fA0 := (BX.all (w.heap.size, #[.bool n1, .slice a1 z1.length c1, .int .i64 e1]) (.tail _ (.tail _ (.head _)))).c0
    have fA1 := (BX.all (w.heap.size, #[.bool n1, .slice a1 z1.length c1, .int .i64 e1]) (.tail _ (.tail _ (.head _)))).c1
    have fA2 := (BX.all (w.heap.size, #[.bool n1, .slice a1 z1.length c1, .int .i64 e1]) (.tail _ (.tail _ (.head _)))).c2
    go_wp2_with fail
    refine (dknown34 _ HT.out).mono ?_
    rintro e w9 ⟨rfl, h9⟩
    have hb9 := below_then HB h9
    clear h9 L BX HT HB ff0 ff1 ff2 fA0 fA1 fA2
    go_wp2
    go_ret
    exact ⟨by simp, hb9⟩
theorem dfloors15 (n1 : Bool) (a1 : Option Addr) (c1 : Nat) (z1 : List Int) (e1 : Int) (w : World) (u1 : DLie w a1 z1) (hT : Tab w) :
    Calls Tryd.prog 15 #[dV n1 a1 z1.length c1 e1] w fun e w' => e = .returned (.bool true) ∧ Below w.heap.size w w' := by
  cases hq : List.all [⟨n1, a1, c1, z1, e1⟩] nearB
  · exact dfloors_no n1 a1 c1 z1 e1 w u1 hT hq
  · by_cases hw : 0 ≤ e1
    · exact dfloors_w n1 a1 c1 z1 e1 w u1 hT hq hw
    · exact dfloors_p n1 a1 c1 z1 e1 w u1 hT hq (by omega)
end Go.Proofs.YtjhkploelojaeaaDoor
