import Derived.Test.YtjhkploelojaeaaDoorM15
namespace Go.Proofs.YtjhkploelojaeaaDoor
open Go.RowKit
set_option linter.unusedVariables false
set_option maxRecDepth 3000
set_option maxHeartbeats 2000000 in
theorem dmakes_long (n1 : Bool) (a1 : Option Addr) (c1 : Nat) (z1 : List Int) (e1 : Int) (w : World) (u1 : DLie w a1 z1) (hnil : a1 = none → c1 = 0) (hx1 : -9223372036854775808 ≤ e1) (hx2 : e1 ≤ 9223372036854775807) (hT : Tab w) (hl : (4100 : Int) < (z1.length : Int)) :
    Calls Tryd.prog 7 #[dV n1 a1 z1.length c1 e1] w fun e w' => e = .returned (.bool true) ∧ Below w.heap.size w w' := by
  have hb1 := below_alloc w (.cells #[.bool n1, .slice a1 z1.length c1, .int .i64 e1] 44)
  go_enter Tryd.func7, Tryd.ntmps7
  go_wp2_with fail
  refine (dknown34 _ (hT.below hb1 (Nat.le_refl _))).mono ?_
  rintro e w9 ⟨rfl, h9⟩
  have hb9 := below_then hb1 h9
  clear h9
  go_wp2
  go_ret
  exact ⟨rfl, hb9⟩
set_option maxHeartbeats 8000000 in
theorem dmakes_bad (n1 : Bool) (a1 : Option Addr) (c1 : Nat) (z1 : List Int) (e1 : Int) (w : World) (u1 : DLie w a1 z1) (hnil : a1 = none → c1 = 0) (hx1 : -9223372036854775808 ≤ e1) (hx2 : e1 ≤ 9223372036854775807) (hT : Tab w) (hl : (z1.length : Int) ≤ 4100) (hq : dmayB n1 z1 e1 = false) (hm : mayB z1 = false) :
    Calls Tryd.prog 7 #[dV n1 a1 z1.length c1 e1] w fun e w' => e = .returned (.bool true) ∧ Below w.heap.size w w' := by
  have HQ := Hide.mk hq
  have HU := Hide.mk u1
  have HN := Hide.mk hnil
  have HMM := Hide.mk hm
  clear hq hnil hm
  have hb1 := below_alloc w (.cells #[.bool n1, .slice a1 z1.length c1, .int .i64 e1] 44)
  have BX : Boxes (w.alloc (.cells #[.bool n1, .slice a1 z1.length c1, .int .i64 e1] 44)) [(w.heap.size, #[.bool n1, .slice a1 z1.length c1, .int .i64 e1])] := ⟨by intro p hp; obtain rfl := List.mem_singleton.1 hp; exact dcell_new _ _ _ _⟩
  have HLm : Hide (z1.length ≤ 1000000 ∧ z1.length ≤ maxLen) := ⟨by unfold maxLen; omega⟩
  go_enter Tryd.func7, Tryd.ntmps7
  go_wp2_with fail
  generalize hw1 : w.alloc (.cells #[.bool n1, .slice a1 z1.length c1, .int .i64 e1] 44) = w1 at *
  clear hw1
  have HB : Below w.heap.size w w1 := hb1
  have L : Live w1 [(a1, z1)] := ⟨by simp [u1.lie.below hb1 (Nat.le_refl _)]⟩
  have HT := Hide.mk (hT.below hb1 (Nat.le_refl _))
  clear hb1 u1 hT
  refine (dlent35 n1 a1 c1 z1 e1 _ (L.all (a1, z1) (.head _)) HLm.out.1 HN.out).mono ?_
  rintro e w2 ⟨ax, cx, rfl, hx, hbx, _⟩
  replace L := (L.push hx hbx).keep (below_alloc w2 (.cells #[.bool n1, .slice ax z1.length cx, .int .i64 e1] 44))
  replace BX := BX.push hbx (.bool n1) (.slice ax z1.length cx) (.int .i64 e1)
  replace HT := Hide.mk ((HT.out.below hbx (Nat.le_refl _)).below (below_alloc w2 (.cells #[.bool n1, .slice ax z1.length cx, .int .i64 e1] 44)) (Nat.le_refl _))
  replace HB := below_then (below_then HB hbx) (below_alloc w2 (.cells #[.bool n1, .slice ax z1.length cx, .int .i64 e1] 44))
  clear hx hbx
  go_wp2_with fail
  generalize hw3 : w2.alloc (.cells #[.bool n1, .slice ax z1.length cx, .int .i64 e1] 44) = w3 at *
  clear hw3
  have DX := (BX.all (w2.heap.size, #[.bool n1, .slice ax z1.length cx, .int .i64 e1]) (.head _))
  have ltX : w2.heap.size < w3.heap.size := (Array.getElem?_eq_some_iff.1 DX.1).1
  have DA := (BX.all (w.heap.size, #[.bool n1, .slice a1 z1.length c1, .int .i64 e1]) (.tail _ (.head _)))
  have ltA : w.heap.size < w3.heap.size := (Array.getElem?_eq_some_iff.1 DA.1).1
  have HI : Below w3.heap.size w3 w3.drew := (Below.refl _ _).drew
  replace L : Live w3.drew _ := L.keep (Below.refl _ _).drew
  replace HT : Hide (Tab w3.drew) := ⟨HT.out.below (Below.refl _ _).drew (Nat.le_refl _)⟩
  replace HB : Below w.heap.size w w3.drew := HB.drew
  replace BX : Boxes w3.drew _ := BX.keep (Below.refl _ _).drew
  refine Drawn.enter (fun W => Below w3.heap.size w3 W) (by kernel_rfl) ?_
  refine Drawn.take (i := 0) (v := dV n1 ax z1.length cx e1) rfl (by kernel_rfl) (by kernel_rfl) (by kernel_rfl) (fun _ _ _ h => h) rfl (fun W hW => ?_) HI ?_
  · have hc0 := below_cell2 hW ltX DX.c0
    have hc1 := below_cell2 hW ltX DX.c1
    have hc2 := below_cell2 hW ltX DX.c2
    go_simp
  refine Drawn.take (i := 2) (v := dV n1 a1 z1.length c1 e1) rfl (by kernel_rfl) (by kernel_rfl) (by kernel_rfl) (fun _ _ _ h => h) rfl (fun W hW => ?_) HI ?_
  · have hc0 := below_cell2 hW ltA DA.c0
    have hc1 := below_cell2 hW ltA DA.c1
    have hc2 := below_cell2 hW ltA DA.c2
    go_simp
  refine Drawn.one (j := 1) (by kernel_rfl) rfl (fun K hK => ?_)
  go_simp
  refine (dmay36 n1 ax cx z1 e1 _ (L.all (ax, z1) (.head _)) HU.out.len HU.out.rng false HQ.out).mono ?_
  rintro e w4 ⟨rfl, h4⟩
  replace HI := HI.trans (h4.mono HI.size)
  replace L := L.keep h4
  replace BX := BX.keep h4
  replace HT := Hide.mk (HT.out.below h4 (Nat.le_refl _))
  replace HB := below_then HB h4
  clear h4
  refine hK _ _ HI ?_
  clear hK K
  refine Drawn.one (j := 3) (by kernel_rfl) rfl (fun K hK => ?_)
  go_simp
  refine (drefmay37 n1 a1 c1 z1 e1 _ ⟨(L.all (a1, z1) (.tail _ (.head _))), HU.out.len, HU.out.rng⟩ false HQ.out).mono ?_
  rintro e w5 ⟨rfl, h5⟩
  replace HI := HI.trans (h5.mono HI.size)
  replace L := L.keep h5
  replace BX := BX.keep h5
  replace HT := Hide.mk (HT.out.below h5 (Nat.le_refl _))
  replace HB := below_then HB h5
  clear h5
  refine hK _ _ HI ?_
  clear hK K
  refine Drawn.take (i := 4) (v := .bool false) rfl (by kernel_rfl) (by kernel_rfl) (by kernel_rfl) (fun _ _ _ h => h) rfl (fun W hW => ?_) HI ?_
  · go_simp
  refine Drawn.done (by kernel_rfl) ?_
  clear HI DX DA ltX ltA
  have HS5 := HB
  have fX0 := (BX.all (w2.heap.size, #[.bool n1, .slice ax z1.length cx, .int .i64 e1]) (.head _)).c0
  have fX1 := (BX.all (w2.heap.size, #[.bool n1, .slice ax z1.length cx, .int .i64 e1]) (.head _)).c1
  have fX2 := (BX.all (w2.heap.size, #[.bool n1, .slice ax z1.length cx, .int .i64 e1]) (.head _)).c2
  go_wp2_with fail
  refine (dmake_bad n1 ax cx z1 e1 _ ⟨(L.all (ax, z1) (.head _)), HU.out.len, HU.out.rng⟩ HMM.out).mono ?_
  rintro e w6 ⟨rfl, h6⟩
  clear fX0 fX1 fX2
  replace L := (L.keep h6).keep (below_alloc w6 (.cells #[.bool false, .slice none 0 0, .int .i64 0] 44))
  replace BX := BX.push h6 (.bool false) (.slice none 0 0) (.int .i64 0)
  replace HT := Hide.mk ((HT.out.below h6 (Nat.le_refl _)).below (below_alloc w6 (.cells #[.bool false, .slice none 0 0, .int .i64 0] 44)) (Nat.le_refl _))
  replace HB := below_then (below_then HB h6) (below_alloc w6 (.cells #[.bool false, .slice none 0 0, .int .i64 0] 44))
  clear h6
  have fX0 := (BX.all (w2.heap.size, #[.bool n1, .slice ax z1.length cx, .int .i64 e1]) (.tail _ (.head _))).c0
  have fX1 := (BX.all (w2.heap.size, #[.bool n1, .slice ax z1.length cx, .int .i64 e1]) (.tail _ (.head _))).c1
  have fX2 := (BX.all (w2.heap.size, #[.bool n1, .slice ax z1.length cx, .int .i64 e1]) (.tail _ (.head _))).c2
  have fA0 := (BX.all (w.heap.size, #[.bool n1, .slice a1 z1.length c1, .int .i64 e1]) (.tail _ (.tail _ (.head _)))).c0
  have fA1 := (BX.all (w.heap.size, #[.bool n1, .slice a1 z1.length c1, .int .i64 e1]) (.tail _ (.tail _ (.head _)))).c1
  have fA2 := (BX.all (w.heap.size, #[.bool n1, .slice a1 z1.length c1, .int .i64 e1]) (.tail _ (.tail _ (.head _)))).c2
  go_wp2_with fail
  refine (dsame_mag ax a1 cx c1 z1 _ (L.all (ax, z1) (.head _)) (L.all (a1, z1) (.tail _ (.head _))) HLm.out.2).mono ?_
  rintro e w7 ⟨rfl, h7⟩
  clear fX0 fX1 fX2 fA0 fA1 fA2
  replace L := L.keep h7
  replace BX := BX.keep h7
  replace HT := Hide.mk (HT.out.below h7 (Nat.le_refl _))
  replace HB := below_then HB h7
  clear h7
  have fA0 := (BX.all (w.heap.size, #[.bool n1, .slice a1 z1.length c1, .int .i64 e1]) (.tail _ (.tail _ (.head _)))).c0
  have fA1 := (BX.all (w.heap.size, #[.bool n1, .slice a1 z1.length c1, .int .i64 e1]) (.tail _ (.tail _ (.head _)))).c1
  have fA2 := (BX.all (w.heap.size, #[.bool n1, .slice a1 z1.length c1, .int .i64 e1]) (.tail _ (.tail _ (.head _)))).c2
  go_wp2_with fail
  refine (refMay_no a1 c1 z1 _ (L.all (a1, z1) (.tail _ (.head _))) HLm.out.2 HMM.out).mono ?_
  rintro e w' ⟨rfl, rfl⟩
  clear fA0 fA1 fA2
  have fM0 := (BX.all (w6.heap.size, #[.bool false, .slice none 0 0, .int .i64 0]) (.head _)).c0
  have fM1 := (BX.all (w6.heap.size, #[.bool false, .slice none 0 0, .int .i64 0]) (.head _)).c1
  have fM2 := (BX.all (w6.heap.size, #[.bool false, .slice none 0 0, .int .i64 0]) (.head _)).c2
  have fA0 := (BX.all (w.heap.size, #[.bool n1, .slice a1 z1.length c1, .int .i64 e1]) (.tail _ (.tail _ (.head _)))).c0
  have fA1 := (BX.all (w.heap.size, #[.bool n1, .slice a1 z1.length c1, .int .i64 e1]) (.tail _ (.tail _ (.head _)))).c1
  have fA2 := (BX.all (w.heap.size, #[.bool n1, .slice a1 z1.length c1, .int .i64 e1]) (.tail _ (.tail _ (.head _)))).c2
  go_wp2_with fail
  refine (dnone_yes _ 2).mono ?_
  rintro e w8 ⟨rfl, h8⟩
  clear fM0 fM1 fM2 fA0 fA1 fA2
  replace L := L.keep h8
  replace BX := BX.keep h8
  replace HT := Hide.mk (HT.out.below h8 (Nat.le_refl _))
  replace HB := below_then HB h8
  clear h8
  go_wp2_with fail
  refine (dknown34 _ HT.out).mono ?_
  rintro e w9 ⟨rfl, h9⟩
  have hb9 := below_then HB h9
  clear h9 L BX HT HB
  go_wp2
  go_ret
  exact ⟨rfl, hb9⟩
set_option maxHeartbeats 8000000 in
theorem dmakes_nil_true (n1 : Bool) (a1 : Option Addr) (c1 : Nat) (z1 : List Int) (e1 : Int) (w : World) (u1 : DLie w a1 z1) (hnil : a1 = none → c1 = 0) (hx1 : -9223372036854775808 ≤ e1) (hx2 : e1 ≤ 9223372036854775807) (hT : Tab w) (hl : (z1.length : Int) ≤ 4100) (hq : dmayB n1 z1 e1 = true) (hm : mayB z1 = true) (hz : z1.length ≤ 0) :
    Calls Tryd.prog 7 #[dV n1 a1 z1.length c1 e1] w fun e w' => e = .returned (.bool true) ∧ Below w.heap.size w w' := by
  have HQ := Hide.mk hq
  have HU := Hide.mk u1
  have HN := Hide.mk hnil
  have g1 : Good z1 (Nt.val z1) := ⟨(may_can u1.rng hm).1, (may_can u1.rng hm).2, rfl⟩
  have HMM := Hide.mk hm
  clear hq hnil hm
  have hb1 := below_alloc w (.cells #[.bool n1, .slice a1 z1.length c1, .int .i64 e1] 44)
  have BX : Boxes (w.alloc (.cells #[.bool n1, .slice a1 z1.length c1, .int .i64 e1] 44)) [(w.heap.size, #[.bool n1, .slice a1 z1.length c1, .int .i64 e1])] := ⟨by intro p hp; obtain rfl := List.mem_singleton.1 hp; exact dcell_new _ _ _ _⟩
  have HLm : Hide (z1.length ≤ 1000000 ∧ z1.length ≤ maxLen) := ⟨by unfold maxLen; omega⟩
  go_enter Tryd.func7, Tryd.ntmps7
  go_wp2_with fail
  generalize hw1 : w.alloc (.cells #[.bool n1, .slice a1 z1.length c1, .int .i64 e1] 44) = w1 at *
  clear hw1
  have HB : Below w.heap.size w w1 := hb1
  have L : Live w1 [(a1, z1)] := ⟨by simp [u1.lie.below hb1 (Nat.le_refl _)]⟩
  have HT := Hide.mk (hT.below hb1 (Nat.le_refl _))
  clear hb1 u1 hT
  refine (dlent35 n1 a1 c1 z1 e1 _ (L.all (a1, z1) (.head _)) HLm.out.1 HN.out).mono ?_
  rintro e w2 ⟨ax, cx, rfl, hx, hbx, _⟩
  replace L := (L.push hx hbx).keep (below_alloc w2 (.cells #[.bool n1, .slice ax z1.length cx, .int .i64 e1] 44))
  replace BX := BX.push hbx (.bool n1) (.slice ax z1.length cx) (.int .i64 e1)
  replace HT := Hide.mk ((HT.out.below hbx (Nat.le_refl _)).below (below_alloc w2 (.cells #[.bool n1, .slice ax z1.length cx, .int .i64 e1] 44)) (Nat.le_refl _))
  replace HB := below_then (below_then HB hbx) (below_alloc w2 (.cells #[.bool n1, .slice ax z1.length cx, .int .i64 e1] 44))
  clear hx hbx
  go_wp2_with fail
  generalize hw3 : w2.alloc (.cells #[.bool n1, .slice ax z1.length cx, .int .i64 e1] 44) = w3 at *
  clear hw3
  have DX := (BX.all (w2.heap.size, #[.bool n1, .slice ax z1.length cx, .int .i64 e1]) (.head _))
  have ltX : w2.heap.size < w3.heap.size := (Array.getElem?_eq_some_iff.1 DX.1).1
  have DA := (BX.all (w.heap.size, #[.bool n1, .slice a1 z1.length c1, .int .i64 e1]) (.tail _ (.head _)))
  have ltA : w.heap.size < w3.heap.size := (Array.getElem?_eq_some_iff.1 DA.1).1
  have HI : Below w3.heap.size w3 w3.drew := (Below.refl _ _).drew
  replace L : Live w3.drew _ := L.keep (Below.refl _ _).drew
  replace HT : Hide (Tab w3.drew) := ⟨HT.out.below (Below.refl _ _).drew (Nat.le_refl _)⟩
  replace HB : Below w.heap.size w w3.drew := HB.drew
  replace BX : Boxes w3.drew _ := BX.keep (Below.refl _ _).drew
  refine Drawn.enter (fun W => Below w3.heap.size w3 W) (by kernel_rfl) ?_
  refine Drawn.take (i := 0) (v := dV n1 ax z1.length cx e1) rfl (by kernel_rfl) (by kernel_rfl) (by kernel_rfl) (fun _ _ _ h => h) rfl (fun W hW => ?_) HI ?_
  · have hc0 := below_cell2 hW ltX DX.c0
    have hc1 := below_cell2 hW ltX DX.c1
    have hc2 := below_cell2 hW ltX DX.c2
    go_simp
  refine Drawn.take (i := 2) (v := dV n1 a1 z1.length c1 e1) rfl (by kernel_rfl) (by kernel_rfl) (by kernel_rfl) (fun _ _ _ h => h) rfl (fun W hW => ?_) HI ?_
  · have hc0 := below_cell2 hW ltA DA.c0
    have hc1 := below_cell2 hW ltA DA.c1
    have hc2 := below_cell2 hW ltA DA.c2
    go_simp
  refine Drawn.one (j := 1) (by kernel_rfl) rfl (fun K hK => ?_)
  go_simp
  refine (dmay36 n1 ax cx z1 e1 _ (L.all (ax, z1) (.head _)) HU.out.len HU.out.rng true HQ.out).mono ?_
  rintro e w4 ⟨rfl, h4⟩
  replace HI := HI.trans (h4.mono HI.size)
  replace L := L.keep h4
  replace BX := BX.keep h4
  replace HT := Hide.mk (HT.out.below h4 (Nat.le_refl _))
  replace HB := below_then HB h4
  clear h4
  refine hK _ _ HI ?_
  clear hK K
  refine Drawn.one (j := 3) (by kernel_rfl) rfl (fun K hK => ?_)
  go_simp
  refine (drefmay37 n1 a1 c1 z1 e1 _ ⟨(L.all (a1, z1) (.tail _ (.head _))), HU.out.len, HU.out.rng⟩ true HQ.out).mono ?_
  rintro e w5 ⟨rfl, h5⟩
  replace HI := HI.trans (h5.mono HI.size)
  replace L := L.keep h5
  replace BX := BX.keep h5
  replace HT := Hide.mk (HT.out.below h5 (Nat.le_refl _))
  replace HB := below_then HB h5
  clear h5
  refine hK _ _ HI ?_
  clear hK K
  refine Drawn.take (i := 4) (v := .bool false) rfl (by kernel_rfl) (by kernel_rfl) (by kernel_rfl) (fun _ _ _ h => h) rfl (fun W hW => ?_) HI ?_
  · go_simp
  refine Drawn.done (by kernel_rfl) ?_
  clear HI DX DA ltX ltA
  have HS5 := HB
  have fX0 := (BX.all (w2.heap.size, #[.bool n1, .slice ax z1.length cx, .int .i64 e1]) (.head _)).c0
  have fX1 := (BX.all (w2.heap.size, #[.bool n1, .slice ax z1.length cx, .int .i64 e1]) (.head _)).c1
  have fX2 := (BX.all (w2.heap.size, #[.bool n1, .slice ax z1.length cx, .int .i64 e1]) (.head _)).c2
  go_wp2_with fail
  refine (dmake_nil n1 ax cx z1 e1 _ ⟨(L.all (ax, z1) (.head _)), HU.out.len, HU.out.rng⟩ HMM.out HT.out hx1 hx2 hz).mono ?_
  rintro e w6 ⟨rfl, h6⟩
  clear fX0 fX1 fX2
  replace L := (L.keep h6).keep (below_alloc w6 (.cells #[.bool false, .slice none 0 0, .int .i64 0] 44))
  replace BX := BX.push h6 (.bool false) (.slice none 0 0) (.int .i64 0)
  replace HT := Hide.mk ((HT.out.below h6 (Nat.le_refl _)).below (below_alloc w6 (.cells #[.bool false, .slice none 0 0, .int .i64 0] 44)) (Nat.le_refl _))
  replace HB := below_then (below_then HB h6) (below_alloc w6 (.cells #[.bool false, .slice none 0 0, .int .i64 0] 44))
  clear h6
  have fX0 := (BX.all (w2.heap.size, #[.bool n1, .slice ax z1.length cx, .int .i64 e1]) (.tail _ (.head _))).c0
  have fX1 := (BX.all (w2.heap.size, #[.bool n1, .slice ax z1.length cx, .int .i64 e1]) (.tail _ (.head _))).c1
  have fX2 := (BX.all (w2.heap.size, #[.bool n1, .slice ax z1.length cx, .int .i64 e1]) (.tail _ (.head _))).c2
  have fA0 := (BX.all (w.heap.size, #[.bool n1, .slice a1 z1.length c1, .int .i64 e1]) (.tail _ (.tail _ (.head _)))).c0
  have fA1 := (BX.all (w.heap.size, #[.bool n1, .slice a1 z1.length c1, .int .i64 e1]) (.tail _ (.tail _ (.head _)))).c1
  have fA2 := (BX.all (w.heap.size, #[.bool n1, .slice a1 z1.length c1, .int .i64 e1]) (.tail _ (.tail _ (.head _)))).c2
  go_wp2_with fail
  refine (dsame_mag ax a1 cx c1 z1 _ (L.all (ax, z1) (.head _)) (L.all (a1, z1) (.tail _ (.head _))) HLm.out.2).mono ?_
  rintro e w7 ⟨rfl, h7⟩
  clear fX0 fX1 fX2 fA0 fA1 fA2
  replace L := L.keep h7
  replace BX := BX.keep h7
  replace HT := Hide.mk (HT.out.below h7 (Nat.le_refl _))
  replace HB := below_then HB h7
  clear h7
  have fA0 := (BX.all (w.heap.size, #[.bool n1, .slice a1 z1.length c1, .int .i64 e1]) (.tail _ (.tail _ (.head _)))).c0
  have fA1 := (BX.all (w.heap.size, #[.bool n1, .slice a1 z1.length c1, .int .i64 e1]) (.tail _ (.tail _ (.head _)))).c1
  have fA2 := (BX.all (w.heap.size, #[.bool n1, .slice a1 z1.length c1, .int .i64 e1]) (.tail _ (.tail _ (.head _)))).c2
  go_wp2_with fail
  refine (refMay_yes a1 c1 z1 _ (L.all (a1, z1) (.tail _ (.head _))) HLm.out.2 HMM.out).mono ?_
  rintro e w' ⟨rfl, rfl⟩
  clear fA0 fA1 fA2
  have fM0 := (BX.all (w6.heap.size, #[.bool false, .slice none 0 0, .int .i64 0]) (.head _)).c0
  have fM1 := (BX.all (w6.heap.size, #[.bool false, .slice none 0 0, .int .i64 0]) (.head _)).c1
  have fM2 := (BX.all (w6.heap.size, #[.bool false, .slice none 0 0, .int .i64 0]) (.head _)).c2
  have fA0 := (BX.all (w.heap.size, #[.bool n1, .slice a1 z1.length c1, .int .i64 e1]) (.tail _ (.tail _ (.head _)))).c0
  have fA1 := (BX.all (w.heap.size, #[.bool n1, .slice a1 z1.length c1, .int .i64 e1]) (.tail _ (.tail _ (.head _)))).c1
  have fA2 := (BX.all (w.heap.size, #[.bool n1, .slice a1 z1.length c1, .int .i64 e1]) (.tail _ (.tail _ (.head _)))).c2
  go_wp2_with fail
  refine (dnone_yes _ 0).mono ?_
  rintro e w8 ⟨rfl, h8⟩
  clear fM0 fM1 fM2 fA0 fA1 fA2
  replace L := L.keep h8
  replace BX := BX.keep h8
  replace HT := Hide.mk (HT.out.below h8 (Nat.le_refl _))
  replace HB := below_then HB h8
  clear h8
  go_wp2_with fail
  refine (dknown34 _ HT.out).mono ?_
  rintro e w9 ⟨rfl, h9⟩
  have hb9 := below_then HB h9
  clear h9 L BX HT HB
  go_wp2
  go_ret
  exact ⟨rfl, hb9⟩
set_option maxHeartbeats 8000000 in
theorem dmakes_nil_false (n1 : Bool) (a1 : Option Addr) (c1 : Nat) (z1 : List Int) (e1 : Int) (w : World) (u1 : DLie w a1 z1) (hnil : a1 = none → c1 = 0) (hx1 : -9223372036854775808 ≤ e1) (hx2 : e1 ≤ 9223372036854775807) (hT : Tab w) (hl : (z1.length : Int) ≤ 4100) (hq : dmayB n1 z1 e1 = false) (hm : mayB z1 = true) (hz : z1.length ≤ 0) :
    Calls Tryd.prog 7 #[dV n1 a1 z1.length c1 e1] w fun e w' => e = .returned (.bool true) ∧ Below w.heap.size w w' := by
  have HQ := Hide.mk hq
  have HU := Hide.mk u1
  have HN := Hide.mk hnil
  have g1 : Good z1 (Nt.val z1) := ⟨(may_can u1.rng hm).1, (may_can u1.rng hm).2, rfl⟩
  have HMM := Hide.mk hm
  clear hq hnil hm
  have hb1 := below_alloc w (.cells #[.bool n1, .slice a1 z1.length c1, .int .i64 e1] 44)
  have BX : Boxes (w.alloc (.cells #[.bool n1, .slice a1 z1.length c1, .int .i64 e1] 44)) [(w.heap.size, #[.bool n1, .slice a1 z1.length c1, .int .i64 e1])] := ⟨by intro p hp; obtain rfl := List.mem_singleton.1 hp; exact dcell_new _ _ _ _⟩
  have HLm : Hide (z1.length ≤ 1000000 ∧ z1.length ≤ maxLen) := ⟨by unfold maxLen; omega⟩
  go_enter Tryd.func7, Tryd.ntmps7
  go_wp2_with fail
  generalize hw1 : w.alloc (.cells #[.bool n1, .slice a1 z1.length c1, .int .i64 e1] 44) = w1 at *
  clear hw1
  have HB : Below w.heap.size w w1 := hb1
  have L : Live w1 [(a1, z1)] := ⟨by simp [u1.lie.below hb1 (Nat.le_refl _)]⟩
  have HT := Hide.mk (hT.below hb1 (Nat.le_refl _))
  clear hb1 u1 hT
  refine (dlent35 n1 a1 c1 z1 e1 _ (L.all (a1, z1) (.head _)) HLm.out.1 HN.out).mono ?_
  rintro e w2 ⟨ax, cx, rfl, hx, hbx, _⟩
  replace L := (L.push hx hbx).keep (below_alloc w2 (.cells #[.bool n1, .slice ax z1.length cx, .int .i64 e1] 44))
  replace BX := BX.push hbx (.bool n1) (.slice ax z1.length cx) (.int .i64 e1)
  replace HT := Hide.mk ((HT.out.below hbx (Nat.le_refl _)).below (below_alloc w2 (.cells #[.bool n1, .slice ax z1.length cx, .int .i64 e1] 44)) (Nat.le_refl _))
  replace HB := below_then (below_then HB hbx) (below_alloc w2 (.cells #[.bool n1, .slice ax z1.length cx, .int .i64 e1] 44))
  clear hx hbx
  go_wp2_with fail
  generalize hw3 : w2.alloc (.cells #[.bool n1, .slice ax z1.length cx, .int .i64 e1] 44) = w3 at *
  clear hw3
  have DX := (BX.all (w2.heap.size, #[.bool n1, .slice ax z1.length cx, .int .i64 e1]) (.head _))
  have ltX : w2.heap.size < w3.heap.size := (Array.getElem?_eq_some_iff.1 DX.1).1
  have DA := (BX.all (w.heap.size, #[.bool n1, .slice a1 z1.length c1, .int .i64 e1]) (.tail _ (.head _)))
  have ltA : w.heap.size < w3.heap.size := (Array.getElem?_eq_some_iff.1 DA.1).1
  have HI : Below w3.heap.size w3 w3.drew := (Below.refl _ _).drew
  replace L : Live w3.drew _ := L.keep (Below.refl _ _).drew
  replace HT : Hide (Tab w3.drew) := ⟨HT.out.below (Below.refl _ _).drew (Nat.le_refl _)⟩
  replace HB : Below w.heap.size w w3.drew := HB.drew
  replace BX : Boxes w3.drew _ := BX.keep (Below.refl _ _).drew
  refine Drawn.enter (fun W => Below w3.heap.size w3 W) (by kernel_rfl) ?_
  refine Drawn.take (i := 0) (v := dV n1 ax z1.length cx e1) rfl (by kernel_rfl) (by kernel_rfl) (by kernel_rfl) (fun _ _ _ h => h) rfl (fun W hW => ?_) HI ?_
  · have hc0 := below_cell2 hW ltX DX.c0
    have hc1 := below_cell2 hW ltX DX.c1
    have hc2 := below_cell2 hW ltX DX.c2
    go_simp
  refine Drawn.take (i := 2) (v := dV n1 a1 z1.length c1 e1) rfl (by kernel_rfl) (by kernel_rfl) (by kernel_rfl) (fun _ _ _ h => h) rfl (fun W hW => ?_) HI ?_
  · have hc0 := below_cell2 hW ltA DA.c0
    have hc1 := below_cell2 hW ltA DA.c1
    have hc2 := below_cell2 hW ltA DA.c2
    go_simp
  refine Drawn.one (j := 1) (by kernel_rfl) rfl (fun K hK => ?_)
  go_simp
  refine (dmay36 n1 ax cx z1 e1 _ (L.all (ax, z1) (.head _)) HU.out.len HU.out.rng false HQ.out).mono ?_
  rintro e w4 ⟨rfl, h4⟩
  replace HI := HI.trans (h4.mono HI.size)
  replace L := L.keep h4
  replace BX := BX.keep h4
  replace HT := Hide.mk (HT.out.below h4 (Nat.le_refl _))
  replace HB := below_then HB h4
  clear h4
  refine hK _ _ HI ?_
  clear hK K
  refine Drawn.one (j := 3) (by kernel_rfl) rfl (fun K hK => ?_)
  go_simp
  refine (drefmay37 n1 a1 c1 z1 e1 _ ⟨(L.all (a1, z1) (.tail _ (.head _))), HU.out.len, HU.out.rng⟩ false HQ.out).mono ?_
  rintro e w5 ⟨rfl, h5⟩
  replace HI := HI.trans (h5.mono HI.size)
  replace L := L.keep h5
  replace BX := BX.keep h5
  replace HT := Hide.mk (HT.out.below h5 (Nat.le_refl _))
  replace HB := below_then HB h5
  clear h5
  refine hK _ _ HI ?_
  clear hK K
  refine Drawn.take (i := 4) (v := .bool false) rfl (by kernel_rfl) (by kernel_rfl) (by kernel_rfl) (fun _ _ _ h => h) rfl (fun W hW => ?_) HI ?_
  · go_simp
  refine Drawn.done (by kernel_rfl) ?_
  clear HI DX DA ltX ltA
  have HS5 := HB
  have fX0 := (BX.all (w2.heap.size, #[.bool n1, .slice ax z1.length cx, .int .i64 e1]) (.head _)).c0
  have fX1 := (BX.all (w2.heap.size, #[.bool n1, .slice ax z1.length cx, .int .i64 e1]) (.head _)).c1
  have fX2 := (BX.all (w2.heap.size, #[.bool n1, .slice ax z1.length cx, .int .i64 e1]) (.head _)).c2
  go_wp2_with fail
  refine (dmake_nil n1 ax cx z1 e1 _ ⟨(L.all (ax, z1) (.head _)), HU.out.len, HU.out.rng⟩ HMM.out HT.out hx1 hx2 hz).mono ?_
  rintro e w6 ⟨rfl, h6⟩
  clear fX0 fX1 fX2
  replace L := (L.keep h6).keep (below_alloc w6 (.cells #[.bool false, .slice none 0 0, .int .i64 0] 44))
  replace BX := BX.push h6 (.bool false) (.slice none 0 0) (.int .i64 0)
  replace HT := Hide.mk ((HT.out.below h6 (Nat.le_refl _)).below (below_alloc w6 (.cells #[.bool false, .slice none 0 0, .int .i64 0] 44)) (Nat.le_refl _))
  replace HB := below_then (below_then HB h6) (below_alloc w6 (.cells #[.bool false, .slice none 0 0, .int .i64 0] 44))
  clear h6
  have fX0 := (BX.all (w2.heap.size, #[.bool n1, .slice ax z1.length cx, .int .i64 e1]) (.tail _ (.head _))).c0
  have fX1 := (BX.all (w2.heap.size, #[.bool n1, .slice ax z1.length cx, .int .i64 e1]) (.tail _ (.head _))).c1
  have fX2 := (BX.all (w2.heap.size, #[.bool n1, .slice ax z1.length cx, .int .i64 e1]) (.tail _ (.head _))).c2
  have fA0 := (BX.all (w.heap.size, #[.bool n1, .slice a1 z1.length c1, .int .i64 e1]) (.tail _ (.tail _ (.head _)))).c0
  have fA1 := (BX.all (w.heap.size, #[.bool n1, .slice a1 z1.length c1, .int .i64 e1]) (.tail _ (.tail _ (.head _)))).c1
  have fA2 := (BX.all (w.heap.size, #[.bool n1, .slice a1 z1.length c1, .int .i64 e1]) (.tail _ (.tail _ (.head _)))).c2
  go_wp2_with fail
  refine (dsame_mag ax a1 cx c1 z1 _ (L.all (ax, z1) (.head _)) (L.all (a1, z1) (.tail _ (.head _))) HLm.out.2).mono ?_
  rintro e w7 ⟨rfl, h7⟩
  clear fX0 fX1 fX2 fA0 fA1 fA2
  replace L := L.keep h7
  replace BX := BX.keep h7
  replace HT := Hide.mk (HT.out.below h7 (Nat.le_refl _))
  replace HB := below_then HB h7
  clear h7
  have fA0 := (BX.all (w.heap.size, #[.bool n1, .slice a1 z1.length c1, .int .i64 e1]) (.tail _ (.tail _ (.head _)))).c0
  have fA1 := (BX.all (w.heap.size, #[.bool n1, .slice a1 z1.length c1, .int .i64 e1]) (.tail _ (.tail _ (.head _)))).c1
  have fA2 := (BX.all (w.heap.size, #[.bool n1, .slice a1 z1.length c1, .int .i64 e1]) (.tail _ (.tail _ (.head _)))).c2
  go_wp2_with fail
  refine (refMay_yes a1 c1 z1 _ (L.all (a1, z1) (.tail _ (.head _))) HLm.out.2 HMM.out).mono ?_
  rintro e w' ⟨rfl, rfl⟩
  clear fA0 fA1 fA2
  have fM0 := (BX.all (w6.heap.size, #[.bool false, .slice none 0 0, .int .i64 0]) (.head _)).c0
  have fM1 := (BX.all (w6.heap.size, #[.bool false, .slice none 0 0, .int .i64 0]) (.head _)).c1
  have fM2 := (BX.all (w6.heap.size, #[.bool false, .slice none 0 0, .int .i64 0]) (.head _)).c2
  have fA0 := (BX.all (w.heap.size, #[.bool n1, .slice a1 z1.length c1, .int .i64 e1]) (.tail _ (.tail _ (.head _)))).c0
  have fA1 := (BX.all (w.heap.size, #[.bool n1, .slice a1 z1.length c1, .int .i64 e1]) (.tail _ (.tail _ (.head _)))).c1
  have fA2 := (BX.all (w.heap.size, #[.bool n1, .slice a1 z1.length c1, .int .i64 e1]) (.tail _ (.tail _ (.head _)))).c2
  go_wp2_with fail
  refine (dnone_yes _ 0).mono ?_
  rintro e w8 ⟨rfl, h8⟩
  clear fM0 fM1 fM2 fA0 fA1 fA2
  replace L := L.keep h8
  replace BX := BX.keep h8
  replace HT := Hide.mk (HT.out.below h8 (Nat.le_refl _))
  replace HB := below_then HB h8
  clear h8
  go_wp2_with fail
  refine (dknown34 _ HT.out).mono ?_
  rintro e w9 ⟨rfl, h9⟩
  have hb9 := below_then HB h9
  clear h9 L BX HT HB
  go_wp2
  go_ret
  exact ⟨rfl, hb9⟩
set_option maxHeartbeats 8000000 in
theorem dmakes_farlo_true (n1 : Bool) (a1 : Option Addr) (c1 : Nat) (z1 : List Int) (e1 : Int) (w : World) (u1 : DLie w a1 z1) (hnil : a1 = none → c1 = 0) (hx1 : -9223372036854775808 ≤ e1) (hx2 : e1 ≤ 9223372036854775807) (hT : Tab w) (hl : (z1.length : Int) ≤ 4100) (hq : dmayB n1 z1 e1 = true) (hm : mayB z1 = true) (hz : 0 < z1.length) {t : Nat} (ht : LowBit (Nt.val z1) t) (h0 : e1 + t < -16777216 ∨ 16777216 < e1 + t) (h2 : e1 + t < -16777216) :
    Calls Tryd.prog 7 #[dV n1 a1 z1.length c1 e1] w fun e w' => e = .returned (.bool true) ∧ Below w.heap.size w w' := by
  have HQ := Hide.mk hq
  have HU := Hide.mk u1
  have HN := Hide.mk hnil
  have g1 : Good z1 (Nt.val z1) := ⟨(may_can u1.rng hm).1, (may_can u1.rng hm).2, rfl⟩
  have HMM := Hide.mk hm
  have HTt := Hide.mk ht
  have htl := low_lt ht (g1.pos hz) g1.lt.2
  clear ht
  have HH0 := Hide.mk h0
  clear hq hnil hm
  have hb1 := below_alloc w (.cells #[.bool n1, .slice a1 z1.length c1, .int .i64 e1] 44)
  have BX : Boxes (w.alloc (.cells #[.bool n1, .slice a1 z1.length c1, .int .i64 e1] 44)) [(w.heap.size, #[.bool n1, .slice a1 z1.length c1, .int .i64 e1])] := ⟨by intro p hp; obtain rfl := List.mem_singleton.1 hp; exact dcell_new _ _ _ _⟩
  have HLm : Hide (z1.length ≤ 1000000 ∧ z1.length ≤ maxLen) := ⟨by unfold maxLen; omega⟩
  go_enter Tryd.func7, Tryd.ntmps7
  go_wp2_with fail
  generalize hw1 : w.alloc (.cells #[.bool n1, .slice a1 z1.length c1, .int .i64 e1] 44) = w1 at *
  clear hw1
  have HB : Below w.heap.size w w1 := hb1
  have L : Live w1 [(a1, z1)] := ⟨by simp [u1.lie.below hb1 (Nat.le_refl _)]⟩
  have HT := Hide.mk (hT.below hb1 (Nat.le_refl _))
  clear hb1 u1 hT
  refine (dlent35 n1 a1 c1 z1 e1 _ (L.all (a1, z1) (.head _)) HLm.out.1 HN.out).mono ?_
  rintro e w2 ⟨ax, cx, rfl, hx, hbx, _⟩
  replace L := (L.push hx hbx).keep (below_alloc w2 (.cells #[.bool n1, .slice ax z1.length cx, .int .i64 e1] 44))
  replace BX := BX.push hbx (.bool n1) (.slice ax z1.length cx) (.int .i64 e1)
  replace HT := Hide.mk ((HT.out.below hbx (Nat.le_refl _)).below (below_alloc w2 (.cells #[.bool n1, .slice ax z1.length cx, .int .i64 e1] 44)) (Nat.le_refl _))
  replace HB := below_then (below_then HB hbx) (below_alloc w2 (.cells #[.bool n1, .slice ax z1.length cx, .int .i64 e1] 44))
  clear hx hbx
  go_wp2_with fail
  generalize hw3 : w2.alloc (.cells #[.bool n1, .slice ax z1.length cx, .int .i64 e1] 44) = w3 at *
  clear hw3
  have DX := (BX.all (w2.heap.size, #[.bool n1, .slice ax z1.length cx, .int .i64 e1]) (.head _))
  have ltX : w2.heap.size < w3.heap.size := (Array.getElem?_eq_some_iff.1 DX.1).1
  have DA := (BX.all (w.heap.size, #[.bool n1, .slice a1 z1.length c1, .int .i64 e1]) (.tail _ (.head _)))
  have ltA : w.heap.size < w3.heap.size := (Array.getElem?_eq_some_iff.1 DA.1).1
  have HI : Below w3.heap.size w3 w3.drew := (Below.refl _ _).drew
  replace L : Live w3.drew _ := L.keep (Below.refl _ _).drew
  replace HT : Hide (Tab w3.drew) := ⟨HT.out.below (Below.refl _ _).drew (Nat.le_refl _)⟩
  replace HB : Below w.heap.size w w3.drew := HB.drew
  replace BX : Boxes w3.drew _ := BX.keep (Below.refl _ _).drew
  refine Drawn.enter (fun W => Below w3.heap.size w3 W) (by kernel_rfl) ?_
  refine Drawn.take (i := 0) (v := dV n1 ax z1.length cx e1) rfl (by kernel_rfl) (by kernel_rfl) (by kernel_rfl) (fun _ _ _ h => h) rfl (fun W hW => ?_) HI ?_
  · have hc0 := below_cell2 hW ltX DX.c0
    have hc1 := below_cell2 hW ltX DX.c1
    have hc2 := below_cell2 hW ltX DX.c2
    go_simp
  refine Drawn.take (i := 2) (v := dV n1 a1 z1.length c1 e1) rfl (by kernel_rfl) (by kernel_rfl) (by kernel_rfl) (fun _ _ _ h => h) rfl (fun W hW => ?_) HI ?_
  · have hc0 := below_cell2 hW ltA DA.c0
    have hc1 := below_cell2 hW ltA DA.c1
    have hc2 := below_cell2 hW ltA DA.c2
    go_simp
  refine Drawn.one (j := 1) (by kernel_rfl) rfl (fun K hK => ?_)
  go_simp
  refine (dmay36 n1 ax cx z1 e1 _ (L.all (ax, z1) (.head _)) HU.out.len HU.out.rng true HQ.out).mono ?_
  rintro e w4 ⟨rfl, h4⟩
  replace HI := HI.trans (h4.mono HI.size)
  replace L := L.keep h4
  replace BX := BX.keep h4
  replace HT := Hide.mk (HT.out.below h4 (Nat.le_refl _))
  replace HB := below_then HB h4
  clear h4
  refine hK _ _ HI ?_
  clear hK K
  refine Drawn.one (j := 3) (by kernel_rfl) rfl (fun K hK => ?_)
  go_simp
  refine (drefmay37 n1 a1 c1 z1 e1 _ ⟨(L.all (a1, z1) (.tail _ (.head _))), HU.out.len, HU.out.rng⟩ true HQ.out).mono ?_
  rintro e w5 ⟨rfl, h5⟩
  replace HI := HI.trans (h5.mono HI.size)
  replace L := L.keep h5
  replace BX := BX.keep h5
  replace HT := Hide.mk (HT.out.below h5 (Nat.le_refl _))
  replace HB := below_then HB h5
  clear h5
  refine hK _ _ HI ?_
  clear hK K
  refine Drawn.take (i := 4) (v := .bool false) rfl (by kernel_rfl) (by kernel_rfl) (by kernel_rfl) (fun _ _ _ h => h) rfl (fun W hW => ?_) HI ?_
  · go_simp
  refine Drawn.done (by kernel_rfl) ?_
  clear HI DX DA ltX ltA
  have HS5 := HB
  have fX0 := (BX.all (w2.heap.size, #[.bool n1, .slice ax z1.length cx, .int .i64 e1]) (.head _)).c0
  have fX1 := (BX.all (w2.heap.size, #[.bool n1, .slice ax z1.length cx, .int .i64 e1]) (.head _)).c1
  have fX2 := (BX.all (w2.heap.size, #[.bool n1, .slice ax z1.length cx, .int .i64 e1]) (.head _)).c2
  go_wp2_with fail
  refine (dmake_far n1 ax cx z1 e1 _ ⟨(L.all (ax, z1) (.head _)), HU.out.len, HU.out.rng⟩ HMM.out HT.out hx1 hx2 hz HTt.out HH0.out).mono ?_
  rintro e w6 ⟨rfl, h6⟩
  clear fX0 fX1 fX2
  replace L := (L.keep h6).keep (below_alloc w6 (.cells #[.bool false, .slice none 0 0, .int .i64 0] 44))
  replace BX := BX.push h6 (.bool false) (.slice none 0 0) (.int .i64 0)
  replace HT := Hide.mk ((HT.out.below h6 (Nat.le_refl _)).below (below_alloc w6 (.cells #[.bool false, .slice none 0 0, .int .i64 0] 44)) (Nat.le_refl _))
  replace HB := below_then (below_then HB h6) (below_alloc w6 (.cells #[.bool false, .slice none 0 0, .int .i64 0] 44))
  clear h6
  have fX0 := (BX.all (w2.heap.size, #[.bool n1, .slice ax z1.length cx, .int .i64 e1]) (.tail _ (.head _))).c0
  have fX1 := (BX.all (w2.heap.size, #[.bool n1, .slice ax z1.length cx, .int .i64 e1]) (.tail _ (.head _))).c1
  have fX2 := (BX.all (w2.heap.size, #[.bool n1, .slice ax z1.length cx, .int .i64 e1]) (.tail _ (.head _))).c2
  have fA0 := (BX.all (w.heap.size, #[.bool n1, .slice a1 z1.length c1, .int .i64 e1]) (.tail _ (.tail _ (.head _)))).c0
  have fA1 := (BX.all (w.heap.size, #[.bool n1, .slice a1 z1.length c1, .int .i64 e1]) (.tail _ (.tail _ (.head _)))).c1
  have fA2 := (BX.all (w.heap.size, #[.bool n1, .slice a1 z1.length c1, .int .i64 e1]) (.tail _ (.tail _ (.head _)))).c2
  go_wp2_with fail
  refine (dsame_mag ax a1 cx c1 z1 _ (L.all (ax, z1) (.head _)) (L.all (a1, z1) (.tail _ (.head _))) HLm.out.2).mono ?_
  rintro e w7 ⟨rfl, h7⟩
  clear fX0 fX1 fX2 fA0 fA1 fA2
  replace L := L.keep h7
  replace BX := BX.keep h7
  replace HT := Hide.mk (HT.out.below h7 (Nat.le_refl _))
  replace HB := below_then HB h7
  clear h7
  have fA0 := (BX.all (w.heap.size, #[.bool n1, .slice a1 z1.length c1, .int .i64 e1]) (.tail _ (.tail _ (.head _)))).c0
  have fA1 := (BX.all (w.heap.size, #[.bool n1, .slice a1 z1.length c1, .int .i64 e1]) (.tail _ (.tail _ (.head _)))).c1
  have fA2 := (BX.all (w.heap.size, #[.bool n1, .slice a1 z1.length c1, .int .i64 e1]) (.tail _ (.tail _ (.head _)))).c2
  go_wp2_with fail
  refine (refMay_yes a1 c1 z1 _ (L.all (a1, z1) (.tail _ (.head _))) HLm.out.2 HMM.out).mono ?_
  rintro e w' ⟨rfl, rfl⟩
  clear fA0 fA1 fA2
  have fA0 := (BX.all (w.heap.size, #[.bool n1, .slice a1 z1.length c1, .int .i64 e1]) (.tail _ (.tail _ (.head _)))).c0
  have fA1 := (BX.all (w.heap.size, #[.bool n1, .slice a1 z1.length c1, .int .i64 e1]) (.tail _ (.tail _ (.head _)))).c1
  have fA2 := (BX.all (w.heap.size, #[.bool n1, .slice a1 z1.length c1, .int .i64 e1]) (.tail _ (.tail _ (.head _)))).c2
  go_wp2_with fail
  refine (refLowN a1 c1 z1 _ (L.all (a1, z1) (.tail _ (.head _))) g1 hz).mono ?_
  rintro e w' ⟨rfl, t2, rfl, ht2, _⟩
  clear fA0 fA1 fA2
  obtain rfl := ht2.unique HTt.out
  clear ht2
  clear HH0 h0
  generalize hu : (t2 : Int) = u at *
  have hu0 : 0 ≤ u := by omega
  have hu1 : u < 131072 := by omega
  have HU2 := Hide.mk hu
  clear hu htl
  have fM0 := (BX.all (w6.heap.size, #[.bool false, .slice none 0 0, .int .i64 0]) (.head _)).c0
  have fM1 := (BX.all (w6.heap.size, #[.bool false, .slice none 0 0, .int .i64 0]) (.head _)).c1
  have fM2 := (BX.all (w6.heap.size, #[.bool false, .slice none 0 0, .int .i64 0]) (.head _)).c2
  have fA0 := (BX.all (w.heap.size, #[.bool n1, .slice a1 z1.length c1, .int .i64 e1]) (.tail _ (.tail _ (.head _)))).c0
  have fA1 := (BX.all (w.heap.size, #[.bool n1, .slice a1 z1.length c1, .int .i64 e1]) (.tail _ (.tail _ (.head _)))).c1
  have fA2 := (BX.all (w.heap.size, #[.bool n1, .slice a1 z1.length c1, .int .i64 e1]) (.tail _ (.tail _ (.head _)))).c2
  go_wp2_with fail
  refine (dnone_yes _ 20).mono ?_
  rintro e w8 ⟨rfl, h8⟩
  clear fM0 fM1 fM2 fA0 fA1 fA2
  replace L := L.keep h8
  replace BX := BX.keep h8
  replace HT := Hide.mk (HT.out.below h8 (Nat.le_refl _))
  replace HB := below_then HB h8
  clear h8
  go_wp2_with fail
  refine (dknown34 _ HT.out).mono ?_
  rintro e w9 ⟨rfl, h9⟩
  have hb9 := below_then HB h9
  clear h9 L BX HT HB
  go_wp2
  go_ret
  exact ⟨rfl, hb9⟩
set_option maxHeartbeats 8000000 in
theorem dmakes_farlo_false (n1 : Bool) (a1 : Option Addr) (c1 : Nat) (z1 : List Int) (e1 : Int) (w : World) (u1 : DLie w a1 z1) (hnil : a1 = none → c1 = 0) (hx1 : -9223372036854775808 ≤ e1) (hx2 : e1 ≤ 9223372036854775807) (hT : Tab w) (hl : (z1.length : Int) ≤ 4100) (hq : dmayB n1 z1 e1 = false) (hm : mayB z1 = true) (hz : 0 < z1.length) {t : Nat} (ht : LowBit (Nt.val z1) t) (h0 : e1 + t < -16777216 ∨ 16777216 < e1 + t) (h2 : e1 + t < -16777216) :
    Calls Tryd.prog 7 #[dV n1 a1 z1.length c1 e1] w fun e w' => e = .returned (.bool true) ∧ Below w.heap.size w w' := by
  have HQ := Hide.mk hq
  have HU := Hide.mk u1
  have HN := Hide.mk hnil
  have g1 : Good z1 (Nt.val z1) := ⟨(may_can u1.rng hm).1, (may_can u1.rng hm).2, rfl⟩
  have HMM := Hide.mk hm
  have HTt := Hide.mk ht
  have htl := low_lt ht (g1.pos hz) g1.lt.2
  clear ht
  have HH0 := Hide.mk h0
  clear hq hnil hm
  have hb1 := below_alloc w (.cells #[.bool n1, .slice a1 z1.length c1, .int .i64 e1] 44)
  have BX : Boxes (w.alloc (.cells #[.bool n1, .slice a1 z1.length c1, .int .i64 e1] 44)) [(w.heap.size, #[.bool n1, .slice a1 z1.length c1, .int .i64 e1])] := ⟨by intro p hp; obtain rfl := List.mem_singleton.1 hp; exact dcell_new _ _ _ _⟩
  have HLm : Hide (z1.length ≤ 1000000 ∧ z1.length ≤ maxLen) := ⟨by unfold maxLen; omega⟩
  go_enter Tryd.func7, Tryd.ntmps7
  go_wp2_with fail
  generalize hw1 : w.alloc (.cells #[.bool n1, .slice a1 z1.length c1, .int .i64 e1] 44) = w1 at *
  clear hw1
  have HB : Below w.heap.size w w1 := hb1
  have L : Live w1 [(a1, z1)] := ⟨by simp [u1.lie.below hb1 (Nat.le_refl _)]⟩
  have HT := Hide.mk (hT.below hb1 (Nat.le_refl _))
  clear hb1 u1 hT
  refine (dlent35 n1 a1 c1 z1 e1 _ (L.all (a1, z1) (.head _)) HLm.out.1 HN.out).mono ?_
  rintro e w2 ⟨ax, cx, rfl, hx, hbx, _⟩
  replace L := (L.push hx hbx).keep (below_alloc w2 (.cells #[.bool n1, .slice ax z1.length cx, .int .i64 e1] 44))
  replace BX := BX.push hbx (.bool n1) (.slice ax z1.length cx) (.int .i64 e1)
  replace HT := Hide.mk ((HT.out.below hbx (Nat.le_refl _)).below (below_alloc w2 (.cells #[.bool n1, .slice ax z1.length cx, .int .i64 e1] 44)) (Nat.le_refl _))
  replace HB := below_then (below_then HB hbx) (below_alloc w2 (.cells #[.bool n1, .slice ax z1.length cx, .int .i64 e1] 44))
  clear hx hbx
  go_wp2_with fail
  generalize hw3 : w2.alloc (.cells #[.bool n1, .slice ax z1.length cx, .int .i64 e1] 44) = w3 at *
  clear hw3
  have DX := (BX.all (w2.heap.size, #[.bool n1, .slice ax z1.length cx, .int .i64 e1]) (.head _))
  have ltX : w2.heap.size < w3.heap.size := (Array.getElem?_eq_some_iff.1 DX.1).1
  have DA := (BX.all (w.heap.size, #[.bool n1, .slice a1 z1.length c1, .int .i64 e1]) (.tail _ (.head _)))
  have ltA : w.heap.size < w3.heap.size := (Array.getElem?_eq_some_iff.1 DA.1).1
  have HI : Below w3.heap.size w3 w3.drew := (Below.refl _ _).drew
  replace L : Live w3.drew _ := L.keep (Below.refl _ _).drew
  replace HT : Hide (Tab w3.drew) := ⟨HT.out.below (Below.refl _ _).drew (Nat.le_refl _)⟩
  replace HB : Below w.heap.size w w3.drew := HB.drew
  replace BX : Boxes w3.drew _ := BX.keep (Below.refl _ _).drew
  refine Drawn.enter (fun W => Below w3.heap.size w3 W) (by kernel_rfl) ?_
  refine Drawn.take (i := 0) (v := dV n1 ax z1.length cx e1) rfl (by kernel_rfl) (by kernel_rfl) (by kernel_rfl) (fun _ _ _ h => h) rfl (fun W hW => ?_) HI ?_
  · have hc0 := below_cell2 hW ltX DX.c0
    have hc1 := below_cell2 hW ltX DX.c1
    have hc2 := below_cell2 hW ltX DX.c2
    go_simp
  refine Drawn.take (i := 2) (v := dV n1 a1 z1.length c1 e1) rfl (by kernel_rfl) (by kernel_rfl) (by kernel_rfl) (fun _ _ _ h => h) rfl (fun W hW => ?_) HI ?_
  · have hc0 := below_cell2 hW ltA DA.c0
    have hc1 := below_cell2 hW ltA DA.c1
    have hc2 := below_cell2 hW ltA DA.c2
    go_simp
  refine Drawn.one (j := 1) (by kernel_rfl) rfl (fun K hK => ?_)
  go_simp
  refine (dmay36 n1 ax cx z1 e1 _ (L.all (ax, z1) (.head _)) HU.out.len HU.out.rng false HQ.out).mono ?_
  rintro e w4 ⟨rfl, h4⟩
  replace HI := HI.trans (h4.mono HI.size)
  replace L := L.keep h4
  replace BX := BX.keep h4
  replace HT := Hide.mk (HT.out.below h4 (Nat.le_refl _))
  replace HB := below_then HB h4
  clear h4
  refine hK _ _ HI ?_
  clear hK K
  refine Drawn.one (j := 3) (by kernel_rfl) rfl (fun K hK => ?_)
  go_simp
  refine (drefmay37 n1 a1 c1 z1 e1 _ ⟨(L.all (a1, z1) (.tail _ (.head _))), HU.out.len, HU.out.rng⟩ false HQ.out).mono ?_
  rintro e w5 ⟨rfl, h5⟩
  replace HI := HI.trans (h5.mono HI.size)
  replace L := L.keep h5
  replace BX := BX.keep h5
  replace HT := Hide.mk (HT.out.below h5 (Nat.le_refl _))
  replace HB := below_then HB h5
  clear h5
  refine hK _ _ HI ?_
  clear hK K
  refine Drawn.take (i := 4) (v := .bool false) rfl (by kernel_rfl) (by kernel_rfl) (by kernel_rfl) (fun _ _ _ h => h) rfl (fun W hW => ?_) HI ?_
  · go_simp
  refine Drawn.done (by kernel_rfl) ?_
  clear HI DX DA ltX ltA
  have HS5 := HB
  have fX0 := (BX.all (w2.heap.size, #[.bool n1, .slice ax z1.length cx, .int .i64 e1]) (.head _)).c0
  have fX1 := (BX.all (w2.heap.size, #[.bool n1, .slice ax z1.length cx, .int .i64 e1]) (.head _)).c1
  have fX2 := (BX.all (w2.heap.size, #[.bool n1, .slice ax z1.length cx, .int .i64 e1]) (.head _)).c2
  go_wp2_with fail
  refine (dmake_far n1 ax cx z1 e1 _ ⟨(L.all (ax, z1) (.head _)), HU.out.len, HU.out.rng⟩ HMM.out HT.out hx1 hx2 hz HTt.out HH0.out).mono ?_
  rintro e w6 ⟨rfl, h6⟩
  clear fX0 fX1 fX2
  replace L := (L.keep h6).keep (below_alloc w6 (.cells #[.bool false, .slice none 0 0, .int .i64 0] 44))
  replace BX := BX.push h6 (.bool false) (.slice none 0 0) (.int .i64 0)
  replace HT := Hide.mk ((HT.out.below h6 (Nat.le_refl _)).below (below_alloc w6 (.cells #[.bool false, .slice none 0 0, .int .i64 0] 44)) (Nat.le_refl _))
  replace HB := below_then (below_then HB h6) (below_alloc w6 (.cells #[.bool false, .slice none 0 0, .int .i64 0] 44))
  clear h6
  have fX0 := (BX.all (w2.heap.size, #[.bool n1, .slice ax z1.length cx, .int .i64 e1]) (.tail _ (.head _))).c0
  have fX1 := (BX.all (w2.heap.size, #[.bool n1, .slice ax z1.length cx, .int .i64 e1]) (.tail _ (.head _))).c1
  have fX2 := (BX.all (w2.heap.size, #[.bool n1, .slice ax z1.length cx, .int .i64 e1]) (.tail _ (.head _))).c2
  have fA0 := (BX.all (w.heap.size, #[.bool n1, .slice a1 z1.length c1, .int .i64 e1]) (.tail _ (.tail _ (.head _)))).c0
  have fA1 := (BX.all (w.heap.size, #[.bool n1, .slice a1 z1.length c1, .int .i64 e1]) (.tail _ (.tail _ (.head _)))).c1
  have fA2 := (BX.all (w.heap.size, #[.bool n1, .slice a1 z1.length c1, .int .i64 e1]) (.tail _ (.tail _ (.head _)))).c2
  go_wp2_with fail
  refine (dsame_mag ax a1 cx c1 z1 _ (L.all (ax, z1) (.head _)) (L.all (a1, z1) (.tail _ (.head _))) HLm.out.2).mono ?_
  rintro e w7 ⟨rfl, h7⟩
  clear fX0 fX1 fX2 fA0 fA1 fA2
  replace L := L.keep h7
  replace BX := BX.keep h7
  replace HT := Hide.mk (HT.out.below h7 (Nat.le_refl _))
  replace HB := below_then HB h7
  clear h7
  have fA0 := (BX.all (w.heap.size, #[.bool n1, .slice a1 z1.length c1, .int .i64 e1]) (.tail _ (.tail _ (.head _)))).c0
  have fA1 := (BX.all (w.heap.size, #[.bool n1, .slice a1 z1.length c1, .int .i64 e1]) (.tail _ (.tail _ (.head _)))).c1
  have fA2 := (BX.all (w.heap.size, #[.bool n1, .slice a1 z1.length c1, .int .i64 e1]) (.tail _ (.tail _ (.head _)))).c2
  go_wp2_with fail
  refine (refMay_yes a1 c1 z1 _ (L.all (a1, z1) (.tail _ (.head _))) HLm.out.2 HMM.out).mono ?_
  rintro e w' ⟨rfl, rfl⟩
  clear fA0 fA1 fA2
  have fA0 := (BX.all (w.heap.size, #[.bool n1, .slice a1 z1.length c1, .int .i64 e1]) (.tail _ (.tail _ (.head _)))).c0
  have fA1 := (BX.all (w.heap.size, #[.bool n1, .slice a1 z1.length c1, .int .i64 e1]) (.tail _ (.tail _ (.head _)))).c1
  have fA2 := (BX.all (w.heap.size, #[.bool n1, .slice a1 z1.length c1, .int .i64 e1]) (.tail _ (.tail _ (.head _)))).c2
  go_wp2_with fail
  refine (refLowN a1 c1 z1 _ (L.all (a1, z1) (.tail _ (.head _))) g1 hz).mono ?_
  rintro e w' ⟨rfl, t2, rfl, ht2, _⟩
  clear fA0 fA1 fA2
  obtain rfl := ht2.unique HTt.out
  clear ht2
  clear HH0 h0
  generalize hu : (t2 : Int) = u at *
  have hu0 : 0 ≤ u := by omega
  have hu1 : u < 131072 := by omega
  have HU2 := Hide.mk hu
  clear hu htl
  have fM0 := (BX.all (w6.heap.size, #[.bool false, .slice none 0 0, .int .i64 0]) (.head _)).c0
  have fM1 := (BX.all (w6.heap.size, #[.bool false, .slice none 0 0, .int .i64 0]) (.head _)).c1
  have fM2 := (BX.all (w6.heap.size, #[.bool false, .slice none 0 0, .int .i64 0]) (.head _)).c2
  have fA0 := (BX.all (w.heap.size, #[.bool n1, .slice a1 z1.length c1, .int .i64 e1]) (.tail _ (.tail _ (.head _)))).c0
  have fA1 := (BX.all (w.heap.size, #[.bool n1, .slice a1 z1.length c1, .int .i64 e1]) (.tail _ (.tail _ (.head _)))).c1
  have fA2 := (BX.all (w.heap.size, #[.bool n1, .slice a1 z1.length c1, .int .i64 e1]) (.tail _ (.tail _ (.head _)))).c2
  go_wp2_with fail
  refine (dnone_yes _ 20).mono ?_
  rintro e w8 ⟨rfl, h8⟩
  clear fM0 fM1 fM2 fA0 fA1 fA2
  replace L := L.keep h8
  replace BX := BX.keep h8
  replace HT := Hide.mk (HT.out.below h8 (Nat.le_refl _))
  replace HB := below_then HB h8
  clear h8
  go_wp2_with fail
  refine (dknown34 _ HT.out).mono ?_
  rintro e w9 ⟨rfl, h9⟩
  have hb9 := below_then HB h9
  clear h9 L BX HT HB
  go_wp2
  go_ret
  exact ⟨rfl, hb9⟩
set_option maxHeartbeats 8000000 in
theorem dmakes_farhi_true (n1 : Bool) (a1 : Option Addr) (c1 : Nat) (z1 : List Int) (e1 : Int) (w : World) (u1 : DLie w a1 z1) (hnil : a1 = none → c1 = 0) (hx1 : -9223372036854775808 ≤ e1) (hx2 : e1 ≤ 9223372036854775807) (hT : Tab w) (hl : (z1.length : Int) ≤ 4100) (hq : dmayB n1 z1 e1 = true) (hm : mayB z1 = true) (hz : 0 < z1.length) {t : Nat} (ht : LowBit (Nt.val z1) t) (h0 : e1 + t < -16777216 ∨ 16777216 < e1 + t) (h2 : 16777216 < e1 + t) :
    Calls Tryd.prog 7 #[dV n1 a1 z1.length c1 e1] w fun e w' => e = .returned (.bool true) ∧ Below w.heap.size w w' := by
  have HQ := Hide.mk hq
  have HU := Hide.mk u1
  have HN := Hide.mk hnil
  have g1 : Good z1 (Nt.val z1) := ⟨(may_can u1.rng hm).1, (may_can u1.rng hm).2, rfl⟩
  have HMM := Hide.mk hm
  have HTt := Hide.mk ht
  have htl := low_lt ht (g1.pos hz) g1.lt.2
  clear ht
  have HH0 := Hide.mk h0
  clear hq hnil hm
  have hb1 := below_alloc w (.cells #[.bool n1, .slice a1 z1.length c1, .int .i64 e1] 44)
  have BX : Boxes (w.alloc (.cells #[.bool n1, .slice a1 z1.length c1, .int .i64 e1] 44)) [(w.heap.size, #[.bool n1, .slice a1 z1.length c1, .int .i64 e1])] := ⟨by intro p hp; obtain rfl := List.mem_singleton.1 hp; exact dcell_new _ _ _ _⟩
  have HLm : Hide (z1.length ≤ 1000000 ∧ z1.length ≤ maxLen) := ⟨by unfold maxLen; omega⟩
  go_enter Tryd.func7, Tryd.ntmps7
  go_wp2_with fail
  generalize hw1 : w.alloc (.cells #[.bool n1, .slice a1 z1.length c1, .int .i64 e1] 44) = w1 at *
  clear hw1
  have HB : Below w.heap.size w w1 := hb1
  have L : Live w1 [(a1, z1)] := ⟨by simp [u1.lie.below hb1 (Nat.le_refl _)]⟩
  have HT := Hide.mk (hT.below hb1 (Nat.le_refl _))
  clear hb1 u1 hT
  refine (dlent35 n1 a1 c1 z1 e1 _ (L.all (a1, z1) (.head _)) HLm.out.1 HN.out).mono ?_
  rintro e w2 ⟨ax, cx, rfl, hx, hbx, _⟩
  replace L := (L.push hx hbx).keep (below_alloc w2 (.cells #[.bool n1, .slice ax z1.length cx, .int .i64 e1] 44))
  replace BX := BX.push hbx (.bool n1) (.slice ax z1.length cx) (.int .i64 e1)
  replace HT := Hide.mk ((HT.out.below hbx (Nat.le_refl _)).below (below_alloc w2 (.cells #[.bool n1, .slice ax z1.length cx, .int .i64 e1] 44)) (Nat.le_refl _))
  replace HB := below_then (below_then HB hbx) (below_alloc w2 (.cells #[.bool n1, .slice ax z1.length cx, .int .i64 e1] 44))
  clear hx hbx
  go_wp2_with fail
  generalize hw3 : w2.alloc (.cells #[.bool n1, .slice ax z1.length cx, .int .i64 e1] 44) = w3 at *
  clear hw3
  have DX := (BX.all (w2.heap.size, #[.bool n1, .slice ax z1.length cx, .int .i64 e1]) (.head _))
  have ltX : w2.heap.size < w3.heap.size := (Array.getElem?_eq_some_iff.1 DX.1).1
  have DA := (BX.all (w.heap.size, #[.bool n1, .slice a1 z1.length c1, .int .i64 e1]) (.tail _ (.head _)))
  have ltA : w.heap.size < w3.heap.size := (Array.getElem?_eq_some_iff.1 DA.1).1
  have HI : Below w3.heap.size w3 w3.drew := (Below.refl _ _).drew
  replace L : Live w3.drew _ := L.keep (Below.refl _ _).drew
  replace HT : Hide (Tab w3.drew) := ⟨HT.out.below (Below.refl _ _).drew (Nat.le_refl _)⟩
  replace HB : Below w.heap.size w w3.drew := HB.drew
  replace BX : Boxes w3.drew _ := BX.keep (Below.refl _ _).drew
  refine Drawn.enter (fun W => Below w3.heap.size w3 W) (by kernel_rfl) ?_
  refine Drawn.take (i := 0) (v := dV n1 ax z1.length cx e1) rfl (by kernel_rfl) (by kernel_rfl) (by kernel_rfl) (fun _ _ _ h => h) rfl (fun W hW => ?_) HI ?_
  · have hc0 := below_cell2 hW ltX DX.c0
    have hc1 := below_cell2 hW ltX DX.c1
    have hc2 := below_cell2 hW ltX DX.c2
    go_simp
  refine Drawn.take (i := 2) (v := dV n1 a1 z1.length c1 e1) rfl (by kernel_rfl) (by kernel_rfl) (by kernel_rfl) (fun _ _ _ h => h) rfl (fun W hW => ?_) HI ?_
  · have hc0 := below_cell2 hW ltA DA.c0
    have hc1 := below_cell2 hW ltA DA.c1
    have hc2 := below_cell2 hW ltA DA.c2
    go_simp
  refine Drawn.one (j := 1) (by kernel_rfl) rfl (fun K hK => ?_)
  go_simp
  refine (dmay36 n1 ax cx z1 e1 _ (L.all (ax, z1) (.head _)) HU.out.len HU.out.rng true HQ.out).mono ?_
  rintro e w4 ⟨rfl, h4⟩
  replace HI := HI.trans (h4.mono HI.size)
  replace L := L.keep h4
  replace BX := BX.keep h4
  replace HT := Hide.mk (HT.out.below h4 (Nat.le_refl _))
  replace HB := below_then HB h4
  clear h4
  refine hK _ _ HI ?_
  clear hK K
  refine Drawn.one (j := 3) (by kernel_rfl) rfl (fun K hK => ?_)
  go_simp
  refine (drefmay37 n1 a1 c1 z1 e1 _ ⟨(L.all (a1, z1) (.tail _ (.head _))), HU.out.len, HU.out.rng⟩ true HQ.out).mono ?_
  rintro e w5 ⟨rfl, h5⟩
  replace HI := HI.trans (h5.mono HI.size)
  replace L := L.keep h5
  replace BX := BX.keep h5
  replace HT := Hide.mk (HT.out.below h5 (Nat.le_refl _))
  replace HB := below_then HB h5
  clear h5
  refine hK _ _ HI ?_
  clear hK K
  refine Drawn.take (i := 4) (v := .bool false) rfl (by kernel_rfl) (by kernel_rfl) (by kernel_rfl) (fun _ _ _ h => h) rfl (fun W hW => ?_) HI ?_
  · go_simp
  refine Drawn.done (by kernel_rfl) ?_
  clear HI DX DA ltX ltA
  have HS5 := HB
  have fX0 := (BX.all (w2.heap.size, #[.bool n1, .slice ax z1.length cx, .int .i64 e1]) (.head _)).c0
  have fX1 := (BX.all (w2.heap.size, #[.bool n1, .slice ax z1.length cx, .int .i64 e1]) (.head _)).c1
  have fX2 := (BX.all (w2.heap.size, #[.bool n1, .slice ax z1.length cx, .int .i64 e1]) (.head _)).c2
  go_wp2_with fail
  refine (dmake_far n1 ax cx z1 e1 _ ⟨(L.all (ax, z1) (.head _)), HU.out.len, HU.out.rng⟩ HMM.out HT.out hx1 hx2 hz HTt.out HH0.out).mono ?_
  rintro e w6 ⟨rfl, h6⟩
  clear fX0 fX1 fX2
  replace L := (L.keep h6).keep (below_alloc w6 (.cells #[.bool false, .slice none 0 0, .int .i64 0] 44))
  replace BX := BX.push h6 (.bool false) (.slice none 0 0) (.int .i64 0)
  replace HT := Hide.mk ((HT.out.below h6 (Nat.le_refl _)).below (below_alloc w6 (.cells #[.bool false, .slice none 0 0, .int .i64 0] 44)) (Nat.le_refl _))
  replace HB := below_then (below_then HB h6) (below_alloc w6 (.cells #[.bool false, .slice none 0 0, .int .i64 0] 44))
  clear h6
  have fX0 := (BX.all (w2.heap.size, #[.bool n1, .slice ax z1.length cx, .int .i64 e1]) (.tail _ (.head _))).c0
  have fX1 := (BX.all (w2.heap.size, #[.bool n1, .slice ax z1.length cx, .int .i64 e1]) (.tail _ (.head _))).c1
  have fX2 := (BX.all (w2.heap.size, #[.bool n1, .slice ax z1.length cx, .int .i64 e1]) (.tail _ (.head _))).c2
  have fA0 := (BX.all (w.heap.size, #[.bool n1, .slice a1 z1.length c1, .int .i64 e1]) (.tail _ (.tail _ (.head _)))).c0
  have fA1 := (BX.all (w.heap.size, #[.bool n1, .slice a1 z1.length c1, .int .i64 e1]) (.tail _ (.tail _ (.head _)))).c1
  have fA2 := (BX.all (w.heap.size, #[.bool n1, .slice a1 z1.length c1, .int .i64 e1]) (.tail _ (.tail _ (.head _)))).c2
  go_wp2_with fail
  refine (dsame_mag ax a1 cx c1 z1 _ (L.all (ax, z1) (.head _)) (L.all (a1, z1) (.tail _ (.head _))) HLm.out.2).mono ?_
  rintro e w7 ⟨rfl, h7⟩
  clear fX0 fX1 fX2 fA0 fA1 fA2
  replace L := L.keep h7
  replace BX := BX.keep h7
  replace HT := Hide.mk (HT.out.below h7 (Nat.le_refl _))
  replace HB := below_then HB h7
  clear h7
  have fA0 := (BX.all (w.heap.size, #[.bool n1, .slice a1 z1.length c1, .int .i64 e1]) (.tail _ (.tail _ (.head _)))).c0
  have fA1 := (BX.all (w.heap.size, #[.bool n1, .slice a1 z1.length c1, .int .i64 e1]) (.tail _ (.tail _ (.head _)))).c1
  have fA2 := (BX.all (w.heap.size, #[.bool n1, .slice a1 z1.length c1, .int .i64 e1]) (.tail _ (.tail _ (.head _)))).c2
  go_wp2_with fail
  refine (refMay_yes a1 c1 z1 _ (L.all (a1, z1) (.tail _ (.head _))) HLm.out.2 HMM.out).mono ?_
  rintro e w' ⟨rfl, rfl⟩
  clear fA0 fA1 fA2
  have fA0 := (BX.all (w.heap.size, #[.bool n1, .slice a1 z1.length c1, .int .i64 e1]) (.tail _ (.tail _ (.head _)))).c0
  have fA1 := (BX.all (w.heap.size, #[.bool n1, .slice a1 z1.length c1, .int .i64 e1]) (.tail _ (.tail _ (.head _)))).c1
  have fA2 := (BX.all (w.heap.size, #[.bool n1, .slice a1 z1.length c1, .int .i64 e1]) (.tail _ (.tail _ (.head _)))).c2
  go_wp2_with fail
  refine (refLowN a1 c1 z1 _ (L.all (a1, z1) (.tail _ (.head _))) g1 hz).mono ?_
  rintro e w' ⟨rfl, t2, rfl, ht2, _⟩
  clear fA0 fA1 fA2
  obtain rfl := ht2.unique HTt.out
  clear ht2
  clear HH0 h0
  generalize hu : (t2 : Int) = u at *
  have hu0 : 0 ≤ u := by omega
  have hu1 : u < 131072 := by omega
  have HU2 := Hide.mk hu
  clear hu htl
  have fM0 := (BX.all (w6.heap.size, #[.bool false, .slice none 0 0, .int .i64 0]) (.head _)).c0
  have fM1 := (BX.all (w6.heap.size, #[.bool false, .slice none 0 0, .int .i64 0]) (.head _)).c1
  have fM2 := (BX.all (w6.heap.size, #[.bool false, .slice none 0 0, .int .i64 0]) (.head _)).c2
  have fA0 := (BX.all (w.heap.size, #[.bool n1, .slice a1 z1.length c1, .int .i64 e1]) (.tail _ (.tail _ (.head _)))).c0
  have fA1 := (BX.all (w.heap.size, #[.bool n1, .slice a1 z1.length c1, .int .i64 e1]) (.tail _ (.tail _ (.head _)))).c1
  have fA2 := (BX.all (w.heap.size, #[.bool n1, .slice a1 z1.length c1, .int .i64 e1]) (.tail _ (.tail _ (.head _)))).c2
  go_wp2_with fail
  refine (dnone_yes _ 20).mono ?_
  rintro e w8 ⟨rfl, h8⟩
  clear fM0 fM1 fM2 fA0 fA1 fA2
  replace L := L.keep h8
  replace BX := BX.keep h8
  replace HT := Hide.mk (HT.out.below h8 (Nat.le_refl _))
  replace HB := below_then HB h8
  clear h8
  go_wp2_with fail
  refine (dknown34 _ HT.out).mono ?_
  rintro e w9 ⟨rfl, h9⟩
  have hb9 := below_then HB h9
  clear h9 L BX HT HB
  go_wp2
  go_ret
  exact ⟨rfl, hb9⟩
set_option maxHeartbeats 8000000 in
theorem dmakes_farhi_false (n1 : Bool) (a1 : Option Addr) (c1 : Nat) (z1 : List Int) (e1 : Int) (w : World) (u1 : DLie w a1 z1) (hnil : a1 = none → c1 = 0) (hx1 : -9223372036854775808 ≤ e1) (hx2 : e1 ≤ 9223372036854775807) (hT : Tab w) (hl : (z1.length : Int) ≤ 4100) (hq : dmayB n1 z1 e1 = false) (hm : mayB z1 = true) (hz : 0 < z1.length) {t : Nat} (ht : LowBit (Nt.val z1) t) (h0 : e1 + t < -16777216 ∨ 16777216 < e1 + t) (h2 : 16777216 < e1 + t) :
    Calls Tryd.prog 7 #[dV n1 a1 z1.length c1 e1] w fun e w' => e = .returned (.bool true) ∧ Below w.heap.size w w' := by
  have HQ := Hide.mk hq
  have HU := Hide.mk u1
  have HN := Hide.mk hnil
  have g1 : Good z1 (Nt.val z1) := ⟨(may_can u1.rng hm).1, (may_can u1.rng hm).2, rfl⟩
  have HMM := Hide.mk hm
  have HTt := Hide.mk ht
  have htl := low_lt ht (g1.pos hz) g1.lt.2
  clear ht
  have HH0 := Hide.mk h0
  clear hq hnil hm
  have hb1 := below_alloc w (.cells #[.bool n1, .slice a1 z1.length c1, .int .i64 e1] 44)
  have BX : Boxes (w.alloc (.cells #[.bool n1, .slice a1 z1.length c1, .int .i64 e1] 44)) [(w.heap.size, #[.bool n1, .slice a1 z1.length c1, .int .i64 e1])] := ⟨by intro p hp; obtain rfl := List.mem_singleton.1 hp; exact dcell_new _ _ _ _⟩
  have HLm : Hide (z1.length ≤ 1000000 ∧ z1.length ≤ maxLen) := ⟨by unfold maxLen; omega⟩
  go_enter Tryd.func7, Tryd.ntmps7
  go_wp2_with fail
  generalize hw1 : w.alloc (.cells #[.bool n1, .slice a1 z1.length c1, .int .i64 e1] 44) = w1 at *
  clear hw1
  have HB : Below w.heap.size w w1 := hb1
  have L : Live w1 [(a1, z1)] := ⟨by simp [u1.lie.below hb1 (Nat.le_refl _)]⟩
  have HT := Hide.mk (hT.below hb1 (Nat.le_refl _))
  clear hb1 u1 hT
  refine (dlent35 n1 a1 c1 z1 e1 _ (L.all (a1, z1) (.head _)) HLm.out.1 HN.out).mono ?_
  rintro e w2 ⟨ax, cx, rfl, hx, hbx, _⟩
  replace L := (L.push hx hbx).keep (below_alloc w2 (.cells #[.bool n1, .slice ax z1.length cx, .int .i64 e1] 44))
  replace BX := BX.push hbx (.bool n1) (.slice ax z1.length cx) (.int .i64 e1)
  replace HT := Hide.mk ((HT.out.below hbx (Nat.le_refl _)).below (below_alloc w2 (.cells #[.bool n1, .slice ax z1.length cx, .int .i64 e1] 44)) (Nat.le_refl _))
  replace HB := below_then (below_then HB hbx) (below_alloc w2 (.cells #[.bool n1, .slice ax z1.length cx, .int .i64 e1] 44))
  clear hx hbx
  go_wp2_with fail
  generalize hw3 : w2.alloc (.cells #[.bool n1, .slice ax z1.length cx, .int .i64 e1] 44) = w3 at *
  clear hw3
  have DX := (BX.all (w2.heap.size, #[.bool n1, .slice ax z1.length cx, .int .i64 e1]) (.head _))
  have ltX : w2.heap.size < w3.heap.size := (Array.getElem?_eq_some_iff.1 DX.1).1
  have DA := (BX.all (w.heap.size, #[.bool n1, .slice a1 z1.length c1, .int .i64 e1]) (.tail _ (.head _)))
  have ltA : w.heap.size < w3.heap.size := (Array.getElem?_eq_some_iff.1 DA.1).1
  have HI : Below w3.heap.size w3 w3.drew := (Below.refl _ _).drew
  replace L : Live w3.drew _ := L.keep (Below.refl _ _).drew
  replace HT : Hide (Tab w3.drew) := ⟨HT.out.below (Below.refl _ _).drew (Nat.le_refl _)⟩
  replace HB : Below w.heap.size w w3.drew := HB.drew
  replace BX : Boxes w3.drew _ := BX.keep (Below.refl _ _).drew
  refine Drawn.enter (fun W => Below w3.heap.size w3 W) (by kernel_rfl) ?_
  refine Drawn.take (i := 0) (v := dV n1 ax z1.length cx e1) rfl (by kernel_rfl) (by kernel_rfl) (by kernel_rfl) (fun _ _ _ h => h) rfl (fun W hW => ?_) HI ?_
  · have hc0 := below_cell2 hW ltX DX.c0
    have hc1 := below_cell2 hW ltX DX.c1
    have hc2 := below_cell2 hW ltX DX.c2
    go_simp
  refine Drawn.take (i := 2) (v := dV n1 a1 z1.length c1 e1) rfl (by kernel_rfl) (by kernel_rfl) (by kernel_rfl) (fun _ _ _ h => h) rfl (fun W hW => ?_) HI ?_
  · have hc0 := below_cell2 hW ltA DA.c0
    have hc1 := below_cell2 hW ltA DA.c1
    have hc2 := below_cell2 hW ltA DA.c2
    go_simp
  refine Drawn.one (j := 1) (by kernel_rfl) rfl (fun K hK => ?_)
  go_simp
  refine (dmay36 n1 ax cx z1 e1 _ (L.all (ax, z1) (.head _)) HU.out.len HU.out.rng false HQ.out).mono ?_
  rintro e w4 ⟨rfl, h4⟩
  replace HI := HI.trans (h4.mono HI.size)
  replace L := L.keep h4
  replace BX := BX.keep h4
  replace HT := Hide.mk (HT.out.below h4 (Nat.le_refl _))
  replace HB := below_then HB h4
  clear h4
  refine hK _ _ HI ?_
  clear hK K
  refine Drawn.one (j := 3) (by kernel_rfl) rfl (fun K hK => ?_)
  go_simp
  refine (drefmay37 n1 a1 c1 z1 e1 _ ⟨(L.all (a1, z1) (.tail _ (.head _))), HU.out.len, HU.out.rng⟩ false HQ.out).mono ?_
  rintro e w5 ⟨rfl, h5⟩
  replace HI := HI.trans (h5.mono HI.size)
  replace L := L.keep h5
  replace BX := BX.keep h5
  replace HT := Hide.mk (HT.out.below h5 (Nat.le_refl _))
  replace HB := below_then HB h5
  clear h5
  refine hK _ _ HI ?_
  clear hK K
  refine Drawn.take (i := 4) (v := .bool false) rfl (by kernel_rfl) (by kernel_rfl) (by kernel_rfl) (fun _ _ _ h => h) rfl (fun W hW => ?_) HI ?_
  · go_simp
  refine Drawn.done (by kernel_rfl) ?_
  clear HI DX DA ltX ltA
  have HS5 := HB
  have fX0 := (BX.all (w2.heap.size, #[.bool n1, .slice ax z1.length cx, .int .i64 e1]) (.head _)).c0
  have fX1 := (BX.all (w2.heap.size, #[.bool n1, .slice ax z1.length cx, .int .i64 e1]) (.head _)).c1
  have fX2 := (BX.all (w2.heap.size, #[.bool n1, .slice ax z1.length cx, .int .i64 e1]) (.head _)).c2
  go_wp2_with fail
  refine (dmake_far n1 ax cx z1 e1 _ ⟨(L.all (ax, z1) (.head _)), HU.out.len, HU.out.rng⟩ HMM.out HT.out hx1 hx2 hz HTt.out HH0.out).mono ?_
  rintro e w6 ⟨rfl, h6⟩
  clear fX0 fX1 fX2
  replace L := (L.keep h6).keep (below_alloc w6 (.cells #[.bool false, .slice none 0 0, .int .i64 0] 44))
  replace BX := BX.push h6 (.bool false) (.slice none 0 0) (.int .i64 0)
  replace HT := Hide.mk ((HT.out.below h6 (Nat.le_refl _)).below (below_alloc w6 (.cells #[.bool false, .slice none 0 0, .int .i64 0] 44)) (Nat.le_refl _))
  replace HB := below_then (below_then HB h6) (below_alloc w6 (.cells #[.bool false, .slice none 0 0, .int .i64 0] 44))
  clear h6
  have fX0 := (BX.all (w2.heap.size, #[.bool n1, .slice ax z1.length cx, .int .i64 e1]) (.tail _ (.head _))).c0
  have fX1 := (BX.all (w2.heap.size, #[.bool n1, .slice ax z1.length cx, .int .i64 e1]) (.tail _ (.head _))).c1
  have fX2 := (BX.all (w2.heap.size, #[.bool n1, .slice ax z1.length cx, .int .i64 e1]) (.tail _ (.head _))).c2
  have fA0 := (BX.all (w.heap.size, #[.bool n1, .slice a1 z1.length c1, .int .i64 e1]) (.tail _ (.tail _ (.head _)))).c0
  have fA1 := (BX.all (w.heap.size, #[.bool n1, .slice a1 z1.length c1, .int .i64 e1]) (.tail _ (.tail _ (.head _)))).c1
  have fA2 := (BX.all (w.heap.size, #[.bool n1, .slice a1 z1.length c1, .int .i64 e1]) (.tail _ (.tail _ (.head _)))).c2
  go_wp2_with fail
  refine (dsame_mag ax a1 cx c1 z1 _ (L.all (ax, z1) (.head _)) (L.all (a1, z1) (.tail _ (.head _))) HLm.out.2).mono ?_
  rintro e w7 ⟨rfl, h7⟩
  clear fX0 fX1 fX2 fA0 fA1 fA2
  replace L := L.keep h7
  replace BX := BX.keep h7
  replace HT := Hide.mk (HT.out.below h7 (Nat.le_refl _))
  replace HB := below_then HB h7
  clear h7
  have fA0 := (BX.all (w.heap.size, #[.bool n1, .slice a1 z1.length c1, .int .i64 e1]) (.tail _ (.tail _ (.head _)))).c0
  have fA1 := (BX.all (w.heap.size, #[.bool n1, .slice a1 z1.length c1, .int .i64 e1]) (.tail _ (.tail _ (.head _)))).c1
  have fA2 := (BX.all (w.heap.size, #[.bool n1, .slice a1 z1.length c1, .int .i64 e1]) (.tail _ (.tail _ (.head _)))).c2
  go_wp2_with fail
  refine (refMay_yes a1 c1 z1 _ (L.all (a1, z1) (.tail _ (.head _))) HLm.out.2 HMM.out).mono ?_
  rintro e w' ⟨rfl, rfl⟩
  clear fA0 fA1 fA2
  have fA0 := (BX.all (w.heap.size, #[.bool n1, .slice a1 z1.length c1, .int .i64 e1]) (.tail _ (.tail _ (.head _)))).c0
  have fA1 := (BX.all (w.heap.size, #[.bool n1, .slice a1 z1.length c1, .int .i64 e1]) (.tail _ (.tail _ (.head _)))).c1
  have fA2 := (BX.all (w.heap.size, #[.bool n1, .slice a1 z1.length c1, .int .i64 e1]) (.tail _ (.tail _ (.head _)))).c2
  go_wp2_with fail
  refine (refLowN a1 c1 z1 _ (L.all (a1, z1) (.tail _ (.head _))) g1 hz).mono ?_
  rintro e w' ⟨rfl, t2, rfl, ht2, _⟩
  clear fA0 fA1 fA2
  obtain rfl := ht2.unique HTt.out
  clear ht2
  clear HH0 h0
  generalize hu : (t2 : Int) = u at *
  have hu0 : 0 ≤ u := by omega
  have hu1 : u < 131072 := by omega
  have HU2 := Hide.mk hu
  clear hu htl
  have fM0 := (BX.all (w6.heap.size, #[.bool false, .slice none 0 0, .int .i64 0]) (.head _)).c0
  have fM1 := (BX.all (w6.heap.size, #[.bool false, .slice none 0 0, .int .i64 0]) (.head _)).c1
  have fM2 := (BX.all (w6.heap.size, #[.bool false, .slice none 0 0, .int .i64 0]) (.head _)).c2
  have fA0 := (BX.all (w.heap.size, #[.bool n1, .slice a1 z1.length c1, .int .i64 e1]) (.tail _ (.tail _ (.head _)))).c0
  have fA1 := (BX.all (w.heap.size, #[.bool n1, .slice a1 z1.length c1, .int .i64 e1]) (.tail _ (.tail _ (.head _)))).c1
  have fA2 := (BX.all (w.heap.size, #[.bool n1, .slice a1 z1.length c1, .int .i64 e1]) (.tail _ (.tail _ (.head _)))).c2
  go_wp2_with fail
  refine (dnone_yes _ 20).mono ?_
  rintro e w8 ⟨rfl, h8⟩
  clear fM0 fM1 fM2 fA0 fA1 fA2
  replace L := L.keep h8
  replace BX := BX.keep h8
  replace HT := Hide.mk (HT.out.below h8 (Nat.le_refl _))
  replace HB := below_then HB h8
  clear h8
  go_wp2_with fail
  refine (dknown34 _ HT.out).mono ?_
  rintro e w9 ⟨rfl, h9⟩
  have hb9 := below_then HB h9
  clear h9 L BX HT HB
  go_wp2
  go_ret
  exact ⟨rfl, hb9⟩
set_option maxHeartbeats 8000000 in
theorem dmakes_ok_true (n1 : Bool) (a1 : Option Addr) (c1 : Nat) (z1 : List Int) (e1 : Int) (w : World) (u1 : DLie w a1 z1) (hnil : a1 = none → c1 = 0) (hx1 : -9223372036854775808 ≤ e1) (hx2 : e1 ≤ 9223372036854775807) (hT : Tab w) (hl : (z1.length : Int) ≤ 4100) (hq : dmayB n1 z1 e1 = true) (hm : mayB z1 = true) (hz : 0 < z1.length) {t : Nat} (ht : LowBit (Nt.val z1) t) (h0 : -16777216 ≤ e1 + t) (h1 : e1 + t ≤ 16777216) :
    Calls Tryd.prog 7 #[dV n1 a1 z1.length c1 e1] w fun e w' => e = .returned (.bool true) ∧ Below w.heap.size w w' := by
  have HQ := Hide.mk hq
  have HU := Hide.mk u1
  have HN := Hide.mk hnil
  have g1 : Good z1 (Nt.val z1) := ⟨(may_can u1.rng hm).1, (may_can u1.rng hm).2, rfl⟩
  have HMM := Hide.mk hm
  have HTt := Hide.mk ht
  have htl := low_lt ht (g1.pos hz) g1.lt.2
  clear ht
  clear hq hnil hm
  have hb1 := below_alloc w (.cells #[.bool n1, .slice a1 z1.length c1, .int .i64 e1] 44)
  have BX : Boxes (w.alloc (.cells #[.bool n1, .slice a1 z1.length c1, .int .i64 e1] 44)) [(w.heap.size, #[.bool n1, .slice a1 z1.length c1, .int .i64 e1])] := ⟨by intro p hp; obtain rfl := List.mem_singleton.1 hp; exact dcell_new _ _ _ _⟩
  have HLm : Hide (z1.length ≤ 1000000 ∧ z1.length ≤ maxLen) := ⟨by unfold maxLen; omega⟩
  go_enter Tryd.func7, Tryd.ntmps7
  go_wp2_with fail
  generalize hw1 : w.alloc (.cells #[.bool n1, .slice a1 z1.length c1, .int .i64 e1] 44) = w1 at *
  clear hw1
  have HB : Below w.heap.size w w1 := hb1
  have L : Live w1 [(a1, z1)] := ⟨by simp [u1.lie.below hb1 (Nat.le_refl _)]⟩
  have HT := Hide.mk (hT.below hb1 (Nat.le_refl _))
  clear hb1 u1 hT
  refine (dlent35 n1 a1 c1 z1 e1 _ (L.all (a1, z1) (.head _)) HLm.out.1 HN.out).mono ?_
  rintro e w2 ⟨ax, cx, rfl, hx, hbx, _⟩
  replace L := (L.push hx hbx).keep (below_alloc w2 (.cells #[.bool n1, .slice ax z1.length cx, .int .i64 e1] 44))
  replace BX := BX.push hbx (.bool n1) (.slice ax z1.length cx) (.int .i64 e1)
  replace HT := Hide.mk ((HT.out.below hbx (Nat.le_refl _)).below (below_alloc w2 (.cells #[.bool n1, .slice ax z1.length cx, .int .i64 e1] 44)) (Nat.le_refl _))
  replace HB := below_then (below_then HB hbx) (below_alloc w2 (.cells #[.bool n1, .slice ax z1.length cx, .int .i64 e1] 44))
  clear hx hbx
  go_wp2_with fail
  generalize hw3 : w2.alloc (.cells #[.bool n1, .slice ax z1.length cx, .int .i64 e1] 44) = w3 at *
  clear hw3
  have DX := (BX.all (w2.heap.size, #[.bool n1, .slice ax z1.length cx, .int .i64 e1]) (.head _))
  have ltX : w2.heap.size < w3.heap.size := (Array.getElem?_eq_some_iff.1 DX.1).1
  have DA := (BX.all (w.heap.size, #[.bool n1, .slice a1 z1.length c1, .int .i64 e1]) (.tail _ (.head _)))
  have ltA : w.heap.size < w3.heap.size := (Array.getElem?_eq_some_iff.1 DA.1).1
  have HI : Below w3.heap.size w3 w3.drew := (Below.refl _ _).drew
  replace L : Live w3.drew _ := L.keep (Below.refl _ _).drew
  replace HT : Hide (Tab w3.drew) := ⟨HT.out.below (Below.refl _ _).drew (Nat.le_refl _)⟩
  replace HB : Below w.heap.size w w3.drew := HB.drew
  replace BX : Boxes w3.drew _ := BX.keep (Below.refl _ _).drew
  refine Drawn.enter (fun W => Below w3.heap.size w3 W) (by kernel_rfl) ?_
  refine Drawn.take (i := 0) (v := dV n1 ax z1.length cx e1) rfl (by kernel_rfl) (by kernel_rfl) (by kernel_rfl) (fun _ _ _ h => h) rfl (fun W hW => ?_) HI ?_
  · have hc0 := below_cell2 hW ltX DX.c0
    have hc1 := below_cell2 hW ltX DX.c1
    have hc2 := below_cell2 hW ltX DX.c2
    go_simp
  refine Drawn.take (i := 2) (v := dV n1 a1 z1.length c1 e1) rfl (by kernel_rfl) (by kernel_rfl) (by kernel_rfl) (fun _ _ _ h => h) rfl (fun W hW => ?_) HI ?_
  · have hc0 := below_cell2 hW ltA DA.c0
    have hc1 := below_cell2 hW ltA DA.c1
    have hc2 := below_cell2 hW ltA DA.c2
    go_simp
  refine Drawn.one (j := 1) (by kernel_rfl) rfl (fun K hK => ?_)
  go_simp
  refine (dmay36 n1 ax cx z1 e1 _ (L.all (ax, z1) (.head _)) HU.out.len HU.out.rng true HQ.out).mono ?_
  rintro e w4 ⟨rfl, h4⟩
  replace HI := HI.trans (h4.mono HI.size)
  replace L := L.keep h4
  replace BX := BX.keep h4
  replace HT := Hide.mk (HT.out.below h4 (Nat.le_refl _))
  replace HB := below_then HB h4
  clear h4
  refine hK _ _ HI ?_
  clear hK K
  refine Drawn.one (j := 3) (by kernel_rfl) rfl (fun K hK => ?_)
  go_simp
  refine (drefmay37 n1 a1 c1 z1 e1 _ ⟨(L.all (a1, z1) (.tail _ (.head _))), HU.out.len, HU.out.rng⟩ true HQ.out).mono ?_
  rintro e w5 ⟨rfl, h5⟩
  replace HI := HI.trans (h5.mono HI.size)
  replace L := L.keep h5
  replace BX := BX.keep h5
  replace HT := Hide.mk (HT.out.below h5 (Nat.le_refl _))
  replace HB := below_then HB h5
  clear h5
  refine hK _ _ HI ?_
  clear hK K
  refine Drawn.take (i := 4) (v := .bool false) rfl (by kernel_rfl) (by kernel_rfl) (by kernel_rfl) (fun _ _ _ h => h) rfl (fun W hW => ?_) HI ?_
  · go_simp
  refine Drawn.done (by kernel_rfl) ?_
  clear HI DX DA ltX ltA
  have HS5 := HB
  have L5 := L
  have BX5 := BX
  have HT5 := HT
  have fX0 := (BX.all (w2.heap.size, #[.bool n1, .slice ax z1.length cx, .int .i64 e1]) (.head _)).c0
  have fX1 := (BX.all (w2.heap.size, #[.bool n1, .slice ax z1.length cx, .int .i64 e1]) (.head _)).c1
  have fX2 := (BX.all (w2.heap.size, #[.bool n1, .slice ax z1.length cx, .int .i64 e1]) (.head _)).c2
  go_wp2_with fail
  refine (dmake_ok n1 ax cx z1 e1 _ ⟨(L.all (ax, z1) (.head _)), HU.out.len, HU.out.rng⟩ HMM.out HT.out hx1 hx2 hz HTt.out h0 h1).mono ?_
  rintro e w6 ⟨zm, am, cm, rfl, h6, hown⟩
  clear fX0 fX1 fX2
  have Gm := h6.good
  have HOW := Hide.mk hown
  have h6b := h6.bel
  have h6l := h6.lie
  clear h6 hown
  have HB6 := Hide.mk h6b
  have HE := below_alloc w6 (.cells #[.bool n1, .slice am zm.length cm, .int .i64 (e1 + t)] 44)
  replace L := (L.push h6l h6b).keep (below_alloc w6 (.cells #[.bool n1, .slice am zm.length cm, .int .i64 (e1 + t)] 44))
  replace BX := BX.push h6b (.bool n1) (.slice am zm.length cm) (.int .i64 (e1 + t))
  replace HT := Hide.mk ((HT.out.below h6b (Nat.le_refl _)).below (below_alloc w6 (.cells #[.bool n1, .slice am zm.length cm, .int .i64 (e1 + t)] 44)) (Nat.le_refl _))
  replace HB := below_then (below_then HB h6b) (below_alloc w6 (.cells #[.bool n1, .slice am zm.length cm, .int .i64 (e1 + t)] 44))
  clear h6b h6l
  have fX0 := (BX.all (w2.heap.size, #[.bool n1, .slice ax z1.length cx, .int .i64 e1]) (.tail _ (.head _))).c0
  have fX1 := (BX.all (w2.heap.size, #[.bool n1, .slice ax z1.length cx, .int .i64 e1]) (.tail _ (.head _))).c1
  have fX2 := (BX.all (w2.heap.size, #[.bool n1, .slice ax z1.length cx, .int .i64 e1]) (.tail _ (.head _))).c2
  have fA0 := (BX.all (w.heap.size, #[.bool n1, .slice a1 z1.length c1, .int .i64 e1]) (.tail _ (.tail _ (.head _)))).c0
  have fA1 := (BX.all (w.heap.size, #[.bool n1, .slice a1 z1.length c1, .int .i64 e1]) (.tail _ (.tail _ (.head _)))).c1
  have fA2 := (BX.all (w.heap.size, #[.bool n1, .slice a1 z1.length c1, .int .i64 e1]) (.tail _ (.tail _ (.head _)))).c2
  go_wp2_with fail
  refine (dsame_mag ax a1 cx c1 z1 _ (L.all (ax, z1) (.tail _ (.head _))) (L.all (a1, z1) (.tail _ (.tail _ (.head _)))) HLm.out.2).mono ?_
  rintro e w7 ⟨rfl, h7⟩
  clear fX0 fX1 fX2 fA0 fA1 fA2
  replace HE := below_then HE h7
  replace L := L.keep h7
  replace BX := BX.keep h7
  replace HT := Hide.mk (HT.out.below h7 (Nat.le_refl _))
  replace HB := below_then HB h7
  clear h7
  have fA0 := (BX.all (w.heap.size, #[.bool n1, .slice a1 z1.length c1, .int .i64 e1]) (.tail _ (.tail _ (.head _)))).c0
  have fA1 := (BX.all (w.heap.size, #[.bool n1, .slice a1 z1.length c1, .int .i64 e1]) (.tail _ (.tail _ (.head _)))).c1
  have fA2 := (BX.all (w.heap.size, #[.bool n1, .slice a1 z1.length c1, .int .i64 e1]) (.tail _ (.tail _ (.head _)))).c2
  go_wp2_with fail
  refine (refMay_yes a1 c1 z1 _ (L.all (a1, z1) (.tail _ (.tail _ (.head _)))) HLm.out.2 HMM.out).mono ?_
  rintro e w' ⟨rfl, rfl⟩
  clear fA0 fA1 fA2
  have fA0 := (BX.all (w.heap.size, #[.bool n1, .slice a1 z1.length c1, .int .i64 e1]) (.tail _ (.tail _ (.head _)))).c0
  have fA1 := (BX.all (w.heap.size, #[.bool n1, .slice a1 z1.length c1, .int .i64 e1]) (.tail _ (.tail _ (.head _)))).c1
  have fA2 := (BX.all (w.heap.size, #[.bool n1, .slice a1 z1.length c1, .int .i64 e1]) (.tail _ (.tail _ (.head _)))).c2
  go_wp2_with fail
  refine (refLowN a1 c1 z1 _ (L.all (a1, z1) (.tail _ (.tail _ (.head _)))) g1 hz).mono ?_
  rintro e w' ⟨rfl, t2, rfl, ht2, _⟩
  clear fA0 fA1 fA2
  obtain rfl := ht2.unique HTt.out
  clear ht2
  generalize hu : (t2 : Int) = u at *
  have hu0 : 0 ≤ u := by omega
  have hu1 : u < 131072 := by omega
  have HU2 := Hide.mk hu
  clear hu htl
  have fM0 := (BX.all (w6.heap.size, #[.bool n1, .slice am zm.length cm, .int .i64 (e1 + u)]) (.head _)).c0
  have fM1 := (BX.all (w6.heap.size, #[.bool n1, .slice am zm.length cm, .int .i64 (e1 + u)]) (.head _)).c1
  have fM2 := (BX.all (w6.heap.size, #[.bool n1, .slice am zm.length cm, .int .i64 (e1 + u)]) (.head _)).c2
  have fA0 := (BX.all (w.heap.size, #[.bool n1, .slice a1 z1.length c1, .int .i64 e1]) (.tail _ (.tail _ (.head _)))).c0
  have fA1 := (BX.all (w.heap.size, #[.bool n1, .slice a1 z1.length c1, .int .i64 e1]) (.tail _ (.tail _ (.head _)))).c1
  have fA2 := (BX.all (w.heap.size, #[.bool n1, .slice a1 z1.length c1, .int .i64 e1]) (.tail _ (.tail _ (.head _)))).c2
  go_wp2_with fail
  clear fM0 fM1 fM2 fA0 fA1 fA2
  replace HE : Below w6.heap.size w6 w7.drew := HE.drew
  have DM := (BX.all (w6.heap.size, #[.bool n1, .slice am zm.length cm, .int .i64 (e1 + u)]) (.head _))
  have ltM : w6.heap.size < w7.heap.size := (Array.getElem?_eq_some_iff.1 DM.1).1
  have DA := (BX.all (w.heap.size, #[.bool n1, .slice a1 z1.length c1, .int .i64 e1]) (.tail _ (.tail _ (.head _))))
  have ltA : w.heap.size < w7.heap.size := (Array.getElem?_eq_some_iff.1 DA.1).1
  have HI : Below w7.heap.size w7 w7.drew := (Below.refl _ _).drew
  replace L : Live w7.drew _ := L.keep (Below.refl _ _).drew
  replace HT : Hide (Tab w7.drew) := ⟨HT.out.below (Below.refl _ _).drew (Nat.le_refl _)⟩
  replace HB : Below w.heap.size w w7.drew := HB.drew
  replace BX : Boxes w7.drew _ := BX.keep (Below.refl _ _).drew
  refine Drawn.enter (fun W => Below w7.heap.size w7 W) (by kernel_rfl) ?_
  refine Drawn.take (i := 0) (v := dV n1 am zm.length cm (e1 + u)) rfl (by kernel_rfl) (by kernel_rfl) (by kernel_rfl) (fun _ _ _ h => h) rfl (fun W hW => ?_) HI ?_
  · have hc0 := below_cell2 hW ltM DM.c0
    have hc1 := below_cell2 hW ltM DM.c1
    have hc2 := below_cell2 hW ltM DM.c2
    go_simp
  refine Drawn.take (i := 1) (v := .pointer (some ⟨w.heap.size, 0, none⟩)) rfl (by kernel_rfl) (by kernel_rfl) (by kernel_rfl) (fun _ _ _ h => h) rfl (fun W hW => ?_) HI ?_
  · go_simp
  refine Drawn.take (i := 2) (v := .bool n1) rfl (by kernel_rfl) (by kernel_rfl) (by kernel_rfl) (fun _ _ _ h => h) rfl (fun W hW => ?_) HI ?_
  · have hc0 := below_cell2 hW ltA DA.c0
    go_simp
  refine Drawn.take (i := 3) (v := .pointer (some ⟨w.heap.size, 1, none⟩)) rfl (by kernel_rfl) (by kernel_rfl) (by kernel_rfl) (fun _ _ _ h => h) rfl (fun W hW => ?_) HI ?_
  · go_simp
  refine Drawn.take (i := 4) (v := .slice a1 z1.length c1) rfl (by kernel_rfl) (by kernel_rfl) (by kernel_rfl) (fun _ _ _ h => h) rfl (fun W hW => ?_) HI ?_
  · have hc0 := below_cell2 hW ltA DA.c1
    go_simp
  refine Drawn.take (i := 5) (v := .pointer (some ⟨w.heap.size, 2, none⟩)) rfl (by kernel_rfl) (by kernel_rfl) (by kernel_rfl) (fun _ _ _ h => h) rfl (fun W hW => ?_) HI ?_
  · go_simp
  refine Drawn.take (i := 6) (v := .int .i64 e1) rfl (by kernel_rfl) (by kernel_rfl) (by kernel_rfl) (fun _ _ _ h => h) rfl (fun W hW => ?_) HI ?_
  · have hc0 := below_cell2 hW ltA DA.c2
    go_simp
  refine Drawn.one (j := 7) (by kernel_rfl) rfl (fun K hK => ?_)
  go_simp
  refine (dform41 n1 a1 c1 z1 e1 _ (L.all (a1, z1) (.tail _ (.tail _ (.head _)))) g1 hz HTt.out (by omega) (by omega)).mono ?_
  rintro e w8 ⟨zf, af, cf, rfl, hf⟩
  rw [HU2.out]
  have Gf := hf.good
  have hfb := hf.bel
  have hfl := hf.lie
  clear hf
  replace HE := below_then HE hfb
  replace HI := HI.trans (hfb.mono HI.size)
  replace L := L.push hfl hfb
  replace BX := BX.keep hfb
  replace HT := Hide.mk (HT.out.below hfb (Nat.le_refl _))
  replace HB := below_then HB hfb
  clear hfb hfl
  refine hK _ _ HI ?_
  clear hK K
  refine Drawn.one (j := 8) (by kernel_rfl) rfl (fun K hK => ?_)
  go_simp
  refine (dsame40 n1 n1 am af cm cf zm zf (e1 + u) (e1 + u) _ ⟨(L.all (am, zm) (.tail _ (.head _))), by have := Gm.len; unfold maxLen; omega, Gm.can.1⟩ ⟨(L.all (af, zf) (.head _)), by have := Gf.len; unfold maxLen; omega, Gf.can.1⟩ true (decide_eq_true ⟨rfl, rfl, Gm.same Gf rfl⟩)).mono ?_
  rintro e w9 ⟨rfl, h9⟩
  replace HE := below_then HE h9
  replace HI := HI.trans (h9.mono HI.size)
  replace L := L.keep h9
  replace BX := BX.keep h9
  replace HT := Hide.mk (HT.out.below h9 (Nat.le_refl _))
  replace HB := below_then HB h9
  clear h9
  refine hK _ _ HI ?_
  clear hK K
  refine Drawn.take (i := 9) (v := .bool true) rfl (by kernel_rfl) (by kernel_rfl) (by kernel_rfl) (fun _ _ _ h => h) rfl (fun W hW => ?_) HI ?_
  · go_simp
  refine Drawn.take (i := 10) (v := .int .i64 0) rfl (by kernel_rfl) (by kernel_rfl) (by kernel_rfl) (fun _ _ _ h => h) rfl (fun W hW => ?_) HI ?_
  · go_simp
  refine Drawn.take (i := 11) (v := .bool true) rfl (by kernel_rfl) (by kernel_rfl) (by kernel_rfl) (fun _ _ _ h => h) rfl (fun W hW => ?_) HI ?_
  · go_simp
  refine Drawn.take (i := 12) (v := .bool true) rfl (by kernel_rfl) (by kernel_rfl) (by kernel_rfl) (fun _ _ _ h => h) rfl (fun W hW => ?_) HI ?_
  · go_simp
  refine Drawn.take (i := 13) (v := .bool true) rfl (by kernel_rfl) (by kernel_rfl) (by kernel_rfl) (fun _ _ _ h => h) rfl (fun W hW => ?_) HI ?_
  · go_simp
  refine Drawn.done (by kernel_rfl) ?_
  clear HI DM DA ltM ltA
  have fM0 := (BX.all (w6.heap.size, #[.bool n1, .slice am zm.length cm, .int .i64 (e1 + u)]) (.head _)).c0
  have fM1 := (BX.all (w6.heap.size, #[.bool n1, .slice am zm.length cm, .int .i64 (e1 + u)]) (.head _)).c1
  have fM2 := (BX.all (w6.heap.size, #[.bool n1, .slice am zm.length cm, .int .i64 (e1 + u)]) (.head _)).c2
  go_wp2_with fail
  clear fM0 fM1 fM2
  have bm := below_alloc w9 (.cells #[.bool n1, .slice am zm.length cm, .int .i64 (e1 + u)] 44)
  have HMI : MInv w5.heap.size (w9.alloc (.cells #[.bool n1, .slice am zm.length cm, .int .i64 (e1 + u)] 44)) w9.heap.size #[.bool n1, .slice am zm.length cm, .int .i64 (e1 + u)] [⟨n1, am, cm, zm, e1 + u⟩] (w9.alloc (.cells #[.bool n1, .slice am zm.length cm, .int .i64 (e1 + u)] 44)) := ⟨Below.refl _ _, heap_alloc_new _ _, by
    intro i x hx
    match i, hx with
    | 0, hx => cases hx; exact (HOW.out.wrA.below (C := 0) HE).below (C := 0) bm⟩
  refine (dmark42 w5.heap.size w9.heap.size #[.bool n1, .slice am zm.length cm, .int .i64 (e1 + u)] [⟨n1, am, cm, zm, e1 + u⟩] _ HMI (by
    intro i x hx
    match i, hx with
    | 0, hx => cases hx; rfl) (by simp) (by
    intro i x hx
    match i, hx with
    | 0, hx => cases hx; have := Gm.len; show zm.length ≤ 1000000; omega)).mono ?_
  rintro e wk ⟨rfl, hk⟩
  have HCk : Below w5.heap.size w5 wk := (HB6.out.trans ((below_then HE bm).mono HB6.out.size)).trans hk
  have HBk := below_then HS5 HCk
  replace L := L5.keep HCk
  replace BX := BX5.keep HCk
  replace HT := Hide.mk (HT5.out.below HCk (Nat.le_refl _))
  replace HB := HBk
  clear HBk HCk hk bm HE HMI L5 BX5 HT5 HS5
  have fX0 := (BX.all (w2.heap.size, #[.bool n1, .slice ax z1.length cx, .int .i64 e1]) (.head _)).c0
  have fX1 := (BX.all (w2.heap.size, #[.bool n1, .slice ax z1.length cx, .int .i64 e1]) (.head _)).c1
  have fX2 := (BX.all (w2.heap.size, #[.bool n1, .slice ax z1.length cx, .int .i64 e1]) (.head _)).c2
  have fA0 := (BX.all (w.heap.size, #[.bool n1, .slice a1 z1.length c1, .int .i64 e1]) (.tail _ (.head _))).c0
  have fA1 := (BX.all (w.heap.size, #[.bool n1, .slice a1 z1.length c1, .int .i64 e1]) (.tail _ (.head _))).c1
  have fA2 := (BX.all (w.heap.size, #[.bool n1, .slice a1 z1.length c1, .int .i64 e1]) (.tail _ (.head _))).c2
  go_wp2_with fail
  refine (dsame_mag ax a1 cx c1 z1 _ (L.all (ax, z1) (.head _)) (L.all (a1, z1) (.tail _ (.head _))) HLm.out.2).mono ?_
  rintro e v7 ⟨rfl, h7⟩
  clear fX0 fX1 fX2 fA0 fA1 fA2
  replace L := L.keep h7
  replace BX := BX.keep h7
  replace HT := Hide.mk (HT.out.below h7 (Nat.le_refl _))
  replace HB := below_then HB h7
  clear h7
  go_wp2_with fail
  refine (dknown34 _ HT.out).mono ?_
  rintro e v9 ⟨rfl, h9⟩
  have hb9 := below_then HB h9
  clear h9 L BX HT HB
  go_wp2
  go_ret
  exact ⟨rfl, hb9⟩
set_option maxHeartbeats 8000000 in
theorem dmakes_ok_false (n1 : Bool) (a1 : Option Addr) (c1 : Nat) (z1 : List Int) (e1 : Int) (w : World) (u1 : DLie w a1 z1) (hnil : a1 = none → c1 = 0) (hx1 : -9223372036854775808 ≤ e1) (hx2 : e1 ≤ 9223372036854775807) (hT : Tab w) (hl : (z1.length : Int) ≤ 4100) (hq : dmayB n1 z1 e1 = false) (hm : mayB z1 = true) (hz : 0 < z1.length) {t : Nat} (ht : LowBit (Nt.val z1) t) (h0 : -16777216 ≤ e1 + t) (h1 : e1 + t ≤ 16777216) :
    Calls Tryd.prog 7 #[dV n1 a1 z1.length c1 e1] w fun e w' => e = .returned (.bool true) ∧ Below w.heap.size w w' := by
  have HQ := Hide.mk hq
  have HU := Hide.mk u1
  have HN := Hide.mk hnil
  have g1 : Good z1 (Nt.val z1) := ⟨(may_can u1.rng hm).1, (may_can u1.rng hm).2, rfl⟩
  have HMM := Hide.mk hm
  have HTt := Hide.mk ht
  have htl := low_lt ht (g1.pos hz) g1.lt.2
  clear ht
  clear hq hnil hm
  have hb1 := below_alloc w (.cells #[.bool n1, .slice a1 z1.length c1, .int .i64 e1] 44)
  have BX : Boxes (w.alloc (.cells #[.bool n1, .slice a1 z1.length c1, .int .i64 e1] 44)) [(w.heap.size, #[.bool n1, .slice a1 z1.length c1, .int .i64 e1])] := ⟨by intro p hp; obtain rfl := List.mem_singleton.1 hp; exact dcell_new _ _ _ _⟩
  have HLm : Hide (z1.length ≤ 1000000 ∧ z1.length ≤ maxLen) := ⟨by unfold maxLen; omega⟩
  go_enter Tryd.func7, Tryd.ntmps7
  go_wp2_with fail
  generalize hw1 : w.alloc (.cells #[.bool n1, .slice a1 z1.length c1, .int .i64 e1] 44) = w1 at *
  clear hw1
  have HB : Below w.heap.size w w1 := hb1
  have L : Live w1 [(a1, z1)] := ⟨by simp [u1.lie.below hb1 (Nat.le_refl _)]⟩
  have HT := Hide.mk (hT.below hb1 (Nat.le_refl _))
  clear hb1 u1 hT
  refine (dlent35 n1 a1 c1 z1 e1 _ (L.all (a1, z1) (.head _)) HLm.out.1 HN.out).mono ?_
  rintro e w2 ⟨ax, cx, rfl, hx, hbx, _⟩
  replace L := (L.push hx hbx).keep (below_alloc w2 (.cells #[.bool n1, .slice ax z1.length cx, .int .i64 e1] 44))
  replace BX := BX.push hbx (.bool n1) (.slice ax z1.length cx) (.int .i64 e1)
  replace HT := Hide.mk ((HT.out.below hbx (Nat.le_refl _)).below (below_alloc w2 (.cells #[.bool n1, .slice ax z1.length cx, .int .i64 e1] 44)) (Nat.le_refl _))
  replace HB := below_then (below_then HB hbx) (below_alloc w2 (.cells #[.bool n1, .slice ax z1.length cx, .int .i64 e1] 44))
  clear hx hbx
  go_wp2_with fail
  generalize hw3 : w2.alloc (.cells #[.bool n1, .slice ax z1.length cx, .int .i64 e1] 44) = w3 at *
  clear hw3
  have DX := (BX.all (w2.heap.size, #[.bool n1, .slice ax z1.length cx, .int .i64 e1]) (.head _))
  have ltX : w2.heap.size < w3.heap.size := (Array.getElem?_eq_some_iff.1 DX.1).1
  have DA := (BX.all (w.heap.size, #[.bool n1, .slice a1 z1.length c1, .int .i64 e1]) (.tail _ (.head _)))
  have ltA : w.heap.size < w3.heap.size := (Array.getElem?_eq_some_iff.1 DA.1).1
  have HI : Below w3.heap.size w3 w3.drew := (Below.refl _ _).drew
  replace L : Live w3.drew _ := L.keep (Below.refl _ _).drew
  replace HT : Hide (Tab w3.drew) := ⟨HT.out.below (Below.refl _ _).drew (Nat.le_refl _)⟩
  replace HB : Below w.heap.size w w3.drew := HB.drew
  replace BX : Boxes w3.drew _ := BX.keep (Below.refl _ _).drew
  refine Drawn.enter (fun W => Below w3.heap.size w3 W) (by kernel_rfl) ?_
  refine Drawn.take (i := 0) (v := dV n1 ax z1.length cx e1) rfl (by kernel_rfl) (by kernel_rfl) (by kernel_rfl) (fun _ _ _ h => h) rfl (fun W hW => ?_) HI ?_
  · have hc0 := below_cell2 hW ltX DX.c0
    have hc1 := below_cell2 hW ltX DX.c1
    have hc2 := below_cell2 hW ltX DX.c2
    go_simp
  refine Drawn.take (i := 2) (v := dV n1 a1 z1.length c1 e1) rfl (by kernel_rfl) (by kernel_rfl) (by kernel_rfl) (fun _ _ _ h => h) rfl (fun W hW => ?_) HI ?_
  · have hc0 := below_cell2 hW ltA DA.c0
    have hc1 := below_cell2 hW ltA DA.c1
    have hc2 := below_cell2 hW ltA DA.c2
    go_simp
  refine Drawn.one (j := 1) (by kernel_rfl) rfl (fun K hK => ?_)
  go_simp
  refine (dmay36 n1 ax cx z1 e1 _ (L.all (ax, z1) (.head _)) HU.out.len HU.out.rng false HQ.out).mono ?_
  rintro e w4 ⟨rfl, h4⟩
  replace HI := HI.trans (h4.mono HI.size)
  replace L := L.keep h4
  replace BX := BX.keep h4
  replace HT := Hide.mk (HT.out.below h4 (Nat.le_refl _))
  replace HB := below_then HB h4
  clear h4
  refine hK _ _ HI ?_
  clear hK K
  refine Drawn.one (j := 3) (by kernel_rfl) rfl (fun K hK => ?_)
  go_simp
  refine (drefmay37 n1 a1 c1 z1 e1 _ ⟨(L.all (a1, z1) (.tail _ (.head _))), HU.out.len, HU.out.rng⟩ false HQ.out).mono ?_
  rintro e w5 ⟨rfl, h5⟩
  replace HI := HI.trans (h5.mono HI.size)
  replace L := L.keep h5
  replace BX := BX.keep h5
  replace HT := Hide.mk (HT.out.below h5 (Nat.le_refl _))
  replace HB := below_then HB h5
  clear h5
  refine hK _ _ HI ?_
  clear hK K
  refine Drawn.take (i := 4) (v := .bool false) rfl (by kernel_rfl) (by kernel_rfl) (by kernel_rfl) (fun _ _ _ h => h) rfl (fun W hW => ?_) HI ?_
  · go_simp
  refine Drawn.done (by kernel_rfl) ?_
  clear HI DX DA ltX ltA
  have HS5 := HB
  have L5 := L
  have BX5 := BX
  have HT5 := HT
  have fX0 := (BX.all (w2.heap.size, #[.bool n1, .slice ax z1.length cx, .int .i64 e1]) (.head _)).c0
  have fX1 := (BX.all (w2.heap.size, #[.bool n1, .slice ax z1.length cx, .int .i64 e1]) (.head _)).c1
  have fX2 := (BX.all (w2.heap.size, #[.bool n1, .slice ax z1.length cx, .int .i64 e1]) (.head _)).c2
  go_wp2_with fail
  refine (dmake_ok n1 ax cx z1 e1 _ ⟨(L.all (ax, z1) (.head _)), HU.out.len, HU.out.rng⟩ HMM.out HT.out hx1 hx2 hz HTt.out h0 h1).mono ?_
  rintro e w6 ⟨zm, am, cm, rfl, h6, hown⟩
  clear fX0 fX1 fX2
  have Gm := h6.good
  have HOW := Hide.mk hown
  have h6b := h6.bel
  have h6l := h6.lie
  clear h6 hown
  have HB6 := Hide.mk h6b
  have HE := below_alloc w6 (.cells #[.bool n1, .slice am zm.length cm, .int .i64 (e1 + t)] 44)
  replace L := (L.push h6l h6b).keep (below_alloc w6 (.cells #[.bool n1, .slice am zm.length cm, .int .i64 (e1 + t)] 44))
  replace BX := BX.push h6b (.bool n1) (.slice am zm.length cm) (.int .i64 (e1 + t))
  replace HT := Hide.mk ((HT.out.below h6b (Nat.le_refl _)).below (below_alloc w6 (.cells #[.bool n1, .slice am zm.length cm, .int .i64 (e1 + t)] 44)) (Nat.le_refl _))
  replace HB := below_then (below_then HB h6b) (below_alloc w6 (.cells #[.bool n1, .slice am zm.length cm, .int .i64 (e1 + t)] 44))
  clear h6b h6l
  have fX0 := (BX.all (w2.heap.size, #[.bool n1, .slice ax z1.length cx, .int .i64 e1]) (.tail _ (.head _))).c0
  have fX1 := (BX.all (w2.heap.size, #[.bool n1, .slice ax z1.length cx, .int .i64 e1]) (.tail _ (.head _))).c1
  have fX2 := (BX.all (w2.heap.size, #[.bool n1, .slice ax z1.length cx, .int .i64 e1]) (.tail _ (.head _))).c2
  have fA0 := (BX.all (w.heap.size, #[.bool n1, .slice a1 z1.length c1, .int .i64 e1]) (.tail _ (.tail _ (.head _)))).c0
  have fA1 := (BX.all (w.heap.size, #[.bool n1, .slice a1 z1.length c1, .int .i64 e1]) (.tail _ (.tail _ (.head _)))).c1
  have fA2 := (BX.all (w.heap.size, #[.bool n1, .slice a1 z1.length c1, .int .i64 e1]) (.tail _ (.tail _ (.head _)))).c2
  go_wp2_with fail
  refine (dsame_mag ax a1 cx c1 z1 _ (L.all (ax, z1) (.tail _ (.head _))) (L.all (a1, z1) (.tail _ (.tail _ (.head _)))) HLm.out.2).mono ?_
  rintro e w7 ⟨rfl, h7⟩
  clear fX0 fX1 fX2 fA0 fA1 fA2
  replace HE := below_then HE h7
  replace L := L.keep h7
  replace BX := BX.keep h7
  replace HT := Hide.mk (HT.out.below h7 (Nat.le_refl _))
  replace HB := below_then HB h7
  clear h7
  have fA0 := (BX.all (w.heap.size, #[.bool n1, .slice a1 z1.length c1, .int .i64 e1]) (.tail _ (.tail _ (.head _)))).c0
  have fA1 := (BX.all (w.heap.size, #[.bool n1, .slice a1 z1.length c1, .int .i64 e1]) (.tail _ (.tail _ (.head _)))).c1
  have fA2 := (BX.all (w.heap.size, #[.bool n1, .slice a1 z1.length c1, .int .i64 e1]) (.tail _ (.tail _ (.head _)))).c2
  go_wp2_with fail
  refine (refMay_yes a1 c1 z1 _ (L.all (a1, z1) (.tail _ (.tail _ (.head _)))) HLm.out.2 HMM.out).mono ?_
  rintro e w' ⟨rfl, rfl⟩
  clear fA0 fA1 fA2
  have fA0 := (BX.all (w.heap.size, #[.bool n1, .slice a1 z1.length c1, .int .i64 e1]) (.tail _ (.tail _ (.head _)))).c0
  have fA1 := (BX.all (w.heap.size, #[.bool n1, .slice a1 z1.length c1, .int .i64 e1]) (.tail _ (.tail _ (.head _)))).c1
  have fA2 := (BX.all (w.heap.size, #[.bool n1, .slice a1 z1.length c1, .int .i64 e1]) (.tail _ (.tail _ (.head _)))).c2
  go_wp2_with fail
  refine (refLowN a1 c1 z1 _ (L.all (a1, z1) (.tail _ (.tail _ (.head _)))) g1 hz).mono ?_
  rintro e w' ⟨rfl, t2, rfl, ht2, _⟩
  clear fA0 fA1 fA2
  obtain rfl := ht2.unique HTt.out
  clear ht2
  generalize hu : (t2 : Int) = u at *
  have hu0 : 0 ≤ u := by omega
  have hu1 : u < 131072 := by omega
  have HU2 := Hide.mk hu
  clear hu htl
  have fM0 := (BX.all (w6.heap.size, #[.bool n1, .slice am zm.length cm, .int .i64 (e1 + u)]) (.head _)).c0
  have fM1 := (BX.all (w6.heap.size, #[.bool n1, .slice am zm.length cm, .int .i64 (e1 + u)]) (.head _)).c1
  have fM2 := (BX.all (w6.heap.size, #[.bool n1, .slice am zm.length cm, .int .i64 (e1 + u)]) (.head _)).c2
  have fA0 := (BX.all (w.heap.size, #[.bool n1, .slice a1 z1.length c1, .int .i64 e1]) (.tail _ (.tail _ (.head _)))).c0
  have fA1 := (BX.all (w.heap.size, #[.bool n1, .slice a1 z1.length c1, .int .i64 e1]) (.tail _ (.tail _ (.head _)))).c1
  have fA2 := (BX.all (w.heap.size, #[.bool n1, .slice a1 z1.length c1, .int .i64 e1]) (.tail _ (.tail _ (.head _)))).c2
  go_wp2_with fail
  clear fM0 fM1 fM2 fA0 fA1 fA2
  replace HE : Below w6.heap.size w6 w7.drew := HE.drew
  have DM := (BX.all (w6.heap.size, #[.bool n1, .slice am zm.length cm, .int .i64 (e1 + u)]) (.head _))
  have ltM : w6.heap.size < w7.heap.size := (Array.getElem?_eq_some_iff.1 DM.1).1
  have DA := (BX.all (w.heap.size, #[.bool n1, .slice a1 z1.length c1, .int .i64 e1]) (.tail _ (.tail _ (.head _))))
  have ltA : w.heap.size < w7.heap.size := (Array.getElem?_eq_some_iff.1 DA.1).1
  have HI : Below w7.heap.size w7 w7.drew := (Below.refl _ _).drew
  replace L : Live w7.drew _ := L.keep (Below.refl _ _).drew
  replace HT : Hide (Tab w7.drew) := ⟨HT.out.below (Below.refl _ _).drew (Nat.le_refl _)⟩
  replace HB : Below w.heap.size w w7.drew := HB.drew
  replace BX : Boxes w7.drew _ := BX.keep (Below.refl _ _).drew
  refine Drawn.enter (fun W => Below w7.heap.size w7 W) (by kernel_rfl) ?_
  refine Drawn.take (i := 0) (v := dV n1 am zm.length cm (e1 + u)) rfl (by kernel_rfl) (by kernel_rfl) (by kernel_rfl) (fun _ _ _ h => h) rfl (fun W hW => ?_) HI ?_
  · have hc0 := below_cell2 hW ltM DM.c0
    have hc1 := below_cell2 hW ltM DM.c1
    have hc2 := below_cell2 hW ltM DM.c2
    go_simp
  refine Drawn.take (i := 1) (v := .pointer (some ⟨w.heap.size, 0, none⟩)) rfl (by kernel_rfl) (by kernel_rfl) (by kernel_rfl) (fun _ _ _ h => h) rfl (fun W hW => ?_) HI ?_
  · go_simp
  refine Drawn.take (i := 2) (v := .bool n1) rfl (by kernel_rfl) (by kernel_rfl) (by kernel_rfl) (fun _ _ _ h => h) rfl (fun W hW => ?_) HI ?_
  · have hc0 := below_cell2 hW ltA DA.c0
    go_simp
  refine Drawn.take (i := 3) (v := .pointer (some ⟨w.heap.size, 1, none⟩)) rfl (by kernel_rfl) (by kernel_rfl) (by kernel_rfl) (fun _ _ _ h => h) rfl (fun W hW => ?_) HI ?_
  · go_simp
  refine Drawn.take (i := 4) (v := .slice a1 z1.length c1) rfl (by kernel_rfl) (by kernel_rfl) (by kernel_rfl) (fun _ _ _ h => h) rfl (fun W hW => ?_) HI ?_
  · have hc0 := below_cell2 hW ltA DA.c1
    go_simp
  refine Drawn.take (i := 5) (v := .pointer (some ⟨w.heap.size, 2, none⟩)) rfl (by kernel_rfl) (by kernel_rfl) (by kernel_rfl) (fun _ _ _ h => h) rfl (fun W hW => ?_) HI ?_
  · go_simp
  refine Drawn.take (i := 6) (v := .int .i64 e1) rfl (by kernel_rfl) (by kernel_rfl) (by kernel_rfl) (fun _ _ _ h => h) rfl (fun W hW => ?_) HI ?_
  · have hc0 := below_cell2 hW ltA DA.c2
    go_simp
  refine Drawn.one (j := 7) (by kernel_rfl) rfl (fun K hK => ?_)
  go_simp
  refine (dform41 n1 a1 c1 z1 e1 _ (L.all (a1, z1) (.tail _ (.tail _ (.head _)))) g1 hz HTt.out (by omega) (by omega)).mono ?_
  rintro e w8 ⟨zf, af, cf, rfl, hf⟩
  rw [HU2.out]
  have Gf := hf.good
  have hfb := hf.bel
  have hfl := hf.lie
  clear hf
  replace HE := below_then HE hfb
  replace HI := HI.trans (hfb.mono HI.size)
  replace L := L.push hfl hfb
  replace BX := BX.keep hfb
  replace HT := Hide.mk (HT.out.below hfb (Nat.le_refl _))
  replace HB := below_then HB hfb
  clear hfb hfl
  refine hK _ _ HI ?_
  clear hK K
  refine Drawn.one (j := 8) (by kernel_rfl) rfl (fun K hK => ?_)
  go_simp
  refine (dsame40 n1 n1 am af cm cf zm zf (e1 + u) (e1 + u) _ ⟨(L.all (am, zm) (.tail _ (.head _))), by have := Gm.len; unfold maxLen; omega, Gm.can.1⟩ ⟨(L.all (af, zf) (.head _)), by have := Gf.len; unfold maxLen; omega, Gf.can.1⟩ true (decide_eq_true ⟨rfl, rfl, Gm.same Gf rfl⟩)).mono ?_
  rintro e w9 ⟨rfl, h9⟩
  replace HE := below_then HE h9
  replace HI := HI.trans (h9.mono HI.size)
  replace L := L.keep h9
  replace BX := BX.keep h9
  replace HT := Hide.mk (HT.out.below h9 (Nat.le_refl _))
  replace HB := below_then HB h9
  clear h9
  refine hK _ _ HI ?_
  clear hK K
  refine Drawn.take (i := 9) (v := .bool true) rfl (by kernel_rfl) (by kernel_rfl) (by kernel_rfl) (fun _ _ _ h => h) rfl (fun W hW => ?_) HI ?_
  · go_simp
  refine Drawn.take (i := 10) (v := .int .i64 0) rfl (by kernel_rfl) (by kernel_rfl) (by kernel_rfl) (fun _ _ _ h => h) rfl (fun W hW => ?_) HI ?_
  · go_simp
  refine Drawn.take (i := 11) (v := .bool true) rfl (by kernel_rfl) (by kernel_rfl) (by kernel_rfl) (fun _ _ _ h => h) rfl (fun W hW => ?_) HI ?_
  · go_simp
  refine Drawn.take (i := 12) (v := .bool true) rfl (by kernel_rfl) (by kernel_rfl) (by kernel_rfl) (fun _ _ _ h => h) rfl (fun W hW => ?_) HI ?_
  · go_simp
  refine Drawn.take (i := 13) (v := .bool true) rfl (by kernel_rfl) (by kernel_rfl) (by kernel_rfl) (fun _ _ _ h => h) rfl (fun W hW => ?_) HI ?_
  · go_simp
  refine Drawn.done (by kernel_rfl) ?_
  clear HI DM DA ltM ltA
  have fM0 := (BX.all (w6.heap.size, #[.bool n1, .slice am zm.length cm, .int .i64 (e1 + u)]) (.head _)).c0
  have fM1 := (BX.all (w6.heap.size, #[.bool n1, .slice am zm.length cm, .int .i64 (e1 + u)]) (.head _)).c1
  have fM2 := (BX.all (w6.heap.size, #[.bool n1, .slice am zm.length cm, .int .i64 (e1 + u)]) (.head _)).c2
  go_wp2_with fail
  clear fM0 fM1 fM2
  have bm := below_alloc w9 (.cells #[.bool n1, .slice am zm.length cm, .int .i64 (e1 + u)] 44)
  have HMI : MInv w5.heap.size (w9.alloc (.cells #[.bool n1, .slice am zm.length cm, .int .i64 (e1 + u)] 44)) w9.heap.size #[.bool n1, .slice am zm.length cm, .int .i64 (e1 + u)] [⟨n1, am, cm, zm, e1 + u⟩] (w9.alloc (.cells #[.bool n1, .slice am zm.length cm, .int .i64 (e1 + u)] 44)) := ⟨Below.refl _ _, heap_alloc_new _ _, by
    intro i x hx
    match i, hx with
    | 0, hx => cases hx; exact (HOW.out.wrA.below (C := 0) HE).below (C := 0) bm⟩
  refine (dmark42 w5.heap.size w9.heap.size #[.bool n1, .slice am zm.length cm, .int .i64 (e1 + u)] [⟨n1, am, cm, zm, e1 + u⟩] _ HMI (by
    intro i x hx
    match i, hx with
    | 0, hx => cases hx; rfl) (by simp) (by
    intro i x hx
    match i, hx with
    | 0, hx => cases hx; have := Gm.len; show zm.length ≤ 1000000; omega)).mono ?_
  rintro e wk ⟨rfl, hk⟩
  have HCk : Below w5.heap.size w5 wk := (HB6.out.trans ((below_then HE bm).mono HB6.out.size)).trans hk
  have HBk := below_then HS5 HCk
  replace L := L5.keep HCk
  replace BX := BX5.keep HCk
  replace HT := Hide.mk (HT5.out.below HCk (Nat.le_refl _))
  replace HB := HBk
  clear HBk HCk hk bm HE HMI L5 BX5 HT5 HS5
  have fX0 := (BX.all (w2.heap.size, #[.bool n1, .slice ax z1.length cx, .int .i64 e1]) (.head _)).c0
  have fX1 := (BX.all (w2.heap.size, #[.bool n1, .slice ax z1.length cx, .int .i64 e1]) (.head _)).c1
  have fX2 := (BX.all (w2.heap.size, #[.bool n1, .slice ax z1.length cx, .int .i64 e1]) (.head _)).c2
  have fA0 := (BX.all (w.heap.size, #[.bool n1, .slice a1 z1.length c1, .int .i64 e1]) (.tail _ (.head _))).c0
  have fA1 := (BX.all (w.heap.size, #[.bool n1, .slice a1 z1.length c1, .int .i64 e1]) (.tail _ (.head _))).c1
  have fA2 := (BX.all (w.heap.size, #[.bool n1, .slice a1 z1.length c1, .int .i64 e1]) (.tail _ (.head _))).c2
  go_wp2_with fail
  refine (dsame_mag ax a1 cx c1 z1 _ (L.all (ax, z1) (.head _)) (L.all (a1, z1) (.tail _ (.head _))) HLm.out.2).mono ?_
  rintro e v7 ⟨rfl, h7⟩
  clear fX0 fX1 fX2 fA0 fA1 fA2
  replace L := L.keep h7
  replace BX := BX.keep h7
  replace HT := Hide.mk (HT.out.below h7 (Nat.le_refl _))
  replace HB := below_then HB h7
  clear h7
  go_wp2_with fail
  refine (dknown34 _ HT.out).mono ?_
  rintro e v9 ⟨rfl, h9⟩
  have hb9 := below_then HB h9
  clear h9 L BX HT HB
  go_wp2
  go_ret
  exact ⟨rfl, hb9⟩
theorem dmakes7 (n1 : Bool) (a1 : Option Addr) (c1 : Nat) (z1 : List Int) (e1 : Int) (w : World) (u1 : DLie w a1 z1) (hnil : a1 = none → c1 = 0) (hx1 : -9223372036854775808 ≤ e1) (hx2 : e1 ≤ 9223372036854775807) (hT : Tab w) :
    Calls Tryd.prog 7 #[dV n1 a1 z1.length c1 e1] w fun e w' => e = .returned (.bool true) ∧ Below w.heap.size w w' := by
  by_cases hl : (z1.length : Int) ≤ 4100
  · cases hm : mayB z1
    · have hq : dmayB n1 z1 e1 = false := by
        have hz : z1.length ≠ 0 := fun c => by simp [mayB, c] at hm
        unfold dmayB
        rw [if_neg hz, hm]
        rfl
      exact dmakes_bad n1 a1 c1 z1 e1 w u1 hnil hx1 hx2 hT hl hq hm
    · by_cases hz : 0 < z1.length
      · have g : Good z1 (Nt.val z1) := ⟨(may_can u1.rng hm).1, (may_can u1.rng hm).2, rfl⟩
        obtain ⟨t, ht⟩ := low_ex (g.pos hz)
        by_cases h0 : e1 + t < -16777216
        · cases hq : dmayB n1 z1 e1
          · exact dmakes_farlo_false n1 a1 c1 z1 e1 w u1 hnil hx1 hx2 hT hl hq hm hz ht (.inl h0) h0
          · exact dmakes_farlo_true n1 a1 c1 z1 e1 w u1 hnil hx1 hx2 hT hl hq hm hz ht (.inl h0) h0
        · by_cases h1 : 16777216 < e1 + t
          · cases hq : dmayB n1 z1 e1
            · exact dmakes_farhi_false n1 a1 c1 z1 e1 w u1 hnil hx1 hx2 hT hl hq hm hz ht (.inr h1) h1
            · exact dmakes_farhi_true n1 a1 c1 z1 e1 w u1 hnil hx1 hx2 hT hl hq hm hz ht (.inr h1) h1
          · cases hq : dmayB n1 z1 e1
            · exact dmakes_ok_false n1 a1 c1 z1 e1 w u1 hnil hx1 hx2 hT hl hq hm hz ht (by omega) (by omega)
            · exact dmakes_ok_true n1 a1 c1 z1 e1 w u1 hnil hx1 hx2 hT hl hq hm hz ht (by omega) (by omega)
      · cases hq : dmayB n1 z1 e1
        · exact dmakes_nil_false n1 a1 c1 z1 e1 w u1 hnil hx1 hx2 hT hl hq hm (by omega)
        · exact dmakes_nil_true n1 a1 c1 z1 e1 w u1 hnil hx1 hx2 hT hl hq hm (by omega)
  · exact dmakes_long n1 a1 c1 z1 e1 w u1 hnil hx1 hx2 hT (by omega)
end Go.Proofs.YtjhkploelojaeaaDoor
