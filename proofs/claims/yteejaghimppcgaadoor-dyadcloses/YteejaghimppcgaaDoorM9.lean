import Derived.Test.YteejaghimppcgaaDoorM8
namespace Go.Proofs.YteejaghimppcgaaDoor
open Go.RowKit
set_option linter.unusedVariables false
set_option maxRecDepth 3000
theorem below3 (w : World) (A B C : Obj) : Below w.heap.size w (((w.alloc A).alloc B).alloc C) := below_then (below_then (below_alloc w A) (below_alloc _ B)) (below_alloc _ C)
theorem dcell3 (w : World) (A B C : Array Value) (h1 : A.size = 3) (h2 : B.size = 3) (h3 : C.size = 3) :
    DCell (((w.alloc (.cells A 36)).alloc (.cells B 36)).alloc (.cells C 36)) w.heap.size A ∧ DCell (((w.alloc (.cells A 36)).alloc (.cells B 36)).alloc (.cells C 36)) (w.heap.size + 1) B ∧ DCell (((w.alloc (.cells A 36)).alloc (.cells B 36)).alloc (.cells C 36)) (w.heap.size + 1 + 1) C ∧ (((w.alloc (.cells A 36)).alloc (.cells B 36)).alloc (.cells C 36)).heap.size = w.heap.size + 3 := by
  have e1 : (w.alloc (.cells A 36)).heap.size = w.heap.size + 1 := by simp
  have e2 : ((w.alloc (.cells A 36)).alloc (.cells B 36)).heap.size = w.heap.size + 2 := by simp
  have k1 : DCell (w.alloc (.cells A 36)) w.heap.size A := ⟨heap_alloc_new w _, h1⟩
  have k2 : DCell ((w.alloc (.cells A 36)).alloc (.cells B 36)) (w.heap.size + 1) B := ⟨by rw [← e1]; exact heap_alloc_new _ _, h2⟩
  have k3 : DCell (((w.alloc (.cells A 36)).alloc (.cells B 36)).alloc (.cells C 36)) (w.heap.size + 1 + 1) C := ⟨by rw [show w.heap.size + 1 + 1 = w.heap.size + 2 from rfl, ← e2]; exact heap_alloc_new _ _, h3⟩
  have k4 := k2.below (below_alloc ((w.alloc (.cells A 36)).alloc (.cells B 36)) (.cells C 36)) (by rw [e2]; omega)
  have k5 := k1.below (below_alloc (w.alloc (.cells A 36)) (.cells B 36)) (by rw [e1]; omega)
  exact ⟨k5.below (below_alloc ((w.alloc (.cells A 36)).alloc (.cells B 36)) (.cells C 36)) (by rw [e2]; omega), k4, k3, by simp⟩
theorem DCell.c0 {w : World} {g : Nat} {a b c : Value} (h : DCell w g #[a, b, c]) : w.cell? ⟨g, 0, none⟩ = some a := cell_of_row _ _ 0 _ 36 (0, 0) h.1
theorem DCell.c1 {w : World} {g : Nat} {a b c : Value} (h : DCell w g #[a, b, c]) : w.cell? ⟨g, 1, none⟩ = some b := cell_of_row _ _ 1 _ 36 (0, 0) h.1
theorem DCell.c2 {w : World} {g : Nat} {a b c : Value} (h : DCell w g #[a, b, c]) : w.cell? ⟨g, 2, none⟩ = some c := cell_of_row _ _ 2 _ 36 (0, 0) h.1
theorem DCell.fr {w : World} {g : Nat} {cs : Array Value} (h : DCell w g cs) (j : Nat) : w.frozen? ⟨g, j, none⟩ = false := frozen_of_row _ _ j _ 36 h.1
theorem below_cell2 {w w' : World} {B g i : Nat} {x : Value} (hb : Below B w w') (hg : g < B) (h : w.cell? ⟨g, i, none⟩ = some x) : w'.cell? ⟨g, i, none⟩ = some x := by
  rw [hb.cell (p := ⟨g, i, none⟩) hg]; exact h
theorem half_sum {x y : Int} (hx : x % 2 = 1) (hy : y % 2 = 1) (h : x < 4294967296 ^ 4096) (k : y < 4294967296 ^ 4096) : x / 2 + y / 2 + 1 < 4294967296 ^ 4096 := by
  have e : (4294967296 : Int) ^ 4096 = 4294967296 ^ 4095 * 4294967296 := Nt.pw_succ 4095
  rw [e] at h k ⊢
  generalize (4294967296 : Int) ^ 4095 = P at *
  omega
theorem below_step {w3 w w' : World} {B : Nat} (h : Below B w3 w) (hg : B < w.heap.size) (hb : Below w.heap.size w w') : Below B w3 w' := h.trans (hb.mono (Nat.le_of_lt hg))
theorem wrap_ok {x : Int} (h0 : -9223372036854775808 ≤ x) (h1 : x ≤ 9223372036854775807) : IntKind.i64.wrap x = x := by
  rw [IntKind.wrap_i64]; omega
section
variable {w w' : World} {x y ex : Int} {n1 n2 ng : Bool} {a : Option Addr} {n c : Nat} {xx code : Int}
theorem level_same (hq : (n1 == n2) = true) (hx : x % 2 = 1) (hy : y % 2 = 1) (h : DV w w' (sv n1 (x / 2 + y / 2 + 1)) (ex + 1) ng a n c xx code) : DV w w' (sv n1 x + sv n2 y) ex ng a n c xx code := by
  have e : sv n1 x + sv n2 y = sv n1 (x / 2 + y / 2 + 1) * 2 ^ 1 := by
    have : n1 = n2 := by simpa using hq
    subst this
    cases n1 <;> simp only [sv_t, sv_f] <;> omega
  rw [e]
  exact DV.scale (k := 1) h
theorem level_lt (hq : (n1 == n2) = false) (hx : x % 2 = 1) (hy : y % 2 = 1) (h : DV w w' (sv n2 (y / 2 - x / 2)) (ex + 1) ng a n c xx code) : DV w w' (sv n1 x + sv n2 y) ex ng a n c xx code := by
  have e : sv n1 x + sv n2 y = sv n2 (y / 2 - x / 2) * 2 ^ 1 := by
    cases n1 <;> cases n2 <;> simp only [sv_t, sv_f] <;> first | (simp at hq; done) | omega
  rw [e]
  exact DV.scale (k := 1) h
theorem level_ge (hq : (n1 == n2) = false) (hx : x % 2 = 1) (hy : y % 2 = 1) (h : DV w w' (sv n1 (x / 2 - y / 2)) (ex + 1) ng a n c xx code) : DV w w' (sv n1 x + sv n2 y) ex ng a n c xx code := by
  have e : sv n1 x + sv n2 y = sv n1 (x / 2 - y / 2) * 2 ^ 1 := by
    cases n1 <;> cases n2 <;> simp only [sv_t, sv_f] <;> first | (simp at hq; done) | omega
  rw [e]
  exact DV.scale (k := 1) h
end
set_option maxHeartbeats 4000000 in
theorem level_same_w (n1 n2 : Bool) (a1 a2 : Option Addr) (c1 c2 : Nat) (z1 z2 : List Int) (ex : Int) (w : World) (h1 : Lie w a1 z1) (h2 : Lie w a2 z2) (g1 : Good z1 (Nt.val z1)) (g2 : Good z2 (Nt.val z2)) (o1 : Nt.val z1 % 2 = 1) (o2 : Nt.val z2 % 2 = 1) (x1 : -16777216 ≤ ex) (x2 : ex ≤ 16777216) (hT : Tab w) (hq : (n1 == n2) = true) :
    Calls Tryd.prog 121 #[dV n1 a1 z1.length c1 ex, dV n2 a2 z2.length c2 ex] w fun e w' => DRes w w' (sv n1 (Nt.val z1) + sv n2 (Nt.val z2)) ex e := by
  obtain ⟨d1, d2, d3, hs3⟩ := dcell3 w #[.bool n1, .slice a1 z1.length c1, .int .i64 ex] #[.bool n2, .slice a2 z2.length c2, .int .i64 ex] #[.bool false, .slice none 0 0, .int .i64 0] rfl rfl rfl
  have hb3 := below3 w (.cells #[.bool n1, .slice a1 z1.length c1, .int .i64 ex] 36) (.cells #[.bool n2, .slice a2 z2.length c2, .int .i64 ex] 36) (.cells #[.bool false, .slice none 0 0, .int .i64 0] 36)
  have HQ := Hide.mk hq
  have HO := Hide.mk (And.intro o1 o2)
  clear o1 o2
  go_enter Tryd.func121, Tryd.ntmps121
  go_wp2_with fail
  generalize hw3 : ((w.alloc (.cells #[.bool n1, .slice a1 z1.length c1, .int .i64 ex] 36)).alloc (.cells #[.bool n2, .slice a2 z2.length c2, .int .i64 ex] 36)).alloc (.cells #[.bool false, .slice none 0 0, .int .i64 0] 36) = w3 at *
  clear hw3
  have B3 : Below (w.heap.size + 2) w3 w3 := Below.refl _ _
  have HI : Below (w.heap.size + 2) w3 w3.drew := B3.drew
  have L : Live w3.drew [(a1, z1), (a2, z2)] := ⟨by simp [h1.below hb3.drew (Nat.le_refl _), h2.below hb3.drew (Nat.le_refl _)]⟩
  have HT := Hide.mk (hT.below hb3.drew (Nat.le_refl _))
  have HB : Below w.heap.size w w3.drew := hb3.drew
  have HD : DCell w3.drew (w.heap.size + 1 + 1) #[.bool false, .slice none 0 0, .int .i64 0] := d3
  have hsz : w.heap.size + 1 + 1 < w3.drew.heap.size := by show _ < w3.heap.size; omega
  clear h1 h2 hT hb3 d3
  refine Drawn.enter (fun W => Below (w.heap.size + 2) w3 W) (by kernel_rfl) ?_
  refine Drawn.take (i := 0) (v := .pointer (some ⟨w.heap.size, 1, none⟩)) rfl (by kernel_rfl) (by kernel_rfl) (by kernel_rfl) (fun _ _ _ h => h) rfl (fun W hW => ?_) HI ?_
  · skip
    go_simp
  refine Drawn.take (i := 3) (v := .pointer (some ⟨w.heap.size + 1, 1, none⟩)) rfl (by kernel_rfl) (by kernel_rfl) (by kernel_rfl) (fun _ _ _ h => h) rfl (fun W hW => ?_) HI ?_
  · skip
    go_simp
  refine Drawn.take (i := 1) (v := .slice a1 z1.length c1) rfl (by kernel_rfl) (by kernel_rfl) (by kernel_rfl) (fun _ _ _ h => h) rfl (fun W hW => ?_) HI ?_
  · have hc := below_cell2 hW (by simp) d1.c1
    go_simp
  refine Drawn.take (i := 4) (v := .slice a2 z2.length c2) rfl (by kernel_rfl) (by kernel_rfl) (by kernel_rfl) (fun _ _ _ h => h) rfl (fun W hW => ?_) HI ?_
  · have hc := below_cell2 hW (by simp) d2.c1
    go_simp
  refine Drawn.one (j := 2) (by kernel_rfl) rfl (fun K hK => ?_)
  go_simp
  refine (shiftedD a1 c1 z1 _ (L.all (a1, z1) (by simp)) g1 (-1) 1 rfl (by decide) HT.out).mono ?_
  rintro e w4 ⟨zg, ag, cg, rfl, h4, _⟩
  have G4 := h4.good
  have HI4 := below_step HI hsz h4.bel
  replace HI := HI4
  replace L := L.push h4.lie h4.bel
  replace HT := Hide.mk (HT.out.below h4.bel (Nat.le_refl _))
  replace HB := below_then HB h4.bel
  replace HD := HD.below h4.bel hsz
  replace hsz := Nat.lt_of_lt_of_le hsz h4.bel.size
  clear h4 HI4
  refine hK _ _ HI ?_
  clear hK K
  refine Drawn.one (j := 5) (by kernel_rfl) rfl (fun K hK => ?_)
  go_simp
  refine (shiftedD a2 c2 z2 _ (L.all (a2, z2) (by simp)) g2 (-1) 1 rfl (by decide) HT.out).mono ?_
  rintro e w5 ⟨zh, ah, ch, rfl, h5, _⟩
  have G5 := h5.good
  have HI5 := below_step HI hsz h5.bel
  replace HI := HI5
  replace L := L.push h5.lie h5.bel
  replace HT := Hide.mk (HT.out.below h5.bel (Nat.le_refl _))
  replace HB := below_then HB h5.bel
  replace HD := HD.below h5.bel hsz
  replace hsz := Nat.lt_of_lt_of_le hsz h5.bel.size
  clear h5 HI5
  refine hK _ _ HI ?_
  clear hK K
  refine Drawn.take (i := 6) (v := .slice ag zg.length cg) rfl (by kernel_rfl) (by kernel_rfl) (by kernel_rfl) (fun _ _ _ h => h) rfl (fun W hW => ?_) HI ?_
  · skip
    go_simp
  refine Drawn.take (i := 7) (v := .slice ah zh.length ch) rfl (by kernel_rfl) (by kernel_rfl) (by kernel_rfl) (fun _ _ _ h => h) rfl (fun W hW => ?_) HI ?_
  · skip
    go_simp
  refine Drawn.done (by kernel_rfl) ?_
  have Gg : Good zg (Nt.val z1 / 2) := G4
  have Gh : Good zh (Nt.val z2 / 2) := G5
  clear G4 G5
  have k0 := below_cell2 HI (by simp) d1.c0
  have k1 := below_cell2 HI (by simp) d2.c0
  go_wp2_with fail
  have B5 : Below (w.heap.size + 2) w5 w5 := Below.refl _ _
  have k2 := below_cell2 HI (by simp) d1.c2
  replace HI : Below (w.heap.size + 2) w5 w5.drew := B5.drew
  replace L : Live w5.drew _ := L.keep (Below.refl _ _).drew
  replace HT : Hide (Tab w5.drew) := ⟨HT.out.below (Below.refl _ _).drew (Nat.le_refl _)⟩
  replace HB : Below w.heap.size w w5.drew := HB.drew
  replace HD : DCell w5.drew _ _ := HD
  replace hsz : w.heap.size + 1 + 1 < w5.drew.heap.size := hsz
  refine Drawn.enter (fun W => Below (w.heap.size + 2) w5 W) (by kernel_rfl) ?_
  refine Drawn.take (i := 0) (v := .pointer (some ⟨w.heap.size, 0, none⟩)) rfl (by kernel_rfl) (by kernel_rfl) (by kernel_rfl) (fun _ _ _ h => h) rfl (fun W hW => ?_) HI ?_
  · skip
    go_simp
  refine Drawn.take (i := 1) (v := .bool n1) rfl (by kernel_rfl) (by kernel_rfl) (by kernel_rfl) (fun _ _ _ h => h) rfl (fun W hW => ?_) HI ?_
  · have hc := below_cell2 hW (by simp) k0
    go_simp
  refine Drawn.take (i := 2) (v := .slice ag zg.length cg) rfl (by kernel_rfl) (by kernel_rfl) (by kernel_rfl) (fun _ _ _ h => h) rfl (fun W hW => ?_) HI ?_
  · skip
    go_simp
  refine Drawn.take (i := 3) (v := .slice ah zh.length ch) rfl (by kernel_rfl) (by kernel_rfl) (by kernel_rfl) (fun _ _ _ h => h) rfl (fun W hW => ?_) HI ?_
  · skip
    go_simp
  refine Drawn.take (i := 7) (v := .pointer (some ⟨w.heap.size, 2, none⟩)) rfl (by kernel_rfl) (by kernel_rfl) (by kernel_rfl) (fun _ _ _ h => h) rfl (fun W hW => ?_) HI ?_
  · skip
    go_simp
  refine Drawn.take (i := 8) (v := .int .i64 ex) rfl (by kernel_rfl) (by kernel_rfl) (by kernel_rfl) (fun _ _ _ h => h) rfl (fun W hW => ?_) HI ?_
  · have hc := below_cell2 hW (by simp) k2
    go_simp
  refine Drawn.take (i := 9) (v := .int .i64 (ex + 1)) rfl (by kernel_rfl) (by kernel_rfl) (by kernel_rfl) (fun _ _ _ h => h) rfl (fun W hW => ?_) HI ?_
  · skip
    go_simp
    exact wrap_ok (by omega) (by omega)
  have hfit := half_sum HO.out.1 HO.out.2 g1.lt.2 g2.lt.2
  have HF := Hide.mk hfit
  clear hfit
  refine Drawn.one (j := 4) (by kernel_rfl) rfl (fun K hK => ?_)
  go_simp
  refine (plus110 ag ah cg ch zg zh _ (L.all (ag, zg) (by simp)) (L.all (ah, zh) (by simp)) Gg Gh (by have := HF.out; omega)).mono ?_
  rintro e w6 ⟨z6, a6, c6, rfl, h6, _⟩
  have G6 := h6.good
  have HI6 := below_step HI hsz h6.bel
  replace HI := HI6
  replace L := L.push h6.lie h6.bel
  replace HT := Hide.mk (HT.out.below h6.bel (Nat.le_refl _))
  replace HB := below_then HB h6.bel
  replace HD := HD.below h6.bel hsz
  replace hsz := Nat.lt_of_lt_of_le hsz h6.bel.size
  clear h6 HI6
  refine hK _ _ HI ?_
  clear hK K
  refine Drawn.one (j := 5) (by kernel_rfl) rfl (fun K hK => ?_)
  go_simp
  refine (of16 1 (by decide) (by decide) _).mono ?_
  rintro e w7 ⟨z7, a7, c7, rfl, h7, _⟩
  have G7 := h7.good
  have HI7 := below_step HI hsz h7.bel
  replace HI := HI7
  replace L := L.push h7.lie h7.bel
  replace HT := Hide.mk (HT.out.below h7.bel (Nat.le_refl _))
  replace HB := below_then HB h7.bel
  replace HD := HD.below h7.bel hsz
  replace hsz := Nat.lt_of_lt_of_le hsz h7.bel.size
  clear h7 HI7
  refine hK _ _ HI ?_
  clear hK K
  refine Drawn.one (j := 6) (by kernel_rfl) rfl (fun K hK => ?_)
  go_simp
  refine (plus110 a6 a7 c6 c7 z6 z7 _ (L.all (a6, z6) (by simp)) (L.all (a7, z7) (by simp)) G6 G7 HF.out).mono ?_
  rintro e w8 ⟨z8, a8, c8, rfl, h8, _⟩
  have G8 := h8.good
  have HI8 := below_step HI hsz h8.bel
  replace HI := HI8
  replace L := L.push h8.lie h8.bel
  replace HT := Hide.mk (HT.out.below h8.bel (Nat.le_refl _))
  replace HB := below_then HB h8.bel
  replace HD := HD.below h8.bel hsz
  replace hsz := Nat.lt_of_lt_of_le hsz h8.bel.size
  clear h8 HI8
  refine hK _ _ HI ?_
  clear hK K
  refine Drawn.one (j := 10) (by kernel_rfl) rfl (fun K hK => ?_)
  go_simp
  refine (formedR n1 a8 c8 z8 (ex + 1) _ (L.all (a8, z8) (by simp)) G8 HT.out (by omega) (by omega)).mono ?_
  rintro e w9 ⟨ng, aa, n, c, xx, code, rfl, hv⟩
  have HV := Hide.mk hv
  have HB9 := HB
  have hsz9 := hsz
  have h9 := hv.bel
  clear hv
  have HI9 := below_step HI hsz h9
  replace HI := HI9
  replace HD := HD.below h9 hsz
  clear HI9
  refine hK _ _ HI ?_
  clear hK K
  refine Drawn.take (i := 11) (v := dV ng aa n c xx) rfl (by kernel_rfl) (by kernel_rfl) (by kernel_rfl) (fun _ _ _ h => h) rfl (fun W hW => ?_) HI ?_
  · skip
    go_simp
  refine Drawn.take (i := 12) (v := .int .i64 code) rfl (by kernel_rfl) (by kernel_rfl) (by kernel_rfl) (fun _ _ _ h => h) rfl (fun W hW => ?_) HI ?_
  · skip
    go_simp
  have f0 := HD.c0
  have f1 := HD.c1
  have f2 := HD.c2
  have r0 := HD.fr 0
  have r1 := HD.fr 1
  have r2 := HD.fr 2
  refine Drawn.one (j := 13) (by kernel_rfl) rfl (fun K hK => ?_)
  go_simp
  have HIs := ((HI.setCell (p := ⟨w.heap.size + 1 + 1, 0, none⟩) (Nat.le_refl _) (.bool ng)).setCell (p := ⟨w.heap.size + 1 + 1, 1, none⟩) (Nat.le_refl _) (.slice aa n c)).setCell (p := ⟨w.heap.size + 1 + 1, 2, none⟩) (Nat.le_refl _) (.int .i64 xx)
  refine hK _ _ HIs ?_
  clear hK K
  refine Drawn.take (i := 14) (v := .int .i64 code) rfl (by kernel_rfl) (by kernel_rfl) (by kernel_rfl) (fun _ _ _ h => h) rfl (fun W hW => ?_) HIs ?_
  · skip
    go_simp
  refine Drawn.done (by kernel_rfl) ?_
  go_wp2
  refine bodyPost_ret (results_D2 rfl _ _ (w.heap.size + 1 + 1) _ rfl (((HD.set 0 _).set 1 _).set 2 _)) rfl ?_
  exact ⟨ng, aa, n, c, xx, code, rfl, level_same HQ.out HO.out.1 HO.out.2 (HV.out.back HB9 (by omega) hsz9 _ _ _)⟩
set_option maxHeartbeats 4000000 in
theorem level_lt_w (n1 n2 : Bool) (a1 a2 : Option Addr) (c1 c2 : Nat) (z1 z2 : List Int) (ex : Int) (w : World) (h1 : Lie w a1 z1) (h2 : Lie w a2 z2) (g1 : Good z1 (Nt.val z1)) (g2 : Good z2 (Nt.val z2)) (o1 : Nt.val z1 % 2 = 1) (o2 : Nt.val z2 % 2 = 1) (x1 : -16777216 ≤ ex) (x2 : ex ≤ 16777216) (hT : Tab w) (hq : (n1 == n2) = false) (hc : Nt.val z1 / 2 < Nt.val z2 / 2) :
    Calls Tryd.prog 121 #[dV n1 a1 z1.length c1 ex, dV n2 a2 z2.length c2 ex] w fun e w' => DRes w w' (sv n1 (Nt.val z1) + sv n2 (Nt.val z2)) ex e := by
  obtain ⟨d1, d2, d3, hs3⟩ := dcell3 w #[.bool n1, .slice a1 z1.length c1, .int .i64 ex] #[.bool n2, .slice a2 z2.length c2, .int .i64 ex] #[.bool false, .slice none 0 0, .int .i64 0] rfl rfl rfl
  have hb3 := below3 w (.cells #[.bool n1, .slice a1 z1.length c1, .int .i64 ex] 36) (.cells #[.bool n2, .slice a2 z2.length c2, .int .i64 ex] 36) (.cells #[.bool false, .slice none 0 0, .int .i64 0] 36)
  have HQ := Hide.mk hq
  have HO := Hide.mk (And.intro o1 o2)
  have HC := Hide.mk hc
  clear hc
  clear o1 o2
  go_enter Tryd.func121, Tryd.ntmps121
  go_wp2_with fail
  generalize hw3 : ((w.alloc (.cells #[.bool n1, .slice a1 z1.length c1, .int .i64 ex] 36)).alloc (.cells #[.bool n2, .slice a2 z2.length c2, .int .i64 ex] 36)).alloc (.cells #[.bool false, .slice none 0 0, .int .i64 0] 36) = w3 at *
  clear hw3
  have B3 : Below (w.heap.size + 2) w3 w3 := Below.refl _ _
  have HI : Below (w.heap.size + 2) w3 w3.drew := B3.drew
  have L : Live w3.drew [(a1, z1), (a2, z2)] := ⟨by simp [h1.below hb3.drew (Nat.le_refl _), h2.below hb3.drew (Nat.le_refl _)]⟩
  have HT := Hide.mk (hT.below hb3.drew (Nat.le_refl _))
  have HB : Below w.heap.size w w3.drew := hb3.drew
  have HD : DCell w3.drew (w.heap.size + 1 + 1) #[.bool false, .slice none 0 0, .int .i64 0] := d3
  have hsz : w.heap.size + 1 + 1 < w3.drew.heap.size := by show _ < w3.heap.size; omega
  clear h1 h2 hT hb3 d3
  refine Drawn.enter (fun W => Below (w.heap.size + 2) w3 W) (by kernel_rfl) ?_
  refine Drawn.take (i := 0) (v := .pointer (some ⟨w.heap.size, 1, none⟩)) rfl (by kernel_rfl) (by kernel_rfl) (by kernel_rfl) (fun _ _ _ h => h) rfl (fun W hW => ?_) HI ?_
  · skip
    go_simp
  refine Drawn.take (i := 3) (v := .pointer (some ⟨w.heap.size + 1, 1, none⟩)) rfl (by kernel_rfl) (by kernel_rfl) (by kernel_rfl) (fun _ _ _ h => h) rfl (fun W hW => ?_) HI ?_
  · skip
    go_simp
  refine Drawn.take (i := 1) (v := .slice a1 z1.length c1) rfl (by kernel_rfl) (by kernel_rfl) (by kernel_rfl) (fun _ _ _ h => h) rfl (fun W hW => ?_) HI ?_
  · have hc := below_cell2 hW (by simp) d1.c1
    go_simp
  refine Drawn.take (i := 4) (v := .slice a2 z2.length c2) rfl (by kernel_rfl) (by kernel_rfl) (by kernel_rfl) (fun _ _ _ h => h) rfl (fun W hW => ?_) HI ?_
  · have hc := below_cell2 hW (by simp) d2.c1
    go_simp
  refine Drawn.one (j := 2) (by kernel_rfl) rfl (fun K hK => ?_)
  go_simp
  refine (shiftedD a1 c1 z1 _ (L.all (a1, z1) (by simp)) g1 (-1) 1 rfl (by decide) HT.out).mono ?_
  rintro e w4 ⟨zg, ag, cg, rfl, h4, _⟩
  have G4 := h4.good
  have HI4 := below_step HI hsz h4.bel
  replace HI := HI4
  replace L := L.push h4.lie h4.bel
  replace HT := Hide.mk (HT.out.below h4.bel (Nat.le_refl _))
  replace HB := below_then HB h4.bel
  replace HD := HD.below h4.bel hsz
  replace hsz := Nat.lt_of_lt_of_le hsz h4.bel.size
  clear h4 HI4
  refine hK _ _ HI ?_
  clear hK K
  refine Drawn.one (j := 5) (by kernel_rfl) rfl (fun K hK => ?_)
  go_simp
  refine (shiftedD a2 c2 z2 _ (L.all (a2, z2) (by simp)) g2 (-1) 1 rfl (by decide) HT.out).mono ?_
  rintro e w5 ⟨zh, ah, ch, rfl, h5, _⟩
  have G5 := h5.good
  have HI5 := below_step HI hsz h5.bel
  replace HI := HI5
  replace L := L.push h5.lie h5.bel
  replace HT := Hide.mk (HT.out.below h5.bel (Nat.le_refl _))
  replace HB := below_then HB h5.bel
  replace HD := HD.below h5.bel hsz
  replace hsz := Nat.lt_of_lt_of_le hsz h5.bel.size
  clear h5 HI5
  refine hK _ _ HI ?_
  clear hK K
  refine Drawn.take (i := 6) (v := .slice ag zg.length cg) rfl (by kernel_rfl) (by kernel_rfl) (by kernel_rfl) (fun _ _ _ h => h) rfl (fun W hW => ?_) HI ?_
  · skip
    go_simp
  refine Drawn.take (i := 7) (v := .slice ah zh.length ch) rfl (by kernel_rfl) (by kernel_rfl) (by kernel_rfl) (fun _ _ _ h => h) rfl (fun W hW => ?_) HI ?_
  · skip
    go_simp
  refine Drawn.done (by kernel_rfl) ?_
  have Gg : Good zg (Nt.val z1 / 2) := G4
  have Gh : Good zh (Nt.val z2 / 2) := G5
  clear G4 G5
  have k0 := below_cell2 HI (by simp) d1.c0
  have k1 := below_cell2 HI (by simp) d2.c0
  go_wp2_with fail
  refine (cmpM126 ag ah cg ch zg zh _ (L.all (ag, zg) (by simp)) (L.all (ah, zh) (by simp)) Gg Gh _ rfl).mono ?_
  rintro e w6 ⟨rfl, h6⟩
  have HI6 := below_step HI hsz h6
  replace HI := HI6
  replace L := L.keep h6
  replace HT := Hide.mk (HT.out.below h6 (Nat.le_refl _))
  replace HB := below_then HB h6
  replace HD := HD.below h6 hsz
  replace hsz := Nat.lt_of_lt_of_le hsz h6.size
  clear h6 HI6
  have hsg : sgn (Nt.val z1 / 2) (Nt.val z2 / 2) = -1 := by unfold sgn; rw [if_pos HC.out]
  rw [hsg]
  clear hsg
  go_wp2_with fail
  have k0 := below_cell2 HI (by simp) d1.c0
  have k1 := below_cell2 HI (by simp) d2.c0
  have k2 := below_cell2 HI (by simp) d1.c2
  have B6 : Below (w.heap.size + 2) w6 w6 := Below.refl _ _
  replace HI : Below (w.heap.size + 2) w6 w6.drew := B6.drew
  replace L : Live w6.drew _ := L.keep (Below.refl _ _).drew
  replace HT : Hide (Tab w6.drew) := ⟨HT.out.below (Below.refl _ _).drew (Nat.le_refl _)⟩
  replace HB : Below w.heap.size w w6.drew := HB.drew
  replace HD : DCell w6.drew _ _ := HD
  replace hsz : w.heap.size + 1 + 1 < w6.drew.heap.size := hsz
  refine Drawn.enter (fun W => Below (w.heap.size + 2) w6 W) (by kernel_rfl) ?_
  refine Drawn.take (i := 0) (v := .pointer (some ⟨w.heap.size + 1, 0, none⟩)) rfl (by kernel_rfl) (by kernel_rfl) (by kernel_rfl) (fun _ _ _ h => h) rfl (fun W hW => ?_) HI ?_
  · skip
    go_simp
  refine Drawn.take (i := 1) (v := .bool n2) rfl (by kernel_rfl) (by kernel_rfl) (by kernel_rfl) (fun _ _ _ h => h) rfl (fun W hW => ?_) HI ?_
  · have hc := below_cell2 hW (by simp) k1
    go_simp
  refine Drawn.take (i := 2) (v := .slice ah zh.length ch) rfl (by kernel_rfl) (by kernel_rfl) (by kernel_rfl) (fun _ _ _ h => h) rfl (fun W hW => ?_) HI ?_
  · skip
    go_simp
  refine Drawn.take (i := 3) (v := .slice ag zg.length cg) rfl (by kernel_rfl) (by kernel_rfl) (by kernel_rfl) (fun _ _ _ h => h) rfl (fun W hW => ?_) HI ?_
  · skip
    go_simp
  refine Drawn.take (i := 5) (v := .pointer (some ⟨w.heap.size, 2, none⟩)) rfl (by kernel_rfl) (by kernel_rfl) (by kernel_rfl) (fun _ _ _ h => h) rfl (fun W hW => ?_) HI ?_
  · skip
    go_simp
  refine Drawn.take (i := 6) (v := .int .i64 ex) rfl (by kernel_rfl) (by kernel_rfl) (by kernel_rfl) (fun _ _ _ h => h) rfl (fun W hW => ?_) HI ?_
  · have hc := below_cell2 hW (by simp) k2
    go_simp
  refine Drawn.take (i := 7) (v := .int .i64 (ex + 1)) rfl (by kernel_rfl) (by kernel_rfl) (by kernel_rfl) (fun _ _ _ h => h) rfl (fun W hW => ?_) HI ?_
  · skip
    go_simp
    exact wrap_ok (by omega) (by omega)
  refine Drawn.one (j := 4) (by kernel_rfl) rfl (fun K hK => ?_)
  go_simp
  refine (less132 ah ag ch cg zh zg _ (L.all (ah, zh) (by simp)) (L.all (ag, zg) (by simp)) Gh Gg (by have := HC.out; omega)).mono ?_
  rintro e w8 ⟨z8, a8, c8, rfl, h8, _⟩
  have G8 := h8.good
  have HI8 := below_step HI hsz h8.bel
  replace HI := HI8
  replace L := L.push h8.lie h8.bel
  replace HT := Hide.mk (HT.out.below h8.bel (Nat.le_refl _))
  replace HB := below_then HB h8.bel
  replace HD := HD.below h8.bel hsz
  replace hsz := Nat.lt_of_lt_of_le hsz h8.bel.size
  clear h8 HI8
  refine hK _ _ HI ?_
  clear hK K
  refine Drawn.one (j := 8) (by kernel_rfl) rfl (fun K hK => ?_)
  go_simp
  refine (formedR n2 a8 c8 z8 (ex + 1) _ (L.all (a8, z8) (by simp)) G8 HT.out (by omega) (by omega)).mono ?_
  rintro e w9 ⟨ng, aa, n, c, xx, code, rfl, hv⟩
  have HV := Hide.mk hv
  have HB9 := HB
  have hsz9 := hsz
  have h9 := hv.bel
  clear hv
  have HI9 := below_step HI hsz h9
  replace HI := HI9
  replace HD := HD.below h9 hsz
  clear HI9
  refine hK _ _ HI ?_
  clear hK K
  refine Drawn.take (i := 9) (v := dV ng aa n c xx) rfl (by kernel_rfl) (by kernel_rfl) (by kernel_rfl) (fun _ _ _ h => h) rfl (fun W hW => ?_) HI ?_
  · skip
    go_simp
  refine Drawn.take (i := 10) (v := .int .i64 code) rfl (by kernel_rfl) (by kernel_rfl) (by kernel_rfl) (fun _ _ _ h => h) rfl (fun W hW => ?_) HI ?_
  · skip
    go_simp
  have f0 := HD.c0
  have f1 := HD.c1
  have f2 := HD.c2
  have r0 := HD.fr 0
  have r1 := HD.fr 1
  have r2 := HD.fr 2
  refine Drawn.one (j := 11) (by kernel_rfl) rfl (fun K hK => ?_)
  go_simp
  have HIs := ((HI.setCell (p := ⟨w.heap.size + 1 + 1, 0, none⟩) (Nat.le_refl _) (.bool ng)).setCell (p := ⟨w.heap.size + 1 + 1, 1, none⟩) (Nat.le_refl _) (.slice aa n c)).setCell (p := ⟨w.heap.size + 1 + 1, 2, none⟩) (Nat.le_refl _) (.int .i64 xx)
  refine hK _ _ HIs ?_
  clear hK K
  refine Drawn.take (i := 12) (v := .int .i64 code) rfl (by kernel_rfl) (by kernel_rfl) (by kernel_rfl) (fun _ _ _ h => h) rfl (fun W hW => ?_) HIs ?_
  · skip
    go_simp
  refine Drawn.done (by kernel_rfl) ?_
  go_wp2
  refine bodyPost_ret (results_D2 rfl _ _ (w.heap.size + 1 + 1) _ rfl (((HD.set 0 _).set 1 _).set 2 _)) rfl ?_
  exact ⟨ng, aa, n, c, xx, code, rfl, level_lt HQ.out HO.out.1 HO.out.2 (HV.out.back HB9 (by omega) hsz9 _ _ _)⟩
set_option maxHeartbeats 4000000 in
theorem level_ge_w (n1 n2 : Bool) (a1 a2 : Option Addr) (c1 c2 : Nat) (z1 z2 : List Int) (ex : Int) (w : World) (h1 : Lie w a1 z1) (h2 : Lie w a2 z2) (g1 : Good z1 (Nt.val z1)) (g2 : Good z2 (Nt.val z2)) (o1 : Nt.val z1 % 2 = 1) (o2 : Nt.val z2 % 2 = 1) (x1 : -16777216 ≤ ex) (x2 : ex ≤ 16777216) (hT : Tab w) (hq : (n1 == n2) = false) (hc : Nt.val z2 / 2 ≤ Nt.val z1 / 2) :
    Calls Tryd.prog 121 #[dV n1 a1 z1.length c1 ex, dV n2 a2 z2.length c2 ex] w fun e w' => DRes w w' (sv n1 (Nt.val z1) + sv n2 (Nt.val z2)) ex e := by
  obtain ⟨d1, d2, d3, hs3⟩ := dcell3 w #[.bool n1, .slice a1 z1.length c1, .int .i64 ex] #[.bool n2, .slice a2 z2.length c2, .int .i64 ex] #[.bool false, .slice none 0 0, .int .i64 0] rfl rfl rfl
  have hb3 := below3 w (.cells #[.bool n1, .slice a1 z1.length c1, .int .i64 ex] 36) (.cells #[.bool n2, .slice a2 z2.length c2, .int .i64 ex] 36) (.cells #[.bool false, .slice none 0 0, .int .i64 0] 36)
  have HQ := Hide.mk hq
  have HO := Hide.mk (And.intro o1 o2)
  have HC := Hide.mk hc
  clear hc
  clear o1 o2
  go_enter Tryd.func121, Tryd.ntmps121
  go_wp2_with fail
  generalize hw3 : ((w.alloc (.cells #[.bool n1, .slice a1 z1.length c1, .int .i64 ex] 36)).alloc (.cells #[.bool n2, .slice a2 z2.length c2, .int .i64 ex] 36)).alloc (.cells #[.bool false, .slice none 0 0, .int .i64 0] 36) = w3 at *
  clear hw3
  have B3 : Below (w.heap.size + 2) w3 w3 := Below.refl _ _
  have HI : Below (w.heap.size + 2) w3 w3.drew := B3.drew
  have L : Live w3.drew [(a1, z1), (a2, z2)] := ⟨by simp [h1.below hb3.drew (Nat.le_refl _), h2.below hb3.drew (Nat.le_refl _)]⟩
  have HT := Hide.mk (hT.below hb3.drew (Nat.le_refl _))
  have HB : Below w.heap.size w w3.drew := hb3.drew
  have HD : DCell w3.drew (w.heap.size + 1 + 1) #[.bool false, .slice none 0 0, .int .i64 0] := d3
  have hsz : w.heap.size + 1 + 1 < w3.drew.heap.size := by show _ < w3.heap.size; omega
  clear h1 h2 hT hb3 d3
  refine Drawn.enter (fun W => Below (w.heap.size + 2) w3 W) (by kernel_rfl) ?_
  refine Drawn.take (i := 0) (v := .pointer (some ⟨w.heap.size, 1, none⟩)) rfl (by kernel_rfl) (by kernel_rfl) (by kernel_rfl) (fun _ _ _ h => h) rfl (fun W hW => ?_) HI ?_
  · skip
    go_simp
  refine Drawn.take (i := 3) (v := .pointer (some ⟨w.heap.size + 1, 1, none⟩)) rfl (by kernel_rfl) (by kernel_rfl) (by kernel_rfl) (fun _ _ _ h => h) rfl (fun W hW => ?_) HI ?_
  · skip
    go_simp
  refine Drawn.take (i := 1) (v := .slice a1 z1.length c1) rfl (by kernel_rfl) (by kernel_rfl) (by kernel_rfl) (fun _ _ _ h => h) rfl (fun W hW => ?_) HI ?_
  · have hc := below_cell2 hW (by simp) d1.c1
    go_simp
  refine Drawn.take (i := 4) (v := .slice a2 z2.length c2) rfl (by kernel_rfl) (by kernel_rfl) (by kernel_rfl) (fun _ _ _ h => h) rfl (fun W hW => ?_) HI ?_
  · have hc := below_cell2 hW (by simp) d2.c1
    go_simp
  refine Drawn.one (j := 2) (by kernel_rfl) rfl (fun K hK => ?_)
  go_simp
  refine (shiftedD a1 c1 z1 _ (L.all (a1, z1) (by simp)) g1 (-1) 1 rfl (by decide) HT.out).mono ?_
  rintro e w4 ⟨zg, ag, cg, rfl, h4, _⟩
  have G4 := h4.good
  have HI4 := below_step HI hsz h4.bel
  replace HI := HI4
  replace L := L.push h4.lie h4.bel
  replace HT := Hide.mk (HT.out.below h4.bel (Nat.le_refl _))
  replace HB := below_then HB h4.bel
  replace HD := HD.below h4.bel hsz
  replace hsz := Nat.lt_of_lt_of_le hsz h4.bel.size
  clear h4 HI4
  refine hK _ _ HI ?_
  clear hK K
  refine Drawn.one (j := 5) (by kernel_rfl) rfl (fun K hK => ?_)
  go_simp
  refine (shiftedD a2 c2 z2 _ (L.all (a2, z2) (by simp)) g2 (-1) 1 rfl (by decide) HT.out).mono ?_
  rintro e w5 ⟨zh, ah, ch, rfl, h5, _⟩
  have G5 := h5.good
  have HI5 := below_step HI hsz h5.bel
  replace HI := HI5
  replace L := L.push h5.lie h5.bel
  replace HT := Hide.mk (HT.out.below h5.bel (Nat.le_refl _))
  replace HB := below_then HB h5.bel
  replace HD := HD.below h5.bel hsz
  replace hsz := Nat.lt_of_lt_of_le hsz h5.bel.size
  clear h5 HI5
  refine hK _ _ HI ?_
  clear hK K
  refine Drawn.take (i := 6) (v := .slice ag zg.length cg) rfl (by kernel_rfl) (by kernel_rfl) (by kernel_rfl) (fun _ _ _ h => h) rfl (fun W hW => ?_) HI ?_
  · skip
    go_simp
  refine Drawn.take (i := 7) (v := .slice ah zh.length ch) rfl (by kernel_rfl) (by kernel_rfl) (by kernel_rfl) (fun _ _ _ h => h) rfl (fun W hW => ?_) HI ?_
  · skip
    go_simp
  refine Drawn.done (by kernel_rfl) ?_
  have Gg : Good zg (Nt.val z1 / 2) := G4
  have Gh : Good zh (Nt.val z2 / 2) := G5
  clear G4 G5
  have k0 := below_cell2 HI (by simp) d1.c0
  have k1 := below_cell2 HI (by simp) d2.c0
  go_wp2_with fail
  refine (cmpM126 ag ah cg ch zg zh _ (L.all (ag, zg) (by simp)) (L.all (ah, zh) (by simp)) Gg Gh _ rfl).mono ?_
  rintro e w6 ⟨rfl, h6⟩
  have HI6 := below_step HI hsz h6
  replace HI := HI6
  replace L := L.keep h6
  replace HT := Hide.mk (HT.out.below h6 (Nat.le_refl _))
  replace HB := below_then HB h6
  replace HD := HD.below h6 hsz
  replace hsz := Nat.lt_of_lt_of_le hsz h6.size
  clear h6 HI6
  have hsg : 0 ≤ sgn (Nt.val z1 / 2) (Nt.val z2 / 2) := by have := HC.out; unfold sgn; rw [if_neg (by omega)]; split <;> omega
  have hsb := sgn_bd (Nt.val z1 / 2) (Nt.val z2 / 2)
  generalize sgn (Nt.val z1 / 2) (Nt.val z2 / 2) = sg at *
  go_wp2_with fail
  have k0 := below_cell2 HI (by simp) d1.c0
  have k1 := below_cell2 HI (by simp) d2.c0
  have k2 := below_cell2 HI (by simp) d1.c2
  have B6 : Below (w.heap.size + 2) w6 w6 := Below.refl _ _
  replace HI : Below (w.heap.size + 2) w6 w6.drew := B6.drew
  replace L : Live w6.drew _ := L.keep (Below.refl _ _).drew
  replace HT : Hide (Tab w6.drew) := ⟨HT.out.below (Below.refl _ _).drew (Nat.le_refl _)⟩
  replace HB : Below w.heap.size w w6.drew := HB.drew
  replace HD : DCell w6.drew _ _ := HD
  replace hsz : w.heap.size + 1 + 1 < w6.drew.heap.size := hsz
  refine Drawn.enter (fun W => Below (w.heap.size + 2) w6 W) (by kernel_rfl) ?_
  refine Drawn.take (i := 0) (v := .pointer (some ⟨w.heap.size, 0, none⟩)) rfl (by kernel_rfl) (by kernel_rfl) (by kernel_rfl) (fun _ _ _ h => h) rfl (fun W hW => ?_) HI ?_
  · skip
    go_simp
  refine Drawn.take (i := 1) (v := .bool n1) rfl (by kernel_rfl) (by kernel_rfl) (by kernel_rfl) (fun _ _ _ h => h) rfl (fun W hW => ?_) HI ?_
  · have hc := below_cell2 hW (by simp) k0
    go_simp
  refine Drawn.take (i := 2) (v := .slice ag zg.length cg) rfl (by kernel_rfl) (by kernel_rfl) (by kernel_rfl) (fun _ _ _ h => h) rfl (fun W hW => ?_) HI ?_
  · skip
    go_simp
  refine Drawn.take (i := 3) (v := .slice ah zh.length ch) rfl (by kernel_rfl) (by kernel_rfl) (by kernel_rfl) (fun _ _ _ h => h) rfl (fun W hW => ?_) HI ?_
  · skip
    go_simp
  refine Drawn.take (i := 5) (v := .pointer (some ⟨w.heap.size, 2, none⟩)) rfl (by kernel_rfl) (by kernel_rfl) (by kernel_rfl) (fun _ _ _ h => h) rfl (fun W hW => ?_) HI ?_
  · skip
    go_simp
  refine Drawn.take (i := 6) (v := .int .i64 ex) rfl (by kernel_rfl) (by kernel_rfl) (by kernel_rfl) (fun _ _ _ h => h) rfl (fun W hW => ?_) HI ?_
  · have hc := below_cell2 hW (by simp) k2
    go_simp
  refine Drawn.take (i := 7) (v := .int .i64 (ex + 1)) rfl (by kernel_rfl) (by kernel_rfl) (by kernel_rfl) (fun _ _ _ h => h) rfl (fun W hW => ?_) HI ?_
  · skip
    go_simp
    exact wrap_ok (by omega) (by omega)
  refine Drawn.one (j := 4) (by kernel_rfl) rfl (fun K hK => ?_)
  go_simp
  refine (less132 ag ah cg ch zg zh _ (L.all (ag, zg) (by simp)) (L.all (ah, zh) (by simp)) Gg Gh HC.out).mono ?_
  rintro e w8 ⟨z8, a8, c8, rfl, h8, _⟩
  have G8 := h8.good
  have HI8 := below_step HI hsz h8.bel
  replace HI := HI8
  replace L := L.push h8.lie h8.bel
  replace HT := Hide.mk (HT.out.below h8.bel (Nat.le_refl _))
  replace HB := below_then HB h8.bel
  replace HD := HD.below h8.bel hsz
  replace hsz := Nat.lt_of_lt_of_le hsz h8.bel.size
  clear h8 HI8
  refine hK _ _ HI ?_
  clear hK K
  refine Drawn.one (j := 8) (by kernel_rfl) rfl (fun K hK => ?_)
  go_simp
  refine (formedR n1 a8 c8 z8 (ex + 1) _ (L.all (a8, z8) (by simp)) G8 HT.out (by omega) (by omega)).mono ?_
  rintro e w9 ⟨ng, aa, n, c, xx, code, rfl, hv⟩
  have HV := Hide.mk hv
  have HB9 := HB
  have hsz9 := hsz
  have h9 := hv.bel
  clear hv
  have HI9 := below_step HI hsz h9
  replace HI := HI9
  replace HD := HD.below h9 hsz
  clear HI9
  refine hK _ _ HI ?_
  clear hK K
  refine Drawn.take (i := 9) (v := dV ng aa n c xx) rfl (by kernel_rfl) (by kernel_rfl) (by kernel_rfl) (fun _ _ _ h => h) rfl (fun W hW => ?_) HI ?_
  · skip
    go_simp
  refine Drawn.take (i := 10) (v := .int .i64 code) rfl (by kernel_rfl) (by kernel_rfl) (by kernel_rfl) (fun _ _ _ h => h) rfl (fun W hW => ?_) HI ?_
  · skip
    go_simp
  have f0 := HD.c0
  have f1 := HD.c1
  have f2 := HD.c2
  have r0 := HD.fr 0
  have r1 := HD.fr 1
  have r2 := HD.fr 2
  refine Drawn.one (j := 11) (by kernel_rfl) rfl (fun K hK => ?_)
  go_simp
  have HIs := ((HI.setCell (p := ⟨w.heap.size + 1 + 1, 0, none⟩) (Nat.le_refl _) (.bool ng)).setCell (p := ⟨w.heap.size + 1 + 1, 1, none⟩) (Nat.le_refl _) (.slice aa n c)).setCell (p := ⟨w.heap.size + 1 + 1, 2, none⟩) (Nat.le_refl _) (.int .i64 xx)
  refine hK _ _ HIs ?_
  clear hK K
  refine Drawn.take (i := 12) (v := .int .i64 code) rfl (by kernel_rfl) (by kernel_rfl) (by kernel_rfl) (fun _ _ _ h => h) rfl (fun W hW => ?_) HIs ?_
  · skip
    go_simp
  refine Drawn.done (by kernel_rfl) ?_
  go_wp2
  refine bodyPost_ret (results_D2 rfl _ _ (w.heap.size + 1 + 1) _ rfl (((HD.set 0 _).set 1 _).set 2 _)) rfl ?_
  exact ⟨ng, aa, n, c, xx, code, rfl, level_ge HQ.out HO.out.1 HO.out.2 (HV.out.back HB9 (by omega) hsz9 _ _ _)⟩
theorem level127 (n1 n2 : Bool) (a1 a2 : Option Addr) (c1 c2 : Nat) (z1 z2 : List Int) (ex : Int) (w : World) (h1 : Lie w a1 z1) (h2 : Lie w a2 z2) (g1 : Good z1 (Nt.val z1)) (g2 : Good z2 (Nt.val z2)) (o1 : Nt.val z1 % 2 = 1) (o2 : Nt.val z2 % 2 = 1) (x1 : -16777216 ≤ ex) (x2 : ex ≤ 16777216) (hT : Tab w) :
    Calls Tryd.prog 121 #[dV n1 a1 z1.length c1 ex, dV n2 a2 z2.length c2 ex] w fun e w' => DRes w w' (sv n1 (Nt.val z1) + sv n2 (Nt.val z2)) ex e := by
  cases hq : (n1 == n2)
  · by_cases hc : Nt.val z1 / 2 < Nt.val z2 / 2
    · exact level_lt_w n1 n2 a1 a2 c1 c2 z1 z2 ex w h1 h2 g1 g2 o1 o2 x1 x2 hT hq hc
    · exact level_ge_w n1 n2 a1 a2 c1 c2 z1 z2 ex w h1 h2 g1 g2 o1 o2 x1 x2 hT hq (by omega)
  · exact level_same_w n1 n2 a1 a2 c1 c2 z1 z2 ex w h1 h2 g1 g2 o1 o2 x1 x2 hT hq
end Go.Proofs.YteejaghimppcgaaDoor
