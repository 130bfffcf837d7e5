import Derived.Test.YtjhkploelojaeaaDoorM7
namespace Go.Proofs.YtjhkploelojaeaaDoor
open Go.RowKit
set_option linter.unusedVariables false
set_option maxRecDepth 3000
theorem lost_far {x : Int} {n : Nat} (h0 : 0 < x) (h1 : x < 2 ^ n) : decide (x % 2 ^ n ≠ 0) = true := by
  have : x % 2 ^ n ≠ 0 := by rw [Int.emod_eq_of_lt (by omega) h1]; omega
  simp [this]
set_option maxHeartbeats 1000000 in
theorem shifts_e1 (a : Option Addr) (ca : Nat) (za : List Int) (w : World) (ha : Lie w a za) (hnil : a = none → ca = 0) (M : Int) (hl : (4100 : Int) < (za.length : Int)) :
    Calls Tryd.prog 3 #[.slice a za.length ca, .int .i64 M] w fun e w' => e = .returned (.bool true) ∧ Below w.heap.size w w' := by
  clear hnil
  go_enter Tryd.func3, Tryd.ntmps3
  go_wp2_with fail
  refine (long_yes _ _ _ _ _ hl).mono ?_
  rintro e w' ⟨rfl, rfl⟩
  go_wp2_with fail
  refine (known11 _).mono ?_
  rintro e w' ⟨rfl, hbel⟩
  go_wp2
  go_ret
  exact ⟨rfl, hbel⟩
set_option maxHeartbeats 1000000 in
theorem shifts_e2 (a : Option Addr) (ca : Nat) (za : List Int) (w : World) (ha : Lie w a za) (hnil : a = none → ca = 0) (M : Int) (hl : (za.length : Int) ≤ 4100) (la : za.length ≤ maxLen) (pa : mayB za = false) :
    Calls Tryd.prog 3 #[.slice a za.length ca, .int .i64 M] w fun e w' => e = .returned (.bool true) ∧ Below w.heap.size w w' := by
  have HN := Hide.mk hnil
  have HP := Hide.mk pa
  have HLA := Hide.mk la
  have L : Live w [(a, za)] := ⟨by simp [ha]⟩
  have HB : Below w.heap.size w w := Below.refl _ _
  clear ha hnil pa la
  go_enter Tryd.func3, Tryd.ntmps3
  go_wp2_with fail
  refine (long_no _ _ _ _ _ hl).mono ?_
  rintro e w' ⟨rfl, rfl⟩
  go_wp2_with fail
  refine (lent_any a ca za _ (L.all (a, za) (by simp)) (by omega) HN.out).mono ?_
  rintro e w1 ⟨a1, c1, rfl, hl1, _, hb1⟩
  replace L := L.push hl1 hb1
  replace HB := below_then HB hb1
  clear hl1 hb1
  go_wp2_with fail
  refine (shift_no a1 c1 za _ M (L.all (a1, za) (by simp)) HLA.out HP.out).mono ?_
  rintro e w' ⟨rfl, rfl⟩
  go_wp2_with fail
  refine (refMay_no a ca za _ (L.all (a, za) (by simp)) HLA.out HP.out).mono ?_
  rintro e w' ⟨rfl, rfl⟩
  go_wp2_with fail
  refine (len_bad a1 c1 za _ (L.all (a1, za) (by simp)) HLA.out HP.out).mono ?_
  rintro e w' ⟨rfl, rfl⟩
  go_wp2_with fail
  refine (low_bad a1 c1 za _ (L.all (a1, za) (by simp)) HLA.out HP.out).mono ?_
  rintro e w' ⟨rfl, rfl⟩
  go_wp2_with fail
  refine (known11 _).mono ?_
  rintro e w9 ⟨rfl, h9⟩
  go_wp2
  go_ret
  exact ⟨rfl, below_then HB h9⟩
theorem low_nil2 (a : Option Addr) (ca : Nat) (za : List Int) (w : World) {x : Int} (ga : Good za x) (hz : za.length ≤ 0) :
    Calls Tryd.prog 22 #[.slice a za.length ca] w fun e w' => e = .returned (.int .i64 0) ∧ w = w' := by
  obtain ⟨rfl, _⟩ := ga.nil (by omega)
  exact low_nil a ca w
theorem refLow_nil2 (a : Option Addr) (ca : Nat) (za : List Int) (w : World) {x : Int} (ga : Good za x) (hz : za.length ≤ 0) :
    Calls Tryd.prog 24 #[.slice a za.length ca] w fun e w' => e = .returned (.int .i64 0) ∧ w = w' := by
  obtain ⟨rfl, _⟩ := ga.nil (by omega)
  exact refLow_nil a ca w
theorem shift_nil2 (a : Option Addr) (ca : Nat) (za : List Int) (w : World) {x : Int} (ga : Good za x) (hz : za.length ≤ 0) (M : Int) :
    Calls Tryd.prog 19 #[.slice a za.length ca, .int .i64 M] w fun e w' => e = .returned (.tuple #[.slice none 0 0, .bool false, .int .i64 0]) ∧ w = w' := by
  obtain ⟨rfl, _⟩ := ga.nil (by omega)
  exact shift_nil a ca w M
set_option maxHeartbeats 4000000 in
theorem shifts_up (a : Option Addr) (ca : Nat) (za : List Int) (w : World) (ha : Lie w a za) (hnil : a = none → ca = 0) (M : Int) {x : Int} (hl : (za.length : Int) ≤ 4100) (Ga : Good za x) (hz : 0 < za.length) (n : Nat) (hM : M = (n : Int)) (hM0 : 0 ≤ M) (hfit : x * 2 ^ n < 4294967296 ^ 4096) (hM1 : M ≤ 1000000) (hT : Tab w) :
    Calls Tryd.prog 3 #[.slice a za.length ca, .int .i64 M] w fun e w' => e = .returned (.bool true) ∧ Below w.heap.size w w' := by
  have HN := Hide.mk hnil
  have HT := Hide.mk hT
  have L : Live w [(a, za)] := ⟨by simp [ha]⟩
  have HB : Below w.heap.size w w := Below.refl _ _
  clear ha hnil hT
  have HLA : Hide (za.length ≤ maxLen) := ⟨by unfold maxLen; omega⟩
  have HM := Hide.mk hM
  have HF := Hide.mk hfit
  have hnn : Hide (n ≤ 1000000) := ⟨by omega⟩
  clear hfit
  clear hM
  go_enter Tryd.func3, Tryd.ntmps3
  go_wp2_with fail
  refine (long_no _ _ _ _ _ hl).mono ?_
  rintro e w' ⟨rfl, rfl⟩
  go_wp2_with fail
  refine (lent_good a ca za _ (L.all (a, za) (by simp)) Ga HN.out).mono ?_
  rintro e w1 ⟨a1, c1, rfl, h1, _⟩
  have G1 := h1.good
  replace L := L.push h1.lie h1.bel
  replace HT := Hide.mk (HT.out.below h1.bel (Nat.le_refl _))
  replace HB := below_then HB h1.bel
  clear h1
  go_wp2_with fail
  refine (shiftUi a1 c1 za _ (L.all (a1, za) (by simp)) Ga M n HM.out HF.out).mono ?_
  rintro e w2 ⟨z2, a2, c2, rfl, h2, _⟩
  have G2 := h2.good
  replace L := L.push h2.lie h2.bel
  replace HT := Hide.mk (HT.out.below h2.bel (Nat.le_refl _))
  replace HB := below_then HB h2.bel
  clear h2
  go_wp2_with fail
  refine (refMay_yes a ca za _ (L.all (a, za) (by simp)) HLA.out Ga.may).mono ?_
  rintro e w' ⟨rfl, rfl⟩
  go_wp2_with fail
  refine (lenN a1 c1 za _ (L.all (a1, za) (by simp)) Ga).mono ?_
  rintro e w' ⟨rfl, B1, rfl, hB1, hb1⟩
  have HB1 := Hide.mk hB1
  clear hB1
  go_wp2_with fail
  refine (refLenN a ca za _ (L.all (a, za) (by simp)) Ga).mono ?_
  rintro e w' ⟨rfl, B2, rfl, hB2, hb2⟩
  obtain rfl := hB2.unique HB1.out
  clear hB2
  have hbb : ((B2 : Int) != (B2 : Int)) = false := by simp
  go_wp2_with fail
  refine (lowN a1 c1 za _ (L.all (a1, za) (by simp)) Ga hz HT.out).mono ?_
  rintro e w' ⟨rfl, t1, rfl, ht1, htl1⟩
  have HT1 := Hide.mk ht1
  clear ht1
  go_wp2_with fail
  refine (refLowN a ca za _ (L.all (a, za) (by simp)) Ga hz).mono ?_
  rintro e w' ⟨rfl, t2, rfl, ht2, htl2⟩
  obtain rfl := ht2.unique HT1.out
  clear ht2
  have htt : ((t2 : Int) != (t2 : Int)) = false := by simp
  go_wp2_with fail
  refine (same_yes a1 a c1 ca za za _ (L.all (a1, za) (by simp)) (L.all (a, za) (by simp)) Ga.len rfl).mono ?_
  rintro e w8 ⟨rfl, h8⟩
  replace L := L.keep h8
  replace HT := Hide.mk (HT.out.below h8 (Nat.le_refl _))
  replace HB := below_then HB h8
  clear h8
  go_wp2_with fail
  refine (refLenN a ca za _ (L.all (a, za) (by simp)) Ga).mono ?_
  rintro e w' ⟨rfl, B3, rfl, hB3, hb3⟩
  obtain rfl := hB3.unique HB1.out
  clear hB3
  have hfi : M ≤ 131072 - (B3 : Int) := by have h1 := HB1.out; rcases h1 with ⟨h1, h2⟩ | ⟨h1, h2⟩; exact absurd h1 (by have := Ga.pos hz; omega); have := h2.fits HF.out; have := HM.out; omega
  clear hM1
  replace L := L.keep (below_alloc w8 (.cells #[] 78))
  go_wp2_with fail
  refine (refUpN a ca za _ (L.all (a, za) (by simp)) Ga M n HM.out hnn.out HF.out).mono ?_
  rintro e w5 ⟨z5, a5, c5, rfl, h5, _⟩
  have L2 := L.push h5.lie h5.bel
  have G5 := h5.good
  replace HB := below_then (below_then HB (below_alloc w8 (.cells #[] 78))) h5.bel
  clear h5
  go_wp2_with fail
  refine (same_yes a2 a5 c2 c5 z2 z5 _ (L2.all (a2, z2) (by simp)) (L2.all (a5, z5) (by simp)) G2.len (G2.same G5 rfl)).mono ?_
  rintro e w6 ⟨rfl, h6⟩
  replace HB := below_then HB h6
  go_wp2_with fail
  refine (known11 _).mono ?_
  rintro e w9 ⟨rfl, h9⟩
  go_wp2
  go_ret
  exact ⟨rfl, below_then HB h9⟩
set_option maxHeartbeats 4000000 in
theorem shifts_long (a : Option Addr) (ca : Nat) (za : List Int) (w : World) (ha : Lie w a za) (hnil : a = none → ca = 0) (M : Int) {x : Int} (hl : (za.length : Int) ≤ 4100) (Ga : Good za x) (hz : 0 < za.length) (B : Nat) (hBx : Bits x B) (hM0 : 0 ≤ M) (hM1 : 131072 < M + B) (hM2 : M ≤ 9223372036854775807) (hT : Tab w) :
    Calls Tryd.prog 3 #[.slice a za.length ca, .int .i64 M] w fun e w' => e = .returned (.bool true) ∧ Below w.heap.size w w' := by
  have HN := Hide.mk hnil
  have HT := Hide.mk hT
  have L : Live w [(a, za)] := ⟨by simp [ha]⟩
  have HB : Below w.heap.size w w := Below.refl _ _
  clear ha hnil hT
  have HLA : Hide (za.length ≤ maxLen) := ⟨by unfold maxLen; omega⟩
  have HBX := Hide.mk hBx
  clear hBx
  go_enter Tryd.func3, Tryd.ntmps3
  go_wp2_with fail
  refine (long_no _ _ _ _ _ hl).mono ?_
  rintro e w' ⟨rfl, rfl⟩
  go_wp2_with fail
  refine (lent_good a ca za _ (L.all (a, za) (by simp)) Ga HN.out).mono ?_
  rintro e w1 ⟨a1, c1, rfl, h1, _⟩
  have G1 := h1.good
  replace L := L.push h1.lie h1.bel
  replace HT := Hide.mk (HT.out.below h1.bel (Nat.le_refl _))
  replace HB := below_then HB h1.bel
  clear h1
  go_wp2_with fail
  refine (shift_long a1 c1 za _ (L.all (a1, za) (by simp)) Ga.can.1 Ga.may hz (by rw [Ga.val]; exact HBX.out) M hM1 hM2).mono ?_
  rintro e w' ⟨rfl, rfl⟩
  go_wp2_with fail
  refine (refMay_yes a ca za _ (L.all (a, za) (by simp)) HLA.out Ga.may).mono ?_
  rintro e w' ⟨rfl, rfl⟩
  go_wp2_with fail
  refine (lenN a1 c1 za _ (L.all (a1, za) (by simp)) Ga).mono ?_
  rintro e w' ⟨rfl, B1, rfl, hB1, hb1⟩
  have HB1 := Hide.mk hB1
  clear hB1
  go_wp2_with fail
  refine (refLenN a ca za _ (L.all (a, za) (by simp)) Ga).mono ?_
  rintro e w' ⟨rfl, B2, rfl, hB2, hb2⟩
  obtain rfl := hB2.unique HB1.out
  clear hB2
  have hbb : ((B2 : Int) != (B2 : Int)) = false := by simp
  go_wp2_with fail
  refine (lowN a1 c1 za _ (L.all (a1, za) (by simp)) Ga hz HT.out).mono ?_
  rintro e w' ⟨rfl, t1, rfl, ht1, htl1⟩
  have HT1 := Hide.mk ht1
  clear ht1
  go_wp2_with fail
  refine (refLowN a ca za _ (L.all (a, za) (by simp)) Ga hz).mono ?_
  rintro e w' ⟨rfl, t2, rfl, ht2, htl2⟩
  obtain rfl := ht2.unique HT1.out
  clear ht2
  have htt : ((t2 : Int) != (t2 : Int)) = false := by simp
  go_wp2_with fail
  refine (same_yes a1 a c1 ca za za _ (L.all (a1, za) (by simp)) (L.all (a, za) (by simp)) Ga.len rfl).mono ?_
  rintro e w8 ⟨rfl, h8⟩
  replace L := L.keep h8
  replace HT := Hide.mk (HT.out.below h8 (Nat.le_refl _))
  replace HB := below_then HB h8
  clear h8
  go_wp2_with fail
  refine (refLenN a ca za _ (L.all (a, za) (by simp)) Ga).mono ?_
  rintro e w' ⟨rfl, B3, rfl, hB3, hb3⟩
  obtain rfl := hB3.unique HB1.out
  clear hB3
  have hfi : 131072 - (B3 : Int) < M := by have h1 := HB1.out; rcases h1 with ⟨h1, h2⟩ | ⟨h1, h2⟩; exact absurd h1 (by have := Ga.pos hz; omega); have := h2.unique HBX.out; omega
  clear hM1
  go_wp2_with fail
  refine (known11 _).mono ?_
  rintro e w9 ⟨rfl, h9⟩
  go_wp2
  go_ret
  exact ⟨rfl, below_then HB h9⟩
set_option maxHeartbeats 4000000 in
theorem shifts_down (a : Option Addr) (ca : Nat) (za : List Int) (w : World) (ha : Lie w a za) (hnil : a = none → ca = 0) (M : Int) {x : Int} (hl : (za.length : Int) ≤ 4100) (Ga : Good za x) (hz : 0 < za.length) (n : Nat) (hM : -M = (n : Int)) (hM0 : M < 0) (hM1 : -131072 ≤ M) (q : Bool) (hq : decide (x % 2 ^ n ≠ 0) = q) (hT : Tab w) :
    Calls Tryd.prog 3 #[.slice a za.length ca, .int .i64 M] w fun e w' => e = .returned (.bool true) ∧ Below w.heap.size w w' := by
  have HN := Hide.mk hnil
  have HT := Hide.mk hT
  have L : Live w [(a, za)] := ⟨by simp [ha]⟩
  have HB : Below w.heap.size w w := Below.refl _ _
  clear ha hnil hT
  have HLA : Hide (za.length ≤ maxLen) := ⟨by unfold maxLen; omega⟩
  have HM := Hide.mk hM
  have HQ := Hide.mk hq
  have hnn : Hide (n ≤ 131072) := ⟨by omega⟩
  clear hq
  clear hM
  go_enter Tryd.func3, Tryd.ntmps3
  go_wp2_with fail
  refine (long_no _ _ _ _ _ hl).mono ?_
  rintro e w' ⟨rfl, rfl⟩
  go_wp2_with fail
  refine (lent_good a ca za _ (L.all (a, za) (by simp)) Ga HN.out).mono ?_
  rintro e w1 ⟨a1, c1, rfl, h1, _⟩
  have G1 := h1.good
  replace L := L.push h1.lie h1.bel
  replace HT := Hide.mk (HT.out.below h1.bel (Nat.le_refl _))
  replace HB := below_then HB h1.bel
  clear h1
  go_wp2_with fail
  refine (shiftDi a1 c1 za _ (L.all (a1, za) (by simp)) Ga M n (by have := HM.out; omega) (by have := hnn.out; omega) HT.out q HQ.out).mono ?_
  rintro e w2 ⟨z2, a2, c2, rfl, h2, _⟩
  have G2 := h2.good
  replace L := L.push h2.lie h2.bel
  replace HT := Hide.mk (HT.out.below h2.bel (Nat.le_refl _))
  replace HB := below_then HB h2.bel
  clear h2
  go_wp2_with fail
  refine (refMay_yes a ca za _ (L.all (a, za) (by simp)) HLA.out Ga.may).mono ?_
  rintro e w' ⟨rfl, rfl⟩
  go_wp2_with fail
  refine (lenN a1 c1 za _ (L.all (a1, za) (by simp)) Ga).mono ?_
  rintro e w' ⟨rfl, B1, rfl, hB1, hb1⟩
  have HB1 := Hide.mk hB1
  clear hB1
  go_wp2_with fail
  refine (refLenN a ca za _ (L.all (a, za) (by simp)) Ga).mono ?_
  rintro e w' ⟨rfl, B2, rfl, hB2, hb2⟩
  obtain rfl := hB2.unique HB1.out
  clear hB2
  have hbb : ((B2 : Int) != (B2 : Int)) = false := by simp
  go_wp2_with fail
  refine (lowN a1 c1 za _ (L.all (a1, za) (by simp)) Ga hz HT.out).mono ?_
  rintro e w' ⟨rfl, t1, rfl, ht1, htl1⟩
  have HT1 := Hide.mk ht1
  clear ht1
  go_wp2_with fail
  refine (refLowN a ca za _ (L.all (a, za) (by simp)) Ga hz).mono ?_
  rintro e w' ⟨rfl, t2, rfl, ht2, htl2⟩
  obtain rfl := ht2.unique HT1.out
  clear ht2
  have htt : ((t2 : Int) != (t2 : Int)) = false := by simp
  go_wp2_with fail
  refine (same_yes a1 a c1 ca za za _ (L.all (a1, za) (by simp)) (L.all (a, za) (by simp)) Ga.len rfl).mono ?_
  rintro e w8 ⟨rfl, h8⟩
  replace L := L.keep h8
  replace HT := Hide.mk (HT.out.below h8 (Nat.le_refl _))
  replace HB := below_then HB h8
  clear h8
  go_wp2_with fail
  refine (refDownN a ca za _ (L.all (a, za) (by simp)) Ga (-M) n HM.out (by have := hnn.out; omega) q HQ.out).mono ?_
  rintro e w5 ⟨z5, a5, c5, rfl, h5, _⟩
  have G5 := h5.good
  replace L := L.push h5.lie h5.bel
  replace HT := Hide.mk (HT.out.below h5.bel (Nat.le_refl _))
  replace HB := below_then HB h5.bel
  clear h5
  go_wp2_with fail
  refine (same_yes a2 a5 c2 c5 z2 z5 _ (L.all (a2, z2) (by simp)) (L.all (a5, z5) (by simp)) G2.len (G2.same G5 rfl)).mono ?_
  rintro e w6 ⟨rfl, h6⟩
  replace L := L.keep h6
  replace HT := Hide.mk (HT.out.below h6 (Nat.le_refl _))
  replace HB := below_then HB h6
  clear h6
  have hqq : (q == q) = true := by simp
  go_wp2_with fail
  refine (known11 _).mono ?_
  rintro e w9 ⟨rfl, h9⟩
  go_wp2
  go_ret
  exact ⟨rfl, below_then HB h9⟩
set_option maxHeartbeats 4000000 in
theorem shifts_far (a : Option Addr) (ca : Nat) (za : List Int) (w : World) (ha : Lie w a za) (hnil : a = none → ca = 0) (M : Int) {x : Int} (hl : (za.length : Int) ≤ 4100) (Ga : Good za x) (hz : 0 < za.length) (n : Nat) (hM : M = -(n : Int)) (hM0 : M < -131072) (hM1 : -9223372036854775808 ≤ M) (q : Bool) (hq : decide (x % 2 ^ n ≠ 0) = q) (hq2 : decide (x % 2 ^ 131073 ≠ 0) = q) (hv1 : x / 2 ^ n = 0) (hv2 : x / 2 ^ 131073 = 0) (hT : Tab w) :
    Calls Tryd.prog 3 #[.slice a za.length ca, .int .i64 M] w fun e w' => e = .returned (.bool true) ∧ Below w.heap.size w w' := by
  have HN := Hide.mk hnil
  have HT := Hide.mk hT
  have L : Live w [(a, za)] := ⟨by simp [ha]⟩
  have HB : Below w.heap.size w w := Below.refl _ _
  clear ha hnil hT
  have HLA : Hide (za.length ≤ maxLen) := ⟨by unfold maxLen; omega⟩
  have HM := Hide.mk hM
  have HQ := Hide.mk hq
  have HQ2 := Hide.mk hq2
  have HV1 := Hide.mk hv1
  have HV2 := Hide.mk hv2
  have hnn : Hide (n ≤ 9223372036854775808) := ⟨by omega⟩
  clear hq2 hv1 hv2
  clear hq
  clear hM
  go_enter Tryd.func3, Tryd.ntmps3
  go_wp2_with fail
  refine (long_no _ _ _ _ _ hl).mono ?_
  rintro e w' ⟨rfl, rfl⟩
  go_wp2_with fail
  refine (lent_good a ca za _ (L.all (a, za) (by simp)) Ga HN.out).mono ?_
  rintro e w1 ⟨a1, c1, rfl, h1, _⟩
  have G1 := h1.good
  replace L := L.push h1.lie h1.bel
  replace HT := Hide.mk (HT.out.below h1.bel (Nat.le_refl _))
  replace HB := below_then HB h1.bel
  clear h1
  go_wp2_with fail
  refine (shiftDi a1 c1 za _ (L.all (a1, za) (by simp)) Ga M n HM.out hnn.out HT.out q HQ.out).mono ?_
  rintro e w2 ⟨z2, a2, c2, rfl, h2, _⟩
  rw [HV1.out] at h2
  have G2 := h2.good
  replace L := L.push h2.lie h2.bel
  replace HT := Hide.mk (HT.out.below h2.bel (Nat.le_refl _))
  replace HB := below_then HB h2.bel
  clear h2
  go_wp2_with fail
  refine (refMay_yes a ca za _ (L.all (a, za) (by simp)) HLA.out Ga.may).mono ?_
  rintro e w' ⟨rfl, rfl⟩
  go_wp2_with fail
  refine (lenN a1 c1 za _ (L.all (a1, za) (by simp)) Ga).mono ?_
  rintro e w' ⟨rfl, B1, rfl, hB1, hb1⟩
  have HB1 := Hide.mk hB1
  clear hB1
  go_wp2_with fail
  refine (refLenN a ca za _ (L.all (a, za) (by simp)) Ga).mono ?_
  rintro e w' ⟨rfl, B2, rfl, hB2, hb2⟩
  obtain rfl := hB2.unique HB1.out
  clear hB2
  have hbb : ((B2 : Int) != (B2 : Int)) = false := by simp
  go_wp2_with fail
  refine (lowN a1 c1 za _ (L.all (a1, za) (by simp)) Ga hz HT.out).mono ?_
  rintro e w' ⟨rfl, t1, rfl, ht1, htl1⟩
  have HT1 := Hide.mk ht1
  clear ht1
  go_wp2_with fail
  refine (refLowN a ca za _ (L.all (a, za) (by simp)) Ga hz).mono ?_
  rintro e w' ⟨rfl, t2, rfl, ht2, htl2⟩
  obtain rfl := ht2.unique HT1.out
  clear ht2
  have htt : ((t2 : Int) != (t2 : Int)) = false := by simp
  go_wp2_with fail
  refine (same_yes a1 a c1 ca za za _ (L.all (a1, za) (by simp)) (L.all (a, za) (by simp)) Ga.len rfl).mono ?_
  rintro e w8 ⟨rfl, h8⟩
  replace L := L.keep h8
  replace HT := Hide.mk (HT.out.below h8 (Nat.le_refl _))
  replace HB := below_then HB h8
  clear h8
  go_wp2_with fail
  refine (refDownN a ca za _ (L.all (a, za) (by simp)) Ga 131073 131073 rfl (by omega) q HQ2.out).mono ?_
  rintro e w5 ⟨z5, a5, c5, rfl, h5, _⟩
  rw [HV2.out] at h5
  have G5 := h5.good
  replace L := L.push h5.lie h5.bel
  replace HT := Hide.mk (HT.out.below h5.bel (Nat.le_refl _))
  replace HB := below_then HB h5.bel
  clear h5
  go_wp2_with fail
  refine (same_yes a2 a5 c2 c5 z2 z5 _ (L.all (a2, z2) (by simp)) (L.all (a5, z5) (by simp)) G2.len (G2.same G5 rfl)).mono ?_
  rintro e w6 ⟨rfl, h6⟩
  replace L := L.keep h6
  replace HT := Hide.mk (HT.out.below h6 (Nat.le_refl _))
  replace HB := below_then HB h6
  clear h6
  have hqq : (q == q) = true := by simp
  go_wp2_with fail
  refine (known11 _).mono ?_
  rintro e w9 ⟨rfl, h9⟩
  go_wp2
  go_ret
  exact ⟨rfl, below_then HB h9⟩
set_option maxHeartbeats 4000000 in
theorem shifts_upnil (a : Option Addr) (ca : Nat) (za : List Int) (w : World) (ha : Lie w a za) (hnil : a = none → ca = 0) (M : Int) {x : Int} (hl : (za.length : Int) ≤ 4100) (Ga : Good za x) (hz : za.length ≤ 0) (hM0 : 0 ≤ M) (hT : Tab w) :
    Calls Tryd.prog 3 #[.slice a za.length ca, .int .i64 M] w fun e w' => e = .returned (.bool true) ∧ Below w.heap.size w w' := by
  have HN := Hide.mk hnil
  have HT := Hide.mk hT
  have L : Live w [(a, za)] := ⟨by simp [ha]⟩
  have HB : Below w.heap.size w w := Below.refl _ _
  clear ha hnil hT
  have HLA : Hide (za.length ≤ maxLen) := ⟨by unfold maxLen; omega⟩
  go_enter Tryd.func3, Tryd.ntmps3
  go_wp2_with fail
  refine (long_no _ _ _ _ _ hl).mono ?_
  rintro e w' ⟨rfl, rfl⟩
  go_wp2_with fail
  refine (lent_good a ca za _ (L.all (a, za) (by simp)) Ga HN.out).mono ?_
  rintro e w1 ⟨a1, c1, rfl, h1, _⟩
  have G1 := h1.good
  replace L := L.push h1.lie h1.bel
  replace HT := Hide.mk (HT.out.below h1.bel (Nat.le_refl _))
  replace HB := below_then HB h1.bel
  clear h1
  go_wp2_with fail
  refine (shift_nil2 a1 c1 za _ Ga hz M).mono ?_
  rintro e w' ⟨rfl, rfl⟩
  go_wp2_with fail
  refine (refMay_yes a ca za _ (L.all (a, za) (by simp)) HLA.out Ga.may).mono ?_
  rintro e w' ⟨rfl, rfl⟩
  go_wp2_with fail
  refine (lenN a1 c1 za _ (L.all (a1, za) (by simp)) Ga).mono ?_
  rintro e w' ⟨rfl, B1, rfl, hB1, hb1⟩
  have HB1 := Hide.mk hB1
  clear hB1
  go_wp2_with fail
  refine (refLenN a ca za _ (L.all (a, za) (by simp)) Ga).mono ?_
  rintro e w' ⟨rfl, B2, rfl, hB2, hb2⟩
  obtain rfl := hB2.unique HB1.out
  clear hB2
  have hbb : ((B2 : Int) != (B2 : Int)) = false := by simp
  go_wp2_with fail
  refine (low_nil2 a1 c1 za _ Ga hz).mono ?_
  rintro e w' ⟨rfl, rfl⟩
  go_wp2_with fail
  refine (refLow_nil2 a ca za _ Ga hz).mono ?_
  rintro e w' ⟨rfl, rfl⟩
  go_wp2_with fail
  refine (same_yes a1 a c1 ca za za _ (L.all (a1, za) (by simp)) (L.all (a, za) (by simp)) Ga.len rfl).mono ?_
  rintro e w8 ⟨rfl, h8⟩
  replace L := L.keep h8
  replace HT := Hide.mk (HT.out.below h8 (Nat.le_refl _))
  replace HB := below_then HB h8
  clear h8
  go_wp2_with fail
  refine (same_yes none _ 0 0 [] [] _ (.inl rfl) (.inl rfl) (by simp) rfl).mono ?_
  rintro e w6 ⟨rfl, h6⟩
  replace HB := below_then (below_then HB (below_alloc w8 (.cells #[] 78))) h6
  go_wp2_with fail
  refine (known11 _).mono ?_
  rintro e w9 ⟨rfl, h9⟩
  go_wp2
  go_ret
  exact ⟨rfl, below_then HB h9⟩
set_option maxHeartbeats 4000000 in
theorem shifts_dnnil (a : Option Addr) (ca : Nat) (za : List Int) (w : World) (ha : Lie w a za) (hnil : a = none → ca = 0) (M : Int) {x : Int} (hl : (za.length : Int) ≤ 4100) (Ga : Good za x) (hz : za.length ≤ 0) (n : Nat) (hM : -M = (n : Int)) (hM0 : M < 0) (hM1 : -131072 ≤ M) (q : Bool) (hq : decide (x % 2 ^ n ≠ 0) = q) (hT : Tab w) :
    Calls Tryd.prog 3 #[.slice a za.length ca, .int .i64 M] w fun e w' => e = .returned (.bool true) ∧ Below w.heap.size w w' := by
  have HN := Hide.mk hnil
  have HT := Hide.mk hT
  have L : Live w [(a, za)] := ⟨by simp [ha]⟩
  have HB : Below w.heap.size w w := Below.refl _ _
  clear ha hnil hT
  have HLA : Hide (za.length ≤ maxLen) := ⟨by unfold maxLen; omega⟩
  have HM := Hide.mk hM
  have HQ := Hide.mk hq
  have hnn : Hide (n ≤ 131072) := ⟨by omega⟩
  clear hq
  clear hM
  go_enter Tryd.func3, Tryd.ntmps3
  go_wp2_with fail
  refine (long_no _ _ _ _ _ hl).mono ?_
  rintro e w' ⟨rfl, rfl⟩
  go_wp2_with fail
  refine (lent_good a ca za _ (L.all (a, za) (by simp)) Ga HN.out).mono ?_
  rintro e w1 ⟨a1, c1, rfl, h1, _⟩
  have G1 := h1.good
  replace L := L.push h1.lie h1.bel
  replace HT := Hide.mk (HT.out.below h1.bel (Nat.le_refl _))
  replace HB := below_then HB h1.bel
  clear h1
  go_wp2_with fail
  refine (shiftDi a1 c1 za _ (L.all (a1, za) (by simp)) Ga M n (by have := HM.out; omega) (by have := hnn.out; omega) HT.out q HQ.out).mono ?_
  rintro e w2 ⟨z2, a2, c2, rfl, h2, _⟩
  have G2 := h2.good
  replace L := L.push h2.lie h2.bel
  replace HT := Hide.mk (HT.out.below h2.bel (Nat.le_refl _))
  replace HB := below_then HB h2.bel
  clear h2
  go_wp2_with fail
  refine (refMay_yes a ca za _ (L.all (a, za) (by simp)) HLA.out Ga.may).mono ?_
  rintro e w' ⟨rfl, rfl⟩
  go_wp2_with fail
  refine (lenN a1 c1 za _ (L.all (a1, za) (by simp)) Ga).mono ?_
  rintro e w' ⟨rfl, B1, rfl, hB1, hb1⟩
  have HB1 := Hide.mk hB1
  clear hB1
  go_wp2_with fail
  refine (refLenN a ca za _ (L.all (a, za) (by simp)) Ga).mono ?_
  rintro e w' ⟨rfl, B2, rfl, hB2, hb2⟩
  obtain rfl := hB2.unique HB1.out
  clear hB2
  have hbb : ((B2 : Int) != (B2 : Int)) = false := by simp
  go_wp2_with fail
  refine (low_nil2 a1 c1 za _ Ga hz).mono ?_
  rintro e w' ⟨rfl, rfl⟩
  go_wp2_with fail
  refine (refLow_nil2 a ca za _ Ga hz).mono ?_
  rintro e w' ⟨rfl, rfl⟩
  go_wp2_with fail
  refine (same_yes a1 a c1 ca za za _ (L.all (a1, za) (by simp)) (L.all (a, za) (by simp)) Ga.len rfl).mono ?_
  rintro e w8 ⟨rfl, h8⟩
  replace L := L.keep h8
  replace HT := Hide.mk (HT.out.below h8 (Nat.le_refl _))
  replace HB := below_then HB h8
  clear h8
  go_wp2_with fail
  refine (refDownN a ca za _ (L.all (a, za) (by simp)) Ga (-M) n HM.out (by have := hnn.out; omega) q HQ.out).mono ?_
  rintro e w5 ⟨z5, a5, c5, rfl, h5, _⟩
  have G5 := h5.good
  replace L := L.push h5.lie h5.bel
  replace HT := Hide.mk (HT.out.below h5.bel (Nat.le_refl _))
  replace HB := below_then HB h5.bel
  clear h5
  go_wp2_with fail
  refine (same_yes a2 a5 c2 c5 z2 z5 _ (L.all (a2, z2) (by simp)) (L.all (a5, z5) (by simp)) G2.len (G2.same G5 rfl)).mono ?_
  rintro e w6 ⟨rfl, h6⟩
  replace L := L.keep h6
  replace HT := Hide.mk (HT.out.below h6 (Nat.le_refl _))
  replace HB := below_then HB h6
  clear h6
  have hqq : (q == q) = true := by simp
  go_wp2_with fail
  refine (known11 _).mono ?_
  rintro e w9 ⟨rfl, h9⟩
  go_wp2
  go_ret
  exact ⟨rfl, below_then HB h9⟩
set_option maxHeartbeats 4000000 in
theorem shifts_farnil (a : Option Addr) (ca : Nat) (za : List Int) (w : World) (ha : Lie w a za) (hnil : a = none → ca = 0) (M : Int) {x : Int} (hl : (za.length : Int) ≤ 4100) (Ga : Good za x) (hz : za.length ≤ 0) (n : Nat) (hM : M = -(n : Int)) (hM0 : M < -131072) (hM1 : -9223372036854775808 ≤ M) (q : Bool) (hq : decide (x % 2 ^ n ≠ 0) = q) (hq2 : decide (x % 2 ^ 131073 ≠ 0) = q) (hv1 : x / 2 ^ n = 0) (hv2 : x / 2 ^ 131073 = 0) (hT : Tab w) :
    Calls Tryd.prog 3 #[.slice a za.length ca, .int .i64 M] w fun e w' => e = .returned (.bool true) ∧ Below w.heap.size w w' := by
  have HN := Hide.mk hnil
  have HT := Hide.mk hT
  have L : Live w [(a, za)] := ⟨by simp [ha]⟩
  have HB : Below w.heap.size w w := Below.refl _ _
  clear ha hnil hT
  have HLA : Hide (za.length ≤ maxLen) := ⟨by unfold maxLen; omega⟩
  have HM := Hide.mk hM
  have HQ := Hide.mk hq
  have HQ2 := Hide.mk hq2
  have HV1 := Hide.mk hv1
  have HV2 := Hide.mk hv2
  have hnn : Hide (n ≤ 9223372036854775808) := ⟨by omega⟩
  clear hq2 hv1 hv2
  clear hq
  clear hM
  go_enter Tryd.func3, Tryd.ntmps3
  go_wp2_with fail
  refine (long_no _ _ _ _ _ hl).mono ?_
  rintro e w' ⟨rfl, rfl⟩
  go_wp2_with fail
  refine (lent_good a ca za _ (L.all (a, za) (by simp)) Ga HN.out).mono ?_
  rintro e w1 ⟨a1, c1, rfl, h1, _⟩
  have G1 := h1.good
  replace L := L.push h1.lie h1.bel
  replace HT := Hide.mk (HT.out.below h1.bel (Nat.le_refl _))
  replace HB := below_then HB h1.bel
  clear h1
  go_wp2_with fail
  refine (shiftDi a1 c1 za _ (L.all (a1, za) (by simp)) Ga M n HM.out hnn.out HT.out q HQ.out).mono ?_
  rintro e w2 ⟨z2, a2, c2, rfl, h2, _⟩
  rw [HV1.out] at h2
  have G2 := h2.good
  replace L := L.push h2.lie h2.bel
  replace HT := Hide.mk (HT.out.below h2.bel (Nat.le_refl _))
  replace HB := below_then HB h2.bel
  clear h2
  go_wp2_with fail
  refine (refMay_yes a ca za _ (L.all (a, za) (by simp)) HLA.out Ga.may).mono ?_
  rintro e w' ⟨rfl, rfl⟩
  go_wp2_with fail
  refine (lenN a1 c1 za _ (L.all (a1, za) (by simp)) Ga).mono ?_
  rintro e w' ⟨rfl, B1, rfl, hB1, hb1⟩
  have HB1 := Hide.mk hB1
  clear hB1
  go_wp2_with fail
  refine (refLenN a ca za _ (L.all (a, za) (by simp)) Ga).mono ?_
  rintro e w' ⟨rfl, B2, rfl, hB2, hb2⟩
  obtain rfl := hB2.unique HB1.out
  clear hB2
  have hbb : ((B2 : Int) != (B2 : Int)) = false := by simp
  go_wp2_with fail
  refine (low_nil2 a1 c1 za _ Ga hz).mono ?_
  rintro e w' ⟨rfl, rfl⟩
  go_wp2_with fail
  refine (refLow_nil2 a ca za _ Ga hz).mono ?_
  rintro e w' ⟨rfl, rfl⟩
  go_wp2_with fail
  refine (same_yes a1 a c1 ca za za _ (L.all (a1, za) (by simp)) (L.all (a, za) (by simp)) Ga.len rfl).mono ?_
  rintro e w8 ⟨rfl, h8⟩
  replace L := L.keep h8
  replace HT := Hide.mk (HT.out.below h8 (Nat.le_refl _))
  replace HB := below_then HB h8
  clear h8
  go_wp2_with fail
  refine (refDownN a ca za _ (L.all (a, za) (by simp)) Ga 131073 131073 rfl (by omega) q HQ2.out).mono ?_
  rintro e w5 ⟨z5, a5, c5, rfl, h5, _⟩
  rw [HV2.out] at h5
  have G5 := h5.good
  replace L := L.push h5.lie h5.bel
  replace HT := Hide.mk (HT.out.below h5.bel (Nat.le_refl _))
  replace HB := below_then HB h5.bel
  clear h5
  go_wp2_with fail
  refine (same_yes a2 a5 c2 c5 z2 z5 _ (L.all (a2, z2) (by simp)) (L.all (a5, z5) (by simp)) G2.len (G2.same G5 rfl)).mono ?_
  rintro e w6 ⟨rfl, h6⟩
  replace L := L.keep h6
  replace HT := Hide.mk (HT.out.below h6 (Nat.le_refl _))
  replace HB := below_then HB h6
  clear h6
  have hqq : (q == q) = true := by simp
  go_wp2_with fail
  refine (known11 _).mono ?_
  rintro e w9 ⟨rfl, h9⟩
  go_wp2
  go_ret
  exact ⟨rfl, below_then HB h9⟩
theorem shifts3 (a : Option Addr) (ca : Nat) (za : List Int) (w : World) (ha : Lie w a za) (hnil : a = none → ca = 0) (M : Int) (la : za.length ≤ maxLen) (ra : Nt.Rng za) (hM0 : -9223372036854775808 ≤ M) (hM1 : M ≤ 9223372036854775807) (hT : Tab w) :
    Calls Tryd.prog 3 #[.slice a za.length ca, .int .i64 M] w fun e w' => e = .returned (.bool true) ∧ Below w.heap.size w w' := by
  by_cases hl : (za.length : Int) ≤ 4100
  · cases pa : mayB za
    · exact shifts_e2 a ca za w ha hnil M hl la pa
    · have g : Good za (Nt.val za) := ⟨(may_can ra pa).1, (may_can ra pa).2, rfl⟩
      have hd : ∀ z : Int, 0 ≤ z → z < 2 ^ 131072 → z / 2 ^ 131073 = 0 := fun z h0 h1 => Int.ediv_eq_zero_of_lt h0 (by have := p2succ 131072; omega)
      have hgl := g.lt
      have hlt : Nt.val za < 2 ^ 131072 := by have := hgl.2; rw [pw32] at this; exact this
      have hge := hgl.1
      clear hgl
      by_cases h0 : 0 ≤ M
      · by_cases hz : 0 < za.length
        · obtain ⟨B, hB⟩ := bits_ex (g.pos hz)
          by_cases hf : M + B ≤ 131072
          · have hM : M = (M.toNat : Int) := (Int.toNat_of_nonneg h0).symm
            refine shifts_up a ca za w ha hnil M hl g hz M.toNat hM h0 ?_ (by omega) hT
            have h1 := (hB.up M.toNat).lt
            have h2 := p2mono (show B + M.toNat ≤ 131072 by omega)
            rw [pw32]; omega
          · exact shifts_long a ca za w ha hnil M hl g hz B hB h0 (by omega) hM1 hT
        · exact shifts_upnil a ca za w ha hnil M hl g (by omega) h0 hT
      · by_cases h1 : -131072 ≤ M
        · have hM : -M = ((-M).toNat : Int) := (Int.toNat_of_nonneg (by omega)).symm
          by_cases hz : 0 < za.length
          · exact shifts_down a ca za w ha hnil M hl g hz (-M).toNat hM (by omega) h1 _ rfl hT
          · exact shifts_dnnil a ca za w ha hnil M hl g (by omega) (-M).toNat hM (by omega) h1 _ rfl hT
        · have hM : M = -((-M).toNat : Int) := by have := Int.toNat_of_nonneg (show 0 ≤ -M by omega); omega
          have hk := p2mono (show 131072 ≤ (-M).toNat by omega)
          have hv1 : Nt.val za / 2 ^ (-M).toNat = 0 := Int.ediv_eq_zero_of_lt hge (by omega)
          by_cases hz : 0 < za.length
          · have hp := g.pos hz
            exact shifts_far a ca za w ha hnil M hl g hz (-M).toNat hM (by omega) hM0 true (lost_far hp (by omega)) (lost_far hp (by have := p2succ 131072; omega)) hv1 (hd _ hge hlt) hT
          · have hx := (g.nil (by omega)).2
            exact shifts_farnil a ca za w ha hnil M hl g (by omega) (-M).toNat hM (by omega) hM0 false (by rw [hx, Int.zero_emod]; rfl) (by rw [hx, Int.zero_emod]; rfl) hv1 (hd _ hge hlt) hT
  · exact shifts_e1 a ca za w ha hnil M (by omega)
end Go.Proofs.YtjhkploelojaeaaDoor
