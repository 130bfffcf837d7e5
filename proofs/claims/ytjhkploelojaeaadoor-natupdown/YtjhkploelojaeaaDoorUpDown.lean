import Derived.Test.YtjhkploelojaeaaDoorShifts
namespace Go.Proofs.YtjhkploelojaeaaDoor
open Go.RowKit
set_option linter.unusedVariables false
set_option maxRecDepth 3000

theorem updown_fit {z : List Int} {x : Int} (g : Good z x) (hl : (z.length : Int) ≤ 1000) {n : Nat} (hn : n ≤ 40000) : x * 2 ^ n < 4294967296 ^ 4096 := by
  have h1 : Lt 1000 x := by rw [← g.val]; exact Lt.of g.can.1 (by omega)
  have h2 : Lt 1251 ((2 : Int) ^ n) := ⟨Int.le_of_lt (p2pos n), by
    have := p2mono (show n + 1 ≤ 32 * 1251 by omega)
    rw [Int.pow_mul, show (2 : Int) ^ 32 = 4294967296 by decide, p2succ] at this
    have := p2pos n
    omega⟩
  exact ((h1.mul h2).mono (show 1000 + 1251 ≤ 4096 by decide)).2
theorem updown_fit2 {z : List Int} {x : Int} (g : Good z x) (n : Nat) : x / 2 ^ n * 2 ^ n < 4294967296 ^ 4096 := by
  have h1 := Int.ediv_mul_le x (b := 2 ^ n) (by have := p2pos n; omega)
  have h2 := g.lt.2
  omega
theorem sgn_lost {x : Int} {n : Nat} (h : x % 2 ^ n ≠ 0) : sgn (x / 2 ^ n * 2 ^ n) x = -1 := by
  have h1 := Int.emod_add_mul_ediv x (2 ^ n)
  rw [Int.mul_comm] at h1
  have h2 := Int.emod_nonneg x (b := 2 ^ n) (by have := p2pos n; omega)
  unfold sgn
  rw [if_pos (by omega)]
theorem sgn_kept {x : Int} {n : Nat} (h : x % 2 ^ n = 0) : sgn (x / 2 ^ n * 2 ^ n) x = 0 := by
  have h1 := Int.emod_add_mul_ediv x (2 ^ n)
  rw [Int.mul_comm] at h1
  unfold sgn
  rw [if_neg (by omega), if_neg (by omega)]
set_option maxHeartbeats 4000000 in
theorem updown_lost (a : Option Addr) (ca : Nat) (za : List Int) (w : World) {x : Int} (ha : Lie w a za) (hnil : a = none → ca = 0) (hl : (za.length : Int) ≤ 1000) (Ga : Good za x) (hz : 0 < za.length) (M : Int) (n : Nat) (hM : M = (n : Int)) (hM0 : 0 ≤ M) (hM1 : M ≤ 40000) (hq : x % 2 ^ n ≠ 0)  (hT : Tab w) :
    Calls Tryd.prog 6 #[.slice a za.length ca, .int .i64 M] w fun e w' => e = .returned (.bool true) ∧ Below w.heap.size w w' := by
  have hfit : x * 2 ^ n < 4294967296 ^ 4096 := updown_fit Ga hl (by omega)
  have hfit2 : x / 2 ^ n * 2 ^ n < 4294967296 ^ 4096 := updown_fit2 Ga n
  have hsg : sgn (x / 2 ^ n * 2 ^ n) x = -1 := sgn_lost hq
  have hdec : decide (x % 2 ^ n ≠ 0) = true := by simp [hq]
  have hdec2 : decide (x * 2 ^ n % 2 ^ n ≠ 0) = false := by simp
  have hback : x * 2 ^ n / 2 ^ n = x := Int.mul_ediv_cancel _ (by have := p2pos n; omega)
  have hn : n ≤ 40000 := by omega
  have HMN : Hide (M = (n : Int)) := ⟨hM⟩
  have L : Live w [(a, za)] := Live.one ha
  have HB : Below w.heap.size w w := Below.refl _ _
  have HT := Hide.mk hT
  have hlm : za.length ≤ maxLen := by unfold maxLen; omega
  have HL1 := Hide.mk (long_no a za.length ca 1000 w hl)
  have HL2 := Hide.mk (may_yes a ca za w ha hlm Ga.may)
  have Hhfit := Hide.mk hfit
  have Hhfit2 := Hide.mk hfit2
  have Hhsg := Hide.mk hsg
  have Hhdec := Hide.mk hdec
  have Hhdec2 := Hide.mk hdec2
  have Hhback := Hide.mk hback
  have Hq := Hide.mk hq
  have Hnil := Hide.mk hnil
  clear hT hlm ha hM hn hfit hfit2 hsg hdec hdec2 hback hq hnil
  go_enter Tryd.func6, Tryd.ntmps6
  go_wp2_with fail
  refine (HL1.out).mono ?_
  rintro e w' ⟨rfl, rfl⟩
  go_wp2_with fail
  refine (HL2.out).mono ?_
  rintro e w' ⟨rfl, rfl⟩
  clear HL1 HL2
  go_wp2_with fail
  refine (lent_good a ca za _ (L.all (a, za) (by simp)) Ga Hnil.out).mono ?_
  rintro e w1 ⟨a1, c1, rfl, h1, _⟩
  have G1 := h1.good
  replace L := L.push h1.lie h1.bel
  replace HT := Hide.mk (HT.out.below h1.bel (Nat.le_refl _))
  replace HB := below_then HB h1.bel
  clear h1
  go_wp2_with fail
  refine (shiftUi a1 c1 za _ (L.all (a1, za) (by simp)) Ga M n HMN.out Hhfit.out).mono ?_
  rintro e w2 ⟨z2, a2, c2, rfl, h2, _⟩
  have G2 := h2.good
  replace L := L.push h2.lie h2.bel
  replace HT := Hide.mk (HT.out.below h2.bel (Nat.le_refl _))
  replace HB := below_then HB h2.bel
  clear h2
  go_wp2_with fail
  refine (shiftDi a2 c2 z2 _ (L.all (a2, z2) (by simp)) G2 (-M) n (by rw [HMN.out]) (by have := HMN.out; omega) HT.out false Hhdec2.out).mono ?_
  rintro e w3 ⟨z3, a3, c3, rfl, h3, _⟩
  rw [Hhback.out] at h3
  have G3 := h3.good
  replace L := L.push h3.lie h3.bel
  replace HT := Hide.mk (HT.out.below h3.bel (Nat.le_refl _))
  replace HB := below_then HB h3.bel
  clear h3
  go_wp2_with fail
  refine (lent_good a ca za _ (L.all (a, za) (by simp)) Ga Hnil.out).mono ?_
  rintro e w4 ⟨a4, c4, rfl, h4, _⟩
  have G4 := h4.good
  replace L := L.push h4.lie h4.bel
  replace HT := Hide.mk (HT.out.below h4.bel (Nat.le_refl _))
  replace HB := below_then HB h4.bel
  clear h4
  go_wp2_with fail
  refine (shiftDi a4 c4 za _ (L.all (a4, za) (by simp)) Ga (-M) n (by rw [HMN.out]) (by have := HMN.out; omega) HT.out true Hhdec.out).mono ?_
  rintro e w5 ⟨z5, a5, c5, rfl, h5, _⟩
  have G5 := h5.good
  replace L := L.push h5.lie h5.bel
  replace HT := Hide.mk (HT.out.below h5.bel (Nat.le_refl _))
  replace HB := below_then HB h5.bel
  clear h5
  go_wp2_with fail
  refine (shiftUi a5 c5 z5 _ (L.all (a5, z5) (by simp)) G5 M n HMN.out Hhfit2.out).mono ?_
  rintro e w6 ⟨z6, a6, c6, rfl, h6, _⟩
  have G6 := h6.good
  replace L := L.push h6.lie h6.bel
  replace HT := Hide.mk (HT.out.below h6.bel (Nat.le_refl _))
  replace HB := below_then HB h6.bel
  clear h6
  go_wp2_with fail
  refine (cmp_good a6 a c6 ca z6 za _ (L.all (a6, z6) (by simp)) (L.all (a, za) (by simp)) G6 Ga (-1) Hhsg.out).mono ?_
  rintro e w7 ⟨rfl, h7⟩
  replace L := L.keep h7
  replace HT := Hide.mk (HT.out.below h7 (Nat.le_refl _))
  replace HB := below_then HB h7
  clear h7
  go_wp2_with fail
  refine (same_yes a3 a c3 ca z3 za _ (L.all (a3, z3) (by simp)) (L.all (a, za) (by simp)) G3.len (G3.same Ga rfl)).mono ?_
  rintro e w8 ⟨rfl, h8⟩
  replace L := L.keep h8
  replace HT := Hide.mk (HT.out.below h8 (Nat.le_refl _))
  replace HB := below_then HB h8
  clear h8
  go_wp2_with fail
  refine (lenN a2 c2 z2 _ (L.all (a2, z2) (by simp)) G2).mono ?_
  rintro e w' ⟨rfl, B2, rfl, hB2, hb2⟩
  have HB2 := Hide.mk hB2
  clear hB2
  go_wp2_with fail
  refine (lenN a ca za _ (L.all (a, za) (by simp)) Ga).mono ?_
  rintro e w' ⟨rfl, B, rfl, hB, hb⟩
  have HBa := Hide.mk hB
  clear hB
  have hc2 : (B2 : Int) = (B : Int) + M := by have := HB2.out.unique (HBa.out.up (Ga.pos hz) n); have := HMN.out; omega
  have hcb : ((B2 : Int) != (B : Int) + M) = false := by simp [hc2]
  clear hc2
  go_wp2_with fail
  refine (lenN a5 c5 z5 _ (L.all (a5, z5) (by simp)) G5).mono ?_
  rintro e w' ⟨rfl, B5, rfl, hB5, hb5⟩
  have HB5 := Hide.mk hB5
  clear hB5
  go_wp2_with fail
  refine (lenN a ca za _ (L.all (a, za) (by simp)) Ga).mono ?_
  rintro e w' ⟨rfl, C, rfl, hC, hc⟩
  have HC := Hide.mk hC
  clear hC
  have hc5 : (B5 : Int) = max 0 ((C : Int) - M) := by have := HB5.out.unique (HC.out.down n); have := HMN.out; omega
  have hcb5 : ((B5 : Int) != max 0 ((C : Int) - M)) = false := by simp [hc5]
  clear hc5
  go_wp2_with fail
  refine (lowN a ca za _ (L.all (a, za) (by simp)) Ga hz HT.out).mono ?_
  rintro e w' ⟨rfl, t, rfl, ht, htl⟩
  have HLo := Hide.mk (low_lost (n := n) ht)
  clear ht
  have htM : (t : Int) < M := by have h1 := HLo.out; rw [Hhdec.out] at h1; have := HMN.out; have := of_decide_eq_true h1; omega
  go_wp2_with fail
  refine (known11 _).mono ?_
  rintro e w9 ⟨rfl, h9⟩
  go_wp2
  go_ret
  exact ⟨rfl, below_then HB h9⟩
set_option maxHeartbeats 4000000 in
theorem updown_kept (a : Option Addr) (ca : Nat) (za : List Int) (w : World) {x : Int} (ha : Lie w a za) (hnil : a = none → ca = 0) (hl : (za.length : Int) ≤ 1000) (Ga : Good za x) (hz : 0 < za.length) (M : Int) (n : Nat) (hM : M = (n : Int)) (hM0 : 0 ≤ M) (hM1 : M ≤ 40000) (hq : x % 2 ^ n = 0)  (hT : Tab w) :
    Calls Tryd.prog 6 #[.slice a za.length ca, .int .i64 M] w fun e w' => e = .returned (.bool true) ∧ Below w.heap.size w w' := by
  have hfit : x * 2 ^ n < 4294967296 ^ 4096 := updown_fit Ga hl (by omega)
  have hfit2 : x / 2 ^ n * 2 ^ n < 4294967296 ^ 4096 := updown_fit2 Ga n
  have hsg : sgn (x / 2 ^ n * 2 ^ n) x = 0 := sgn_kept hq
  have hdec : decide (x % 2 ^ n ≠ 0) = false := by simp [hq]
  have hdec2 : decide (x * 2 ^ n % 2 ^ n ≠ 0) = false := by simp
  have hback : x * 2 ^ n / 2 ^ n = x := Int.mul_ediv_cancel _ (by have := p2pos n; omega)
  have hn : n ≤ 40000 := by omega
  have HMN : Hide (M = (n : Int)) := ⟨hM⟩
  have L : Live w [(a, za)] := Live.one ha
  have HB : Below w.heap.size w w := Below.refl _ _
  have HT := Hide.mk hT
  have hlm : za.length ≤ maxLen := by unfold maxLen; omega
  have HL1 := Hide.mk (long_no a za.length ca 1000 w hl)
  have HL2 := Hide.mk (may_yes a ca za w ha hlm Ga.may)
  have Hhfit := Hide.mk hfit
  have Hhfit2 := Hide.mk hfit2
  have Hhsg := Hide.mk hsg
  have Hhdec := Hide.mk hdec
  have Hhdec2 := Hide.mk hdec2
  have Hhback := Hide.mk hback
  have Hq := Hide.mk hq
  have Hnil := Hide.mk hnil
  clear hT hlm ha hM hn hfit hfit2 hsg hdec hdec2 hback hq hnil
  go_enter Tryd.func6, Tryd.ntmps6
  go_wp2_with fail
  refine (HL1.out).mono ?_
  rintro e w' ⟨rfl, rfl⟩
  go_wp2_with fail
  refine (HL2.out).mono ?_
  rintro e w' ⟨rfl, rfl⟩
  clear HL1 HL2
  go_wp2_with fail
  refine (lent_good a ca za _ (L.all (a, za) (by simp)) Ga Hnil.out).mono ?_
  rintro e w1 ⟨a1, c1, rfl, h1, _⟩
  have G1 := h1.good
  replace L := L.push h1.lie h1.bel
  replace HT := Hide.mk (HT.out.below h1.bel (Nat.le_refl _))
  replace HB := below_then HB h1.bel
  clear h1
  go_wp2_with fail
  refine (shiftUi a1 c1 za _ (L.all (a1, za) (by simp)) Ga M n HMN.out Hhfit.out).mono ?_
  rintro e w2 ⟨z2, a2, c2, rfl, h2, _⟩
  have G2 := h2.good
  replace L := L.push h2.lie h2.bel
  replace HT := Hide.mk (HT.out.below h2.bel (Nat.le_refl _))
  replace HB := below_then HB h2.bel
  clear h2
  go_wp2_with fail
  refine (shiftDi a2 c2 z2 _ (L.all (a2, z2) (by simp)) G2 (-M) n (by rw [HMN.out]) (by have := HMN.out; omega) HT.out false Hhdec2.out).mono ?_
  rintro e w3 ⟨z3, a3, c3, rfl, h3, _⟩
  rw [Hhback.out] at h3
  have G3 := h3.good
  replace L := L.push h3.lie h3.bel
  replace HT := Hide.mk (HT.out.below h3.bel (Nat.le_refl _))
  replace HB := below_then HB h3.bel
  clear h3
  go_wp2_with fail
  refine (lent_good a ca za _ (L.all (a, za) (by simp)) Ga Hnil.out).mono ?_
  rintro e w4 ⟨a4, c4, rfl, h4, _⟩
  have G4 := h4.good
  replace L := L.push h4.lie h4.bel
  replace HT := Hide.mk (HT.out.below h4.bel (Nat.le_refl _))
  replace HB := below_then HB h4.bel
  clear h4
  go_wp2_with fail
  refine (shiftDi a4 c4 za _ (L.all (a4, za) (by simp)) Ga (-M) n (by rw [HMN.out]) (by have := HMN.out; omega) HT.out false Hhdec.out).mono ?_
  rintro e w5 ⟨z5, a5, c5, rfl, h5, _⟩
  have G5 := h5.good
  replace L := L.push h5.lie h5.bel
  replace HT := Hide.mk (HT.out.below h5.bel (Nat.le_refl _))
  replace HB := below_then HB h5.bel
  clear h5
  go_wp2_with fail
  refine (shiftUi a5 c5 z5 _ (L.all (a5, z5) (by simp)) G5 M n HMN.out Hhfit2.out).mono ?_
  rintro e w6 ⟨z6, a6, c6, rfl, h6, _⟩
  have G6 := h6.good
  replace L := L.push h6.lie h6.bel
  replace HT := Hide.mk (HT.out.below h6.bel (Nat.le_refl _))
  replace HB := below_then HB h6.bel
  clear h6
  go_wp2_with fail
  refine (cmp_good a6 a c6 ca z6 za _ (L.all (a6, z6) (by simp)) (L.all (a, za) (by simp)) G6 Ga 0 Hhsg.out).mono ?_
  rintro e w7 ⟨rfl, h7⟩
  replace L := L.keep h7
  replace HT := Hide.mk (HT.out.below h7 (Nat.le_refl _))
  replace HB := below_then HB h7
  clear h7
  go_wp2_with fail
  refine (same_yes a3 a c3 ca z3 za _ (L.all (a3, z3) (by simp)) (L.all (a, za) (by simp)) G3.len (G3.same Ga rfl)).mono ?_
  rintro e w8 ⟨rfl, h8⟩
  replace L := L.keep h8
  replace HT := Hide.mk (HT.out.below h8 (Nat.le_refl _))
  replace HB := below_then HB h8
  clear h8
  go_wp2_with fail
  refine (lenN a2 c2 z2 _ (L.all (a2, z2) (by simp)) G2).mono ?_
  rintro e w' ⟨rfl, B2, rfl, hB2, hb2⟩
  have HB2 := Hide.mk hB2
  clear hB2
  go_wp2_with fail
  refine (lenN a ca za _ (L.all (a, za) (by simp)) Ga).mono ?_
  rintro e w' ⟨rfl, B, rfl, hB, hb⟩
  have HBa := Hide.mk hB
  clear hB
  have hc2 : (B2 : Int) = (B : Int) + M := by have := HB2.out.unique (HBa.out.up (Ga.pos hz) n); have := HMN.out; omega
  have hcb : ((B2 : Int) != (B : Int) + M) = false := by simp [hc2]
  clear hc2
  go_wp2_with fail
  refine (lenN a5 c5 z5 _ (L.all (a5, z5) (by simp)) G5).mono ?_
  rintro e w' ⟨rfl, B5, rfl, hB5, hb5⟩
  have HB5 := Hide.mk hB5
  clear hB5
  go_wp2_with fail
  refine (lenN a ca za _ (L.all (a, za) (by simp)) Ga).mono ?_
  rintro e w' ⟨rfl, C, rfl, hC, hc⟩
  have HC := Hide.mk hC
  clear hC
  have hc5 : (B5 : Int) = max 0 ((C : Int) - M) := by have := HB5.out.unique (HC.out.down n); have := HMN.out; omega
  have hcb5 : ((B5 : Int) != max 0 ((C : Int) - M)) = false := by simp [hc5]
  clear hc5
  go_wp2_with fail
  refine (lowN a ca za _ (L.all (a, za) (by simp)) Ga hz HT.out).mono ?_
  rintro e w' ⟨rfl, t, rfl, ht, htl⟩
  have HLo := Hide.mk (low_lost (n := n) ht)
  clear ht
  have htM : M ≤ (t : Int) := by have h1 := HLo.out; rw [Hhdec.out] at h1; have := HMN.out; have := of_decide_eq_false h1; omega
  go_wp2_with fail
  refine (known11 _).mono ?_
  rintro e w9 ⟨rfl, h9⟩
  go_wp2
  go_ret
  exact ⟨rfl, below_then HB h9⟩
set_option maxHeartbeats 4000000 in
theorem updown_none (a : Option Addr) (ca : Nat) (za : List Int) (w : World) {x : Int} (ha : Lie w a za) (hnil : a = none → ca = 0) (hl : (za.length : Int) ≤ 1000) (Ga : Good za x) (hz : za.length ≤ 0) (M : Int) (n : Nat) (hM : M = (n : Int)) (hM0 : 0 ≤ M) (hM1 : M ≤ 40000) (hq : x % 2 ^ n = 0) (hM2 : 0 < M) (hT : Tab w) :
    Calls Tryd.prog 6 #[.slice a za.length ca, .int .i64 M] w fun e w' => e = .returned (.bool true) ∧ Below w.heap.size w w' := by
  have hfit : x * 2 ^ n < 4294967296 ^ 4096 := updown_fit Ga hl (by omega)
  have hfit2 : x / 2 ^ n * 2 ^ n < 4294967296 ^ 4096 := updown_fit2 Ga n
  have hsg : sgn (x / 2 ^ n * 2 ^ n) x = 0 := sgn_kept hq
  have hdec : decide (x % 2 ^ n ≠ 0) = false := by simp [hq]
  have hdec2 : decide (x * 2 ^ n % 2 ^ n ≠ 0) = false := by simp
  have hback : x * 2 ^ n / 2 ^ n = x := Int.mul_ediv_cancel _ (by have := p2pos n; omega)
  have hn : n ≤ 40000 := by omega
  have HMN : Hide (M = (n : Int)) := ⟨hM⟩
  have L : Live w [(a, za)] := Live.one ha
  have HB : Below w.heap.size w w := Below.refl _ _
  have HT := Hide.mk hT
  have hlm : za.length ≤ maxLen := by unfold maxLen; omega
  have HL1 := Hide.mk (long_no a za.length ca 1000 w hl)
  have HL2 := Hide.mk (may_yes a ca za w ha hlm Ga.may)
  have Hhfit := Hide.mk hfit
  have Hhfit2 := Hide.mk hfit2
  have Hhsg := Hide.mk hsg
  have Hhdec := Hide.mk hdec
  have Hhdec2 := Hide.mk hdec2
  have Hhback := Hide.mk hback
  have Hq := Hide.mk hq
  have Hnil := Hide.mk hnil
  clear hT hlm ha hM hn hfit hfit2 hsg hdec hdec2 hback hq hnil
  go_enter Tryd.func6, Tryd.ntmps6
  go_wp2_with fail
  refine (HL1.out).mono ?_
  rintro e w' ⟨rfl, rfl⟩
  go_wp2_with fail
  refine (HL2.out).mono ?_
  rintro e w' ⟨rfl, rfl⟩
  clear HL1 HL2
  go_wp2_with fail
  refine (lent_good a ca za _ (L.all (a, za) (by simp)) Ga Hnil.out).mono ?_
  rintro e w1 ⟨a1, c1, rfl, h1, _⟩
  have G1 := h1.good
  replace L := L.push h1.lie h1.bel
  replace HT := Hide.mk (HT.out.below h1.bel (Nat.le_refl _))
  replace HB := below_then HB h1.bel
  clear h1
  go_wp2_with fail
  refine (shiftUi a1 c1 za _ (L.all (a1, za) (by simp)) Ga M n HMN.out Hhfit.out).mono ?_
  rintro e w2 ⟨z2, a2, c2, rfl, h2, _⟩
  have G2 := h2.good
  replace L := L.push h2.lie h2.bel
  replace HT := Hide.mk (HT.out.below h2.bel (Nat.le_refl _))
  replace HB := below_then HB h2.bel
  clear h2
  go_wp2_with fail
  refine (shiftDi a2 c2 z2 _ (L.all (a2, z2) (by simp)) G2 (-M) n (by rw [HMN.out]) (by have := HMN.out; omega) HT.out false Hhdec2.out).mono ?_
  rintro e w3 ⟨z3, a3, c3, rfl, h3, _⟩
  rw [Hhback.out] at h3
  have G3 := h3.good
  replace L := L.push h3.lie h3.bel
  replace HT := Hide.mk (HT.out.below h3.bel (Nat.le_refl _))
  replace HB := below_then HB h3.bel
  clear h3
  go_wp2_with fail
  refine (lent_good a ca za _ (L.all (a, za) (by simp)) Ga Hnil.out).mono ?_
  rintro e w4 ⟨a4, c4, rfl, h4, _⟩
  have G4 := h4.good
  replace L := L.push h4.lie h4.bel
  replace HT := Hide.mk (HT.out.below h4.bel (Nat.le_refl _))
  replace HB := below_then HB h4.bel
  clear h4
  go_wp2_with fail
  refine (shiftDi a4 c4 za _ (L.all (a4, za) (by simp)) Ga (-M) n (by rw [HMN.out]) (by have := HMN.out; omega) HT.out false Hhdec.out).mono ?_
  rintro e w5 ⟨z5, a5, c5, rfl, h5, _⟩
  have G5 := h5.good
  replace L := L.push h5.lie h5.bel
  replace HT := Hide.mk (HT.out.below h5.bel (Nat.le_refl _))
  replace HB := below_then HB h5.bel
  clear h5
  go_wp2_with fail
  refine (shiftUi a5 c5 z5 _ (L.all (a5, z5) (by simp)) G5 M n HMN.out Hhfit2.out).mono ?_
  rintro e w6 ⟨z6, a6, c6, rfl, h6, _⟩
  have G6 := h6.good
  replace L := L.push h6.lie h6.bel
  replace HT := Hide.mk (HT.out.below h6.bel (Nat.le_refl _))
  replace HB := below_then HB h6.bel
  clear h6
  go_wp2_with fail
  refine (cmp_good a6 a c6 ca z6 za _ (L.all (a6, z6) (by simp)) (L.all (a, za) (by simp)) G6 Ga 0 Hhsg.out).mono ?_
  rintro e w7 ⟨rfl, h7⟩
  replace L := L.keep h7
  replace HT := Hide.mk (HT.out.below h7 (Nat.le_refl _))
  replace HB := below_then HB h7
  clear h7
  go_wp2_with fail
  refine (same_yes a3 a c3 ca z3 za _ (L.all (a3, z3) (by simp)) (L.all (a, za) (by simp)) G3.len (G3.same Ga rfl)).mono ?_
  rintro e w8 ⟨rfl, h8⟩
  replace L := L.keep h8
  replace HT := Hide.mk (HT.out.below h8 (Nat.le_refl _))
  replace HB := below_then HB h8
  clear h8
  go_wp2_with fail
  refine (lenN a5 c5 z5 _ (L.all (a5, z5) (by simp)) G5).mono ?_
  rintro e w' ⟨rfl, B5, rfl, hB5, hb5⟩
  have HB5 := Hide.mk hB5
  clear hB5
  go_wp2_with fail
  refine (lenN a ca za _ (L.all (a, za) (by simp)) Ga).mono ?_
  rintro e w' ⟨rfl, C, rfl, hC, hc⟩
  have HC := Hide.mk hC
  clear hC
  have hc5 : (B5 : Int) = max 0 ((C : Int) - M) := by have := HB5.out.unique (HC.out.down n); have := HMN.out; omega
  have hcb5 : ((B5 : Int) != max 0 ((C : Int) - M)) = false := by simp [hc5]
  clear hc5
  go_wp2_with fail
  refine (low_nil2 a ca za _ Ga hz).mono ?_
  rintro e w' ⟨rfl, rfl⟩
  go_wp2_with fail
  refine (known11 _).mono ?_
  rintro e w9 ⟨rfl, h9⟩
  go_wp2
  go_ret
  exact ⟨rfl, below_then HB h9⟩
set_option maxHeartbeats 4000000 in
theorem updown_none0 (a : Option Addr) (ca : Nat) (za : List Int) (w : World) {x : Int} (ha : Lie w a za) (hnil : a = none → ca = 0) (hl : (za.length : Int) ≤ 1000) (Ga : Good za x) (hz : za.length ≤ 0) (M : Int) (n : Nat) (hM : M = (n : Int)) (hM0 : 0 ≤ M) (hM1 : M ≤ 40000) (hq : x % 2 ^ n = 0) (hM2 : M ≤ 0) (hT : Tab w) :
    Calls Tryd.prog 6 #[.slice a za.length ca, .int .i64 M] w fun e w' => e = .returned (.bool true) ∧ Below w.heap.size w w' := by
  have hfit : x * 2 ^ n < 4294967296 ^ 4096 := updown_fit Ga hl (by omega)
  have hfit2 : x / 2 ^ n * 2 ^ n < 4294967296 ^ 4096 := updown_fit2 Ga n
  have hsg : sgn (x / 2 ^ n * 2 ^ n) x = 0 := sgn_kept hq
  have hdec : decide (x % 2 ^ n ≠ 0) = false := by simp [hq]
  have hdec2 : decide (x * 2 ^ n % 2 ^ n ≠ 0) = false := by simp
  have hback : x * 2 ^ n / 2 ^ n = x := Int.mul_ediv_cancel _ (by have := p2pos n; omega)
  have hn : n ≤ 40000 := by omega
  have HMN : Hide (M = (n : Int)) := ⟨hM⟩
  have L : Live w [(a, za)] := Live.one ha
  have HB : Below w.heap.size w w := Below.refl _ _
  have HT := Hide.mk hT
  have hlm : za.length ≤ maxLen := by unfold maxLen; omega
  have HL1 := Hide.mk (long_no a za.length ca 1000 w hl)
  have HL2 := Hide.mk (may_yes a ca za w ha hlm Ga.may)
  have Hhfit := Hide.mk hfit
  have Hhfit2 := Hide.mk hfit2
  have Hhsg := Hide.mk hsg
  have Hhdec := Hide.mk hdec
  have Hhdec2 := Hide.mk hdec2
  have Hhback := Hide.mk hback
  have Hq := Hide.mk hq
  have Hnil := Hide.mk hnil
  clear hT hlm ha hM hn hfit hfit2 hsg hdec hdec2 hback hq hnil
  go_enter Tryd.func6, Tryd.ntmps6
  go_wp2_with fail
  refine (HL1.out).mono ?_
  rintro e w' ⟨rfl, rfl⟩
  go_wp2_with fail
  refine (HL2.out).mono ?_
  rintro e w' ⟨rfl, rfl⟩
  clear HL1 HL2
  go_wp2_with fail
  refine (lent_good a ca za _ (L.all (a, za) (by simp)) Ga Hnil.out).mono ?_
  rintro e w1 ⟨a1, c1, rfl, h1, _⟩
  have G1 := h1.good
  replace L := L.push h1.lie h1.bel
  replace HT := Hide.mk (HT.out.below h1.bel (Nat.le_refl _))
  replace HB := below_then HB h1.bel
  clear h1
  go_wp2_with fail
  refine (shiftUi a1 c1 za _ (L.all (a1, za) (by simp)) Ga M n HMN.out Hhfit.out).mono ?_
  rintro e w2 ⟨z2, a2, c2, rfl, h2, _⟩
  have G2 := h2.good
  replace L := L.push h2.lie h2.bel
  replace HT := Hide.mk (HT.out.below h2.bel (Nat.le_refl _))
  replace HB := below_then HB h2.bel
  clear h2
  go_wp2_with fail
  refine (shiftDi a2 c2 z2 _ (L.all (a2, z2) (by simp)) G2 (-M) n (by rw [HMN.out]) (by have := HMN.out; omega) HT.out false Hhdec2.out).mono ?_
  rintro e w3 ⟨z3, a3, c3, rfl, h3, _⟩
  rw [Hhback.out] at h3
  have G3 := h3.good
  replace L := L.push h3.lie h3.bel
  replace HT := Hide.mk (HT.out.below h3.bel (Nat.le_refl _))
  replace HB := below_then HB h3.bel
  clear h3
  go_wp2_with fail
  refine (lent_good a ca za _ (L.all (a, za) (by simp)) Ga Hnil.out).mono ?_
  rintro e w4 ⟨a4, c4, rfl, h4, _⟩
  have G4 := h4.good
  replace L := L.push h4.lie h4.bel
  replace HT := Hide.mk (HT.out.below h4.bel (Nat.le_refl _))
  replace HB := below_then HB h4.bel
  clear h4
  go_wp2_with fail
  refine (shiftDi a4 c4 za _ (L.all (a4, za) (by simp)) Ga (-M) n (by rw [HMN.out]) (by have := HMN.out; omega) HT.out false Hhdec.out).mono ?_
  rintro e w5 ⟨z5, a5, c5, rfl, h5, _⟩
  have G5 := h5.good
  replace L := L.push h5.lie h5.bel
  replace HT := Hide.mk (HT.out.below h5.bel (Nat.le_refl _))
  replace HB := below_then HB h5.bel
  clear h5
  go_wp2_with fail
  refine (shiftUi a5 c5 z5 _ (L.all (a5, z5) (by simp)) G5 M n HMN.out Hhfit2.out).mono ?_
  rintro e w6 ⟨z6, a6, c6, rfl, h6, _⟩
  have G6 := h6.good
  replace L := L.push h6.lie h6.bel
  replace HT := Hide.mk (HT.out.below h6.bel (Nat.le_refl _))
  replace HB := below_then HB h6.bel
  clear h6
  go_wp2_with fail
  refine (cmp_good a6 a c6 ca z6 za _ (L.all (a6, z6) (by simp)) (L.all (a, za) (by simp)) G6 Ga 0 Hhsg.out).mono ?_
  rintro e w7 ⟨rfl, h7⟩
  replace L := L.keep h7
  replace HT := Hide.mk (HT.out.below h7 (Nat.le_refl _))
  replace HB := below_then HB h7
  clear h7
  go_wp2_with fail
  refine (same_yes a3 a c3 ca z3 za _ (L.all (a3, z3) (by simp)) (L.all (a, za) (by simp)) G3.len (G3.same Ga rfl)).mono ?_
  rintro e w8 ⟨rfl, h8⟩
  replace L := L.keep h8
  replace HT := Hide.mk (HT.out.below h8 (Nat.le_refl _))
  replace HB := below_then HB h8
  clear h8
  go_wp2_with fail
  refine (lenN a5 c5 z5 _ (L.all (a5, z5) (by simp)) G5).mono ?_
  rintro e w' ⟨rfl, B5, rfl, hB5, hb5⟩
  have HB5 := Hide.mk hB5
  clear hB5
  go_wp2_with fail
  refine (lenN a ca za _ (L.all (a, za) (by simp)) Ga).mono ?_
  rintro e w' ⟨rfl, C, rfl, hC, hc⟩
  have HC := Hide.mk hC
  clear hC
  have hc5 : (B5 : Int) = max 0 ((C : Int) - M) := by have := HB5.out.unique (HC.out.down n); have := HMN.out; omega
  have hcb5 : ((B5 : Int) != max 0 ((C : Int) - M)) = false := by simp [hc5]
  clear hc5
  go_wp2_with fail
  refine (low_nil2 a ca za _ Ga hz).mono ?_
  rintro e w' ⟨rfl, rfl⟩
  go_wp2_with fail
  refine (known11 _).mono ?_
  rintro e w9 ⟨rfl, h9⟩
  go_wp2
  go_ret
  exact ⟨rfl, below_then HB h9⟩
set_option maxHeartbeats 1000000 in
theorem updown_e1 (a : Option Addr) (ca : Nat) (za : List Int) (w : World) (M : Int) (ha : Lie w a za) (la : za.length ≤ maxLen) (hl : (1000 : Int) < (za.length : Int)) :
    Calls Tryd.prog 6 #[.slice a za.length ca, .int .i64 M] w fun e w' => e = .returned (.bool true) ∧ Below w.heap.size w w' := by
  have H0 := Hide.mk (long_yes a za.length ca 1000 w hl)
  clear ha la
  go_enter Tryd.func6, Tryd.ntmps6
  go_wp2_with fail
  refine (H0.out).mono ?_
  rintro e w' ⟨rfl, rfl⟩
  go_wp2_with fail
  refine (known11 _).mono ?_
  rintro e w' ⟨rfl, hbel⟩
  go_wp2
  go_ret
  exact ⟨rfl, hbel⟩
set_option maxHeartbeats 1000000 in
theorem updown_e2 (a : Option Addr) (ca : Nat) (za : List Int) (w : World) (M : Int) (ha : Lie w a za) (la : za.length ≤ maxLen) (hl : (za.length : Int) ≤ 1000) (pa : mayB za = false) :
    Calls Tryd.prog 6 #[.slice a za.length ca, .int .i64 M] w fun e w' => e = .returned (.bool true) ∧ Below w.heap.size w w' := by
  have H0 := Hide.mk (long_no a za.length ca 1000 w hl)
  have H1 := Hide.mk (may_no a ca za w ha la pa)
  clear ha la
  go_enter Tryd.func6, Tryd.ntmps6
  go_wp2_with fail
  refine (H0.out).mono ?_
  rintro e w' ⟨rfl, rfl⟩
  go_wp2_with fail
  refine (H1.out).mono ?_
  rintro e w' ⟨rfl, rfl⟩
  go_wp2_with fail
  refine (known11 _).mono ?_
  rintro e w' ⟨rfl, hbel⟩
  go_wp2
  go_ret
  exact ⟨rfl, hbel⟩
set_option maxHeartbeats 1000000 in
theorem updown_e3 (a : Option Addr) (ca : Nat) (za : List Int) (w : World) (M : Int) (ha : Lie w a za) (la : za.length ≤ maxLen) (hl : (za.length : Int) ≤ 1000) (pa : mayB za = true) (hM : M < 0) :
    Calls Tryd.prog 6 #[.slice a za.length ca, .int .i64 M] w fun e w' => e = .returned (.bool true) ∧ Below w.heap.size w w' := by
  have H0 := Hide.mk (long_no a za.length ca 1000 w hl)
  have H1 := Hide.mk (may_yes a ca za w ha la pa)
  clear ha la
  go_enter Tryd.func6, Tryd.ntmps6
  go_wp2_with fail
  refine (H0.out).mono ?_
  rintro e w' ⟨rfl, rfl⟩
  go_wp2_with fail
  refine (H1.out).mono ?_
  rintro e w' ⟨rfl, rfl⟩
  go_wp2_with fail
  refine (known11 _).mono ?_
  rintro e w' ⟨rfl, hbel⟩
  go_wp2
  go_ret
  exact ⟨rfl, hbel⟩
set_option maxHeartbeats 1000000 in
theorem updown_e4 (a : Option Addr) (ca : Nat) (za : List Int) (w : World) (M : Int) (ha : Lie w a za) (la : za.length ≤ maxLen) (hl : (za.length : Int) ≤ 1000) (pa : mayB za = true) (hM : 40000 < M) :
    Calls Tryd.prog 6 #[.slice a za.length ca, .int .i64 M] w fun e w' => e = .returned (.bool true) ∧ Below w.heap.size w w' := by
  have H0 := Hide.mk (long_no a za.length ca 1000 w hl)
  have H1 := Hide.mk (may_yes a ca za w ha la pa)
  clear ha la
  go_enter Tryd.func6, Tryd.ntmps6
  go_wp2_with fail
  refine (H0.out).mono ?_
  rintro e w' ⟨rfl, rfl⟩
  go_wp2_with fail
  refine (H1.out).mono ?_
  rintro e w' ⟨rfl, rfl⟩
  go_wp2_with fail
  refine (known11 _).mono ?_
  rintro e w' ⟨rfl, hbel⟩
  go_wp2
  go_ret
  exact ⟨rfl, hbel⟩
theorem updown6 (a : Option Addr) (ca : Nat) (za : List Int) (w : World) (M : Int) (ha : Lie w a za) (la : za.length ≤ maxLen) (ra : Nt.Rng za) (hnil : a = none → ca = 0) (hT : Tab w) :
    Calls Tryd.prog 6 #[.slice a za.length ca, .int .i64 M] w fun e w' => e = .returned (.bool true) ∧ Below w.heap.size w w' := by
  by_cases hl : (za.length : Int) ≤ 1000
  · cases pa : mayB za
    · exact updown_e2 a ca za w M ha la hl pa
    · by_cases h0 : M < 0
      · exact updown_e3 a ca za w M ha la hl pa h0
      · by_cases h1 : 40000 < M
        · exact updown_e4 a ca za w M ha la hl pa h1
        · have g : Good za (Nt.val za) := ⟨(may_can ra pa).1, (may_can ra pa).2, rfl⟩
          have hM : M = (M.toNat : Int) := (Int.toNat_of_nonneg (by omega)).symm
          by_cases hz : 0 < za.length
          · by_cases hq : Nt.val za % 2 ^ M.toNat = 0
            · exact updown_kept a ca za w ha hnil hl g hz M M.toNat hM (by omega) (by omega) hq hT
            · exact updown_lost a ca za w ha hnil hl g hz M M.toNat hM (by omega) (by omega) hq hT
          · have hx : Nt.val za % 2 ^ M.toNat = 0 := by rw [(g.nil (by omega)).2]; simp
            by_cases h2 : 0 < M
            · exact updown_none a ca za w ha hnil hl g (by omega) M M.toNat hM (by omega) (by omega) hx h2 hT
            · exact updown_none0 a ca za w ha hnil hl g (by omega) M M.toNat hM (by omega) (by omega) hx (by omega) hT
  · exact updown_e1 a ca za w M ha la (by omega)
end Go.Proofs.YtjhkploelojaeaaDoor
