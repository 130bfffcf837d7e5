import Derived.Test.YteejaghimppcgaaDoorDyadCutsPart12
import Derived.RegionTactic
import Derived.WalkKit
import Derived.WalkSpells
import Derived.Below
import Derived.Laws.ResultCell
import Derived.Laws.Rows
import Derived.Laws.BitsAllLaws
namespace Go.Proofs.YteejaghimppcgaaDoor
open Go.RowKit
set_option linter.unusedVariables false
set_option maxRecDepth 3000
theorem drefmay_nil37 (ng : Bool) (a : Option Addr) (cap : Nat) (ex : Int) (w : World) (q : Bool) (hq : (!ng && ex == 0) = q) :
    Calls Tryd.prog 24 #[dV ng a 0 cap ex] w fun e w' => e = .returned (.bool q) ∧ Below w.heap.size w w' := by
  have HM := Hide.mk (refMay_yes a cap [] (w.alloc (.cells #[.bool ng, .slice a 0 cap, .int .i64 ex] 36)) (.inl rfl) (by unfold maxLen; simp) rfl)
  cases ng
  · by_cases h0 : ex = 0
    · subst h0
      have : q = true := by rw [← hq]; rfl
      subst this
      go_enter Tryd.func24, Tryd.ntmps24
      go_wp2_with fail
      refine HM.out.mono ?_
      rintro e w' ⟨rfl, rfl⟩
      go_wp2
      go_ret
      exact ⟨rfl, below_alloc _ _⟩
    · have hb : (ex == 0) = false := by simp [h0]
      have : q = false := by rw [← hq, hb]; rfl
      subst this
      go_enter Tryd.func24, Tryd.ntmps24
      go_wp2_with fail
      refine HM.out.mono ?_
      rintro e w' ⟨rfl, rfl⟩
      go_wp2
      go_ret
      exact ⟨rfl, below_alloc _ _⟩
  · have : q = false := by rw [← hq]; rfl
    subst this
    go_enter Tryd.func24, Tryd.ntmps24
    go_wp2_with fail
    refine HM.out.mono ?_
    rintro e w' ⟨rfl, rfl⟩
    go_wp2
    go_ret
    exact ⟨rfl, below_alloc _ _⟩
set_option maxHeartbeats 1000000 in
theorem drefmay_num37 (ng : Bool) (a : Option Addr) (cap : Nat) (zs : List Int) (ex : Int) (w : World) (ha : Lie w a zs) (hl : zs.length ≤ maxLen) (hr : Nt.Rng zs) (hz : 0 < zs.length) :
    Calls Tryd.prog 24 #[dV ng a zs.length cap ex] w fun e w' => e = .returned (.bool (mayB zs && zs.getD 0 0 % 2 == 1 && decide (-16777216 ≤ ex) && decide (ex ≤ 16777216))) ∧ Below w.heap.size w w' := by
  have hb := below_alloc w (.cells #[.bool ng, .slice a zs.length cap, .int .i64 ex] 36)
  have HM := fun q (h : mayB zs = q) => Hide.mk (show Calls Tryd.prog 14 #[.slice a zs.length cap] (w.alloc (.cells #[.bool ng, .slice a zs.length cap, .int .i64 ex] 36)) fun e w' => e = .returned (.bool q) ∧ (w.alloc (.cells #[.bool ng, .slice a zs.length cap, .int .i64 ex] 36)) = w' by rw [← h]; exact refMay14 a cap zs _ (ha.below hb (Nat.le_refl _)) hl)
  obtain ⟨b, o, rfl⟩ := lie_some ha hz
  have hc : (w.alloc (.cells #[.bool ng, .slice (some ⟨b, o, none⟩) zs.length cap, .int .i64 ex] 36)).cell? ⟨b, o, none⟩ = some (.int .u32 (zs.getD 0 0)) := lie_cell (ha.below hb (Nat.le_refl _)) rfl hz
  have h01 := hr 0
  have HB := Hide.mk hb
  have hne : ((zs.length : Int) == 0) = false := beq_eq_false_iff_ne.2 (by omega)
  clear ha hb hr
  generalize zs.getD 0 0 = x at *
  cases hp : mayB zs
  · have HM2 := HM false hp
    clear HM hp hc
    go_enter Tryd.func24, Tryd.ntmps24
    go_wp2_with fail
    refine HM2.out.mono ?_
    rintro e w' ⟨rfl, rfl⟩
    go_wp2
    go_ret
    exact ⟨rfl, HB.out⟩
  · have HM2 := HM true hp
    clear HM hp
    rw [Bool.true_and]
    by_cases hodd : x % 2 = 1
    · have ho : (x % 2 == 1) = true := by simp [hodd]
      rw [ho, Bool.true_and]
      clear hodd
      by_cases h1 : -16777216 ≤ ex
      · by_cases h2 : ex ≤ 16777216
        · rw [decide_eq_true h1, decide_eq_true h2]
          go_enter Tryd.func24, Tryd.ntmps24
          go_wp2_with fail
          refine HM2.out.mono ?_
          rintro e w' ⟨rfl, rfl⟩
          go_wp2
          go_ret
          exact ⟨by simp, HB.out⟩
        · rw [decide_eq_true h1, decide_eq_false h2]
          go_enter Tryd.func24, Tryd.ntmps24
          go_wp2_with fail
          refine HM2.out.mono ?_
          rintro e w' ⟨rfl, rfl⟩
          go_wp2
          go_ret
          exact ⟨by simp [h2], HB.out⟩
      · rw [decide_eq_false h1, Bool.false_and]
        go_enter Tryd.func24, Tryd.ntmps24
        go_wp2_with fail
        refine HM2.out.mono ?_
        rintro e w' ⟨rfl, rfl⟩
        go_wp2
        go_ret
        exact ⟨rfl, HB.out⟩
    · have ho : (x % 2 == 1) = false := by simp [hodd]
      rw [ho, Bool.false_and]
      clear hodd
      go_enter Tryd.func24, Tryd.ntmps24
      go_wp2_with fail
      refine HM2.out.mono ?_
      rintro e w' ⟨rfl, rfl⟩
      go_wp2
      go_ret
      exact ⟨rfl, HB.out⟩
theorem drefmay37 (ng : Bool) (a : Option Addr) (cap : Nat) (zs : List Int) (ex : Int) (w : World) (u : DLie w a zs) (q : Bool) (hq : dmayB ng zs ex = q) :
    Calls Tryd.prog 24 #[dV ng a zs.length cap ex] w fun e w' => e = .returned (.bool q) ∧ Below w.heap.size w w' := by
  by_cases hz : 0 < zs.length
  · have e : dmayB ng zs ex = (mayB zs && zs.getD 0 0 % 2 == 1 && decide (-16777216 ≤ ex) && decide (ex ≤ 16777216)) := by
      unfold dmayB; rw [if_neg (by omega)]
    rw [← hq, e]
    exact drefmay_num37 ng a cap zs ex w u.lie u.len u.rng hz
  · have e0 : zs = [] := List.length_eq_zero_iff.1 (by omega)
    subst e0
    exact drefmay_nil37 ng a cap ex w q hq
/-- Make: what may not be a number is refused; else the one form. -/
theorem dmake_bad (ng : Bool) (a : Option Addr) (cap : Nat) (zs : List Int) (ex : Int) (w : World) (u : DLie w a zs) (h : mayB zs = false) :
    Calls Tryd.prog 100 #[.bool ng, .slice a zs.length cap, .int .i64 ex] w fun e w' => e = .returned (.tuple #[noD, .int .i64 2]) ∧ Below w.heap.size w w' := by
  have hb := below_alloc w (.cells #[.bool false, .slice none 0 0, .int .i64 0] 36)
  have HM := Hide.mk (may_no a cap zs _ (u.lie.below hb (Nat.le_refl _)) u.len h)
  go_enter Tryd.func100, Tryd.ntmps100
  go_wp2_with fail
  refine HM.out.mono ?_
  rintro e w' ⟨rfl, rfl⟩
  go_wp2
  refine bodyPost_ret (results_D2 rfl _ _ w.heap.size _ rfl (dcell_new _ _ _ _)) rfl ?_
  exact ⟨rfl, hb⟩
theorem dmake38 (ng : Bool) (a : Option Addr) (cap : Nat) (zs : List Int) (ex : Int) (w : World) (u : DLie w a zs) (h : mayB zs = true) (hT : Tab w) (hx1 : -9223372036854775808 ≤ ex) (hx2 : ex ≤ 9223372036854775807) :
    Calls Tryd.prog 100 #[.bool ng, .slice a zs.length cap, .int .i64 ex] w fun e w' => DRes w w' (sv ng (Nt.val zs)) ex e := by
  have hb := below_alloc w (.cells #[.bool false, .slice none 0 0, .int .i64 0] 36)
  have hd := dcell_new w (.bool false) (.slice none 0 0) (.int .i64 0)
  have hsz : w.heap.size < (w.alloc (.cells #[.bool false, .slice none 0 0, .int .i64 0] 36)).heap.size := by simp
  have HM := Hide.mk (may_yes a cap zs _ (u.lie.below hb (Nat.le_refl _)) u.len h)
  have g : Good zs (Nt.val zs) := ⟨(may_can u.rng h).1, (may_can u.rng h).2, rfl⟩
  go_enter Tryd.func100, Tryd.ntmps100
  go_wp2_with fail
  refine HM.out.mono ?_
  rintro e w' ⟨rfl, rfl⟩
  go_wp2_with fail
  refine (formedR ng a cap zs ex _ (u.lie.below hb (Nat.le_refl _)) g (hT.below hb (Nat.le_refl _)) hx1 hx2).mono ?_
  rintro e w3 ⟨n9, aa, k, c, xx, code, rfl, hv⟩
  have hd3 := hd.below hv.bel hsz
  have HV := Hide.mk hv
  clear hv hd
  have f0 := hd3.c0
  have f1 := hd3.c1
  have f2 := hd3.c2
  have r0 := hd3.fr 0
  have r1 := hd3.fr 1
  have r2 := hd3.fr 2
  go_wp2
  refine bodyPost_ret (results_D2 rfl _ _ w.heap.size _ rfl (((hd3.set 0 _).set 1 _).set 2 _)) rfl ?_
  exact DRes.back HV.out hb (Nat.le_refl _) hsz _ _ _

theorem dnone_yes (w : World) (code : Int) :
    Calls Tryd.prog 25 #[noD, .bool false, .int .i64 code, .int .i64 code] w fun e w' => e = .returned (.bool true) ∧ Below w.heap.size w w' := by
  have hb := below_alloc w (.cells #[.bool false, .slice none 0 0, .int .i64 0] 36)
  have hcc : (code == code) = true := by simp
  have HS := Hide.mk (dsame40 false false none none 0 0 [] [] 0 0 (w.alloc (.cells #[.bool false, .slice none 0 0, .int .i64 0] 36)) ⟨.inl rfl, by unfold maxLen; simp, Nt.rng_nil⟩ ⟨.inl rfl, by unfold maxLen; simp, Nt.rng_nil⟩ true (by simp))
  go_enter Tryd.func25, Tryd.ntmps25
  go_wp2_with fail
  refine HS.out.mono ?_
  rintro e w2 ⟨rfl, h2⟩
  have hb2 := below_then hb h2
  clear h2 HS
  go_wp2
  go_ret
  exact ⟨rfl, hb2⟩
set_option maxHeartbeats 1000000 in
/-- The reference's form. -/
theorem dform41 (ng : Bool) (a : Option Addr) (ca : Nat) (za : List Int) (ex : Int) (w : World) {x : Int} (ha : Lie w a za) (ga : Good za x) (hz : 0 < za.length) {t : Nat} (ht : LowBit x t) (h0 : -9000000000000000000 ≤ ex) (h1 : ex ≤ 9000000000000000000) :
    Calls Tryd.prog 80 #[.bool ng, .slice a za.length ca, .int .i64 ex] w fun e w' => ∃ zs a' c, e = .returned (dV ng a' zs.length c (ex + t)) ∧ IsNum w w' a' zs (x / 2 ^ t) := by
  have hb := below_alloc w (.cells #[.bool false, .slice none 0 0, .int .i64 0] 36)
  have hd := dcell_new w (.bool false) (.slice none 0 0) (.int .i64 0)
  have hsz : w.heap.size < (w.alloc (.cells #[.bool false, .slice none 0 0, .int .i64 0] 36)).heap.size := by simp
  have htl := low_lt ht (ga.pos hz) ga.lt.2
  have l1 := ha.below hb (Nat.le_refl _)
  have HL := Hide.mk (refLowN a ca za _ l1 ga hz)
  have HD := Hide.mk (refDownN a ca za _ l1 ga (t : Int) t rfl (by omega) _ rfl)
  have Ht := Hide.mk ht
  have hne : ((za.length : Int) == 0) = false := beq_eq_false_iff_ne.2 (by omega)
  clear ha l1 ht
  generalize decide (x % 2 ^ t ≠ 0) = q at *
  go_enter Tryd.func80, Tryd.ntmps80
  go_wp2_with fail
  refine HL.out.mono ?_
  rintro e w' ⟨rfl, t2, rfl, ht2, _⟩
  obtain rfl := ht2.unique Ht.out
  clear ht2 HL
  go_wp2_with fail
  refine HD.out.mono ?_
  rintro e w3 ⟨zs, a', c, rfl, h3, h4⟩
  have hd3 := hd.below h3.bel hsz
  have H := Hide.mk (And.intro h3 h4)
  clear h3 h4 hd HD
  have f0 := hd3.c0
  have f1 := hd3.c1
  have f2 := hd3.c2
  have r0 := hd3.fr 0
  have r1 := hd3.fr 1
  have r2 := hd3.fr 2
  generalize hu : (t2 : Int) = u at *
  have hu0 : 0 ≤ u := by omega
  have hu1 : u < 131072 := by omega
  have HU := Hide.mk hu
  clear hu htl
  go_wp2
  refine bodyPost_ret (results_D1 rfl _ _ w.heap.size _ rfl (((hd3.set 0 _).set 1 _).set 2 _)) rfl ?_
  have hm := made_set H.out.1 H.out.2 (.bool ng) (.slice a' zs.length c) (.int .i64 (ex + u))
  exact ⟨zs, a', c, by rw [HU.out]; rfl, hm.1⟩

theorem own_none (W : World) (g : Nat) (hg : W.heap.size = g) : Own g (W.alloc (.cells #[] 70)) (.slice (some ⟨g, 0, none⟩) 0 0) [] := by
  subst hg
  exact World.ownsRow_made W #[] 0 (Nat.le_refl _) (by unfold maxLen; omega) (by simp)
/-- What is behind the copy: the boxes are written. -/
theorem lent_end {w W w1 : World} {g0 g1 : Nat} {a : Option Addr} {c : Nat} {za : List Int} (hb : Below w.heap.size w w1) (hg0 : w.heap.size ≤ g0) (hg1 : w.heap.size ≤ g1) {B : Nat} (h0 : g0 < B) (h1 : g1 < B) (ho : Own B w1 (.slice a za.length c) za) (hB : w.heap.size ≤ B) (x0 x1 x2 x3 : Value) :
    Lie ((((w1.setCell ⟨g0, 1, none⟩ x0).setCell ⟨g1, 0, none⟩ x1).setCell ⟨g1, 1, none⟩ x2).setCell ⟨g1, 2, none⟩ x3) a za ∧ Below w.heap.size w ((((w1.setCell ⟨g0, 1, none⟩ x0).setCell ⟨g1, 0, none⟩ x1).setCell ⟨g1, 1, none⟩ x2).setCell ⟨g1, 2, none⟩ x3) ∧ Own w.heap.size ((((w1.setCell ⟨g0, 1, none⟩ x0).setCell ⟨g1, 0, none⟩ x1).setCell ⟨g1, 1, none⟩ x2).setCell ⟨g1, 2, none⟩ x3) (.slice a za.length c) za := by
  have o1 := (((ho.setOff (j := 1) h0 x0).setOff (j := 0) h1 x1).setOff (j := 1) h1 x2).setOff (j := 2) h1 x3
  obtain ⟨a2, c2, he, _, _, hl⟩ := o1.lie
  simp only [Value.slice.injEq, true_and] at he
  obtain ⟨rfl, rfl⟩ := he
  exact ⟨hl, (((hb.setCell (p := ⟨g0, 1, none⟩) hg0 x0).setCell (p := ⟨g1, 0, none⟩) hg1 x1).setCell (p := ⟨g1, 1, none⟩) hg1 x2).setCell (p := ⟨g1, 2, none⟩) hg1 x3, o1.mono hB⟩
theorem DCell.off {w : World} {g g' j : Nat} {cs : Array Value} (h : DCell w g cs) (hne : g ≠ g') (x : Value) : DCell (w.setCell ⟨g', j, none⟩ x) g cs := ⟨by rw [heap_setCell_other _ _ _ _ hne]; exact h.1, h.2⟩
set_option maxHeartbeats 2000000 in
theorem dlent35 (ng : Bool) (a : Option Addr) (ca : Nat) (za : List Int) (ex : Int) (w : World) (ha : Lie w a za) (hl : za.length ≤ 1000000) (hnil : a = none → ca = 0) :
    Calls Tryd.prog 21 #[dV ng a za.length ca ex] w fun e w' => ∃ a' c, e = .returned (dV ng a' za.length c ex) ∧ Lie w' a' za ∧ Below w.heap.size w w' ∧ Own w.heap.size w' (.slice a' za.length c) za := by
  obtain ⟨i0, hi, hz0, hz1, hz2⟩ := info_parts Tryd.info49
  obtain ⟨d1, d2, hs2⟩ := dcell2 w #[.bool ng, .slice a za.length ca, .int .i64 ex] #[.bool false, .slice none 0 0, .int .i64 0] rfl rfl
  have hb2 := below2 w (.cells #[.bool ng, .slice a za.length ca, .int .i64 ex] 36) (.cells #[.bool false, .slice none 0 0, .int .i64 0] 36)
  have hown := Hide.mk (own_none ((w.alloc (.cells #[.bool ng, .slice a za.length ca, .int .i64 ex] 36)).alloc (.cells #[.bool false, .slice none 0 0, .int .i64 0] 36)) (w.heap.size + 1 + 1) hs2)
  have hb3 := below_alloc ((w.alloc (.cells #[.bool ng, .slice a za.length ca, .int .i64 ex] 36)).alloc (.cells #[.bool false, .slice none 0 0, .int .i64 0] 36)) (.cells #[] 70)
  have e1 := Hide.mk (d1.below hb3 (by omega))
  have e2 := Hide.mk (d2.below hb3 (by omega))
  have hb4 := Hide.mk (below_then hb2 hb3)
  have hsz : Hide (w.heap.size + 1 + 1 ≤ (((w.alloc (.cells #[.bool ng, .slice a za.length ca, .int .i64 ex] 36)).alloc (.cells #[.bool false, .slice none 0 0, .int .i64 0] 36)).alloc (.cells #[] 70)).heap.size) := ⟨by have := hb3.size; omega⟩
  clear d1 d2 hb2 hb3
  cases a with
  | none =>
    have h0 := hnil rfl
    subst h0
    have hz : za = [] := by
      rcases ha with h | ⟨b, o, h, _⟩
      · exact h
      · cases h
    subst hz
    clear hs2
    go_enter Tryd.func21, Tryd.ntmps21
    go_wp2_with (at_builtin; refine wpList_append_own_none rfl (.tmp 3) (.tmp 5) 22 rfl (w.heap.size + 1 + 1) 70 i0 1 Tryd.underlying22 hi _ 0 [] rfl hown.out rfl ?_)
    obtain ⟨_, dd, hs⟩ := dcell2 w #[.bool ng, .slice (some ⟨w.heap.size + 1 + 1, 0, none⟩) 0 0, .int .i64 ex] #[.bool ng, .slice (some ⟨w.heap.size + 1 + 1, 0, none⟩) 0 0, .int .i64 ex] rfl rfl
    refine bodyPost_ret (results_D1 rfl _ _ (w.heap.size + 1) _ rfl (dd.below (below_alloc _ _) (by omega))) rfl ?_
    exact ⟨some ⟨w.heap.size + 1 + 1, 0, none⟩, 0, rfl, .inl rfl, below3 _ _ _ _, (own_none _ _ hs).mono (by omega)⟩
  | some ad =>
    have hs : Hide (∀ j v, (za.map (Value.int .u32))[j]? = some v → (((w.alloc (.cells #[.bool ng, .slice (some ad) za.length ca, .int .i64 ex] 36)).alloc (.cells #[.bool false, .slice none 0 0, .int .i64 0] 36)).alloc (.cells #[] 70)).cell? (ad.add j) = some v) := ⟨by
      by_cases h0 : 0 < za.length
      · obtain ⟨ad', e, h⟩ := (ha.below hb4.out (Nat.le_refl _)).src h0
        cases e
        exact h
      · have : za = [] := List.length_eq_zero_iff.1 (by omega)
        subst this
        intro j v h
        simp at h⟩
    have h1 := Hide.mk (oneCell_ints za)
    have hmm : Hide (0 + za.length ≤ maxLen) := ⟨by unfold maxLen; omega⟩
    clear ha hnil hs2
    go_enter Tryd.func21, Tryd.ntmps21
    go_wp2_with (at_builtin; refine wpList_append_own _ rfl (.tmp 3) (.tmp 5) 22 rfl (w.heap.size + 1 + 1) 70 i0 (.int .u32 0) 1 4 Tryd.underlying22 hi hz0 hz1 hz2 rfl (by decide) _ 0 [] rfl hown.out ad za.length ca (za.map (Value.int .u32)) rfl (by simp) hs.out h1.out hmm.out (by omega) (by simp) ?_; intro v' w1 hown' hgrow _; have hown2 : Own (w.heap.size + 1 + 1) w1 v' za := (by unfold Own; simpa using hown'); have hbb := own_grown hown.out hgrow (Below.refl (w.heap.size + 1 + 1) _) hsz.out; have HO := Hide.mk hown2; obtain ⟨a', c, rfl, _, _, _⟩ := hown2.lie; clear hown' hgrow; have g1 := e1.out.below hbb (by omega); have g2 := e2.out.below hbb (by omega); have f10 := g1.c0; have f11 := g1.c1; have f12 := g1.c2; have r10 := g1.fr 0; have r11 := g1.fr 1; have r12 := g1.fr 2; have f20 := g2.c0; have f21 := g2.c1; have f22 := g2.c2; have r20 := g2.fr 0; have r21 := g2.fr 1; have r22 := g2.fr 2; have HG := Hide.mk g2; have HBB := Hide.mk (hb4.out.trans (hbb.mono (by omega))); clear g1 g2 hbb hown2)
    refine bodyPost_ret (results_D1 rfl _ _ (w.heap.size + 1) _ rfl ((((HG.out.off (by omega) _).set 0 _).set 1 _).set 2 _)) rfl ?_
    obtain ⟨k1, k2, k3⟩ := lent_end (W := w) (g0 := w.heap.size) (g1 := w.heap.size + 1) HBB.out (Nat.le_refl _) (by omega) (B := w.heap.size + 1 + 1) (by omega) (by omega) HO.out (by omega) (.slice a' za.length c) (.bool ng) (.slice a' za.length c) (.int .i64 ex)
    exact ⟨a', c, rfl, k1, k2, k3⟩

/-- Digits that may be written over: a row of their own, from block B on. -/
def WrA (B : Nat) (w : World) (a : Option Addr) (n : Nat) : Prop := n = 0 ∨ ∃ g cur, a = some ⟨g, 0, none⟩ ∧ B ≤ g ∧ w.heap[g]? = some (.cells cur 70 (0, 0)) ∧ n ≤ cur.size
theorem Own.wrA {B : Nat} {w : World} {a : Option Addr} {c : Nat} {zs : List Int} (h : Own B w (.slice a zs.length c) zs) : WrA B w a zs.length := by
  rcases h.2 with ⟨hv, h0⟩ | ⟨g, cap, cur, hv, hB, hg, hn, hm, hsz, ht⟩
  · exact .inl h0
  · simp only [Value.slice.injEq] at hv
    exact .inr ⟨g, cur, hv.1, hB, hg, by omega⟩
theorem WrA.below {B C : Nat} {w w' : World} {a : Option Addr} {n : Nat} (h : WrA B w a n) (hb : Below w.heap.size w w') : WrA B w' a n := by
  rcases h with h | ⟨g, cur, h1, h2, h3, h4⟩
  · exact .inl h
  · exact .inr ⟨g, cur, h1, h2, (hb.block g (Array.getElem?_eq_some_iff.1 h3).1).trans h3, h4⟩
theorem WrA.set {B g k : Nat} {w : World} {a : Option Addr} {n : Nat} {cur : Array Value} (h : WrA B w a n) (hg : w.heap[g]? = some (.cells cur 70 (0, 0))) (u : Value) : WrA B (w.setCell ⟨g, k, none⟩ u) a n := by
  rcases h with h | ⟨g', cur', h1, h2, h3, h4⟩
  · exact .inl h
  · by_cases e : g' = g
    · subst e
      rw [hg] at h3
      cases h3
      exact .inr ⟨g', _, h1, h2, heap_setCell_same w g' k cur 70 u hg, by simpa using h4⟩
    · exact .inr ⟨g', cur', h1, h2, by rw [heap_setCell_other _ _ _ _ e]; exact h3, h4⟩
/-- What stays while the digits are written over. -/
structure MInv (B : Nat) (w : World) (b : Nat) (rc : Array Value) (l : List Arg) (wr : World) : Prop where
  bel : Below B w wr
  row : wr.heap[b]? = some (.cells rc 36 (0, 0))
  wr : ∀ (i : Nat) (x : Arg), l[i]? = some x → WrA B wr x.a x.zs.length
theorem MInv.set {B b g k : Nat} {w wr : World} {rc cur : Array Value} {l : List Arg} (h : MInv B w b rc l wr) (hB : B ≤ g) (hg : wr.heap[g]? = some (.cells cur 70 (0, 0))) (u : Value) : MInv B w b rc l (wr.setCell ⟨g, k, none⟩ u) := by
  have hne : b ≠ g := by
    intro e
    subst e
    have := h.row
    rw [hg] at this
    cases this
  exact ⟨h.bel.setCell (p := ⟨g, k, none⟩) hB u, by rw [heap_setCell_other _ _ _ _ hne]; exact h.row, fun i x hx => (h.wr i x hx).set hg u⟩
set_option maxHeartbeats 4000000 in
theorem dmark42 (B b : Nat) (rc : Array Value) (l : List Arg) (w : World) (h : MInv B w b rc l w) (hc : ∀ (i : Nat) (x : Arg), l[i]? = some x → rc[i * 3 + 1]? = some (.slice x.a x.zs.length x.c)) (hl : l.length ≤ 1000) (hz : ∀ (i : Nat) (x : Arg), l[i]? = some x → x.zs.length ≤ 1000000) :
    Calls Tryd.prog 33 #[.slice (some ⟨b, 0, none⟩) l.length l.length] w fun e w' => e = .returned (.tuple #[]) ∧ Below B w w' := by
  have HM := Hide.mk h
  have HC := Hide.mk hc
  have HZ := Hide.mk hz
  clear h hc hz
  go_enter Tryd.func33, Tryd.ntmps33
  go_wp2
  go_loopw [2] (fun i wr => ∃ k : Nat, k ≤ l.length ∧ i = .int .i64 k ∧ Hide (MInv B w b rc l wr)) (fun i _ => l.length - (intOf i).toNat)
  case atStart => exact ⟨0, Nat.zero_le _, rfl, HM⟩
  case round =>
    obtain ⟨k, hk, rfl, HI⟩ := hrel
    by_cases hlt : k < l.length
    · obtain ⟨x, hx⟩ : ∃ x, l[k]? = some x := ⟨_, List.getElem?_eq_getElem hlt⟩
      have HX := Hide.mk hx
      have hrc := HC.out k x hx
      have HRC := Hide.mk hrc
      have hzx := HZ.out k x hx
      clear hx hrc
      obtain ⟨ng, a, c, zs, ex⟩ := x
      simp only at hzx
      go_wp2
      go_loopw [3] (fun j wq => ∃ m : Nat, m ≤ zs.length ∧ j = .int .i64 m ∧ Hide (MInv B w b rc l wq)) (fun j _ => zs.length - (intOf j).toNat)
      case atStart => exact ⟨0, Nat.zero_le _, rfl, HI⟩
      case round =>
        obtain ⟨m, hm, rfl, HJ⟩ := hrel
        have c1 : wr.cell? ⟨b, k * 3 + 1, none⟩ = some (.slice a zs.length c) := by rw [cell_of_row _ _ _ _ 36 (0, 0) HJ.out.row]; exact HRC.out
        by_cases hmt : m < zs.length
        · rcases HJ.out.wr k _ HX.out with h0 | ⟨g, cur, h1, h2, h3, h4⟩
          · exact absurd h0 (by simp only; omega)
          · simp only at h1 h4
            subst h1
            obtain ⟨u, hu⟩ : ∃ u, wr.cell? ⟨g, m, none⟩ = some u := ⟨cur[m]'(by omega), by rw [cell_of_row wr g m _ 70 (0, 0) h3]; simp [show m < cur.size by omega]⟩
            have hf := frozen_of_row wr g m _ 70 h3
            have HJ2 := Hide.mk (HJ.out.set (k := m) h2 h3 (.int .u32 77))
            clear h3 h4
            go_wp2
            go_roundw
            case rel => exact ⟨m + 1, hmt, by go_num, HJ2⟩
            case measure => simp [intOf]; omega
        · go_wp2
          go_roundw
          case rel => exact ⟨k + 1, hlt, by go_num, HJ⟩
          case measure => simp [intOf]; omega
    · go_wp2
      go_end0
      exact ⟨rfl, HI.out.bel⟩

theorem dmake_nil (ng : Bool) (a : Option Addr) (cap : Nat) (zs : List Int) (ex : Int) (w : World) (u : DLie w a zs) (h : mayB zs = true) (hT : Tab w) (hx1 : -9223372036854775808 ≤ ex) (hx2 : ex ≤ 9223372036854775807) (hz : zs.length ≤ 0) :
    Calls Tryd.prog 100 #[.bool ng, .slice a zs.length cap, .int .i64 ex] w fun e w' => e = .returned (.tuple #[noD, .int .i64 0]) ∧ Below w.heap.size w w' := by
  refine (dmake38 ng a cap zs ex w u h hT hx1 hx2).mono ?_
  rintro e w' ⟨n9, a9, k9, c9, x9, code, rfl, hv⟩
  have e0 : zs = [] := List.length_eq_zero_iff.1 (by omega)
  rcases hv.all with ⟨_, rfl, rfl, rfl, rfl, rfl, rfl⟩ | ⟨hs, _⟩
  · exact ⟨rfl, hv.bel⟩
  · exact absurd ((sv_zero ng).2 (by rw [e0]; rfl)) hs
theorem dmake_ok (ng : Bool) (a : Option Addr) (cap : Nat) (zs : List Int) (ex : Int) (w : World) (u : DLie w a zs) (h : mayB zs = true) (hT : Tab w) (hx1 : -9223372036854775808 ≤ ex) (hx2 : ex ≤ 9223372036854775807) {t : Nat} (hz : 0 < zs.length) (ht : LowBit (Nt.val zs) t) (h0 : -16777216 ≤ ex + t) (h1 : ex + t ≤ 16777216) :
    Calls Tryd.prog 100 #[.bool ng, .slice a zs.length cap, .int .i64 ex] w fun e w' => ∃ ys a' c, e = .returned (.tuple #[dV ng a' ys.length c (ex + t), .int .i64 0]) ∧ IsNum w w' a' ys (Nt.val zs / 2 ^ t) ∧ Own w.heap.size w' (.slice a' ys.length c) ys := by
  have g : Good zs (Nt.val zs) := ⟨(may_can u.rng h).1, (may_can u.rng h).2, rfl⟩
  have hp := g.pos hz
  have hab := sv_abs ng (Int.le_of_lt hp)
  refine (dmake38 ng a cap zs ex w u h hT hx1 hx2).mono ?_
  rintro e w' ⟨n9, a9, k9, c9, x9, code, rfl, hv⟩
  rcases hv.all with ⟨hs, _⟩ | ⟨hs, t2, ht2, hh⟩
  · have := (sv_zero ng).1 hs; omega
  · rw [hab] at ht2 hh
    obtain rfl := ht2.unique ht
    rcases hh with ⟨j1, j2, rfl, rfl, rfl, ys, rfl, j3, j4⟩ | ⟨j1, _⟩ | ⟨_, j1, _⟩
    · obtain ⟨a2, c2, he, _, _, hl⟩ := j4.lie
      simp only [Value.slice.injEq, true_and] at he
      obtain ⟨rfl, rfl⟩ := he
      exact ⟨ys, a9, c9, by rw [sv_neg ng hp], ⟨j3.can, j3.len, j3.val, hl, hv.bel⟩, j4⟩
    · have := g.lt.2
      have : Nt.val zs / 2 ^ t2 ≤ Nt.val zs := Int.ediv_le_self _ (by omega)
      omega
    · omega
theorem dmake_far (ng : Bool) (a : Option Addr) (cap : Nat) (zs : List Int) (ex : Int) (w : World) (u : DLie w a zs) (h : mayB zs = true) (hT : Tab w) (hx1 : -9223372036854775808 ≤ ex) (hx2 : ex ≤ 9223372036854775807) {t : Nat} (hz : 0 < zs.length) (ht : LowBit (Nt.val zs) t) (h0 : ex + t < -16777216 ∨ 16777216 < ex + t) :
    Calls Tryd.prog 100 #[.bool ng, .slice a zs.length cap, .int .i64 ex] w fun e w' => e = .returned (.tuple #[noD, .int .i64 20]) ∧ Below w.heap.size w w' := by
  have g : Good zs (Nt.val zs) := ⟨(may_can u.rng h).1, (may_can u.rng h).2, rfl⟩
  have hp := g.pos hz
  have hab := sv_abs ng (Int.le_of_lt hp)
  refine (dmake38 ng a cap zs ex w u h hT hx1 hx2).mono ?_
  rintro e w' ⟨n9, a9, k9, c9, x9, code, rfl, hv⟩
  rcases hv.all with ⟨hs, _⟩ | ⟨hs, t2, ht2, hh⟩
  · have := (sv_zero ng).1 hs; omega
  · rw [hab] at ht2 hh
    obtain rfl := ht2.unique ht
    rcases hh with ⟨j1, j2, _⟩ | ⟨j1, _⟩ | ⟨_, _, rfl, rfl, rfl, rfl, rfl, rfl⟩
    · omega
    · have := g.lt.2
      have : Nt.val zs / 2 ^ t2 ≤ Nt.val zs := Int.ediv_le_self _ (by omega)
      omega
    · exact ⟨rfl, hv.bel⟩
theorem dsame_mag (a b : Option Addr) (ca cb : Nat) (za : List Int) (w : World) (ha : Lie w a za) (hb : Lie w b za) (hl : za.length ≤ maxLen) :
    Calls Tryd.prog 18 #[.slice a za.length ca, .slice b za.length cb] w fun e w' => e = .returned (.bool true) ∧ Below w.heap.size w w' := by
  refine (same15 a b ca cb za za w ha hb hl).mono ?_
  rintro e w' ⟨rfl, h⟩
  exact ⟨by simp, h⟩
end Go.Proofs.YteejaghimppcgaaDoor

namespace Go.Proofs.YteejaghimppcgaaDoor
open Go.RowKit
set_option linter.unusedVariables false
set_option maxRecDepth 3000
set_option maxHeartbeats 1000000 in
theorem dreftop54 (ng : Bool) (a : Option Addr) (c : Nat) (zs : List Int) (ex : Int) (w : World) (hl : Lie w a zs) (h : DG ng zs ex) (hz : 0 < zs.length) :
    Calls Tryd.prog 32 #[dV ng a zs.length c ex] w fun e w' => ∃ B : Nat, e = .returned (.int .i64 (ex + B)) ∧ BitLen (Nt.val zs) B ∧ B ≤ 131072 ∧ Below w.heap.size w w' := by
  have hb := below_alloc w (.cells #[.bool ng, .slice a zs.length c, .int .i64 ex] 36)
  have hd := dcell_new w (.bool ng) (.slice a zs.length c) (.int .i64 ex)
  have hx := h.ex_bd
  have g := h.good
  have hne : ((zs.length : Int) == 0) = false := beq_eq_false_iff_ne.2 (by omega)
  go_enter Tryd.func32, Tryd.ntmps32
  go_wp2_with fail
  generalize hw1 : w.alloc (.cells #[.bool ng, .slice a zs.length c, .int .i64 ex] 36) = w1 at *
  have hsz : w.heap.size + 1 = w1.heap.size := by rw [← hw1]; simp
  clear hw1
  have HI : Below (w.heap.size + 1) w1 w1.drew := (Below.refl _ _).drew
  have l1 := hl.below hb.drew (Nat.le_refl _)
  refine Drawn.enter (fun W => Below (w.heap.size + 1) w1 W) (by kernel_rfl) ?_
  refine Drawn.take (i := 0) (v := .pointer (some ⟨w.heap.size, 2, none⟩)) rfl (by kernel_rfl) (by kernel_rfl) (by kernel_rfl) (fun _ _ _ h => h) rfl (fun W hW => ?_) HI ?_
  · go_simp
  refine Drawn.take (i := 1) (v := .int .i64 ex) rfl (by kernel_rfl) (by kernel_rfl) (by kernel_rfl) (fun _ _ _ h => h) rfl (fun W hW => ?_) HI ?_
  · have hc0 := below_cell2 hW (by simp) hd.c2
    go_simp
  refine Drawn.take (i := 2) (v := .pointer (some ⟨w.heap.size, 1, none⟩)) rfl (by kernel_rfl) (by kernel_rfl) (by kernel_rfl) (fun _ _ _ h => h) rfl (fun W hW => ?_) HI ?_
  · go_simp
  refine Drawn.take (i := 3) (v := .slice a zs.length c) rfl (by kernel_rfl) (by kernel_rfl) (by kernel_rfl) (fun _ _ _ h => h) rfl (fun W hW => ?_) HI ?_
  · have hc0 := below_cell2 hW (by simp) hd.c1
    go_simp
  refine Drawn.one (j := 4) (by kernel_rfl) rfl (fun K hK => ?_)
  go_simp
  refine (refLenN a c zs _ l1 g).mono ?_
  rintro e w' ⟨rfl, B, rfl, hB, hB1⟩
  refine hK _ _ HI ?_
  clear hK K
  have HBB := Hide.mk hB
  clear hB
  refine Drawn.take (i := 5) (v := .int .i64 (ex + (B : Int))) rfl (by kernel_rfl) (by kernel_rfl) (by kernel_rfl) (fun _ _ _ h => h) rfl (fun W hW => ?_) HI ?_
  · go_simp
    exact wrap_ok (by omega) (by omega)
  refine Drawn.take (i := 6) (v := .int .i64 (ex + (B : Int))) rfl (by kernel_rfl) (by kernel_rfl) (by kernel_rfl) (fun _ _ _ h => h) rfl (fun W hW => ?_) HI ?_
  · go_simp
  refine Drawn.done (by kernel_rfl) ?_
  go_wp2
  go_ret
  exact ⟨B, rfl, HBB.out, hB1, hb.drew⟩
theorem fit64 {x : Int} {B k : Nat} (hB : BitLen x B) (h : B + k ≤ 64) (hx : 0 ≤ x) : 0 ≤ x * 2 ^ k ∧ x * 2 ^ k < 18446744073709551616 ∧ x * 2 ^ k < 4294967296 ^ 4096 := by
  have hp := p2pos k
  have h0 : 0 ≤ x * 2 ^ k := Int.mul_nonneg hx (by omega)
  have h1 : x * 2 ^ k < 2 ^ 64 := by
    rcases hB with ⟨rfl, _⟩ | ⟨_, c⟩
    · rw [Int.zero_mul]; exact p2pos _
    · have h1 := (c.up k).lt
      have := p2mono h
      omega
  have e : (2 : Int) ^ 64 = 18446744073709551616 := by decide
  have h2 : x * 2 ^ k < 4294967296 ^ 4096 := by
    refine small_pow ?_
    have e2 : (4294967296 : Int) ^ 2 = 18446744073709551616 := by decide
    omega
  exact ⟨h0, by omega, h2⟩
theorem two_digits {zs : List Int} {X : Int} (g : Good zs X) (h : X < 18446744073709551616) : zs.length ≤ 2 := by
  refine (Nt.can_len g.can 2).1 ?_
  rw [g.val, show (4294967296 : Int) ^ 2 = 18446744073709551616 by decide]
  exact h
/-- The value as an int64, where it is one. -/
def i64r (ng : Bool) (x ex : Int) (B : Nat) : Int × Bool :=
  if ex < 0 ∨ 64 < B + ex then (0, false) else if ng then (if x * 2 ^ ex.toNat ≤ 9223372036854775808 then (-(x * 2 ^ ex.toNat), true) else (0, false)) else (if x * 2 ^ ex.toNat < 9223372036854775808 then (x * 2 ^ ex.toNat, true) else (0, false))
end Go.Proofs.YteejaghimppcgaaDoor

/-
  Boxes: blocks of cells that a call has made, which stay as they are while others are called.
-/
set_option linter.unusedVariables false
namespace Go.Box
open Go Go.RowKit
/-- From w to W nothing of w's has turned, and the blocks of L lie there. -/
structure Bx (w : World) (L : List (Nat × Obj)) (W : World) : Prop where
  bel : Below w.heap.size w W
  box : ∀ p ∈ L, W.heap[p.1]? = some p.2
variable {w W W' : World} {L L' : List (Nat × Obj)}
theorem Bx.nil (w : World) : Bx w [] w := ⟨Below.refl _ _, fun _ h => by cases h⟩
theorem Bx.lt (h : Bx w L W) {p : Nat × Obj} (hp : p ∈ L) : p.1 < W.heap.size := (Array.getElem?_eq_some_iff.1 (h.box p hp)).1
theorem Bx.head {g : Nat} {o : Obj} (h : Bx w ((g, o) :: L) W) : W.heap[g]? = some o := h.box _ (.head _)
theorem Bx.tail {q : Nat × Obj} (h : Bx w (q :: L) W) : Bx w L W := ⟨h.bel, fun p hp => h.box p (.tail _ hp)⟩
theorem Bx.sub (h : Bx w L W) (hs : ∀ p ∈ L', p ∈ L) : Bx w L' W := ⟨h.bel, fun p hp => h.box p (hs p hp)⟩
theorem Bx.push (h : Bx w L W) (o : Obj) : Bx w ((W.heap.size, o) :: L) (W.alloc o) := by
  refine ⟨h.bel.alloc h.bel.size o, fun p hp => ?_⟩
  rcases List.mem_cons.1 hp with rfl | hp
  · exact heap_alloc_new W o
  · rw [Below.heap_alloc _ _ _ (h.lt hp)]; exact h.box p hp
theorem Bx.keep (h : Bx w L W) (hb : Below W.heap.size W W') : Bx w L W' :=
  ⟨h.bel.trans (hb.mono h.bel.size), fun p hp => (hb.block _ (h.lt hp)).trans (h.box p hp)⟩
theorem Bx.drew (h : Bx w L W) : Bx w L W.drew := ⟨h.bel.drew, h.box⟩
theorem Bx.cell (h : Bx w L W) (g : Nat) (cs : Array Value) (t : TypeId) (hm : (g, Obj.cells cs t (0, 0)) ∈ L) (j : Nat) : W.cell? ⟨g, j, none⟩ = cs[j]? := cell_of_row W g j cs t (0, 0) (h.box _ hm)
theorem Bx.frozen (h : Bx w L W) (g : Nat) (cs : Array Value) (t : TypeId) (hm : (g, Obj.cells cs t (0, 0)) ∈ L) (j : Nat) : W.frozen? ⟨g, j, none⟩ = false := frozen_of_row W g j cs t (h.box _ hm)
theorem Bx.set {g : Nat} {cs : Array Value} {t : TypeId} (h : Bx w ((g, Obj.cells cs t (0, 0)) :: L) W) (hg : w.heap.size ≤ g) (hne : ∀ p ∈ L, p.1 ≠ g) (j : Nat) (x : Value) :
    Bx w ((g, Obj.cells (cs.setIfInBounds j x) t (0, 0)) :: L) (W.setCell ⟨g, j, none⟩ x) := by
  refine ⟨h.bel.setCell hg x, fun p hp => ?_⟩
  rcases List.mem_cons.1 hp with rfl | hp
  · exact heap_setCell_same W g j cs t x (h.box _ (.head _))
  · rw [Below.heap_setCell _ _ _ _ (hne p hp)]; exact h.box p (.tail _ hp)
theorem Bx.apart (h : Bx w L W) : ∀ p ∈ L, p.1 ≠ W.heap.size := fun p hp e => by have := h.lt hp; omega
/-- A box that was made and then filled. -/
theorem Bx.made2 (h : Bx w L W) (z0 z1 a b : Value) (t : TypeId) :
    Bx w ((W.heap.size, Obj.cells #[a, b] t (0, 0)) :: L) (((W.alloc (.cells #[z0, z1] t)).setCell ⟨W.heap.size, 0, none⟩ a).setCell ⟨W.heap.size, 1, none⟩ b) := by
  have := ((h.push (.cells #[z0, z1] t)).set h.bel.size h.apart 0 a).set h.bel.size h.apart 1 b
  simpa using this
theorem Bx.made3 (h : Bx w L W) (z0 z1 z2 a b c : Value) (t : TypeId) :
    Bx w ((W.heap.size, Obj.cells #[a, b, c] t (0, 0)) :: L) ((((W.alloc (.cells #[z0, z1, z2] t)).setCell ⟨W.heap.size, 0, none⟩ a).setCell ⟨W.heap.size, 1, none⟩ b).setCell ⟨W.heap.size, 2, none⟩ c) := by
  have := (((h.push (.cells #[z0, z1, z2] t)).set h.bel.size h.apart 0 a).set h.bel.size h.apart 1 b).set h.bel.size h.apart 2 c
  simpa using this
theorem Bx.made4 (h : Bx w L W) (z0 z1 z2 z3 a b c d : Value) (t : TypeId) :
    Bx w ((W.heap.size, Obj.cells #[a, b, c, d] t (0, 0)) :: L) (((((W.alloc (.cells #[z0, z1, z2, z3] t)).setCell ⟨W.heap.size, 0, none⟩ a).setCell ⟨W.heap.size, 1, none⟩ b).setCell ⟨W.heap.size, 2, none⟩ c).setCell ⟨W.heap.size, 3, none⟩ d) := by
  have := ((((h.push (.cells #[z0, z1, z2, z3] t)).set h.bel.size h.apart 0 a).set h.bel.size h.apart 1 b).set h.bel.size h.apart 2 c).set h.bel.size h.apart 3 d
  simpa using this
theorem Bx.fill3 {g : Nat} {z0 z1 z2 : Value} {t : TypeId} (h : Bx w ((g, Obj.cells #[z0, z1, z2] t (0, 0)) :: L) W) (hg : w.heap.size ≤ g) (hne : ∀ p ∈ L, p.1 ≠ g) (a b c : Value) :
    Bx w ((g, Obj.cells #[a, b, c] t (0, 0)) :: L) (((W.setCell ⟨g, 0, none⟩ a).setCell ⟨g, 1, none⟩ b).setCell ⟨g, 2, none⟩ c) := by
  have := ((h.set hg hne 0 a).set hg hne 1 b).set hg hne 2 c
  simpa using this
theorem Bx.fill4 {g : Nat} {z0 z1 z2 z3 : Value} {t : TypeId} (h : Bx w ((g, Obj.cells #[z0, z1, z2, z3] t (0, 0)) :: L) W) (hg : w.heap.size ≤ g) (hne : ∀ p ∈ L, p.1 ≠ g) (a b c d : Value) :
    Bx w ((g, Obj.cells #[a, b, c, d] t (0, 0)) :: L) ((((W.setCell ⟨g, 0, none⟩ a).setCell ⟨g, 1, none⟩ b).setCell ⟨g, 2, none⟩ c).setCell ⟨g, 3, none⟩ d) := by
  have := (((h.set hg hne 0 a).set hg hne 1 b).set hg hne 2 c).set hg hne 3 d
  simpa using this
end Go.Box

set_option linter.unusedVariables false
namespace Go.Wd
open Go
/-- The numbers of a format (true: F64): the sign's bit, 2 to the F, F, E, L, the infinite word. -/
def sg (b : Bool) : Int := match b with | true => 9223372036854775808 | false => 2147483648
def fr (b : Bool) : Int := match b with | true => 4503599627370496 | false => 8388608
def fc (b : Bool) : Int := match b with | true => 52 | false => 23
def bt (b : Bool) : Int := match b with | true => 64 | false => 32
def tp (b : Bool) : Int := match b with | true => 2047 | false => 255
def lo (b : Bool) : Int := match b with | true => -1074 | false => -149
def fm (b : Bool) : Int := match b with | true => 2 | false => 1
def inf (b : Bool) : Int := match b with | true => 9218868437227405312 | false => 2139095040
def nan (b : Bool) : Int := match b with | true => 9221120237041090560 | false => 2143289344
/-- A word's sign, field, fraction, class. -/
def ng (b : Bool) (x : Int) : Bool := decide (sg b ≤ x)
def sz (b : Bool) (x : Int) : Int := x % sg b
def fd (b : Bool) (x : Int) : Int := x % sg b / fr b
def fn (b : Bool) (x : Int) : Int := x % fr b
def cl (b : Bool) (x : Int) : Int := if sz b x = 0 then 1 else if sz b x < fr b then 2 else if sz b x < inf b then 3 else if sz b x = inf b then 4 else 5
/-- A size with a sign. -/
def sd (b : Bool) (s : Int) (n : Bool) : Int := if n then s + sg b else s
/-- One step up of what is no NaN and not +infinite. -/
def up (b : Bool) (x : Int) : Int := if sz b x = 0 then 1 else if sg b ≤ x then x - 1 else x + 1
def Ok (b : Bool) (x : Int) : Prop := 0 ≤ x ∧ x < 2 * sg b
/-- The low bits. -/
theorem mask (k : Nat) {x M : Int} (hM : M = 2 ^ k - 1) (hk : k ≤ 63) (h0 : 0 ≤ x) (h1 : x < 18446744073709551616) : bits .and .u64 x M = x % 2 ^ k := by
  have e : (2 : Int) ^ k = ((2 ^ k : Nat) : Int) := by simp
  have hp : 0 < 2 ^ k := Nat.two_pow_pos k
  have hq : 2 ^ k ≤ 2 ^ 63 := Nat.pow_le_pow_right (by decide) hk
  have hr : (2 : Nat) ^ 63 = 9223372036854775808 := by decide
  subst hM
  rw [e]
  obtain ⟨n, rfl⟩ : ∃ n : Nat, x = n := ⟨x.toNat, by omega⟩
  rw [show ((2 ^ k : Nat) : Int) - 1 = ((2 ^ k - 1 : Nat) : Int) by omega, u64_and_nat n _ (by omega) (by omega), Nat.and_two_pow_sub_one_eq_mod]
  omega
/-- The bit at the place k of a number that has none above it. -/
theorem topBit (k : Nat) {x S : Int} (hS : S = 2 ^ k) (hk : k ≤ 63) (h0 : 0 ≤ x) (h1 : x < 2 * S) : bits .and .u64 x S = if S ≤ x then S else 0 := by
  have e : (2 : Int) ^ k = ((2 ^ k : Nat) : Int) := by simp
  have hp : 0 < 2 ^ k := Nat.two_pow_pos k
  have hq : 2 ^ k ≤ 2 ^ 63 := Nat.pow_le_pow_right (by decide) hk
  have hr : (2 : Nat) ^ 63 = 9223372036854775808 := by decide
  subst hS
  rw [e] at *
  obtain ⟨n, rfl⟩ : ∃ n : Nat, x = n := ⟨x.toNat, by omega⟩
  rw [u64_and_nat n _ (by omega) (by omega), nat_bit]
  generalize 2 ^ k = P at *
  by_cases c : P ≤ n
  · rw [if_pos (by omega)]
    have : n / P = 1 := by
      refine Nat.div_eq_of_lt_le (by omega) (by omega)
    rw [this]; simp
  · rw [if_neg (by omega), Nat.div_eq_of_lt (by omega)]; simp
/-- Without that bit. -/
theorem clearBit (k : Nat) {x S : Int} (hS : S = 2 ^ k) (hk : k ≤ 63) (h0 : 0 ≤ x) (h1 : x < 2 * S) : bits .andNot .u64 x S = x % S := by
  have e : (2 : Int) ^ k = ((2 ^ k : Nat) : Int) := by simp
  have hp : 0 < 2 ^ k := Nat.two_pow_pos k
  have hq : 2 ^ k ≤ 2 ^ 63 := Nat.pow_le_pow_right (by decide) hk
  have hr : (2 : Nat) ^ 63 = 9223372036854775808 := by decide
  subst hS
  rw [e] at *
  obtain ⟨n, rfl⟩ : ∃ n : Nat, x = n := ⟨x.toNat, by omega⟩
  rw [u64_andNot_nat n _ (by omega) (by omega)]
  have : n &&& (18446744073709551615 - 2 ^ k) = n % 2 ^ k := by
    have hn : n < 2 ^ (k + 1) := by rw [Nat.pow_succ]; omega
    apply Nat.eq_of_testBit_eq
    intro i
    rw [Nat.testBit_and, Nat.testBit_mod_two_pow]
    have h64 : 18446744073709551615 - 2 ^ k = 2 ^ 64 - (2 ^ k + 1) := by
      rw [show (2 : Nat) ^ 64 = 18446744073709551616 by decide]; omega
    rw [h64, Nat.testBit_two_pow_sub_succ (by rw [show (2 : Nat) ^ 64 = 18446744073709551616 by decide]; omega), Nat.testBit_two_pow]
    by_cases hi : i < k
    · simp [hi, show k ≠ i by omega, show i < 64 by omega]
    · by_cases he : k = i
      · subst he; simp
      · have : n.testBit i = false := Nat.testBit_lt_two_pow (Nat.lt_of_lt_of_le hn (Nat.pow_le_pow_right (by decide) (by omega)))
        simp [this]
  rw [this]
  omega
/-- A number and one below its lowest bit. -/
theorem join (k : Nat) {x y P : Int} (hP : P = 2 ^ k) (h0 : 0 ≤ x) (hx : x % P = 0) (h2 : 0 ≤ y) (h3 : y < P) (h1 : x + y < 18446744073709551616) : bits .or .u64 x y = x + y := by
  have e : (2 : Int) ^ k = ((2 ^ k : Nat) : Int) := by simp
  have hp : 0 < 2 ^ k := Nat.two_pow_pos k
  subst hP
  rw [e] at *
  obtain ⟨n, rfl⟩ : ∃ n : Nat, x = n := ⟨x.toNat, by omega⟩
  obtain ⟨m, rfl⟩ : ∃ m : Nat, y = m := ⟨y.toNat, by omega⟩
  rw [u64_or_nat n m (by omega) (by omega), nat_join k n m (by omega) (by omega)]
  omega
/-- The other way about. -/
theorem join' (k : Nat) {x y P : Int} (hP : P = 2 ^ k) (h0 : 0 ≤ x) (hx : x % P = 0) (h2 : 0 ≤ y) (h3 : y < P) (h1 : x + y < 18446744073709551616) : bits .or .u64 y x = x + y := by
  have e : (2 : Int) ^ k = ((2 ^ k : Nat) : Int) := by simp
  have hp : 0 < 2 ^ k := Nat.two_pow_pos k
  subst hP
  rw [e] at *
  obtain ⟨n, rfl⟩ : ∃ n : Nat, x = n := ⟨x.toNat, by omega⟩
  obtain ⟨m, rfl⟩ : ∃ m : Nat, y = m := ⟨y.toNat, by omega⟩
  rw [u64_or_nat m n (by omega) (by omega), Nat.or_comm, nat_join k n m (by omega) (by omega)]
  omega
/-- The other bit at the place k. -/
theorem flip (k : Nat) {x S : Int} (hS : S = 2 ^ k) (hk : k ≤ 63) (h0 : 0 ≤ x) (h1 : x < 2 * S) : bits .xor .u64 x S = if S ≤ x then x - S else x + S := by
  have e : (2 : Int) ^ k = ((2 ^ k : Nat) : Int) := by simp
  have hp : 0 < 2 ^ k := Nat.two_pow_pos k
  have hq : 2 ^ k ≤ 2 ^ 63 := Nat.pow_le_pow_right (by decide) hk
  have hr : (2 : Nat) ^ 63 = 9223372036854775808 := by decide
  subst hS
  rw [e] at *
  obtain ⟨n, rfl⟩ : ∃ n : Nat, x = n := ⟨x.toNat, by omega⟩
  rw [u64_xor_nat n _ (by omega) (by omega)]
  have key : ∀ m : Nat, m < 2 ^ k → m ^^^ 2 ^ k = m + 2 ^ k := by
    intro m hm
    have h5 : m ||| 2 ^ k = m + 2 ^ k := by rw [Nat.or_comm, nat_join k _ m (by simp) hm]; omega
    rw [← h5]
    apply Nat.eq_of_testBit_eq
    intro i
    rw [Nat.testBit_xor, Nat.testBit_or, Nat.testBit_two_pow]
    by_cases he : k = i
    · subst he
      rw [Nat.testBit_lt_two_pow hm]; simp
    · simp [he]
  by_cases c : 2 ^ k ≤ n
  · rw [if_pos (by omega)]
    have h6 := key (n - 2 ^ k) (by omega)
    rw [show n - 2 ^ k + 2 ^ k = n by omega] at h6
    have : n ^^^ 2 ^ k = n - 2 ^ k := by rw [← h6, Nat.xor_assoc, Nat.xor_self, Nat.xor_zero]
                                         rw [h6]
    omega
  · rw [if_neg (by omega), key n (by omega)]
    omega
end Go.Wd

namespace Go.Proofs.YteejaghimppcgaaDoor
open Go.RowKit Go.Wd Go.Box
set_option linter.unusedVariables false
set_option maxRecDepth 3000
/-- A format's shape. -/
abbrev S (b : Bool) : Value := .agg #[.int .i64 (bt b), .int .i64 (fc b), .int .i64 (tp b), .int .i64 (lo b)]
abbrev SO (b : Bool) : Obj := .cells #[.int .i64 (bt b), .int .i64 (fc b), .int .i64 (tp b), .int .i64 (lo b)] 97 (0, 0)
abbrev noS : Value := .agg #[.int .i64 0, .int .i64 0, .int .i64 0, .int .i64 0]
theorem S32 : S false = .agg #[.int .i64 32, .int .i64 23, .int .i64 255, .int .i64 (-149)] := rfl
theorem S64 : S true = .agg #[.int .i64 64, .int .i64 52, .int .i64 2047, .int .i64 (-1074)] := rfl
theorem pow31 : sg false = 2 ^ 31 := by decide
theorem pow63 : sg true = 2 ^ 63 := by decide
theorem shape_cells {w W : World} {L : List (Nat × Obj)} (h : Bx w L W) (g : Nat) (b : Bool) (hm : (g, SO b) ∈ L) :
    W.cell? ⟨g, 0, none⟩ = some (.int .i64 (bt b)) ∧ W.cell? ⟨g, 1, none⟩ = some (.int .i64 (fc b)) ∧ W.cell? ⟨g, 2, none⟩ = some (.int .i64 (tp b)) ∧ W.cell? ⟨g, 3, none⟩ = some (.int .i64 (lo b)) :=
  ⟨h.cell g _ _ hm 0, h.cell g _ _ hm 1, h.cell g _ _ hm 2, h.cell g _ _ hm 3⟩
theorem wSignBit (b : Bool) (w : World) :
    Calls Tryd.prog 137 #[S b] w fun e w' => e = .returned (.int .u64 (sg b)) ∧ Below w.heap.size w w' := by
  cases b
  · rw [S32]
    go_enter Tryd.func137, Tryd.ntmps137
    go_wp2
    go_ret
    exact ⟨rfl, below_alloc _ _⟩
  · rw [S64]
    go_enter Tryd.func137, Tryd.ntmps137
    go_wp2
    go_ret
    exact ⟨rfl, below_alloc _ _⟩
theorem wFullWord (b : Bool) (w : World) :
    Calls Tryd.prog 156 #[S b] w fun e w' => e = .returned (.int .u64 (2 * sg b - 1)) ∧ Below w.heap.size w w' := by
  cases b
  · rw [S32]
    go_enter Tryd.func156, Tryd.ntmps156
    go_wp2
    go_ret
    exact ⟨rfl, below_alloc _ _⟩
  · rw [S64]
    go_enter Tryd.func156, Tryd.ntmps156
    go_wp2
    go_ret
    exact ⟨rfl, below_alloc _ _⟩
theorem wFracBits (b : Bool) (w : World) :
    Calls Tryd.prog 138 #[S b] w fun e w' => e = .returned (.int .u64 (fr b - 1)) ∧ Below w.heap.size w w' := by
  cases b
  · rw [S32]
    go_enter Tryd.func138, Tryd.ntmps138
    go_wp2
    go_ret
    exact ⟨rfl, below_alloc _ _⟩
  · rw [S64]
    go_enter Tryd.func138, Tryd.ntmps138
    go_wp2
    go_ret
    exact ⟨rfl, below_alloc _ _⟩
theorem wInfinite (b : Bool) (w : World) :
    Calls Tryd.prog 142 #[S b] w fun e w' => e = .returned (.int .u64 (inf b)) ∧ Below w.heap.size w w' := by
  cases b
  · rw [S32]
    go_enter Tryd.func142, Tryd.ntmps142
    go_wp2
    go_ret
    exact ⟨rfl, below_alloc _ _⟩
  · rw [S64]
    go_enter Tryd.func142, Tryd.ntmps142
    go_wp2
    go_ret
    exact ⟨rfl, below_alloc _ _⟩
theorem andNot_sg (b : Bool) {x : Int} (h : Ok b x) : bits .andNot .u64 x (sg b) = sz b x := by
  cases b
  · exact clearBit 31 pow31 (by decide) h.1 h.2
  · exact clearBit 63 pow63 (by decide) h.1 h.2
theorem and_sg (b : Bool) {x : Int} (h : Ok b x) : bits .and .u64 x (sg b) = if sg b ≤ x then sg b else 0 := by
  cases b
  · exact topBit 31 pow31 (by decide) h.1 h.2
  · exact topBit 63 pow63 (by decide) h.1 h.2
theorem xor_sg (b : Bool) {x : Int} (h : Ok b x) : bits .xor .u64 x (sg b) = if sg b ≤ x then x - sg b else x + sg b := by
  cases b
  · exact flip 31 pow31 (by decide) h.1 h.2
  · exact flip 63 pow63 (by decide) h.1 h.2
theorem and_fr (b : Bool) {x : Int} (h0 : 0 ≤ x) (h1 : x < 18446744073709551616) : bits .and .u64 x (fr b - 1) = fn b x := by
  cases b
  · exact mask 23 (by decide) (by decide) h0 h1
  · exact mask 52 (by decide) (by decide) h0 h1
theorem sg_pos (b : Bool) : 0 < sg b := by cases b <;> decide
theorem sg_le (b : Bool) : sg b ≤ 9223372036854775808 := by cases b <;> decide
theorem fr_pos (b : Bool) : 0 < fr b := by cases b <;> decide
theorem inf_lt (b : Bool) : inf b < sg b := by cases b <;> decide
theorem ok_u64 {b : Bool} {x : Int} (h : Ok b x) : x < 18446744073709551616 := by
  have := h.2
  have := sg_le b
  omega
theorem sz_bd (b : Bool) (x : Int) : 0 ≤ sz b x ∧ sz b x < sg b := ⟨Int.emod_nonneg _ (by have := sg_pos b; omega), Int.emod_lt_of_pos _ (sg_pos b)⟩
theorem wSize (b : Bool) (x : Int) (h : Ok b x) (w : World) :
    Calls Tryd.prog 143 #[S b, .int .u64 x] w fun e w' => e = .returned (.int .u64 (sz b x)) ∧ Below w.heap.size w w' := by
  have hb := below_alloc w (SO b)
  have HS := Hide.mk (andNot_sg b h)
  go_enter Tryd.func143, Tryd.ntmps143
  go_wp2_with fail
  refine (wSignBit b _).mono ?_
  rintro e w' ⟨rfl, h2⟩
  have h3 := below_then hb h2
  clear h2 hb
  go_wp2
  go_ret
  exact ⟨by rw [← HS.out]; rfl, h3⟩
theorem wIsNeg (b : Bool) (x : Int) (h : Ok b x) (w : World) :
    Calls Tryd.prog 101 #[S b, .int .u64 x] w fun e w' => e = .returned (.bool (ng b x)) ∧ Below w.heap.size w w' := by
  have hb := below_alloc w (SO b)
  have hs : (bits .and .u64 x (sg b) != 0) = ng b x := by
    rw [and_sg b h]
    have := sg_pos b
    unfold ng
    by_cases c : sg b ≤ x
    · simp [c]; omega
    · simp [c]
  have HS := Hide.mk hs
  clear hs
  go_enter Tryd.func101, Tryd.ntmps101
  go_wp2_with fail
  refine (wSignBit b _).mono ?_
  rintro e w' ⟨rfl, h2⟩
  have h3 := below_then hb h2
  clear h2 hb
  go_wp2
  go_ret
  exact ⟨by rw [← HS.out]; rfl, h3⟩
theorem wIsNaN (b : Bool) (x : Int) (h : Ok b x) (w : World) :
    Calls Tryd.prog 140 #[S b, .int .u64 x] w fun e w' => e = .returned (.bool (decide (inf b < sz b x))) ∧ Below w.heap.size w w' := by
  have B1 := (Bx.nil w).push (SO b)
  go_enter Tryd.func140, Tryd.ntmps140
  go_wp2_with fail
  generalize hw1 : w.alloc (SO b) = w1 at *
  clear hw1
  have HI := B1.drew
  have sh := fun W (hW : Bx w [(w.heap.size, SO b)] W) => shape_cells hW w.heap.size b (.head _)
  refine Drawn.enter (Bx w [(w.heap.size, SO b)]) (by kernel_rfl) ?_
  refine Drawn.take (i := 0) (v := ?v0) rfl (by kernel_rfl) (by kernel_rfl) (by kernel_rfl) (fun _ _ _ h => h) (by kernel_rfl) (fun W hW => ?_) HI ?_
  rotate_left
  · have ⟨e0, e1, e2, e3⟩ := sh W hW
    go_simp <;> exact rfl
  refine Drawn.take (i := 1) (v := ?v1) rfl (by kernel_rfl) (by kernel_rfl) (by kernel_rfl) (fun _ _ _ h => h) (by kernel_rfl) (fun W hW => ?_) HI ?_
  rotate_left
  · have ⟨e0, e1, e2, e3⟩ := sh W hW
    go_simp <;> exact rfl
  refine Drawn.take (i := 3) (v := ?v2) rfl (by kernel_rfl) (by kernel_rfl) (by kernel_rfl) (fun _ _ _ h => h) (by kernel_rfl) (fun W hW => ?_) HI ?_
  rotate_left
  · have ⟨e0, e1, e2, e3⟩ := sh W hW
    go_simp <;> exact rfl
  refine Drawn.one (j := 2) (by kernel_rfl) rfl (fun K hK => ?_)
  go_simp
  refine (wSize b x h _).mono ?_
  rintro e wn ⟨rfl, hn⟩
  refine hK _ _ (HI.keep hn) ?_
  clear hK K
  replace HI := HI.keep hn
  clear hn
  refine Drawn.one (j := 4) (by kernel_rfl) rfl (fun K hK => ?_)
  go_simp
  refine (wInfinite b _).mono ?_
  rintro e wn ⟨rfl, hn⟩
  refine hK _ _ (HI.keep hn) ?_
  clear hK K
  replace HI := HI.keep hn
  clear hn
  refine Drawn.take (i := 5) (v := ?v3) rfl (by kernel_rfl) (by kernel_rfl) (by kernel_rfl) (fun _ _ _ h => h) (by kernel_rfl) (fun W hW => ?_) HI ?_
  rotate_left
  · have ⟨e0, e1, e2, e3⟩ := sh W hW
    go_simp <;> exact rfl
  refine Drawn.take (i := 6) (v := ?v4) rfl (by kernel_rfl) (by kernel_rfl) (by kernel_rfl) (fun _ _ _ h => h) (by kernel_rfl) (fun W hW => ?_) HI ?_
  rotate_left
  · have ⟨e0, e1, e2, e3⟩ := sh W hW
    go_simp <;> exact rfl
  refine Drawn.done (by kernel_rfl) ?_
  try go_simp
  go_wp2
  go_ret
  exact ⟨rfl, HI.bel⟩
theorem shr_fc (b : Bool) (y : Int) (W : World) : Sem.run Tryd.prog (Op.shift .shr .u64 y .i64 (fc b)) W = .ok (.int .u64 (y / fr b)) W := by
  cases b
  · rw [show fc false = 23 from rfl]
    go_simp
    rfl
  · rw [show fc true = 52 from rfl]
    go_simp
    rfl
theorem shl_fc (b : Bool) (y : Int) (W : World) : Sem.run Tryd.prog (Op.shift .shl .u64 y .i64 (fc b)) W = .ok (.int .u64 (y * fr b % 18446744073709551616)) W := by
  cases b
  · rw [show fc false = 23 from rfl]
    go_simp
    rw [IntKind.wrap_u64]
    rfl
  · rw [show fc true = 52 from rfl]
    go_simp
    rw [IntKind.wrap_u64]
    rfl
theorem shl_half (b : Bool) (W : World) : Sem.run Tryd.prog (Op.shift .shl .u64 1 .i64 (fc b - 1)) W = .ok (.int .u64 (fr b / 2)) W := by
  cases b
  · rw [show fc false - 1 = 22 from rfl]
    go_simp
    rfl
  · rw [show fc true - 1 = 51 from rfl]
    go_simp
    rfl
theorem or_nan (b : Bool) : bits .or .u64 (inf b) (fr b / 2) = nan b := by cases b <;> rfl
theorem fd_bd (b : Bool) (x : Int) : 0 ≤ fd b x ∧ fd b x ≤ 2047 := by
  have h := sz_bd b x
  unfold sz at h
  cases b <;> simp only [fd, sg, fr] at * <;> omega
theorem wField (b : Bool) (x : Int) (h : Ok b x) (w : World) :
    Calls Tryd.prog 139 #[S b, .int .u64 x] w fun e w' => e = .returned (.int .i64 (fd b x)) ∧ Below w.heap.size w w' := by
  have B1 := (Bx.nil w).push (SO b)
  go_enter Tryd.func139, Tryd.ntmps139
  go_wp2_with fail
  generalize hw1 : w.alloc (SO b) = w1 at *
  clear hw1
  have HI := B1.drew
  have sh := fun W (hW : Bx w [(w.heap.size, SO b)] W) => shape_cells hW w.heap.size b (.head _)
  refine Drawn.enter (Bx w [(w.heap.size, SO b)]) (by kernel_rfl) ?_
  refine Drawn.take (i := 0) (v := ?v5) rfl (by kernel_rfl) (by kernel_rfl) (by kernel_rfl) (fun _ _ _ h => h) (by kernel_rfl) (fun W hW => ?_) HI ?_
  rotate_left
  · have ⟨e0, e1, e2, e3⟩ := sh W hW
    go_simp <;> exact rfl
  refine Drawn.take (i := 1) (v := ?v6) rfl (by kernel_rfl) (by kernel_rfl) (by kernel_rfl) (fun _ _ _ h => h) (by kernel_rfl) (fun W hW => ?_) HI ?_
  rotate_left
  · have ⟨e0, e1, e2, e3⟩ := sh W hW
    go_simp <;> exact rfl
  refine Drawn.take (i := 3) (v := ?v7) rfl (by kernel_rfl) (by kernel_rfl) (by kernel_rfl) (fun _ _ _ h => h) (by kernel_rfl) (fun W hW => ?_) HI ?_
  rotate_left
  · have ⟨e0, e1, e2, e3⟩ := sh W hW
    go_simp <;> exact rfl
  refine Drawn.take (i := 4) (v := ?v8) rfl (by kernel_rfl) (by kernel_rfl) (by kernel_rfl) (fun _ _ _ h => h) (by kernel_rfl) (fun W hW => ?_) HI ?_
  rotate_left
  · have ⟨e0, e1, e2, e3⟩ := sh W hW
    go_simp <;> exact rfl
  refine Drawn.one (j := 2) (by kernel_rfl) rfl (fun K hK => ?_)
  go_simp
  refine (wSize b x h _).mono ?_
  rintro e wn ⟨rfl, hn⟩
  refine hK _ _ (HI.keep hn) ?_
  clear hK K
  replace HI := HI.keep hn
  clear hn
  refine Drawn.take (i := 5) (v := .int .u64 (fd b x)) rfl (by kernel_rfl) (by kernel_rfl) (by kernel_rfl) (fun _ _ _ h => h) (by kernel_rfl) (fun W hW => ?_) HI ?_
  · have ⟨e0, e1, e2, e3⟩ := sh W hW
    go_simp <;> (rw [shr_fc]; rfl)
  refine Drawn.take (i := 6) (v := .int .i64 (fd b x)) rfl (by kernel_rfl) (by kernel_rfl) (by kernel_rfl) (fun _ _ _ h => h) (by kernel_rfl) (fun W hW => ?_) HI ?_
  · have ⟨e0, e1, e2, e3⟩ := sh W hW
    go_simp <;> (have := fd_bd b x; exact wrap_ok (by omega) (by omega))
  refine Drawn.take (i := 7) (v := ?v9) rfl (by kernel_rfl) (by kernel_rfl) (by kernel_rfl) (fun _ _ _ h => h) (by kernel_rfl) (fun W hW => ?_) HI ?_
  rotate_left
  · have ⟨e0, e1, e2, e3⟩ := sh W hW
    go_simp <;> exact rfl
  refine Drawn.done (by kernel_rfl) ?_
  try go_simp
  go_wp2
  go_ret
  exact ⟨rfl, HI.bel⟩
theorem wNone (b : Bool) (w : World) :
    Calls Tryd.prog 141 #[S b] w fun e w' => e = .returned (.int .u64 (nan b)) ∧ Below w.heap.size w w' := by
  have B1 := (Bx.nil w).push (SO b)
  go_enter Tryd.func141, Tryd.ntmps141
  go_wp2_with fail
  generalize hw1 : w.alloc (SO b) = w1 at *
  clear hw1
  have HI := B1.drew
  have sh := fun W (hW : Bx w [(w.heap.size, SO b)] W) => shape_cells hW w.heap.size b (.head _)
  refine Drawn.enter (Bx w [(w.heap.size, SO b)]) (by kernel_rfl) ?_
  refine Drawn.take (i := 0) (v := ?v10) rfl (by kernel_rfl) (by kernel_rfl) (by kernel_rfl) (fun _ _ _ h => h) (by kernel_rfl) (fun W hW => ?_) HI ?_
  rotate_left
  · have ⟨e0, e1, e2, e3⟩ := sh W hW
    go_simp <;> exact rfl
  refine Drawn.take (i := 2) (v := ?v11) rfl (by kernel_rfl) (by kernel_rfl) (by kernel_rfl) (fun _ _ _ h => h) (by kernel_rfl) (fun W hW => ?_) HI ?_
  rotate_left
  · have ⟨e0, e1, e2, e3⟩ := sh W hW
    go_simp <;> exact rfl
  refine Drawn.take (i := 3) (v := ?v12) rfl (by kernel_rfl) (by kernel_rfl) (by kernel_rfl) (fun _ _ _ h => h) (by kernel_rfl) (fun W hW => ?_) HI ?_
  rotate_left
  · have ⟨e0, e1, e2, e3⟩ := sh W hW
    go_simp <;> exact rfl
  refine Drawn.take (i := 4) (v := .int .i64 (fc b - 1)) rfl (by kernel_rfl) (by kernel_rfl) (by kernel_rfl) (fun _ _ _ h => h) (by kernel_rfl) (fun W hW => ?_) HI ?_
  · have ⟨e0, e1, e2, e3⟩ := sh W hW
    go_simp <;> (cases b <;> rfl)
  refine Drawn.take (i := 5) (v := .int .u64 (fr b / 2)) rfl (by kernel_rfl) (by kernel_rfl) (by kernel_rfl) (fun _ _ _ h => h) (by kernel_rfl) (fun W hW => ?_) HI ?_
  · have ⟨e0, e1, e2, e3⟩ := sh W hW
    go_simp <;> (rw [shl_half]; rfl)
  refine Drawn.one (j := 1) (by kernel_rfl) rfl (fun K hK => ?_)
  go_simp
  refine (wInfinite b _).mono ?_
  rintro e wn ⟨rfl, hn⟩
  refine hK _ _ (HI.keep hn) ?_
  clear hK K
  replace HI := HI.keep hn
  clear hn
  refine Drawn.take (i := 6) (v := .int .u64 (nan b)) rfl (by kernel_rfl) (by kernel_rfl) (by kernel_rfl) (fun _ _ _ h => h) (by kernel_rfl) (fun W hW => ?_) HI ?_
  · have ⟨e0, e1, e2, e3⟩ := sh W hW
    go_simp <;> (exact or_nan b)
  refine Drawn.take (i := 7) (v := ?v13) rfl (by kernel_rfl) (by kernel_rfl) (by kernel_rfl) (fun _ _ _ h => h) (by kernel_rfl) (fun W hW => ?_) HI ?_
  rotate_left
  · have ⟨e0, e1, e2, e3⟩ := sh W hW
    go_simp <;> exact rfl
  refine Drawn.done (by kernel_rfl) ?_
  try go_simp
  go_wp2
  go_ret
  exact ⟨rfl, HI.bel⟩
theorem or_sg (b : Bool) {s : Int} (h0 : 0 ≤ s) (h1 : s < sg b) : bits .or .u64 s (sg b) = s + sg b := by
  have e : sg b + s < 18446744073709551616 := by have := sg_le b; omega
  rw [Int.add_comm]
  cases b
  · exact join' 31 pow31 (by decide) (by decide) h0 h1 e
  · exact join' 63 pow63 (by decide) (by decide) h0 h1 e
theorem wSigned (b : Bool) (s : Int) (n : Bool) (h0 : 0 ≤ s) (h1 : s < sg b) (w : World) :
    Calls Tryd.prog 145 #[S b, .int .u64 s, .bool n] w fun e w' => e = .returned (.int .u64 (sd b s n)) ∧ Below w.heap.size w w' := by
  have hb := below_alloc w (SO b)
  have HS := Hide.mk (or_sg b h0 h1)
  cases n
  · go_enter Tryd.func145, Tryd.ntmps145
    go_wp2
    go_ret
    exact ⟨rfl, hb⟩
  · go_enter Tryd.func145, Tryd.ntmps145
    go_wp2_with fail
    refine (wSignBit b _).mono ?_
    rintro e w' ⟨rfl, h2⟩
    have h3 := below_then hb h2
    clear h2 hb
    go_wp2
    go_ret
    exact ⟨by unfold sd; rw [if_pos rfl, ← HS.out]; rfl, h3⟩
theorem Tryd.sizeShape : (Tryd.prog.info? 97).map (·.size) = some 4 := by kernel_rfl
theorem results_S2 {fn : Func} {p u : Tmp} (h : fn.results = #[.cell p 97, .tmp u]) (tmps : Array Value) (w : World) (g : Nat) (cs : Array Value) (hp : tmps.getD p undef = .pointer (some ⟨g, 0, none⟩)) (hg : w.heap[g]? = some (.cells cs 97 (0, 0))) (hs : cs.size = 4) :
    (results fn tmps).run Tryd.prog w = .ok (.tuple #[.agg cs, tmps.getD u undef]) w := by
  rw [results_cell_tmp h, hp]
  simp [asAddr, run_loadVar_row w g 97 97 cs (0, 0) _ hg Tryd.underlying97 rfl (by rw [Tryd.sizeShape, hs])]
theorem wShapeOf (b : Bool) (w : World) :
    Calls Tryd.prog 144 #[.int .u8 (fm b)] w fun e w' => e = .returned (.tuple #[S b, .int .i64 0]) ∧ Below w.heap.size w w' := by
  cases b
  · rw [show fm false = 1 from rfl, S32]
    go_enter Tryd.func144, Tryd.ntmps144
    go_wp2
    have B1 := (Bx.nil w).push (.cells #[.int .i64 32, .int .i64 23, .int .i64 255, .int .i64 (-149)] 97 (0, 0))
    refine bodyPost_ret (results_S2 rfl _ _ w.heap.size _ rfl B1.head rfl) rfl ?_
    exact ⟨rfl, B1.bel⟩
  · rw [show fm true = 2 from rfl, S64]
    go_enter Tryd.func144, Tryd.ntmps144
    go_wp2
    have B1 := (Bx.nil w).push (.cells #[.int .i64 64, .int .i64 52, .int .i64 2047, .int .i64 (-1074)] 97 (0, 0))
    refine bodyPost_ret (results_S2 rfl _ _ w.heap.size _ rfl B1.head rfl) rfl ?_
    exact ⟨rfl, B1.bel⟩
/-- No format. -/
def Bad (f : Int) : Prop := f ≠ 1 ∧ f ≠ 2
theorem wShapeOf_bad (f : Int) (h : Bad f) (w : World) :
    Calls Tryd.prog 144 #[.int .u8 f] w fun e w' => e = .returned (.tuple #[noS, .int .i64 4]) ∧ Below w.heap.size w w' := by
  have h1 : (f == 1) = false := beq_eq_false_iff_ne.2 h.1
  have h2 : (f == 2) = false := beq_eq_false_iff_ne.2 h.2
  go_enter Tryd.func144, Tryd.ntmps144
  go_wp2
  have B1 := (Bx.nil w).push (.cells #[.int .i64 0, .int .i64 0, .int .i64 0, .int .i64 0] 97 (0, 0))
  refine bodyPost_ret (results_S2 rfl _ _ w.heap.size _ rfl B1.head rfl) rfl ?_
  exact ⟨rfl, B1.bel⟩
end Go.Proofs.YteejaghimppcgaaDoor

namespace Go.Proofs.YteejaghimppcgaaDoor
open Go.RowKit Go.Wd Go.Box
set_option linter.unusedVariables false
set_option maxRecDepth 3000
abbrev ZO : Obj := .cells #[.int .i64 0, .int .i64 0, .int .i64 0, .int .i64 0] 97 (0, 0)
/-- The cells of a block of cells4, and that they may be written. -/
theorem cells4 {w W : World} {L : List (Nat × Obj)} (h : Bx w L W) (g : Nat) (a b c d : Value) (t : TypeId) (hm : (g, Obj.cells #[a, b, c, d] t (0, 0)) ∈ L) :
    (W.cell? ⟨g, 0, none⟩ = some a ∧ W.cell? ⟨g, 1, none⟩ = some b ∧ W.cell? ⟨g, 2, none⟩ = some c ∧ W.cell? ⟨g, 3, none⟩ = some d) ∧ W.frozen? ⟨g, 0, none⟩ = false ∧ W.frozen? ⟨g, 1, none⟩ = false ∧ W.frozen? ⟨g, 2, none⟩ = false ∧ W.frozen? ⟨g, 3, none⟩ = false :=
  ⟨⟨h.cell g _ _ hm 0, h.cell g _ _ hm 1, h.cell g _ _ hm 2, h.cell g _ _ hm 3⟩, h.frozen g _ _ hm 0, h.frozen g _ _ hm 1, h.frozen g _ _ hm 2, h.frozen g _ _ hm 3⟩
theorem cells3 {w W : World} {L : List (Nat × Obj)} (h : Bx w L W) (g : Nat) (a b c : Value) (t : TypeId) (hm : (g, Obj.cells #[a, b, c] t (0, 0)) ∈ L) :
    (W.cell? ⟨g, 0, none⟩ = some a ∧ W.cell? ⟨g, 1, none⟩ = some b ∧ W.cell? ⟨g, 2, none⟩ = some c) ∧ W.frozen? ⟨g, 0, none⟩ = false ∧ W.frozen? ⟨g, 1, none⟩ = false ∧ W.frozen? ⟨g, 2, none⟩ = false :=
  ⟨⟨h.cell g _ _ hm 0, h.cell g _ _ hm 1, h.cell g _ _ hm 2⟩, h.frozen g _ _ hm 0, h.frozen g _ _ hm 1, h.frozen g _ _ hm 2⟩
theorem wGoodShape (b : Bool) (x : Int) (h : Ok b x) (w : World) :
    Calls Tryd.prog 135 #[.int .u8 (fm b), .int .u64 x] w fun e w' => e = .returned (.tuple #[S b, .int .i64 0]) ∧ Below w.heap.size w w' := by
  have B1 := (Bx.nil w).push ZO
  have hx : x ≤ 2 * sg b - 1 := by have := h.2; omega
  go_enter Tryd.func135, Tryd.ntmps135
  go_wp2_with fail
  refine (wShapeOf b _).mono ?_
  rintro e w2 ⟨rfl, h2⟩
  have B2 := (B1.keep h2).push (SO b)
  have hlt : w.heap.size < w2.heap.size := (B1.keep h2).lt (.head _)
  go_wp2_with fail
  refine (wFullWord b _).mono ?_
  rintro e w3 ⟨rfl, h3⟩
  have B3 := B2.keep h3
  obtain ⟨⟨e0, e1, e2, e3⟩, _⟩ := cells4 B3 w2.heap.size _ _ _ _ _ (.head _)
  obtain ⟨⟨f0, f1, f2, f3⟩, r0, r1, r2, r3⟩ := cells4 B3 w.heap.size _ _ _ _ _ (.tail _ (.head _))
  clear h2 h3 B1 B2
  go_wp2
  have B4 := (B3.sub (L' := [(w.heap.size, ZO), (w2.heap.size, SO b)]) (by simp)).fill4 (Nat.le_refl _) (by simp; omega) (.int .i64 (bt b)) (.int .i64 (fc b)) (.int .i64 (tp b)) (.int .i64 (lo b))
  refine bodyPost_ret (results_S2 rfl _ _ w.heap.size _ rfl B4.head rfl) rfl ?_
  exact ⟨rfl, B4.bel⟩
theorem wGoodShape_long (b : Bool) (x : Int) (h : 2 * sg b ≤ x) (w : World) :
    Calls Tryd.prog 135 #[.int .u8 (fm b), .int .u64 x] w fun e w' => e = .returned (.tuple #[noS, .int .i64 6]) ∧ Below w.heap.size w w' := by
  have B1 := (Bx.nil w).push ZO
  have hx : 2 * sg b - 1 < x := by omega
  go_enter Tryd.func135, Tryd.ntmps135
  go_wp2_with fail
  refine (wShapeOf b _).mono ?_
  rintro e w2 ⟨rfl, h2⟩
  have B2 := (B1.keep h2).push (SO b)
  have hlt : w.heap.size < w2.heap.size := (B1.keep h2).lt (.head _)
  go_wp2_with fail
  refine (wFullWord b _).mono ?_
  rintro e w3 ⟨rfl, h3⟩
  have B3 := B2.keep h3
  obtain ⟨⟨f0, f1, f2, f3⟩, r0, r1, r2, r3⟩ := cells4 B3 w.heap.size _ _ _ _ _ (.tail _ (.head _))
  clear h2 h3 B1 B2
  go_wp2
  have B4 := (B3.sub (L' := [(w.heap.size, ZO), (w2.heap.size, SO b)]) (by simp)).fill4 (Nat.le_refl _) (by simp; omega) (.int .i64 0) (.int .i64 0) (.int .i64 0) (.int .i64 0)
  refine bodyPost_ret (results_S2 rfl _ _ w.heap.size _ rfl B4.head rfl) rfl ?_
  exact ⟨rfl, B4.bel⟩
theorem wGoodShape_bad (f x : Int) (h : Bad f) (w : World) :
    Calls Tryd.prog 135 #[.int .u8 f, .int .u64 x] w fun e w' => e = .returned (.tuple #[noS, .int .i64 4]) ∧ Below w.heap.size w w' := by
  have B1 := (Bx.nil w).push ZO
  go_enter Tryd.func135, Tryd.ntmps135
  go_wp2_with fail
  refine (wShapeOf_bad f h _).mono ?_
  rintro e w2 ⟨rfl, h2⟩
  have B2 := B1.keep h2
  have hlt : w.heap.size < w2.heap.size := B2.lt (.head _)
  have B4 := (B2.fill4 (Nat.le_refl _) (by simp) (.int .i64 0) (.int .i64 0) (.int .i64 0) (.int .i64 0)).push ZO
  obtain ⟨⟨f0, f1, f2, f3⟩, r0, r1, r2, r3⟩ := cells4 B2 w.heap.size _ _ _ _ _ (.head _)
  clear h2 B1
  go_wp2
  refine bodyPost_ret (results_S2 rfl _ _ w.heap.size _ rfl B4.tail.head rfl) rfl ?_
  exact ⟨rfl, B4.bel⟩
/-- The word is not good, for the error c. -/
def GE (f x c : Int) : Prop := (Bad f ∧ c = 4) ∨ (∃ b, f = fm b ∧ 2 * sg b ≤ x ∧ c = 6)
theorem GE.ne {f x c : Int} (h : GE f x c) : (c == 0) = false := by
  rcases h with ⟨_, rfl⟩ | ⟨_, _, _, rfl⟩ <;> rfl
theorem GE.call {f x c : Int} (h : GE f x c) (w : World) :
    Calls Tryd.prog 135 #[.int .u8 f, .int .u64 x] w fun e w' => e = .returned (.tuple #[noS, .int .i64 c]) ∧ Below w.heap.size w w' := by
  rcases h with ⟨h, rfl⟩ | ⟨b, rfl, h, rfl⟩
  · exact wGoodShape_bad f x h w
  · exact wGoodShape_long b x h w
abbrev FV (n : Bool) (e f : Int) : Value := .agg #[.bool n, .int .i64 e, .int .u64 f]
abbrev FO (n : Bool) (e f : Int) : Obj := .cells #[.bool n, .int .i64 e, .int .u64 f] 107 (0, 0)
theorem Tryd.sizeFields : (Tryd.prog.info? 107).map (·.size) = some 3 := by kernel_rfl
theorem results_F2 {fn : Func} {p u : Tmp} (h : fn.results = #[.cell p 107, .tmp u]) (tmps : Array Value) (w : World) (g : Nat) (cs : Array Value) (hp : tmps.getD p undef = .pointer (some ⟨g, 0, none⟩)) (hg : w.heap[g]? = some (.cells cs 107 (0, 0))) (hs : cs.size = 3) :
    (results fn tmps).run Tryd.prog w = .ok (.tuple #[.agg cs, tmps.getD u undef]) w := by
  rw [results_cell_tmp h, hp]
  simp [asAddr, run_loadVar_row w g 107 107 cs (0, 0) _ hg Tryd.underlying107 rfl (by rw [Tryd.sizeFields, hs])]
theorem results_F1 {fn : Func} {p : Tmp} (h : fn.results = #[.cell p 107]) (tmps : Array Value) (w : World) (g : Nat) (cs : Array Value) (hp : tmps.getD p undef = .pointer (some ⟨g, 0, none⟩)) (hg : w.heap[g]? = some (.cells cs 107 (0, 0))) (hs : cs.size = 3) :
    (results fn tmps).run Tryd.prog w = .ok (.agg cs) w := by
  exact results_cell_row h tmps w g 107 cs (0, 0) _ hp hg Tryd.underlying107 rfl (by rw [Tryd.sizeFields, hs])
set_option maxHeartbeats 1000000 in
theorem wSplit (b : Bool) (x : Int) (h : Ok b x) (w : World) :
    Calls Tryd.prog 107 #[.int .u8 (fm b), .int .u64 x] w fun e w' => e = .returned (.tuple #[FV (ng b x) (fd b x) (fn b x), .int .i64 0]) ∧ Below w.heap.size w w' := by
  have B1 := (Bx.nil w).push (FO false 0 0)
  go_enter Tryd.func107, Tryd.ntmps107
  go_wp2_with fail
  refine (wGoodShape b x h _).mono ?_
  rintro e w2 ⟨rfl, h2⟩
  have HF := (B1.keep h2).push (SO b)
  have hlt : w.heap.size < w2.heap.size := (B1.keep h2).lt (.head _)
  clear h2 B1
  go_wp2_with fail
  generalize hw3 : w2.alloc (SO b) = w3 at *
  clear hw3
  replace HF := HF.drew
  have HI := HF.sub (L' := [(w2.heap.size, SO b)]) (by simp)
  have sh := fun W (hW : Bx w [(w2.heap.size, SO b)] W) => shape_cells hW w2.heap.size b (.head _)
  refine Drawn.enter (Bx w [(w2.heap.size, SO b)]) (by kernel_rfl) ?_
  refine Drawn.take (i := 0) (v := ?v14) rfl (by kernel_rfl) (by kernel_rfl) (by kernel_rfl) (fun _ _ _ h => h) (by kernel_rfl) (fun W hW => ?_) HI ?_
  rotate_left
  · have ⟨e0, e1, e2, e3⟩ := sh W hW
    go_simp <;> exact rfl
  refine Drawn.take (i := 1) (v := ?v15) rfl (by kernel_rfl) (by kernel_rfl) (by kernel_rfl) (fun _ _ _ h => h) (by kernel_rfl) (fun W hW => ?_) HI ?_
  rotate_left
  · have ⟨e0, e1, e2, e3⟩ := sh W hW
    go_simp <;> exact rfl
  refine Drawn.take (i := 3) (v := ?v16) rfl (by kernel_rfl) (by kernel_rfl) (by kernel_rfl) (fun _ _ _ h => h) (by kernel_rfl) (fun W hW => ?_) HI ?_
  rotate_left
  · have ⟨e0, e1, e2, e3⟩ := sh W hW
    go_simp <;> exact rfl
  refine Drawn.take (i := 4) (v := ?v17) rfl (by kernel_rfl) (by kernel_rfl) (by kernel_rfl) (fun _ _ _ h => h) (by kernel_rfl) (fun W hW => ?_) HI ?_
  rotate_left
  · have ⟨e0, e1, e2, e3⟩ := sh W hW
    go_simp <;> exact rfl
  refine Drawn.take (i := 6) (v := ?v18) rfl (by kernel_rfl) (by kernel_rfl) (by kernel_rfl) (fun _ _ _ h => h) (by kernel_rfl) (fun W hW => ?_) HI ?_
  rotate_left
  · have ⟨e0, e1, e2, e3⟩ := sh W hW
    go_simp <;> exact rfl
  refine Drawn.take (i := 7) (v := ?v19) rfl (by kernel_rfl) (by kernel_rfl) (by kernel_rfl) (fun _ _ _ h => h) (by kernel_rfl) (fun W hW => ?_) HI ?_
  rotate_left
  · have ⟨e0, e1, e2, e3⟩ := sh W hW
    go_simp <;> exact rfl
  refine Drawn.one (j := 2) (by kernel_rfl) rfl (fun K hK => ?_)
  go_simp
  refine (wIsNeg b x h _).mono ?_
  rintro e wn ⟨rfl, hn⟩
  refine hK _ _ (HI.keep hn) ?_
  clear hK K
  replace HI := HI.keep hn
  replace HF := HF.keep hn
  clear hn
  refine Drawn.one (j := 5) (by kernel_rfl) rfl (fun K hK => ?_)
  go_simp
  refine (wField b x h _).mono ?_
  rintro e wn ⟨rfl, hn⟩
  refine hK _ _ (HI.keep hn) ?_
  clear hK K
  replace HI := HI.keep hn
  replace HF := HF.keep hn
  clear hn
  refine Drawn.one (j := 8) (by kernel_rfl) rfl (fun K hK => ?_)
  go_simp
  refine (wFracBits b _).mono ?_
  rintro e wn ⟨rfl, hn⟩
  refine hK _ _ (HI.keep hn) ?_
  clear hK K
  replace HI := HI.keep hn
  replace HF := HF.keep hn
  clear hn
  refine Drawn.take (i := 9) (v := .int .u64 (fn b x)) rfl (by kernel_rfl) (by kernel_rfl) (by kernel_rfl) (fun _ _ _ h => h) (by kernel_rfl) (fun W hW => ?_) HI ?_
  · have ⟨e0, e1, e2, e3⟩ := sh W hW
    go_simp <;> (exact and_fr b h.1 (ok_u64 h))
  refine Drawn.take (i := 10) (v := ?v20) rfl (by kernel_rfl) (by kernel_rfl) (by kernel_rfl) (fun _ _ _ h => h) (by kernel_rfl) (fun W hW => ?_) HI ?_
  rotate_left
  · have ⟨e0, e1, e2, e3⟩ := sh W hW
    go_simp <;> exact rfl
  obtain ⟨⟨f0, f1, f2⟩, r0, r1, r2⟩ := cells3 HF w.heap.size _ _ _ _ (.tail _ (.head _))
  have HF2 := (HF.sub (L' := [(w.heap.size, FO false 0 0), (w2.heap.size, SO b)]) (by simp)).fill3 (Nat.le_refl _) (by simp; omega) (.bool (ng b x)) (.int .i64 (fd b x)) (.int .u64 (fn b x))
  refine Drawn.one (j := 11) (by kernel_rfl) rfl (fun K hK => ?_)
  go_simp
  replace HI := HF2.sub (L' := [(w2.heap.size, SO b)]) (by simp)
  refine hK _ _ HI ?_
  clear hK K f0 f1 f2 r0 r1 r2
  refine Drawn.take (i := 12) (v := ?v21) rfl (by kernel_rfl) (by kernel_rfl) (by kernel_rfl) (fun _ _ _ h => h) (by kernel_rfl) (fun W hW => ?_) HI ?_
  rotate_left
  · have ⟨e0, e1, e2, e3⟩ := sh W hW
    go_simp <;> exact rfl
  refine Drawn.done (by kernel_rfl) ?_
  try go_simp
  go_wp2
  refine bodyPost_ret (results_F2 rfl _ _ w.heap.size _ rfl HF2.head rfl) rfl ?_
  exact ⟨rfl, HF2.bel⟩
theorem wSplit_err (f x c : Int) (h : GE f x c) (w : World) :
    Calls Tryd.prog 107 #[.int .u8 f, .int .u64 x] w fun e w' => e = .returned (.tuple #[FV false 0 0, .int .i64 c]) ∧ Below w.heap.size w w' := by
  have B1 := (Bx.nil w).push (FO false 0 0)
  have hc := h.ne
  go_enter Tryd.func107, Tryd.ntmps107
  go_wp2_with fail
  refine (h.call _).mono ?_
  rintro e w2 ⟨rfl, h2⟩
  have B2 := B1.keep h2
  have hlt : w.heap.size < w2.heap.size := B2.lt (.head _)
  have B4 := (B2.fill3 (Nat.le_refl _) (by simp) (.bool false) (.int .i64 0) (.int .u64 0)).push ZO
  obtain ⟨⟨f0, f1, f2⟩, r0, r1, r2⟩ := cells3 B2 w.heap.size _ _ _ _ (.head _)
  clear h2 B1 h
  go_wp2
  refine bodyPost_ret (results_F2 rfl _ _ w.heap.size _ rfl B4.tail.head rfl) rfl ?_
  exact ⟨rfl, B4.bel⟩
end Go.Proofs.YteejaghimppcgaaDoor

namespace Go.Proofs.YteejaghimppcgaaDoor
open Go.RowKit Go.Wd Go.Box
set_option linter.unusedVariables false
set_option maxRecDepth 3000
theorem sg_one (b : Bool) : 1 < sg b := by cases b <;> decide
theorem inf_bd (b : Bool) : 0 < inf b := by cases b <;> decide
end Go.Proofs.YteejaghimppcgaaDoor
