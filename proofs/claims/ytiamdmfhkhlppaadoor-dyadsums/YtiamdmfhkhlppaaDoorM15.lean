import Derived.Test.YtiamdmfhkhlppaaDoorM14
namespace Go.Proofs.YtiamdmfhkhlppaaDoor
open Go.RowKit
set_option linter.unusedVariables false
set_option maxRecDepth 3000
theorem drefmay_nil37 (ng : Bool) (a : Option Addr) (cap : Nat) (ex : Int) (w : World) (q : Bool) (hq : (!ng && ex == 0) = q) :
    Calls Tryd.prog 24 #[dV ng a 0 cap ex] w fun e w' => e = .returned (.bool q) ∧ Below w.heap.size w w' := by
  have HM := Hide.mk (refMay_yes a cap [] (w.alloc (.cells #[.bool ng, .slice a 0 cap, .int .i64 ex] 36)) (.inl rfl) (by unfold maxLen; simp) rfl)
  cases ng
  · by_cases h0 : ex = 0
    · subst h0
      have : q = true := by rw [← hq]; rfl
      subst this
      go_enter Tryd.func24, Tryd.ntmps24
      go_wp2_with fail
      refine HM.out.mono ?_
      rintro e w' ⟨rfl, rfl⟩
      go_wp2
      go_ret
      exact ⟨rfl, below_alloc _ _⟩
    · have hb : (ex == 0) = false := by simp [h0]
      have : q = false := by rw [← hq, hb]; rfl
      subst this
      go_enter Tryd.func24, Tryd.ntmps24
      go_wp2_with fail
      refine HM.out.mono ?_
      rintro e w' ⟨rfl, rfl⟩
      go_wp2
      go_ret
      exact ⟨rfl, below_alloc _ _⟩
  · have : q = false := by rw [← hq]; rfl
    subst this
    go_enter Tryd.func24, Tryd.ntmps24
    go_wp2_with fail
    refine HM.out.mono ?_
    rintro e w' ⟨rfl, rfl⟩
    go_wp2
    go_ret
    exact ⟨rfl, below_alloc _ _⟩
set_option maxHeartbeats 1000000 in
theorem drefmay_num37 (ng : Bool) (a : Option Addr) (cap : Nat) (zs : List Int) (ex : Int) (w : World) (ha : Lie w a zs) (hl : zs.length ≤ maxLen) (hr : Nt.Rng zs) (hz : 0 < zs.length) :
    Calls Tryd.prog 24 #[dV ng a zs.length cap ex] w fun e w' => e = .returned (.bool (mayB zs && zs.getD 0 0 % 2 == 1 && decide (-16777216 ≤ ex) && decide (ex ≤ 16777216))) ∧ Below w.heap.size w w' := by
  have hb := below_alloc w (.cells #[.bool ng, .slice a zs.length cap, .int .i64 ex] 36)
  have HM := fun q (h : mayB zs = q) => Hide.mk (show Calls Tryd.prog 14 #[.slice a zs.length cap] (w.alloc (.cells #[.bool ng, .slice a zs.length cap, .int .i64 ex] 36)) fun e w' => e = .returned (.bool q) ∧ (w.alloc (.cells #[.bool ng, .slice a zs.length cap, .int .i64 ex] 36)) = w' by rw [← h]; exact refMay14 a cap zs _ (ha.below hb (Nat.le_refl _)) hl)
  obtain ⟨b, o, rfl⟩ := lie_some ha hz
  have hc : (w.alloc (.cells #[.bool ng, .slice (some ⟨b, o, none⟩) zs.length cap, .int .i64 ex] 36)).cell? ⟨b, o, none⟩ = some (.int .u32 (zs.getD 0 0)) := lie_cell (ha.below hb (Nat.le_refl _)) rfl hz
  have h01 := hr 0
  have HB := Hide.mk hb
  have hne : ((zs.length : Int) == 0) = false := beq_eq_false_iff_ne.2 (by omega)
  clear ha hb hr
  generalize zs.getD 0 0 = x at *
  cases hp : mayB zs
  · have HM2 := HM false hp
    clear HM hp hc
    go_enter Tryd.func24, Tryd.ntmps24
    go_wp2_with fail
    refine HM2.out.mono ?_
    rintro e w' ⟨rfl, rfl⟩
    go_wp2
    go_ret
    exact ⟨rfl, HB.out⟩
  · have HM2 := HM true hp
    clear HM hp
    rw [Bool.true_and]
    by_cases hodd : x % 2 = 1
    · have ho : (x % 2 == 1) = true := by simp [hodd]
      rw [ho, Bool.true_and]
      clear hodd
      by_cases h1 : -16777216 ≤ ex
      · by_cases h2 : ex ≤ 16777216
        · rw [decide_eq_true h1, decide_eq_true h2]
          go_enter Tryd.func24, Tryd.ntmps24
          go_wp2_with fail
          refine HM2.out.mono ?_
          rintro e w' ⟨rfl, rfl⟩
          go_wp2
          go_ret
          exact ⟨by simp, HB.out⟩
        · rw [decide_eq_true h1, decide_eq_false h2]
          go_enter Tryd.func24, Tryd.ntmps24
          go_wp2_with fail
          refine HM2.out.mono ?_
          rintro e w' ⟨rfl, rfl⟩
          go_wp2
          go_ret
          exact ⟨by simp [h2], HB.out⟩
      · rw [decide_eq_false h1, Bool.false_and]
        go_enter Tryd.func24, Tryd.ntmps24
        go_wp2_with fail
        refine HM2.out.mono ?_
        rintro e w' ⟨rfl, rfl⟩
        go_wp2
        go_ret
        exact ⟨rfl, HB.out⟩
    · have ho : (x % 2 == 1) = false := by simp [hodd]
      rw [ho, Bool.false_and]
      clear hodd
      go_enter Tryd.func24, Tryd.ntmps24
      go_wp2_with fail
      refine HM2.out.mono ?_
      rintro e w' ⟨rfl, rfl⟩
      go_wp2
      go_ret
      exact ⟨rfl, HB.out⟩
theorem drefmay37 (ng : Bool) (a : Option Addr) (cap : Nat) (zs : List Int) (ex : Int) (w : World) (u : DLie w a zs) (q : Bool) (hq : dmayB ng zs ex = q) :
    Calls Tryd.prog 24 #[dV ng a zs.length cap ex] w fun e w' => e = .returned (.bool q) ∧ Below w.heap.size w w' := by
  by_cases hz : 0 < zs.length
  · have e : dmayB ng zs ex = (mayB zs && zs.getD 0 0 % 2 == 1 && decide (-16777216 ≤ ex) && decide (ex ≤ 16777216)) := by
      unfold dmayB; rw [if_neg (by omega)]
    rw [← hq, e]
    exact drefmay_num37 ng a cap zs ex w u.lie u.len u.rng hz
  · have e0 : zs = [] := List.length_eq_zero_iff.1 (by omega)
    subst e0
    exact drefmay_nil37 ng a cap ex w q hq
/-- Make: what may not be a number is refused; else the one form. -/
theorem dmake_bad (ng : Bool) (a : Option Addr) (cap : Nat) (zs : List Int) (ex : Int) (w : World) (u : DLie w a zs) (h : mayB zs = false) :
    Calls Tryd.prog 100 #[.bool ng, .slice a zs.length cap, .int .i64 ex] w fun e w' => e = .returned (.tuple #[noD, .int .i64 2]) ∧ Below w.heap.size w w' := by
  have hb := below_alloc w (.cells #[.bool false, .slice none 0 0, .int .i64 0] 36)
  have HM := Hide.mk (may_no a cap zs _ (u.lie.below hb (Nat.le_refl _)) u.len h)
  go_enter Tryd.func100, Tryd.ntmps100
  go_wp2_with fail
  refine HM.out.mono ?_
  rintro e w' ⟨rfl, rfl⟩
  go_wp2
  refine bodyPost_ret (results_D2 rfl _ _ w.heap.size _ rfl (dcell_new _ _ _ _)) rfl ?_
  exact ⟨rfl, hb⟩
theorem dmake38 (ng : Bool) (a : Option Addr) (cap : Nat) (zs : List Int) (ex : Int) (w : World) (u : DLie w a zs) (h : mayB zs = true) (hT : Tab w) (hx1 : -9223372036854775808 ≤ ex) (hx2 : ex ≤ 9223372036854775807) :
    Calls Tryd.prog 100 #[.bool ng, .slice a zs.length cap, .int .i64 ex] w fun e w' => DRes w w' (sv ng (Nt.val zs)) ex e := by
  have hb := below_alloc w (.cells #[.bool false, .slice none 0 0, .int .i64 0] 36)
  have hd := dcell_new w (.bool false) (.slice none 0 0) (.int .i64 0)
  have hsz : w.heap.size < (w.alloc (.cells #[.bool false, .slice none 0 0, .int .i64 0] 36)).heap.size := by simp
  have HM := Hide.mk (may_yes a cap zs _ (u.lie.below hb (Nat.le_refl _)) u.len h)
  have g : Good zs (Nt.val zs) := ⟨(may_can u.rng h).1, (may_can u.rng h).2, rfl⟩
  go_enter Tryd.func100, Tryd.ntmps100
  go_wp2_with fail
  refine HM.out.mono ?_
  rintro e w' ⟨rfl, rfl⟩
  go_wp2_with fail
  refine (formedR ng a cap zs ex _ (u.lie.below hb (Nat.le_refl _)) g (hT.below hb (Nat.le_refl _)) hx1 hx2).mono ?_
  rintro e w3 ⟨n9, aa, k, c, xx, code, rfl, hv⟩
  have hd3 := hd.below hv.bel hsz
  have HV := Hide.mk hv
  clear hv hd
  have f0 := hd3.c0
  have f1 := hd3.c1
  have f2 := hd3.c2
  have r0 := hd3.fr 0
  have r1 := hd3.fr 1
  have r2 := hd3.fr 2
  go_wp2
  refine bodyPost_ret (results_D2 rfl _ _ w.heap.size _ rfl (((hd3.set 0 _).set 1 _).set 2 _)) rfl ?_
  exact DRes.back HV.out hb (Nat.le_refl _) hsz _ _ _

theorem dnone_yes (w : World) (code : Int) :
    Calls Tryd.prog 25 #[noD, .bool false, .int .i64 code, .int .i64 code] w fun e w' => e = .returned (.bool true) ∧ Below w.heap.size w w' := by
  have hb := below_alloc w (.cells #[.bool false, .slice none 0 0, .int .i64 0] 36)
  have hcc : (code == code) = true := by simp
  have HS := Hide.mk (dsame40 false false none none 0 0 [] [] 0 0 (w.alloc (.cells #[.bool false, .slice none 0 0, .int .i64 0] 36)) ⟨.inl rfl, by unfold maxLen; simp, Nt.rng_nil⟩ ⟨.inl rfl, by unfold maxLen; simp, Nt.rng_nil⟩ true (by simp))
  go_enter Tryd.func25, Tryd.ntmps25
  go_wp2_with fail
  refine HS.out.mono ?_
  rintro e w2 ⟨rfl, h2⟩
  have hb2 := below_then hb h2
  clear h2 HS
  go_wp2
  go_ret
  exact ⟨rfl, hb2⟩
set_option maxHeartbeats 1000000 in
/-- The reference's form. -/
theorem dform41 (ng : Bool) (a : Option Addr) (ca : Nat) (za : List Int) (ex : Int) (w : World) {x : Int} (ha : Lie w a za) (ga : Good za x) (hz : 0 < za.length) {t : Nat} (ht : LowBit x t) (h0 : -9000000000000000000 ≤ ex) (h1 : ex ≤ 9000000000000000000) :
    Calls Tryd.prog 80 #[.bool ng, .slice a za.length ca, .int .i64 ex] w fun e w' => ∃ zs a' c, e = .returned (dV ng a' zs.length c (ex + t)) ∧ IsNum w w' a' zs (x / 2 ^ t) := by
  have hb := below_alloc w (.cells #[.bool false, .slice none 0 0, .int .i64 0] 36)
  have hd := dcell_new w (.bool false) (.slice none 0 0) (.int .i64 0)
  have hsz : w.heap.size < (w.alloc (.cells #[.bool false, .slice none 0 0, .int .i64 0] 36)).heap.size := by simp
  have htl := low_lt ht (ga.pos hz) ga.lt.2
  have l1 := ha.below hb (Nat.le_refl _)
  have HL := Hide.mk (refLowN a ca za _ l1 ga hz)
  have HD := Hide.mk (refDownN a ca za _ l1 ga (t : Int) t rfl (by omega) _ rfl)
  have Ht := Hide.mk ht
  have hne : ((za.length : Int) == 0) = false := beq_eq_false_iff_ne.2 (by omega)
  clear ha l1 ht
  generalize decide (x % 2 ^ t ≠ 0) = q at *
  go_enter Tryd.func80, Tryd.ntmps80
  go_wp2_with fail
  refine HL.out.mono ?_
  rintro e w' ⟨rfl, t2, rfl, ht2, _⟩
  obtain rfl := ht2.unique Ht.out
  clear ht2 HL
  go_wp2_with fail
  refine HD.out.mono ?_
  rintro e w3 ⟨zs, a', c, rfl, h3, h4⟩
  have hd3 := hd.below h3.bel hsz
  have H := Hide.mk (And.intro h3 h4)
  clear h3 h4 hd HD
  have f0 := hd3.c0
  have f1 := hd3.c1
  have f2 := hd3.c2
  have r0 := hd3.fr 0
  have r1 := hd3.fr 1
  have r2 := hd3.fr 2
  generalize hu : (t2 : Int) = u at *
  have hu0 : 0 ≤ u := by omega
  have hu1 : u < 131072 := by omega
  have HU := Hide.mk hu
  clear hu htl
  go_wp2
  refine bodyPost_ret (results_D1 rfl _ _ w.heap.size _ rfl (((hd3.set 0 _).set 1 _).set 2 _)) rfl ?_
  have hm := made_set H.out.1 H.out.2 (.bool ng) (.slice a' zs.length c) (.int .i64 (ex + u))
  exact ⟨zs, a', c, by rw [HU.out]; rfl, hm.1⟩

theorem own_none (W : World) (g : Nat) (hg : W.heap.size = g) : Own g (W.alloc (.cells #[] 70)) (.slice (some ⟨g, 0, none⟩) 0 0) [] := by
  subst hg
  exact World.ownsRow_made W #[] 0 (Nat.le_refl _) (by unfold maxLen; omega) (by simp)
/-- What is behind the copy: the boxes are written. -/
theorem lent_end {w W w1 : World} {g0 g1 : Nat} {a : Option Addr} {c : Nat} {za : List Int} (hb : Below w.heap.size w w1) (hg0 : w.heap.size ≤ g0) (hg1 : w.heap.size ≤ g1) {B : Nat} (h0 : g0 < B) (h1 : g1 < B) (ho : Own B w1 (.slice a za.length c) za) (hB : w.heap.size ≤ B) (x0 x1 x2 x3 : Value) :
    Lie ((((w1.setCell ⟨g0, 1, none⟩ x0).setCell ⟨g1, 0, none⟩ x1).setCell ⟨g1, 1, none⟩ x2).setCell ⟨g1, 2, none⟩ x3) a za ∧ Below w.heap.size w ((((w1.setCell ⟨g0, 1, none⟩ x0).setCell ⟨g1, 0, none⟩ x1).setCell ⟨g1, 1, none⟩ x2).setCell ⟨g1, 2, none⟩ x3) ∧ Own w.heap.size ((((w1.setCell ⟨g0, 1, none⟩ x0).setCell ⟨g1, 0, none⟩ x1).setCell ⟨g1, 1, none⟩ x2).setCell ⟨g1, 2, none⟩ x3) (.slice a za.length c) za := by
  have o1 := (((ho.setOff (j := 1) h0 x0).setOff (j := 0) h1 x1).setOff (j := 1) h1 x2).setOff (j := 2) h1 x3
  obtain ⟨a2, c2, he, _, _, hl⟩ := o1.lie
  simp only [Value.slice.injEq, true_and] at he
  obtain ⟨rfl, rfl⟩ := he
  exact ⟨hl, (((hb.setCell (p := ⟨g0, 1, none⟩) hg0 x0).setCell (p := ⟨g1, 0, none⟩) hg1 x1).setCell (p := ⟨g1, 1, none⟩) hg1 x2).setCell (p := ⟨g1, 2, none⟩) hg1 x3, o1.mono hB⟩
theorem DCell.off {w : World} {g g' j : Nat} {cs : Array Value} (h : DCell w g cs) (hne : g ≠ g') (x : Value) : DCell (w.setCell ⟨g', j, none⟩ x) g cs := ⟨by rw [heap_setCell_other _ _ _ _ hne]; exact h.1, h.2⟩
set_option maxHeartbeats 2000000 in
theorem dlent35 (ng : Bool) (a : Option Addr) (ca : Nat) (za : List Int) (ex : Int) (w : World) (ha : Lie w a za) (hl : za.length ≤ 1000000) (hnil : a = none → ca = 0) :
    Calls Tryd.prog 21 #[dV ng a za.length ca ex] w fun e w' => ∃ a' c, e = .returned (dV ng a' za.length c ex) ∧ Lie w' a' za ∧ Below w.heap.size w w' ∧ Own w.heap.size w' (.slice a' za.length c) za := by
  obtain ⟨i0, hi, hz0, hz1, hz2⟩ := info_parts Tryd.info49
  obtain ⟨d1, d2, hs2⟩ := dcell2 w #[.bool ng, .slice a za.length ca, .int .i64 ex] #[.bool false, .slice none 0 0, .int .i64 0] rfl rfl
  have hb2 := below2 w (.cells #[.bool ng, .slice a za.length ca, .int .i64 ex] 36) (.cells #[.bool false, .slice none 0 0, .int .i64 0] 36)
  have hown := Hide.mk (own_none ((w.alloc (.cells #[.bool ng, .slice a za.length ca, .int .i64 ex] 36)).alloc (.cells #[.bool false, .slice none 0 0, .int .i64 0] 36)) (w.heap.size + 1 + 1) hs2)
  have hb3 := below_alloc ((w.alloc (.cells #[.bool ng, .slice a za.length ca, .int .i64 ex] 36)).alloc (.cells #[.bool false, .slice none 0 0, .int .i64 0] 36)) (.cells #[] 70)
  have e1 := Hide.mk (d1.below hb3 (by omega))
  have e2 := Hide.mk (d2.below hb3 (by omega))
  have hb4 := Hide.mk (below_then hb2 hb3)
  have hsz : Hide (w.heap.size + 1 + 1 ≤ (((w.alloc (.cells #[.bool ng, .slice a za.length ca, .int .i64 ex] 36)).alloc (.cells #[.bool false, .slice none 0 0, .int .i64 0] 36)).alloc (.cells #[] 70)).heap.size) := ⟨by have := hb3.size; omega⟩
  clear d1 d2 hb2 hb3
  cases a with
  | none =>
    have h0 := hnil rfl
    subst h0
    have hz : za = [] := by
      rcases ha with h | ⟨b, o, h, _⟩
      · exact h
      · cases h
    subst hz
    clear hs2
    go_enter Tryd.func21, Tryd.ntmps21
    go_wp2_with (at_builtin; refine wpList_append_own_none rfl (.tmp 3) (.tmp 5) 22 rfl (w.heap.size + 1 + 1) 70 i0 1 Tryd.underlying22 hi _ 0 [] rfl hown.out rfl ?_)
    obtain ⟨_, dd, hs⟩ := dcell2 w #[.bool ng, .slice (some ⟨w.heap.size + 1 + 1, 0, none⟩) 0 0, .int .i64 ex] #[.bool ng, .slice (some ⟨w.heap.size + 1 + 1, 0, none⟩) 0 0, .int .i64 ex] rfl rfl
    refine bodyPost_ret (results_D1 rfl _ _ (w.heap.size + 1) _ rfl (dd.below (below_alloc _ _) (by omega))) rfl ?_
    exact ⟨some ⟨w.heap.size + 1 + 1, 0, none⟩, 0, rfl, .inl rfl, below3 _ _ _ _, (own_none _ _ hs).mono (by omega)⟩
  | some ad =>
    have hs : Hide (∀ j v, (za.map (Value.int .u32))[j]? = some v → (((w.alloc (.cells #[.bool ng, .slice (some ad) za.length ca, .int .i64 ex] 36)).alloc (.cells #[.bool false, .slice none 0 0, .int .i64 0] 36)).alloc (.cells #[] 70)).cell? (ad.add j) = some v) := ⟨by
      by_cases h0 : 0 < za.length
      · obtain ⟨ad', e, h⟩ := (ha.below hb4.out (Nat.le_refl _)).src h0
        cases e
        exact h
      · have : za = [] := List.length_eq_zero_iff.1 (by omega)
        subst this
        intro j v h
        simp at h⟩
    have h1 := Hide.mk (oneCell_ints za)
    have hmm : Hide (0 + za.length ≤ maxLen) := ⟨by unfold maxLen; omega⟩
    clear ha hnil hs2
    go_enter Tryd.func21, Tryd.ntmps21
    go_wp2_with (at_builtin; refine wpList_append_own _ rfl (.tmp 3) (.tmp 5) 22 rfl (w.heap.size + 1 + 1) 70 i0 (.int .u32 0) 1 4 Tryd.underlying22 hi hz0 hz1 hz2 rfl (by decide) _ 0 [] rfl hown.out ad za.length ca (za.map (Value.int .u32)) rfl (by simp) hs.out h1.out hmm.out (by omega) (by simp) ?_; intro v' w1 hown' hgrow _; have hown2 : Own (w.heap.size + 1 + 1) w1 v' za := (by unfold Own; simpa using hown'); have hbb := own_grown hown.out hgrow (Below.refl (w.heap.size + 1 + 1) _) hsz.out; have HO := Hide.mk hown2; obtain ⟨a', c, rfl, _, _, _⟩ := hown2.lie; clear hown' hgrow; have g1 := e1.out.below hbb (by omega); have g2 := e2.out.below hbb (by omega); have f10 := g1.c0; have f11 := g1.c1; have f12 := g1.c2; have r10 := g1.fr 0; have r11 := g1.fr 1; have r12 := g1.fr 2; have f20 := g2.c0; have f21 := g2.c1; have f22 := g2.c2; have r20 := g2.fr 0; have r21 := g2.fr 1; have r22 := g2.fr 2; have HG := Hide.mk g2; have HBB := Hide.mk (hb4.out.trans (hbb.mono (by omega))); clear g1 g2 hbb hown2)
    refine bodyPost_ret (results_D1 rfl _ _ (w.heap.size + 1) _ rfl ((((HG.out.off (by omega) _).set 0 _).set 1 _).set 2 _)) rfl ?_
    obtain ⟨k1, k2, k3⟩ := lent_end (W := w) (g0 := w.heap.size) (g1 := w.heap.size + 1) HBB.out (Nat.le_refl _) (by omega) (B := w.heap.size + 1 + 1) (by omega) (by omega) HO.out (by omega) (.slice a' za.length c) (.bool ng) (.slice a' za.length c) (.int .i64 ex)
    exact ⟨a', c, rfl, k1, k2, k3⟩

/-- Digits that may be written over: a row of their own, from block B on. -/
def WrA (B : Nat) (w : World) (a : Option Addr) (n : Nat) : Prop := n = 0 ∨ ∃ g cur, a = some ⟨g, 0, none⟩ ∧ B ≤ g ∧ w.heap[g]? = some (.cells cur 70 (0, 0)) ∧ n ≤ cur.size
theorem Own.wrA {B : Nat} {w : World} {a : Option Addr} {c : Nat} {zs : List Int} (h : Own B w (.slice a zs.length c) zs) : WrA B w a zs.length := by
  rcases h.2 with ⟨hv, h0⟩ | ⟨g, cap, cur, hv, hB, hg, hn, hm, hsz, ht⟩
  · exact .inl h0
  · simp only [Value.slice.injEq] at hv
    exact .inr ⟨g, cur, hv.1, hB, hg, by omega⟩
theorem WrA.below {B C : Nat} {w w' : World} {a : Option Addr} {n : Nat} (h : WrA B w a n) (hb : Below w.heap.size w w') : WrA B w' a n := by
  rcases h with h | ⟨g, cur, h1, h2, h3, h4⟩
  · exact .inl h
  · exact .inr ⟨g, cur, h1, h2, (hb.block g (Array.getElem?_eq_some_iff.1 h3).1).trans h3, h4⟩
theorem WrA.set {B g k : Nat} {w : World} {a : Option Addr} {n : Nat} {cur : Array Value} (h : WrA B w a n) (hg : w.heap[g]? = some (.cells cur 70 (0, 0))) (u : Value) : WrA B (w.setCell ⟨g, k, none⟩ u) a n := by
  rcases h with h | ⟨g', cur', h1, h2, h3, h4⟩
  · exact .inl h
  · by_cases e : g' = g
    · subst e
      rw [hg] at h3
      cases h3
      exact .inr ⟨g', _, h1, h2, heap_setCell_same w g' k cur 70 u hg, by simpa using h4⟩
    · exact .inr ⟨g', cur', h1, h2, by rw [heap_setCell_other _ _ _ _ e]; exact h3, h4⟩
/-- What stays while the digits are written over. -/
structure MInv (B : Nat) (w : World) (b : Nat) (rc : Array Value) (l : List Arg) (wr : World) : Prop where
  bel : Below B w wr
  row : wr.heap[b]? = some (.cells rc 36 (0, 0))
  wr : ∀ (i : Nat) (x : Arg), l[i]? = some x → WrA B wr x.a x.zs.length
theorem MInv.set {B b g k : Nat} {w wr : World} {rc cur : Array Value} {l : List Arg} (h : MInv B w b rc l wr) (hB : B ≤ g) (hg : wr.heap[g]? = some (.cells cur 70 (0, 0))) (u : Value) : MInv B w b rc l (wr.setCell ⟨g, k, none⟩ u) := by
  have hne : b ≠ g := by
    intro e
    subst e
    have := h.row
    rw [hg] at this
    cases this
  exact ⟨h.bel.setCell (p := ⟨g, k, none⟩) hB u, by rw [heap_setCell_other _ _ _ _ hne]; exact h.row, fun i x hx => (h.wr i x hx).set hg u⟩
set_option maxHeartbeats 4000000 in
theorem dmark42 (B b : Nat) (rc : Array Value) (l : List Arg) (w : World) (h : MInv B w b rc l w) (hc : ∀ (i : Nat) (x : Arg), l[i]? = some x → rc[i * 3 + 1]? = some (.slice x.a x.zs.length x.c)) (hl : l.length ≤ 1000) (hz : ∀ (i : Nat) (x : Arg), l[i]? = some x → x.zs.length ≤ 1000000) :
    Calls Tryd.prog 33 #[.slice (some ⟨b, 0, none⟩) l.length l.length] w fun e w' => e = .returned (.tuple #[]) ∧ Below B w w' := by
  have HM := Hide.mk h
  have HC := Hide.mk hc
  have HZ := Hide.mk hz
  clear h hc hz
  go_enter Tryd.func33, Tryd.ntmps33
  go_wp2
  go_loopw [2] (fun i wr => ∃ k : Nat, k ≤ l.length ∧ i = .int .i64 k ∧ Hide (MInv B w b rc l wr)) (fun i _ => l.length - (intOf i).toNat)
  case atStart => exact ⟨0, Nat.zero_le _, rfl, HM⟩
  case round =>
    obtain ⟨k, hk, rfl, HI⟩ := hrel
    by_cases hlt : k < l.length
    · obtain ⟨x, hx⟩ : ∃ x, l[k]? = some x := ⟨_, List.getElem?_eq_getElem hlt⟩
      have HX := Hide.mk hx
      have hrc := HC.out k x hx
      have HRC := Hide.mk hrc
      have hzx := HZ.out k x hx
      clear hx hrc
      obtain ⟨ng, a, c, zs, ex⟩ := x
      simp only at hzx
      go_wp2
      go_loopw [3] (fun j wq => ∃ m : Nat, m ≤ zs.length ∧ j = .int .i64 m ∧ Hide (MInv B w b rc l wq)) (fun j _ => zs.length - (intOf j).toNat)
      case atStart => exact ⟨0, Nat.zero_le _, rfl, HI⟩
      case round =>
        obtain ⟨m, hm, rfl, HJ⟩ := hrel
        have c1 : wr.cell? ⟨b, k * 3 + 1, none⟩ = some (.slice a zs.length c) := by rw [cell_of_row _ _ _ _ 36 (0, 0) HJ.out.row]; exact HRC.out
        by_cases hmt : m < zs.length
        · rcases HJ.out.wr k _ HX.out with h0 | ⟨g, cur, h1, h2, h3, h4⟩
          · exact absurd h0 (by simp only; omega)
          · simp only at h1 h4
            subst h1
            obtain ⟨u, hu⟩ : ∃ u, wr.cell? ⟨g, m, none⟩ = some u := ⟨cur[m]'(by omega), by rw [cell_of_row wr g m _ 70 (0, 0) h3]; simp [show m < cur.size by omega]⟩
            have hf := frozen_of_row wr g m _ 70 h3
            have HJ2 := Hide.mk (HJ.out.set (k := m) h2 h3 (.int .u32 77))
            clear h3 h4
            go_wp2
            go_roundw
            case rel => exact ⟨m + 1, hmt, by go_num, HJ2⟩
            case measure => simp [intOf]; omega
        · go_wp2
          go_roundw
          case rel => exact ⟨k + 1, hlt, by go_num, HJ⟩
          case measure => simp [intOf]; omega
    · go_wp2
      go_end0
      exact ⟨rfl, HI.out.bel⟩

theorem dmake_nil (ng : Bool) (a : Option Addr) (cap : Nat) (zs : List Int) (ex : Int) (w : World) (u : DLie w a zs) (h : mayB zs = true) (hT : Tab w) (hx1 : -9223372036854775808 ≤ ex) (hx2 : ex ≤ 9223372036854775807) (hz : zs.length ≤ 0) :
    Calls Tryd.prog 100 #[.bool ng, .slice a zs.length cap, .int .i64 ex] w fun e w' => e = .returned (.tuple #[noD, .int .i64 0]) ∧ Below w.heap.size w w' := by
  refine (dmake38 ng a cap zs ex w u h hT hx1 hx2).mono ?_
  rintro e w' ⟨n9, a9, k9, c9, x9, code, rfl, hv⟩
  have e0 : zs = [] := List.length_eq_zero_iff.1 (by omega)
  rcases hv.all with ⟨_, rfl, rfl, rfl, rfl, rfl, rfl⟩ | ⟨hs, _⟩
  · exact ⟨rfl, hv.bel⟩
  · exact absurd ((sv_zero ng).2 (by rw [e0]; rfl)) hs
theorem dmake_ok (ng : Bool) (a : Option Addr) (cap : Nat) (zs : List Int) (ex : Int) (w : World) (u : DLie w a zs) (h : mayB zs = true) (hT : Tab w) (hx1 : -9223372036854775808 ≤ ex) (hx2 : ex ≤ 9223372036854775807) {t : Nat} (hz : 0 < zs.length) (ht : LowBit (Nt.val zs) t) (h0 : -16777216 ≤ ex + t) (h1 : ex + t ≤ 16777216) :
    Calls Tryd.prog 100 #[.bool ng, .slice a zs.length cap, .int .i64 ex] w fun e w' => ∃ ys a' c, e = .returned (.tuple #[dV ng a' ys.length c (ex + t), .int .i64 0]) ∧ IsNum w w' a' ys (Nt.val zs / 2 ^ t) ∧ Own w.heap.size w' (.slice a' ys.length c) ys := by
  have g : Good zs (Nt.val zs) := ⟨(may_can u.rng h).1, (may_can u.rng h).2, rfl⟩
  have hp := g.pos hz
  have hab := sv_abs ng (Int.le_of_lt hp)
  refine (dmake38 ng a cap zs ex w u h hT hx1 hx2).mono ?_
  rintro e w' ⟨n9, a9, k9, c9, x9, code, rfl, hv⟩
  rcases hv.all with ⟨hs, _⟩ | ⟨hs, t2, ht2, hh⟩
  · have := (sv_zero ng).1 hs; omega
  · rw [hab] at ht2 hh
    obtain rfl := ht2.unique ht
    rcases hh with ⟨j1, j2, rfl, rfl, rfl, ys, rfl, j3, j4⟩ | ⟨j1, _⟩ | ⟨_, j1, _⟩
    · obtain ⟨a2, c2, he, _, _, hl⟩ := j4.lie
      simp only [Value.slice.injEq, true_and] at he
      obtain ⟨rfl, rfl⟩ := he
      exact ⟨ys, a9, c9, by rw [sv_neg ng hp], ⟨j3.can, j3.len, j3.val, hl, hv.bel⟩, j4⟩
    · have := g.lt.2
      have : Nt.val zs / 2 ^ t2 ≤ Nt.val zs := Int.ediv_le_self _ (by omega)
      omega
    · omega
theorem dmake_far (ng : Bool) (a : Option Addr) (cap : Nat) (zs : List Int) (ex : Int) (w : World) (u : DLie w a zs) (h : mayB zs = true) (hT : Tab w) (hx1 : -9223372036854775808 ≤ ex) (hx2 : ex ≤ 9223372036854775807) {t : Nat} (hz : 0 < zs.length) (ht : LowBit (Nt.val zs) t) (h0 : ex + t < -16777216 ∨ 16777216 < ex + t) :
    Calls Tryd.prog 100 #[.bool ng, .slice a zs.length cap, .int .i64 ex] w fun e w' => e = .returned (.tuple #[noD, .int .i64 20]) ∧ Below w.heap.size w w' := by
  have g : Good zs (Nt.val zs) := ⟨(may_can u.rng h).1, (may_can u.rng h).2, rfl⟩
  have hp := g.pos hz
  have hab := sv_abs ng (Int.le_of_lt hp)
  refine (dmake38 ng a cap zs ex w u h hT hx1 hx2).mono ?_
  rintro e w' ⟨n9, a9, k9, c9, x9, code, rfl, hv⟩
  rcases hv.all with ⟨hs, _⟩ | ⟨hs, t2, ht2, hh⟩
  · have := (sv_zero ng).1 hs; omega
  · rw [hab] at ht2 hh
    obtain rfl := ht2.unique ht
    rcases hh with ⟨j1, j2, _⟩ | ⟨j1, _⟩ | ⟨_, _, rfl, rfl, rfl, rfl, rfl, rfl⟩
    · omega
    · have := g.lt.2
      have : Nt.val zs / 2 ^ t2 ≤ Nt.val zs := Int.ediv_le_self _ (by omega)
      omega
    · exact ⟨rfl, hv.bel⟩
theorem dsame_mag (a b : Option Addr) (ca cb : Nat) (za : List Int) (w : World) (ha : Lie w a za) (hb : Lie w b za) (hl : za.length ≤ maxLen) :
    Calls Tryd.prog 18 #[.slice a za.length ca, .slice b za.length cb] w fun e w' => e = .returned (.bool true) ∧ Below w.heap.size w w' := by
  refine (same15 a b ca cb za za w ha hb hl).mono ?_
  rintro e w' ⟨rfl, h⟩
  exact ⟨by simp, h⟩
end Go.Proofs.YtiamdmfhkhlppaaDoor
