import Derived.Test.YteejaghimppcgaaDoorDyadClosesPart6
import Derived.Laws.ResultCell
import Derived.Laws.Rows
namespace Go.Proofs.YteejaghimppcgaaDoor
open Go.RowKit
set_option linter.unusedVariables false
set_option maxRecDepth 3000
theorem isNought99 (a : Option Addr) (n cap : Nat) (w : World) (q : Bool) (hq : decide (n = 0) = q) :
    Calls Tryd.prog 71 #[.slice a n cap] w fun e w' => e = .returned (.bool q) ∧ w = w' := by
  go_enter Tryd.func71, Tryd.ntmps71
  go_wp2
  go_ret
  refine ⟨?_, rfl⟩
  rw [← hq]
  have : ((n : Int) == 0) = decide (n = 0) := by
    by_cases c : n = 0
    · subst c; rfl
    · rw [decide_eq_false c]; exact beq_eq_false_iff_ne.2 (by omega)
  simp [this]
theorem nought_yes (a : Option Addr) (n cap : Nat) (w : World) (h : n ≤ 0) :
    Calls Tryd.prog 71 #[.slice a n cap] w fun e w' => e = .returned (.bool true) ∧ w = w' := isNought99 a n cap w true (by simp; omega)
theorem nought_no (a : Option Addr) (n cap : Nat) (w : World) (h : 0 < n) :
    Calls Tryd.prog 71 #[.slice a n cap] w fun e w' => e = .returned (.bool false) ∧ w = w' := isNought99 a n cap w false (by simp; omega)
theorem shiftedU (a : Option Addr) (ca : Nat) (za : List Int) (w : World) {x : Int} (ha : Lie w a za) (ga : Good za x) (M : Int) (n : Nat) (hM : M = (n : Int)) (hf : x * 2 ^ n < 4294967296 ^ 4096) :
    Calls Tryd.prog 86 #[.slice a za.length ca, .int .i64 M] w fun e w' => ∃ zs a' c, e = .returned (.slice a' zs.length c) ∧ IsNum w w' a' zs (x * 2 ^ n) ∧ Own w.heap.size w' (.slice a' zs.length c) zs := by
  have HS := Hide.mk (shiftUi a ca za w ha ga M n hM hf)
  clear ha hM hf
  go_enter Tryd.func86, Tryd.ntmps86
  go_wp2_with fail
  refine HS.out.mono ?_
  rintro e w' ⟨zs, a', c, rfl, h1, h2⟩
  have H := Hide.mk (And.intro h1 h2)
  clear h1 h2 HS
  go_wp2
  go_ret
  exact ⟨zs, a', c, rfl, H.out.1, H.out.2⟩
theorem shiftedD (a : Option Addr) (ca : Nat) (za : List Int) (w : World) {x : Int} (ha : Lie w a za) (ga : Good za x) (M : Int) (n : Nat) (hM : M = -(n : Int)) (hn : n ≤ 9223372036854775808) (hT : Tab w) :
    Calls Tryd.prog 86 #[.slice a za.length ca, .int .i64 M] w fun e w' => ∃ zs a' c, e = .returned (.slice a' zs.length c) ∧ IsNum w w' a' zs (x / 2 ^ n) ∧ Own w.heap.size w' (.slice a' zs.length c) zs := by
  have HS := Hide.mk (shiftDi a ca za w ha ga M n hM hn hT _ rfl)
  clear ha hM hn hT
  generalize decide (x % 2 ^ n ≠ 0) = q at *
  go_enter Tryd.func86, Tryd.ntmps86
  go_wp2_with fail
  refine HS.out.mono ?_
  rintro e w' ⟨zs, a', c, rfl, h1, h2⟩
  have H := Hide.mk (And.intro h1 h2)
  clear h1 h2 HS
  go_wp2
  go_ret
  exact ⟨zs, a', c, rfl, H.out.1, H.out.2⟩
theorem Tryd.size44 : (Tryd.prog.info? 36).map (·.size) = some 3 := by kernel_rfl
/-- The block g holds a number's three cells. -/
def DCell (w : World) (g : Nat) (cs : Array Value) : Prop := w.heap[g]? = some (.cells cs 36 (0, 0)) ∧ cs.size = 3
theorem load_D (w : World) (g : Nat) (cs : Array Value) (h : DCell w g cs) : (loadVar 36 ⟨g, 0, none⟩).run Tryd.prog w = .ok (.agg cs) w := by
  exact run_loadVar_row w g 36 36 cs (0, 0) _ h.1 Tryd.underlying36 rfl (by rw [Tryd.size44, h.2])
theorem results_D2 {fn : Func} {p u : Tmp} (h : fn.results = #[.cell p 36, .tmp u]) (tmps : Array Value) (w : World) (g : Nat) (cs : Array Value) (hp : tmps.getD p undef = .pointer (some ⟨g, 0, none⟩)) (hg : DCell w g cs) :
    (results fn tmps).run Tryd.prog w = .ok (.tuple #[.agg cs, tmps.getD u undef]) w := by
  rw [results_cell_tmp h, hp]
  simp [asAddr, load_D w g cs hg]
theorem results_D3 {fn : Func} {p u v : Tmp} (h : fn.results = #[.cell p 36, .tmp u, .tmp v]) (tmps : Array Value) (w : World) (g : Nat) (cs : Array Value) (hp : tmps.getD p undef = .pointer (some ⟨g, 0, none⟩)) (hg : DCell w g cs) :
    (results fn tmps).run Tryd.prog w = .ok (.tuple #[.agg cs, tmps.getD u undef, tmps.getD v undef]) w := by
  have hp' : tmps[p]?.getD undef = .pointer (some ⟨g, 0, none⟩) := by simpa using hp
  simp [results, h, hp', asAddr, load_D w g cs hg]
theorem dcell_new (w : World) (a b c : Value) : DCell (w.alloc (.cells #[a, b, c] 36)) w.heap.size #[a, b, c] := ⟨heap_alloc_new w _, rfl⟩
theorem DCell.below {w w' : World} {g B : Nat} {cs : Array Value} (h : DCell w g cs) (hb : Below B w w') (hg : g < B) : DCell w' g cs := ⟨(hb.block g hg).trans h.1, h.2⟩
theorem Own.setOff {B g j : Nat} {w : World} {v : Value} {zs : List Int} (h : Own B w v zs) (hg : g < B) (x : Value) : Own B (w.setCell ⟨g, j, none⟩ x) v zs := ownsRow_setCell_below h hg x
/-- A number made behind a cell of the call's own, which was then written. -/
theorem made_set {w w' : World} {o : Obj} {a : Option Addr} {c : Nat} {zs : List Int} {x : Int} (h : IsNum (w.alloc o) w' a zs x) (ho : Own (w.alloc o).heap.size w' (.slice a zs.length c) zs) (u0 u1 u2 : Value) :
    IsNum w (((w'.setCell ⟨w.heap.size, 0, none⟩ u0).setCell ⟨w.heap.size, 1, none⟩ u1).setCell ⟨w.heap.size, 2, none⟩ u2) a zs x ∧ Own w.heap.size (((w'.setCell ⟨w.heap.size, 0, none⟩ u0).setCell ⟨w.heap.size, 1, none⟩ u1).setCell ⟨w.heap.size, 2, none⟩ u2) (.slice a zs.length c) zs := by
  have hs : w.heap.size < (w.alloc o).heap.size := by simp
  have h2 := ((ho.setOff (j := 0) hs u0).setOff (j := 1) hs u1).setOff (j := 2) hs u2
  have hb : Below w.heap.size w w' := below_then (below_alloc w o) h.bel
  have hb2 := ((hb.setCell (p := ⟨w.heap.size, 0, none⟩) (Nat.le_refl _) u0).setCell (p := ⟨w.heap.size, 1, none⟩) (Nat.le_refl _) u1).setCell (p := ⟨w.heap.size, 2, none⟩) (Nat.le_refl _) u2
  obtain ⟨a2, c2, he, _, _, hl⟩ := h2.lie
  simp only [Value.slice.injEq, true_and] at he
  obtain ⟨rfl, rfl⟩ := he
  exact ⟨⟨h.can, h.len, h.val, hl, hb2⟩, h2.mono (by simp)⟩
theorem DCell.set {w : World} {g : Nat} {cs : Array Value} (h : DCell w g cs) (j : Nat) (x : Value) : DCell (w.setCell ⟨g, j, none⟩ x) g (cs.setIfInBounds j x) := by
  refine ⟨?_, by simpa using h.2⟩
  exact heap_setCell_same w g j _ 36 _ h.1
/-- No number, in the place of one. -/
abbrev noD : Value := .agg #[.bool false, .slice none 0 0, .int .i64 0]
theorem formed_nil (ng : Bool) (a : Option Addr) (n cap : Nat) (ex : Int) (w : World) (hn : n ≤ 0) :
    Calls Tryd.prog 70 #[.bool ng, .slice a n cap, .int .i64 ex] w fun e w' => e = .returned (.tuple #[noD, .int .i64 0]) ∧ Below w.heap.size w w' := by
  have HN := fun w => Hide.mk (nought_yes a n cap w hn)
  go_enter Tryd.func70, Tryd.ntmps70
  go_wp2_with fail
  refine (HN _).out.mono ?_
  rintro e w' ⟨rfl, rfl⟩
  go_wp2
  refine bodyPost_ret (results_D2 rfl _ _ w.heap.size _ rfl (dcell_new _ _ _ _)) rfl ?_
  exact ⟨rfl, below_alloc _ _⟩
set_option maxHeartbeats 1000000 in
theorem formed_ok (ng : Bool) (a : Option Addr) (ca : Nat) (za : List Int) (ex : Int) (w : World) {x : Int} (ha : Lie w a za) (ga : Good za x) (hz : 0 < za.length) {t : Nat} (ht : LowBit x t) (hT : Tab w) (h0 : -16777216 ≤ ex + t) (h1 : ex + t ≤ 16777216) :
    Calls Tryd.prog 70 #[.bool ng, .slice a za.length ca, .int .i64 ex] w fun e w' => ∃ zs a' c, e = .returned (.tuple #[.agg #[.bool ng, .slice a' zs.length c, .int .i64 (ex + t)], .int .i64 0]) ∧ IsNum w w' a' zs (x / 2 ^ t) ∧ Own w.heap.size w' (.slice a' zs.length c) zs := by
  have HN := fun w => Hide.mk (nought_no a za.length ca w hz)
  have hb1 := below_alloc w (.cells #[.bool false, .slice none 0 0, .int .i64 0] 36)
  have hd1 := dcell_new w (.bool false) (.slice none 0 0) (.int .i64 0)
  have HL := Hide.mk (lowN a ca za _ (ha.below hb1 (Nat.le_refl _)) ga hz (hT.below hb1 (Nat.le_refl _)))
  have HS := fun M hM hn => Hide.mk (shiftedD a ca za _ (ha.below hb1 (Nat.le_refl _)) ga M t hM hn (hT.below hb1 (Nat.le_refl _)))
  have Ht := Hide.mk ht
  clear ha hT ht
  go_enter Tryd.func70, Tryd.ntmps70
  go_wp2_with fail
  refine (HN _).out.mono ?_
  rintro e w' ⟨rfl, rfl⟩
  have hx1 : ex ≤ 16777216 := by omega
  have hx2 : -16908288 ≤ ex ∨ ex < -16908288 := by omega
  by_cases hx3 : -16908288 ≤ ex
  · clear hx2
    go_wp2_with fail
    refine HL.out.mono ?_
    rintro e w' ⟨rfl, t2, rfl, ht2, htl⟩
    obtain rfl := ht2.unique Ht.out
    clear ht2
    have HS2 := HS (-(t2 : Int)) rfl (by omega)
    clear HS HL HN Ht
    generalize hu : (t2 : Int) = u at *
    have hu0 : 0 ≤ u := by omega
    have hu1 : u < 131072 := by omega
    have HU := Hide.mk hu
    clear hu htl
    go_wp2_with fail
    refine HS2.out.mono ?_
    rintro e w' ⟨zs, a', c, rfl, h3, h4⟩
    have hd2 := hd1.below h3.bel (by simp)
    have H := Hide.mk (And.intro h3 h4)
    have HD := Hide.mk hd2
    clear h3 h4 HS2 hd1
    have hc0 : w'.cell? ⟨w.heap.size, 0, none⟩ = some (.bool false) := cell_of_row _ _ 0 _ 36 (0, 0) hd2.1
    have hc1 : w'.cell? ⟨w.heap.size, 1, none⟩ = some (.slice none 0 0) := cell_of_row _ _ 1 _ 36 (0, 0) hd2.1
    have hc2 : w'.cell? ⟨w.heap.size, 2, none⟩ = some (.int .i64 0) := cell_of_row _ _ 2 _ 36 (0, 0) hd2.1
    have hf0 := frozen_of_row _ _ 0 _ 36 hd2.1
    have hf1 := frozen_of_row _ _ 1 _ 36 hd2.1
    have hf2 := frozen_of_row _ _ 2 _ 36 hd2.1
    clear hd2
    go_wp2
    refine bodyPost_ret (results_D2 rfl _ _ w.heap.size _ rfl (((HD.out.set 0 _).set 1 _).set 2 _)) rfl ?_
    have hm := made_set H.out.1 H.out.2 (.bool ng) (.slice a' zs.length c) (.int .i64 (ex + u))
    exact ⟨zs, a', c, by rw [HU.out]; rfl, hm.1, hm.2⟩
  · exfalso
    have htl : t < 131072 := by
      have h2 := ga.lt.2
      rw [pw32] at h2
      have h3 := Int.emod_add_mul_ediv x (2 ^ t)
      rw [Ht.out.zero] at h3
      have h4 := Ht.out.one
      have h5 := ga.pos hz
      refine p2lt (?_ : (2 : Int) ^ t < 2 ^ 131072)
      have h6 : 1 ≤ x / 2 ^ t := by
        have := Int.ediv_nonneg (show 0 ≤ x by omega) (Int.le_of_lt (p2pos t))
        omega
      have h7 : (2 : Int) ^ t * 1 ≤ 2 ^ t * (x / 2 ^ t) := Int.mul_le_mul_of_nonneg_left h6 (Int.le_of_lt (p2pos t))
      omega
    omega

/-- A dyadic number's value in a call. -/
abbrev dV (ng : Bool) (a : Option Addr) (n c : Nat) (ex : Int) : Value := .agg #[.bool ng, .slice a n c, .int .i64 ex]
/-- May this be a dyadic number? -/
def dmayB (ng : Bool) (zs : List Int) (ex : Int) : Bool :=
  if zs.length = 0 then (!ng && ex == 0) else (mayB zs && zs.getD 0 0 % 2 == 1 && decide (-16777216 ≤ ex) && decide (ex ≤ 16777216))
theorem dmay_nil36 (ng : Bool) (a : Option Addr) (cap : Nat) (ex : Int) (w : World) (q : Bool) (hq : (!ng && ex == 0) = q) :
    Calls Tryd.prog 69 #[dV ng a 0 cap ex] w fun e w' => e = .returned (.bool q) ∧ Below w.heap.size w w' := by
  cases ng
  · by_cases h0 : ex = 0
    · subst h0
      have : q = true := by rw [← hq]; rfl
      subst this
      go_enter Tryd.func69, Tryd.ntmps69
      go_wp2
      go_ret
      exact ⟨rfl, below_alloc _ _⟩
    · have hb : (ex == 0) = false := by simp [h0]
      have : q = false := by rw [← hq, hb]; rfl
      subst this
      go_enter Tryd.func69, Tryd.ntmps69
      go_wp2
      go_ret
      exact ⟨rfl, below_alloc _ _⟩
  · have : q = false := by rw [← hq]; rfl
    subst this
    go_enter Tryd.func69, Tryd.ntmps69
    go_wp2
    go_ret
    exact ⟨rfl, below_alloc _ _⟩
set_option maxHeartbeats 1000000 in
theorem dmay_num36 (ng : Bool) (a : Option Addr) (cap : Nat) (zs : List Int) (ex : Int) (w : World) (ha : Lie w a zs) (hl : zs.length ≤ maxLen) (hr : Nt.Rng zs) (hz : 0 < zs.length) :
    Calls Tryd.prog 69 #[dV ng a zs.length cap ex] w fun e w' => e = .returned (.bool (mayB zs && zs.getD 0 0 % 2 == 1 && decide (-16777216 ≤ ex) && decide (ex ≤ 16777216))) ∧ Below w.heap.size w w' := by
  have hb := below_alloc w (.cells #[.bool ng, .slice a zs.length cap, .int .i64 ex] 36)
  have HM := fun q (h : mayB zs = q) => Hide.mk (show Calls Tryd.prog 19 #[.slice a zs.length cap] (w.alloc (.cells #[.bool ng, .slice a zs.length cap, .int .i64 ex] 36)) fun e w' => e = .returned (.bool q) ∧ (w.alloc (.cells #[.bool ng, .slice a zs.length cap, .int .i64 ex] 36)) = w' by rw [← h]; exact may13 a cap zs _ (ha.below hb (Nat.le_refl _)) hl)
  obtain ⟨b, o, rfl⟩ := lie_some ha hz
  have hc : (w.alloc (.cells #[.bool ng, .slice (some ⟨b, o, none⟩) zs.length cap, .int .i64 ex] 36)).cell? ⟨b, o, none⟩ = some (.int .u32 (zs.getD 0 0)) := lie_cell (ha.below hb (Nat.le_refl _)) rfl hz
  have h01 := hr 0
  have hand := and32_one (zs.getD 0 0) h01.1 h01.2
  have HB := Hide.mk hb
  have hne : ((zs.length : Int) == 0) = false := beq_eq_false_iff_ne.2 (by omega)
  clear ha hb hr
  generalize zs.getD 0 0 = x at *
  cases hp : mayB zs
  · have HM2 := HM false hp
    clear HM hp hc hand
    go_enter Tryd.func69, Tryd.ntmps69
    go_wp2_with fail
    refine HM2.out.mono ?_
    rintro e w' ⟨rfl, rfl⟩
    go_wp2
    go_ret
    exact ⟨rfl, HB.out⟩
  · have HM2 := HM true hp
    clear HM hp
    rw [Bool.true_and]
    by_cases hodd : x % 2 = 1
    · have ho : (x % 2 == 1) = true := by simp [hodd]
      have hand2 : (bits .and .u32 x 1 == 1) = true := by rw [hand, hodd]; rfl
      rw [ho, Bool.true_and]
      clear hand ho hodd
      by_cases h1 : -16777216 ≤ ex
      · by_cases h2 : ex ≤ 16777216
        · rw [decide_eq_true h1, decide_eq_true h2]
          go_enter Tryd.func69, Tryd.ntmps69
          go_wp2_with fail
          refine HM2.out.mono ?_
          rintro e w' ⟨rfl, rfl⟩
          go_wp2
          go_ret
          exact ⟨rfl, HB.out⟩
        · rw [decide_eq_true h1, decide_eq_false h2]
          go_enter Tryd.func69, Tryd.ntmps69
          go_wp2_with fail
          refine HM2.out.mono ?_
          rintro e w' ⟨rfl, rfl⟩
          go_wp2
          go_ret
          refine ⟨?_, HB.out⟩
          simp [h2]
      · rw [decide_eq_false h1, Bool.false_and]
        go_enter Tryd.func69, Tryd.ntmps69
        go_wp2_with fail
        refine HM2.out.mono ?_
        rintro e w' ⟨rfl, rfl⟩
        go_wp2
        go_ret
        exact ⟨rfl, HB.out⟩
    · have ho : (x % 2 == 1) = false := by simp [hodd]
      have hand2 : (bits .and .u32 x 1 == 1) = false := by rw [hand]; exact ho
      rw [ho, Bool.false_and]
      clear hand ho hodd
      go_enter Tryd.func69, Tryd.ntmps69
      go_wp2_with fail
      refine HM2.out.mono ?_
      rintro e w' ⟨rfl, rfl⟩
      go_wp2
      go_ret
      exact ⟨rfl, HB.out⟩
theorem dmay36 (ng : Bool) (a : Option Addr) (cap : Nat) (zs : List Int) (ex : Int) (w : World) (ha : Lie w a zs) (hl : zs.length ≤ maxLen) (hr : Nt.Rng zs) (q : Bool) (hq : dmayB ng zs ex = q) :
    Calls Tryd.prog 69 #[dV ng a zs.length cap ex] w fun e w' => e = .returned (.bool q) ∧ Below w.heap.size w w' := by
  by_cases hz : 0 < zs.length
  · have e : dmayB ng zs ex = (mayB zs && zs.getD 0 0 % 2 == 1 && decide (-16777216 ≤ ex) && decide (ex ≤ 16777216)) := by
      unfold dmayB; rw [if_neg (by omega)]
    rw [← hq, e]
    exact dmay_num36 ng a cap zs ex w ha hl hr hz
  · have e0 : zs = [] := List.length_eq_zero_iff.1 (by omega)
    subst e0
    exact dmay_nil36 ng a cap ex w q hq

/-- Some dyadic number that lies in memory, whatever its form. -/
structure DLie (w : World) (a : Option Addr) (zs : List Int) : Prop where
  lie : Lie w a zs
  len : zs.length ≤ maxLen
  rng : Nt.Rng zs
theorem DLie.below {w w' : World} {a : Option Addr} {zs : List Int} (h : DLie w a zs) (hb : Below w.heap.size w w') : DLie w' a zs := ⟨h.lie.below hb (Nat.le_refl _), h.len, h.rng⟩
theorem DLie.may {w : World} {a : Option Addr} {zs : List Int} (h : DLie w a zs) (ng : Bool) (cap : Nat) (ex : Int) (q : Bool) (hq : dmayB ng zs ex = q) (W : World) (hb : Below w.heap.size w W) :
    Calls Tryd.prog 69 #[dV ng a zs.length cap ex] W fun e w' => e = .returned (.bool q) ∧ Below W.heap.size W w' :=
  dmay36 ng a cap zs ex W (h.lie.below hb (Nat.le_refl _)) h.len h.rng q hq
theorem below_cell {w w' : World} {g i : Nat} {x : Value} (hb : Below w.heap.size w w') (h : w.cell? ⟨g, i, none⟩ = some x) : w'.cell? ⟨g, i, none⟩ = some x := by
  rw [hb.cell (p := ⟨g, i, none⟩) (World.block_lt_of_cell? w _ h)]; exact h
set_option maxHeartbeats 1000000 in
theorem dallMay1 (b : Nat) (n1 : Bool) (a1 : Option Addr) (c1 : Nat) (z1 : List Int) (e1 : Int) (w : World) (h1 : DLie w a1 z1) (q : Bool) (hq : dmayB n1 z1 e1 = q)
    (k0 : w.cell? ⟨b, 0, none⟩ = some (.bool n1)) (k1 : w.cell? ⟨b, 1, none⟩ = some (.slice a1 z1.length c1)) (k2 : w.cell? ⟨b, 2, none⟩ = some (.int .i64 e1)) :
    Calls Tryd.prog 74 #[.slice (some ⟨b, 0, none⟩) 1 1] w fun e w' => e = .returned (.bool q) ∧ Below w.heap.size w w' := by
  have M1 := fun W hb => Hide.mk (h1.may n1 c1 e1 q hq W hb)
  clear h1 hq
  have hb1 := below_alloc w (.cells #[.bool n1, .slice a1 z1.length c1, .int .i64 e1] 36)
  cases q
  · go_enter Tryd.func74, Tryd.ntmps74
    go_wp2
    refine wp_loop_rounds 3 ?_
    rw [rounds_succ]
    go_wp2_with fail
    refine (M1 _ hb1).out.mono ?_
    rintro e w' ⟨rfl, hb2⟩
    go_wp2_with fail
    go_ret
    exact ⟨rfl, below_then hb1 hb2⟩
  · go_enter Tryd.func74, Tryd.ntmps74
    go_wp2
    refine wp_loop_rounds 3 ?_
    rw [rounds_succ]
    go_wp2_with fail
    refine (M1 _ hb1).out.mono ?_
    rintro e w' ⟨rfl, hb2⟩
    go_wp2_with fail
    rw [rounds_succ]
    go_wp2_with fail
    go_ret
    exact ⟨rfl, below_then hb1 hb2⟩
set_option maxHeartbeats 1000000 in
theorem dallMay2 (b : Nat) (n1 : Bool) (a1 : Option Addr) (c1 : Nat) (z1 : List Int) (e1 : Int) (n2 : Bool) (a2 : Option Addr) (c2 : Nat) (z2 : List Int) (e2 : Int) (w : World) (h1 : DLie w a1 z1) (h2 : DLie w a2 z2) (q1 q2 : Bool) (hq1 : dmayB n1 z1 e1 = q1) (hq2 : dmayB n2 z2 e2 = q2)
    (k0 : w.cell? ⟨b, 0, none⟩ = some (.bool n1)) (k1 : w.cell? ⟨b, 1, none⟩ = some (.slice a1 z1.length c1)) (k2 : w.cell? ⟨b, 2, none⟩ = some (.int .i64 e1))
    (k3 : w.cell? ⟨b, 3, none⟩ = some (.bool n2)) (k4 : w.cell? ⟨b, 4, none⟩ = some (.slice a2 z2.length c2)) (k5 : w.cell? ⟨b, 5, none⟩ = some (.int .i64 e2)) :
    Calls Tryd.prog 74 #[.slice (some ⟨b, 0, none⟩) 2 2] w fun e w' => e = .returned (.bool (q1 && q2)) ∧ Below w.heap.size w w' := by
  have M1 := fun W hb => Hide.mk (h1.may n1 c1 e1 q1 hq1 W hb)
  have M2 := fun W hb => Hide.mk (h2.may n2 c2 e2 q2 hq2 W hb)
  clear h1 hq1 h2 hq2
  have hb1 := below_alloc w (.cells #[.bool n1, .slice a1 z1.length c1, .int .i64 e1] 36)
  cases q1
  · go_enter Tryd.func74, Tryd.ntmps74
    go_wp2
    refine wp_loop_rounds 3 ?_
    rw [rounds_succ]
    go_wp2_with fail
    refine (M1 _ hb1).out.mono ?_
    rintro e w' ⟨rfl, hb2⟩
    go_wp2_with fail
    go_ret
    exact ⟨rfl, below_then hb1 hb2⟩
  · go_enter Tryd.func74, Tryd.ntmps74
    go_wp2
    refine wp_loop_rounds 3 ?_
    rw [rounds_succ]
    go_wp2_with fail
    refine (M1 _ hb1).out.mono ?_
    rintro e w' ⟨rfl, hb2⟩
    have hb3 := below_then hb1 hb2
    clear hb1 hb2
    replace k3 := below_cell hb3 k3
    replace k4 := below_cell hb3 k4
    replace k5 := below_cell hb3 k5
    have hb4 := below_then hb3 (below_alloc w' (.cells #[.bool n2, .slice a2 z2.length c2, .int .i64 e2] 36))
    clear k0 k1 k2
    go_wp2_with fail
    rw [rounds_succ]
    go_wp2_with fail
    refine (M2 _ hb4).out.mono ?_
    rintro e w2 ⟨rfl, hb5⟩
    have hb6 := below_then hb4 hb5
    clear hb3 hb4 hb5 k3 k4 k5 M1 M2
    cases q2
    · go_wp2_with fail
      go_ret
      exact ⟨rfl, hb6⟩
    · go_wp2_with fail
      rw [rounds_succ]
      go_wp2_with fail
      go_ret
      exact ⟨rfl, hb6⟩

/-- MaxExp. -/
def KK : Nat := 16777216
theorem KK_eq : KK = 16777216 := by unfold KK; rfl
theorem KK_int : (KK : Int) = 16777216 := by rw [KK_eq]; rfl
def sv (ng : Bool) (x : Int) : Int := if ng then -x else x
theorem sv_t (x : Int) : sv true x = -x := rfl
theorem sv_f (x : Int) : sv false x = x := rfl
theorem sv_abs (ng : Bool) {x : Int} (h : 0 ≤ x) : ((sv ng x).natAbs : Int) = x := by cases ng <;> simp only [sv_t, sv_f] <;> omega
theorem sv_zero (ng : Bool) {x : Int} : sv ng x = 0 ↔ x = 0 := by cases ng <;> simp only [sv_t, sv_f] <;> omega
theorem sv_neg (ng : Bool) {x : Int} (h : 0 < x) : decide (sv ng x < 0) = ng := by
  cases ng
  · exact decide_eq_false (by rw [sv_f]; omega)
  · exact decide_eq_true (by rw [sv_t]; omega)
def pK (ex : Int) : Int := 2 ^ (ex + KK).toNat
theorem pK_pos (ex : Int) : 0 < pK ex := Int.pow_pos (by decide)
theorem pK_add {ex : Int} (h : -(KK : Int) ≤ ex) (n : Nat) : pK (ex + n) = pK ex * 2 ^ n := by
  unfold pK
  rw [show (ex + n + KK).toNat = (ex + KK).toNat + n by omega, Int.pow_add]
/-- The value of a dyadic number, in units of 2 to the -MaxExp. -/
def dv (ng : Bool) (zs : List Int) (ex : Int) : Int := sv ng (Nt.val zs) * pK ex
/-- A number that may be. -/
structure DG (ng : Bool) (zs : List Int) (ex : Int) : Prop where
  can : Nt.Can zs
  len : zs.length ≤ 4096
  form : (zs = [] ∧ ng = false ∧ ex = 0) ∨ (0 < zs.length ∧ Nt.val zs % 2 = 1 ∧ -16777216 ≤ ex ∧ ex ≤ 16777216)
theorem val_odd {zs : List Int} (hz : 0 < zs.length) : Nt.val zs % 2 = zs.getD 0 0 % 2 := by
  cases zs with
  | nil => simp at hz
  | cons d s => rw [val_cons]; simp only [List.getD_cons_zero]; omega
theorem DG.of {ng : Bool} {zs : List Int} {ex : Int} (hr : Nt.Rng zs) (h : dmayB ng zs ex = true) : DG ng zs ex := by
  unfold dmayB at h
  by_cases hz : zs.length = 0
  · rw [if_pos hz] at h
    have e := List.length_eq_zero_iff.1 hz
    subst e
    refine ⟨Nt.can_nil, by simp, .inl ⟨rfl, ?_, ?_⟩⟩ <;> cases ng <;> simp_all
  · rw [if_neg hz] at h
    simp only [Bool.and_eq_true, beq_iff_eq, decide_eq_true_eq] at h
    obtain ⟨⟨⟨h1, h2⟩, h3⟩, h4⟩ := h
    exact ⟨(may_can hr h1).1, (may_can hr h1).2, .inr ⟨by omega, by rw [val_odd (by omega)]; exact h2, h3, h4⟩⟩
theorem DG.may {ng : Bool} {zs : List Int} {ex : Int} (h : DG ng zs ex) : dmayB ng zs ex = true := by
  unfold dmayB
  rcases h.form with ⟨rfl, rfl, rfl⟩ | ⟨h1, h2, h3, h4⟩
  · rfl
  · rw [if_neg (by omega), can_may h.can h.len, ← val_odd h1, h2]
    simp [h3, h4]
theorem DG.good {ng : Bool} {zs : List Int} {ex : Int} (h : DG ng zs ex) : Good zs (Nt.val zs) := ⟨h.can, h.len, rfl⟩
theorem DG.ex_bd {ng : Bool} {zs : List Int} {ex : Int} (h : DG ng zs ex) : -16777216 ≤ ex ∧ ex ≤ 16777216 := by
  rcases h.form with ⟨rfl, rfl, rfl⟩ | ⟨h1, h2, h3, h4⟩
  · omega
  · exact ⟨h3, h4⟩
theorem DG.nil {ng : Bool} {zs : List Int} {ex : Int} (h : DG ng zs ex) (hz : zs.length ≤ 0) : zs = [] ∧ ng = false ∧ ex = 0 := by
  rcases h.form with h1 | ⟨h1, _⟩
  · exact h1
  · omega
theorem DG.odd {ng : Bool} {zs : List Int} {ex : Int} (h : DG ng zs ex) (hz : 0 < zs.length) : Nt.val zs % 2 = 1 := by
  rcases h.form with ⟨rfl, _⟩ | ⟨_, h2, _⟩
  · simp at hz
  · exact h2
theorem zeroDG : DG false [] 0 := ⟨Nt.can_nil, by simp, .inl ⟨rfl, rfl, rfl⟩⟩
theorem zero_dv (ng : Bool) (ex : Int) : dv ng [] ex = 0 := by unfold dv; rw [Nt.val_nil]; cases ng <;> simp [sv]
theorem DG.pos {ng : Bool} {zs : List Int} {ex : Int} (h : DG ng zs ex) (hz : 0 < zs.length) : 0 < Nt.val zs := h.good.pos hz
theorem odd_low {x : Int} (h : x % 2 = 1) : LowBit x 0 := ⟨by simp, by simpa using h⟩
theorem LowBit.up {x : Int} {t : Nat} (h : LowBit x t) (n : Nat) : LowBit (x * 2 ^ n) (t + n) := by
  have hp := p2pos n
  have h1 := Int.emod_add_mul_ediv x (2 ^ t)
  rw [h.zero, Int.zero_add] at h1
  have e : x * 2 ^ n = 2 ^ (t + n) * (x / 2 ^ t) := by rw [Int.pow_add, ← h1, Int.mul_ediv_cancel_left _ (by have := p2pos t; omega)]; generalize x / 2 ^ t = q; grind
  refine ⟨by rw [e]; exact Int.mul_emod_right _ _, ?_⟩
  rw [e, Int.mul_ediv_cancel_left _ (by have := p2pos (t + n); omega)]
  exact h.one
theorem low_ex {x : Int} (h : 0 < x) : ∃ t, LowBit x t := by
  have key : ∀ n : Nat, ∀ x : Int, 0 < x → x.toNat ≤ n → ∃ t, LowBit x t := by
    intro n
    induction n with
    | zero => intro x h0 h1; omega
    | succ n ih =>
      intro x h0 h1
      by_cases c : x % 2 = 1
      · exact ⟨0, odd_low c⟩
      · obtain ⟨t, ht⟩ := ih (x / 2) (by omega) (by omega)
        have e : x = x / 2 * 2 ^ 1 := by omega
        exact ⟨t + 1, by rw [e]; exact ht.up 1⟩
  exact key _ x h (Nat.le_refl _)
theorem low_half {x : Int} {t : Nat} (h : LowBit x t) : x = x / 2 ^ t * 2 ^ t := by
  have h1 := Int.emod_add_mul_ediv x (2 ^ t)
  rw [h.zero, Int.zero_add, Int.mul_comm] at h1
  exact h1.symm
/-- Equal values have one form. -/
theorem DG.unique {n1 n2 : Bool} {z1 z2 : List Int} {e1 e2 : Int} (h1 : DG n1 z1 e1) (h2 : DG n2 z2 e2) (h : dv n1 z1 e1 = dv n2 z2 e2) : n1 = n2 ∧ z1 = z2 ∧ e1 = e2 := by
  have key : ∀ (n1 n2 : Bool) (z1 z2 : List Int) (e1 e2 : Int), DG n1 z1 e1 → DG n2 z2 e2 → dv n1 z1 e1 = dv n2 z2 e2 → e1 ≤ e2 → 0 < z1.length → 0 < z2.length → n1 = n2 ∧ z1 = z2 ∧ e1 = e2 := by
    intro n1 n2 z1 z2 e1 e2 h1 h2 h hle p1 p2
    have o1 := h1.odd p1
    have o2 := h2.odd p2
    have v1 := h1.pos p1
    have v2 := h2.pos p2
    have b1 := h1.ex_bd
    have hk := KK_int
    obtain ⟨n, hn⟩ : ∃ n : Nat, e2 = e1 + n := ⟨(e2 - e1).toNat, by omega⟩
    unfold dv at h
    rw [hn, pK_add (by omega), ← Int.mul_assoc, Int.mul_right_comm] at h
    have h3 := Int.eq_of_mul_eq_mul_right (by have := pK_pos e1; omega) h
    have hp := p2pos n
    have hs : n1 = n2 := by
      have hpos : 0 < Nt.val z2 * 2 ^ n := Int.mul_pos v2 hp
      cases n1 <;> cases n2 <;> simp only [sv_t, sv_f, Int.neg_mul] at h3 <;> first | rfl | omega
    subst hs
    have h4 : Nt.val z1 = Nt.val z2 * 2 ^ n := by
      cases n1 <;> simp only [sv_t, sv_f, Int.neg_mul] at h3 <;> omega
    have hn0 : n = 0 := (odd_low o1).unique (by rw [h4]; have := (odd_low o2).up n; rw [Nat.zero_add] at this; exact this) |>.symm
    subst hn0
    rw [Int.pow_zero, Int.mul_one] at h4
    exact ⟨rfl, Nt.can_unique h1.can h2.can h4, by omega⟩
  have hz : ∀ {n : Bool} {z : List Int} {e : Int}, DG n z e → 0 < z.length → dv n z e ≠ 0 := by
    intro n z e g p c
    have := g.pos p
    have := pK_pos e
    rcases Int.mul_eq_zero.1 c with c | c
    · have := (sv_zero n).1 c; omega
    · omega
  by_cases p1 : 0 < z1.length
  · by_cases p2 : 0 < z2.length
    · by_cases hle : e1 ≤ e2
      · exact key _ _ _ _ _ _ h1 h2 h hle p1 p2
      · obtain ⟨a, b, c⟩ := key _ _ _ _ _ _ h2 h1 h.symm (by omega) p2 p1
        exact ⟨a.symm, b.symm, c.symm⟩
    · obtain ⟨rfl, rfl, rfl⟩ := h2.nil (by omega)
      rw [zero_dv] at h
      exact absurd h (hz h1 p1)
  · obtain ⟨rfl, rfl, rfl⟩ := h1.nil (by omega)
    by_cases p2 : 0 < z2.length
    · rw [zero_dv] at h
      exact absurd h.symm (hz h2 p2)
    · obtain ⟨rfl, rfl, rfl⟩ := h2.nil (by omega)
      exact ⟨rfl, rfl, rfl⟩
/-- What is answered for the exact number s times 2 to the E. -/
structure DV (w w' : World) (s E : Int) (ng : Bool) (a : Option Addr) (n c : Nat) (ex code : Int) : Prop where
  bel : Below w.heap.size w w'
  all : (s = 0 ∧ ng = false ∧ a = none ∧ n = 0 ∧ c = 0 ∧ ex = 0 ∧ code = 0) ∨ (s ≠ 0 ∧ ∃ t : Nat, LowBit (s.natAbs : Int) t ∧
    ((-16777216 ≤ E + t ∧ E + t ≤ 16777216 ∧ ng = decide (s < 0) ∧ ex = E + t ∧ code = 0 ∧ ∃ zs, n = zs.length ∧ Good zs ((s.natAbs : Int) / 2 ^ t) ∧ Own w.heap.size w' (.slice a n c) zs) ∨
     (4294967296 ^ 4096 ≤ (s.natAbs : Int) / 2 ^ t ∧ ng = false ∧ a = none ∧ n = 0 ∧ c = 0 ∧ ex = 0 ∧ code = 3) ∨
     ((s.natAbs : Int) / 2 ^ t < 4294967296 ^ 4096 ∧ (E + t < -16777216 ∨ 16777216 < E + t) ∧ ng = false ∧ a = none ∧ n = 0 ∧ c = 0 ∧ ex = 0 ∧ code = 20)))
def DRes (w w' : World) (s E : Int) (e : Ending) : Prop := ∃ ng a n c ex code, e = .returned (.tuple #[dV ng a n c ex, .int .i64 code]) ∧ DV w w' s E ng a n c ex code
theorem natAbs_mul_pow (s : Int) (k : Nat) : ((s * 2 ^ k).natAbs : Int) = (s.natAbs : Int) * 2 ^ k := by
  rw [Int.natAbs_mul, Int.natCast_mul]
  have := p2pos k
  have e : (((2 : Int) ^ k).natAbs : Int) = 2 ^ k := by omega
  rw [e]
theorem DV.scale {w w' : World} {s E : Int} {ng : Bool} {a : Option Addr} {n c : Nat} {ex code : Int} {k : Nat} (h : DV w w' s (E + k) ng a n c ex code) : DV w w' (s * 2 ^ k) E ng a n c ex code := by
  have hp := p2pos k
  refine ⟨h.bel, ?_⟩
  rcases h.all with ⟨rfl, he⟩ | ⟨hs, t, ht, hh⟩
  · exact .inl ⟨by simp, he⟩
  · refine .inr ⟨fun c => by rcases Int.mul_eq_zero.1 c with c | c <;> omega, t + k, by rw [natAbs_mul_pow]; exact ht.up k, ?_⟩
    have e1 : ((s * 2 ^ k).natAbs : Int) / 2 ^ (t + k) = (s.natAbs : Int) / 2 ^ t := by
      rw [natAbs_mul_pow, Int.pow_add, Int.mul_ediv_mul_of_pos_left _ _ hp]
    have e2 : E + ((t + k : Nat) : Int) = E + k + t := by omega
    have e3 : decide (s * 2 ^ k < 0) = decide (s < 0) := by
      by_cases c : s < 0
      · have : s * 2 ^ k < 0 := Int.mul_neg_of_neg_of_pos c hp
        simp [c, this]
      · have : ¬ s * 2 ^ k < 0 := by have := Int.mul_nonneg (show 0 ≤ s by omega) (Int.le_of_lt hp); omega
        simp [c, this]
    rw [e1, e2, e3]
    exact hh
/-- From an earlier world on, and with another cell of the call's own written. -/
theorem DV.back {w0 w w' : World} {s E : Int} {ng : Bool} {a : Option Addr} {n c : Nat} {ex code : Int} (h : DV w w' s E ng a n c ex code) (hb : Below w0.heap.size w0 w) {g : Nat} (hg : w0.heap.size ≤ g) (hg' : g < w.heap.size) (u0 u1 u2 : Value) :
    DV w0 (((w'.setCell ⟨g, 0, none⟩ u0).setCell ⟨g, 1, none⟩ u1).setCell ⟨g, 2, none⟩ u2) s E ng a n c ex code := by
  refine ⟨(((below_then hb h.bel).setCell (p := ⟨g, 0, none⟩) hg u0).setCell (p := ⟨g, 1, none⟩) hg u1).setCell (p := ⟨g, 2, none⟩) hg u2, ?_⟩
  rcases h.all with h1 | ⟨h1, t, h2, h3⟩
  · exact .inl h1
  · refine .inr ⟨h1, t, h2, ?_⟩
    rcases h3 with ⟨k1, k2, k3, k4, k5, zs, k6, k7, k8⟩ | h3
    · exact .inl ⟨k1, k2, k3, k4, k5, zs, k6, k7, (((k8.setOff (j := 0) hg' u0).setOff (j := 1) hg' u1).setOff (j := 2) hg' u2).mono hb.size⟩
    · exact .inr h3
theorem low_lt {x : Int} {t : Nat} (h : LowBit x t) (hx : 0 < x) (hlt : x < 4294967296 ^ 4096) : t < 131072 := by
  rw [pw32] at hlt
  have h1 := low_half h
  have h4 := h.one
  refine p2lt (?_ : (2 : Int) ^ t < 2 ^ 131072)
  have h6 : 1 ≤ x / 2 ^ t := by
    have := Int.ediv_nonneg (show 0 ≤ x by omega) (Int.le_of_lt (p2pos t))
    omega
  have h7 : 1 * 2 ^ t ≤ x / 2 ^ t * 2 ^ t := Int.mul_le_mul_of_nonneg_right h6 (Int.le_of_lt (p2pos t))
  omega
set_option maxHeartbeats 1000000 in
theorem formed_far (ng : Bool) (a : Option Addr) (ca : Nat) (za : List Int) (ex : Int) (w : World) {x : Int} (ha : Lie w a za) (ga : Good za x) (hz : 0 < za.length) {t : Nat} (ht : LowBit x t) (hT : Tab w) (h0 : ex + t < -16777216 ∨ 16777216 < ex + t) (hx1 : -9223372036854775808 ≤ ex) (hx2 : ex ≤ 9223372036854775807) :
    Calls Tryd.prog 70 #[.bool ng, .slice a za.length ca, .int .i64 ex] w fun e w' => e = .returned (.tuple #[noD, .int .i64 20]) ∧ Below w.heap.size w w' := by
  have HN := fun w => Hide.mk (nought_no a za.length ca w hz)
  have hb1 := below_alloc w (.cells #[.bool false, .slice none 0 0, .int .i64 0] 36)
  have HL := Hide.mk (lowN a ca za _ (ha.below hb1 (Nat.le_refl _)) ga hz (hT.below hb1 (Nat.le_refl _)))
  have htl := low_lt ht (ga.pos hz) ga.lt.2
  have Ht := Hide.mk ht
  clear ha hT ht
  by_cases c1 : 16777216 < ex
  · go_enter Tryd.func70, Tryd.ntmps70
    go_wp2_with fail
    refine (HN _).out.mono ?_
    rintro e w' ⟨rfl, rfl⟩
    go_wp2
    refine bodyPost_ret (results_D2 rfl _ _ w.heap.size _ rfl (dcell_new _ _ _ _)) rfl ?_
    exact ⟨rfl, hb1⟩
  · by_cases c2 : ex < -16908288
    · go_enter Tryd.func70, Tryd.ntmps70
      go_wp2_with fail
      refine (HN _).out.mono ?_
      rintro e w' ⟨rfl, rfl⟩
      go_wp2
      refine bodyPost_ret (results_D2 rfl _ _ w.heap.size _ rfl (dcell_new _ _ _ _)) rfl ?_
      exact ⟨rfl, hb1⟩
    · by_cases c3 : 16777216 < ex + t
      · go_enter Tryd.func70, Tryd.ntmps70
        go_wp2_with fail
        refine (HN _).out.mono ?_
        rintro e w' ⟨rfl, rfl⟩
        go_wp2_with fail
        refine HL.out.mono ?_
        rintro e w' ⟨rfl, t2, rfl, ht2, _⟩
        obtain rfl := ht2.unique Ht.out
        clear ht2 HL HN Ht h0
        generalize hu : (t2 : Int) = u at *
        have hu0 : 0 ≤ u := by omega
        have hu1 : u < 131072 := by omega
        clear hu htl
        go_wp2
        refine bodyPost_ret (results_D2 rfl _ _ w.heap.size _ rfl (dcell_new _ _ _ _)) rfl ?_
        exact ⟨rfl, hb1⟩
      · have c4 : ex + t < -16777216 := by omega
        go_enter Tryd.func70, Tryd.ntmps70
        go_wp2_with fail
        refine (HN _).out.mono ?_
        rintro e w' ⟨rfl, rfl⟩
        go_wp2_with fail
        refine HL.out.mono ?_
        rintro e w' ⟨rfl, t2, rfl, ht2, _⟩
        obtain rfl := ht2.unique Ht.out
        clear ht2 HL HN Ht h0
        generalize hu : (t2 : Int) = u at *
        have hu0 : 0 ≤ u := by omega
        have hu1 : u < 131072 := by omega
        clear hu htl
        go_wp2
        refine bodyPost_ret (results_D2 rfl _ _ w.heap.size _ rfl (dcell_new _ _ _ _)) rfl ?_
        exact ⟨rfl, hb1⟩
/-- The one form, whatever the exponent. -/
theorem formedR (ng : Bool) (a : Option Addr) (ca : Nat) (za : List Int) (ex : Int) (w : World) {x : Int} (ha : Lie w a za) (ga : Good za x) (hT : Tab w) (hx1 : -9223372036854775808 ≤ ex) (hx2 : ex ≤ 9223372036854775807) :
    Calls Tryd.prog 70 #[.bool ng, .slice a za.length ca, .int .i64 ex] w fun e w' => DRes w w' (sv ng x) ex e := by
  by_cases hz : 0 < za.length
  · obtain ⟨t, ht⟩ := low_ex (ga.pos hz)
    have hp := ga.pos hz
    have hs : sv ng x ≠ 0 := fun c => by have := (sv_zero ng).1 c; omega
    have hab := sv_abs ng (Int.le_of_lt hp)
    have hlt : x / 2 ^ t < 4294967296 ^ 4096 := by
      have := ga.lt.2
      have : x / 2 ^ t ≤ x := Int.ediv_le_self _ (by omega)
      omega
    by_cases h0 : ex + t < -16777216 ∨ 16777216 < ex + t
    · refine (formed_far ng a ca za ex w ha ga hz ht hT h0 hx1 hx2).mono ?_
      rintro e w' ⟨rfl, hb⟩
      exact ⟨false, none, 0, 0, 0, 20, rfl, hb, .inr ⟨hs, t, by rw [hab]; exact ht, .inr (.inr ⟨by rw [hab]; exact hlt, h0, rfl, rfl, rfl, rfl, rfl, rfl⟩)⟩⟩
    · refine (formed_ok ng a ca za ex w ha ga hz ht hT (by omega) (by omega)).mono ?_
      rintro e w' ⟨zs, a', c, rfl, h1, h2⟩
      exact ⟨ng, a', zs.length, c, ex + t, 0, rfl, h1.bel, .inr ⟨hs, t, by rw [hab]; exact ht, .inl ⟨by omega, by omega, (sv_neg ng hp).symm, rfl, rfl, zs, rfl, by rw [hab]; exact h1.good, h2⟩⟩⟩
  · obtain ⟨rfl, h0⟩ := ga.nil (by omega)
    refine (formed_nil ng a _ ca ex w (by simp)).mono ?_
    rintro e w' ⟨rfl, hb⟩
    exact ⟨false, none, 0, 0, 0, 0, rfl, hb, .inl ⟨(sv_zero ng).2 h0, rfl, rfl, rfl, rfl, rfl, rfl⟩⟩

theorem plus110 (a b : Option Addr) (ca cb : Nat) (za zb : List Int) (w : World) {x y : Int} (ha : Lie w a za) (hb : Lie w b zb) (ga : Good za x) (gb : Good zb y) (hf : x + y < 4294967296 ^ 4096) :
    Calls Tryd.prog 87 #[.slice a za.length ca, .slice b zb.length cb] w fun e w' => ∃ zs a' c, e = .returned (.slice a' zs.length c) ∧ IsNum w w' a' zs (x + y) ∧ Own w.heap.size w' (.slice a' zs.length c) zs := by
  have HS := Hide.mk (add_fit a b ca cb za zb w ha hb ga gb ⟨by have := ga.nonneg; have := gb.nonneg; omega, hf⟩)
  clear ha hb hf
  go_enter Tryd.func87, Tryd.ntmps87
  go_wp2_with fail
  refine HS.out.mono ?_
  rintro e w' ⟨zs, a', c, rfl, h1, h2⟩
  have H := Hide.mk (And.intro h1 h2)
  clear h1 h2 HS
  go_wp2
  go_ret
  exact ⟨zs, a', c, rfl, H.out.1, H.out.2⟩
theorem less132 (a b : Option Addr) (ca cb : Nat) (za zb : List Int) (w : World) {x y : Int} (ha : Lie w a za) (hb : Lie w b zb) (ga : Good za x) (gb : Good zb y) (hf : y ≤ x) :
    Calls Tryd.prog 128 #[.slice a za.length ca, .slice b zb.length cb] w fun e w' => ∃ zs a' c, e = .returned (.slice a' zs.length c) ∧ IsNum w w' a' zs (x - y) ∧ Own w.heap.size w' (.slice a' zs.length c) zs := by
  have HS := Hide.mk (sub_fit a b ca cb za zb w ha hb ga gb hf)
  clear ha hb hf
  go_enter Tryd.func128, Tryd.ntmps128
  go_wp2_with fail
  refine HS.out.mono ?_
  rintro e w' ⟨zs, a', c, rfl, h1, h2⟩
  have H := Hide.mk (And.intro h1 h2)
  clear h1 h2 HS
  go_wp2
  go_ret
  exact ⟨zs, a', c, rfl, H.out.1, H.out.2⟩
theorem cmpM126 (a b : Option Addr) (ca cb : Nat) (za zb : List Int) (w : World) {x y : Int} (ha : Lie w a za) (hb : Lie w b zb) (ga : Good za x) (gb : Good zb y) (s : Int) (hs : sgn x y = s) :
    Calls Tryd.prog 120 #[.slice a za.length ca, .slice b zb.length cb] w fun e w' => e = .returned (.int .i64 s) ∧ Below w.heap.size w w' := by
  have HS := Hide.mk (cmp_good a b ca cb za zb w ha hb ga gb s hs)
  clear ha hb hs
  go_enter Tryd.func120, Tryd.ntmps120
  go_wp2_with fail
  refine HS.out.mono ?_
  rintro e w' ⟨rfl, h1⟩
  clear HS
  go_wp2
  go_ret
  exact ⟨rfl, h1⟩
end Go.Proofs.YteejaghimppcgaaDoor
