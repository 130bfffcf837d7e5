import Derived.Test.YtcjmamlffbhnlaaW27
namespace Go.Proofs.Ytcjmamlffbhnlaa
open Go.RowKit
set_option linter.unusedVariables false
/-- What a division answers. -/
def Divs (w w' : World) (za zb : List Int) (v : Value → Value → Value) (e : Ending) : Prop := ∃ zq zr aq cq ar cr, e = .returned (v (.slice aq zq.length cq) (.slice ar zr.length cr)) ∧ Own w.heap.size w' (.slice aq zq.length cq) zq ∧ Own w.heap.size w' (.slice ar zr.length cr) zr ∧ Nt.Can zq ∧ Nt.Can zr ∧ Nt.val za = Nt.val zq * Nt.val zb + Nt.val zr ∧ Nt.val zr < Nt.val zb ∧ Below w.heap.size w w'
def two (x y : Value) : Value := .tuple #[x, y]

set_option maxHeartbeats 2000000 in
theorem div_less (a b : Option Addr) (ca cb : Nat) (za zb : List Int) (w : World) (ha : Lie w a za) (hb : Lie w b zb) (qa : Nt.Can za) (qb : Nt.Can zb) (hm : za.length ≤ 90000) (hv : Nt.val za < Nt.val zb) :
    Calls Try.prog 43 #[.slice a za.length ca, .slice b zb.length cb] w fun e w' => Divs w w' za zb two e := by
  have C1 := Hide.mk (compare38 a b ca cb za zb w ha hb qa qb (by unfold maxLen; omega))
  have C2 := fun W (h : Below w.heap.size w W) => Hide.mk (clone56 a ca za W (ha.below h (Nat.le_refl _)) (by omega))
  rw [sgn_lt hv] at C1
  have QA := Hide.mk qa
  have HV := Hide.mk hv
  clear ha hb qa qb hv
  go_enter Try.func43, Try.ntmps43
  go_wp2_with fail
  refine C1.out.mono ?_
  rintro e w1 ⟨rfl, hb1⟩
  go_wp2_with fail
  refine (C2 _ hb1).out.mono ?_
  rintro e w2 ⟨a2, c2, rfl, ho2, hb2⟩
  have HF : Hide (Divs w w2 za zb two (.returned (two (.slice none 0 0) (.slice a2 za.length c2)))) := ⟨⟨[], za, none, 0, a2, c2, rfl, Own.nil _ _, ho2.mono hb1.size, Nt.can_nil, QA.out, by rw [Nt.val_nil]; omega, HV.out, below_then hb1 hb2⟩⟩
  clear ho2 hb1 hb2 C1 C2
  go_wp2
  go_ret2
  exact HF.out

set_option maxHeartbeats 2000000 in
theorem div_one (a : Option Addr) (ca cb bb bo : Nat) (za : List Int) (d : Int) (w : World) (ha : Lie w a za) (hb : Lie w (some ⟨bb, bo, none⟩) [d]) (qa : Nt.Can za) (qb : Nt.Can [d]) (hm : za.length ≤ 90000) (hv : Nt.val [d] ≤ Nt.val za) :
    Calls Try.prog 43 #[.slice a za.length ca, .slice (some ⟨bb, bo, none⟩) 1 cb] w fun e w' => Divs w w' za [d] two e := by
  have hd0 : d ≠ 0 := by have := qb.2 (by simp); simpa using this
  have hdr := qb.1 0
  simp only [List.getD_cons_zero] at hdr
  have hlen : 0 < za.length := by
    by_cases c : za.length = 0
    · have : za = [] := List.length_eq_zero_iff.1 c
      subst this
      rw [val_one, Nt.val_nil] at hv
      omega
    · omega
  have C1 := Hide.mk (compare38 a (some ⟨bb, bo, none⟩) ca cb za [d] w ha hb qa qb (by unfold maxLen; omega))
  have C2 := fun W (h : Below w.heap.size w W) => Hide.mk (clone56 a ca za W (ha.below h (Nat.le_refl _)) (by omega))
  have hsg : 0 ≤ sgn (Nt.val za) (Nt.val [d]) := by unfold sgn; split <;> (try split) <;> omega
  have QA := Hide.mk qa
  have HLB := Hide.mk hb
  clear ha hb qa qb hv
  generalize sgn (Nt.val za) (Nt.val [d]) = sg at *
  go_enter Try.func43, Try.ntmps43
  go_wp2_with fail
  refine C1.out.mono ?_
  rintro e w1 ⟨rfl, hb1⟩
  go_wp2_with fail
  refine (C2 _ hb1).out.mono ?_
  rintro e w2 ⟨a2, c2, rfl, ho2, hb2⟩
  obtain ⟨g, rfl, hgB, hrw, hzc, hcm⟩ := ho2.rw hlen
  have hb12 := below_then hb1 hb2
  have hcd : w2.cell? ⟨bb, bo, none⟩ = some (.int .u32 d) := lie_cell (HLB.out.below hb12 (Nat.le_refl _)) rfl (i := 0) (by simp)
  have C3 := Hide.mk (divideBy57 g c2 za d w2 hrw (by omega) QA.out.1 (by omega) hdr.2)
  have HG := Hide.mk hgB
  have hs1 := hb1.size
  clear C1 C2 ho2 hrw hb1 hb2
  go_wp2_with fail
  refine C3.out.mono ?_
  rintro e w3 ⟨s, l, rfl, hrw3, hinv, hgr⟩
  have hl0 := hinv.l0
  have hl1 := hinv.l1
  have hb13 : Below w.heap.size w w3 := hb12.grown hgr (by have := hb12.size; omega) (fun k hk => by cases hk; have := HG.out; omega)
  have hsl : s.length = za.length := hinv.len
  have HI : Hide (Nt.val za = d * Nt.val s + l) := ⟨by have := hinv.eq; simpa using this⟩
  have HR := Hide.mk hinv.rng
  have HW := Hide.mk hrw3
  have HSL := Hide.mk hsl
  have C4 := Hide.mk (trim35 (some ⟨g, 0, none⟩) c2 s w3 hrw3.lie (by omega) hcm)
  rw [hsl] at C4
  clear C3 hrw3 hinv hgr hb12 hsl hcd
  go_wp2_with fail
  refine C4.out.mono ?_
  rintro e w' ⟨rfl, n, hn, rfl, hz, hdd⟩
  have HZ := Hide.mk (And.intro hz hdd)
  clear hz hdd C4
  go_wp2_with fail
  refine (of16 l hl0 (by omega) w3).mono ?_
  rintro e w4 ⟨zr, ar, cr, rfl, hnum, hor⟩
  have HF : Hide (Divs w w4 za [d] two (.returned (two (.slice (some ⟨g, 0, none⟩) n c2) (.slice ar zr.length cr)))) := ⟨by
    have hln : (s.take n).length = n := by rw [List.length_take, HSL.out]; omega
    refine ⟨s.take n, zr, some ⟨g, 0, none⟩, c2, ar, cr, by rw [hln], ?_, hor.mono hb13.size, Nt.can_take HR.out (by rw [HSL.out]; exact hn) HZ.out.2, hnum.can, ?_, ?_, below_then hb13 hnum.bel⟩
    · rw [hln]
      exact (HW.out.own (B := w.heap.size) (by have := HG.out; omega) (by rw [HSL.out]; exact hn) hcm).below hnum.bel (Nat.le_refl _)
    · rw [Nt.val_take HZ.out.1 (by rw [HSL.out]; exact hn), val_one, hnum.val, HI.out, Int.mul_comm]
    · rw [val_one, hnum.val]; exact hl1⟩
  clear hnum hor HW HZ
  go_wp2
  go_ret2
  exact HF.out

set_option maxHeartbeats 2000000 in
theorem div_long (a b : Option Addr) (ca cb m : Nat) (za zb : List Int) (w : World) (ha : Lie w a za) (hb : Lie w b zb) (qa : Nt.Can za) (qb : Nt.Can zb) (hz : zb.length = m + 2) (hm : za.length ≤ 90000) (hv : Nt.val zb ≤ Nt.val za) :
    Calls Try.prog 43 #[.slice a za.length ca, .slice b zb.length cb] w fun e w' => Divs w w' za zb two e := by
  have hl : zb.length ≤ za.length := (Nt.can_len qb _).1 (by have := (Nt.val_bd qa.1).2; omega)
  have C1 := Hide.mk (compare38 a b ca cb za zb w ha hb qa qb (by unfold maxLen; omega))
  have C2 := fun W (h : Below w.heap.size w W) => Hide.mk (long58 a b ca cb m za zb W (ha.below h (Nat.le_refl _)) (hb.below h (Nat.le_refl _)) qa qb hz (by omega) hm)
  have hsg : 0 ≤ sgn (Nt.val za) (Nt.val zb) := by unfold sgn; split <;> (try split) <;> omega
  have hne : ((zb.length : Int) == 1) = false := by simp; omega
  clear ha hb qa qb hv hz
  generalize sgn (Nt.val za) (Nt.val zb) = sg at *
  go_enter Try.func43, Try.ntmps43
  go_wp2_with fail
  refine C1.out.mono ?_
  rintro e w1 ⟨rfl, hb1⟩
  go_wp2_with fail
  refine (C2 _ hb1).out.mono ?_
  rintro e w2 ⟨zq, zr, aq, cq, ar, cr, rfl, h1, h2, h3, h4, h5, h6, h7⟩
  have HF : Hide (Divs w w2 za zb two (.returned (two (.slice aq zq.length cq) (.slice ar zr.length cr)))) := ⟨⟨zq, zr, aq, cq, ar, cr, rfl, h1.mono hb1.size, h2.mono hb1.size, h3, h4, h5, h6, below_then hb1 h7⟩⟩
  clear h1 h2 h3 h4 h5 h6 h7 hb1 C1 C2
  go_wp2
  go_ret2
  exact HF.out

theorem div43 (a b : Option Addr) (ca cb : Nat) (za zb : List Int) (w : World) (ha : Lie w a za) (hb : Lie w b zb) (qa : Nt.Can za) (qb : Nt.Can zb) (hz : 0 < zb.length) (hm : za.length ≤ 90000) :
    Calls Try.prog 43 #[.slice a za.length ca, .slice b zb.length cb] w fun e w' => Divs w w' za zb two e := by
  by_cases hv : Nt.val za < Nt.val zb
  · exact div_less a b ca cb za zb w ha hb qa qb hm hv
  · match zb, hz with
    | [d], _ =>
      obtain ⟨bb, bo, rfl⟩ := lie_some hb (by simp)
      exact div_one a ca cb bb bo za d w ha hb qa qb hm (by omega)
    | d :: e :: r, _ => exact div_long a b ca cb r.length za (d :: e :: r) w ha hb qa qb (by simp) hm (by omega)

def three (x y : Value) : Value := .tuple #[x, y, .int .i64 0]
set_option maxHeartbeats 2000000 in
set_option maxRecDepth 100000 in
theorem quo27 (a b : Option Addr) (ca cb : Nat) (za zb : List Int) (w : World) (ha : Lie w a za) (hb : Lie w b zb) (ra : Nt.Rng za) (rb : Nt.Rng zb) (pa : mayB za = true) (pb : mayB zb = true) (hz : 0 < zb.length) :
    Calls Try.prog 27 #[.slice a za.length ca, .slice b zb.length cb] w fun e w' => Divs w w' za zb three e := by
  have la := (may_can ra pa).2
  have lb := (may_can rb pb).2
  have HM := Hide.mk (allMay_new a b ca cb za zb w ha hb (by unfold maxLen; omega) (by unfold maxLen; omega) true (by rw [pa, pb]; rfl))
  have HS := fun W (h : Below w.heap.size w W) => Hide.mk (div43 a b ca cb za zb W (ha.below h (Nat.le_refl _)) (hb.below h (Nat.le_refl _)) (may_can ra pa).1 (may_can rb pb).1 hz (by omega))
  have hne : ((zb.length : Int) == 0) = false := beq_eq_false_iff_ne.2 (by omega)
  clear ha hb ra rb pa pb
  go_enter Try.func27, Try.ntmps27
  go_wp2_with fail
  refine HM.out.mono ?_
  rintro e w' ⟨rfl, rfl⟩
  have hb1 := below_alloc w (.cells #[.slice a za.length ca, .slice b zb.length cb] 22)
  go_wp2_with fail
  refine (HS _ hb1).out.mono ?_
  rintro e w2 ⟨zq, zr, aq, cq, ar, cr, rfl, h1, h2, h3, h4, h5, h6, h7⟩
  have HF : Hide (Divs w w2 za zb three (.returned (three (.slice aq zq.length cq) (.slice ar zr.length cr)))) := ⟨⟨zq, zr, aq, cq, ar, cr, rfl, h1.mono hb1.size, h2.mono hb1.size, h3, h4, h5, h6, below_then hb1 h7⟩⟩
  clear h1 h2 h3 h4 h5 h6 h7 hb1 HM HS
  unfold two
  go_wp2
  go_ret3
  exact HF.out
set_option maxHeartbeats 2000000 in
set_option maxRecDepth 100000 in
theorem quo_zero (a b : Option Addr) (ca cb : Nat) (za : List Int) (w : World) (ha : Lie w a za) (hl : za.length ≤ maxLen) (pa : mayB za = true) :
    Calls Try.prog 27 #[.slice a za.length ca, .slice b 0 cb] w fun e w' => e = .returned (.tuple #[.slice none 0 0, .slice none 0 0, .int .i64 11]) ∧ Below w.heap.size w w' := by
  have HM := Hide.mk (allMay_new a b ca cb za [] w ha (.inl rfl) hl (by unfold maxLen; simp) true (by rw [pa]; rfl))
  clear ha pa
  go_enter Try.func27, Try.ntmps27
  go_wp2_with fail
  refine HM.out.mono ?_
  rintro e w' ⟨rfl, rfl⟩
  have hb1 := below_alloc w (.cells #[.slice a za.length ca, .slice b 0 cb] 22)
  go_wp2
  go_ret3
  exact ⟨rfl, hb1⟩
set_option maxHeartbeats 2000000 in
theorem quo_no (a b : Option Addr) (ca cb : Nat) (za zb : List Int) (w : World) (ha : Lie w a za) (hb : Lie w b zb) (la : za.length ≤ maxLen) (lb : zb.length ≤ maxLen) (hq : (mayB za && mayB zb) = false) :
    Calls Try.prog 27 #[.slice a za.length ca, .slice b zb.length cb] w fun e w' => e = .returned (.tuple #[.slice none 0 0, .slice none 0 0, .int .i64 2]) ∧ Below w.heap.size w w' := by
  have HM := Hide.mk (allMay_new a b ca cb za zb w ha hb la lb false hq)
  clear ha hb hq
  go_enter Try.func27, Try.ntmps27
  go_wp2_with fail
  refine HM.out.mono ?_
  rintro e w' ⟨rfl, rfl⟩
  have hb1 := below_alloc w (.cells #[.slice a za.length ca, .slice b zb.length cb] 22)
  go_wp2
  go_ret3
  exact ⟨rfl, hb1⟩
end Go.Proofs.Ytcjmamlffbhnlaa
