import Derived.Test.YtcjmamlffbhnlaaW8
namespace Go.Proofs.Ytcjmamlffbhnlaa
open Go.RowKit
set_option linter.unusedVariables false
theorem may_can {za : List Int} (hr : Nt.Rng za) (h : mayB za = true) : Nt.Can za ∧ za.length ≤ 4096 := by
  simp only [mayB, Bool.or_eq_true, beq_iff_eq, Bool.and_eq_true, decide_eq_true_eq, bne_iff_ne] at h
  rcases h with h | ⟨h1, h2⟩
  · exact ⟨⟨hr, fun c => absurd h c⟩, by omega⟩
  · exact ⟨⟨hr, fun _ => h2⟩, h1⟩
theorem can_may {za : List Int} (h : Nt.Can za) (hl : za.length ≤ 4096) : mayB za = true := by
  simp only [mayB, Bool.or_eq_true, beq_iff_eq, Bool.and_eq_true, decide_eq_true_eq, bne_iff_ne]
  by_cases c : za.length = 0
  · exact .inl c
  · exact .inr ⟨hl, h.2 c⟩

theorem allMay_new (a b : Option Addr) (ca cb : Nat) (za zb : List Int) (w : World) (ha : Lie w a za) (hb : Lie w b zb) (la : za.length ≤ maxLen) (lb : zb.length ≤ maxLen) (q : Bool) (hq : (mayB za && mayB zb) = q) :
    Calls Try.prog 37 #[.slice (some ⟨w.heap.size, 0, none⟩) 2 2] (w.alloc (.cells #[.slice a za.length ca, .slice b zb.length cb] 22)) fun e w' => e = .returned (.bool q) ∧ w.alloc (.cells #[.slice a za.length ca, .slice b zb.length cb] 22) = w' := by
  have hn := heap_alloc_new w (.cells #[.slice a za.length ca, .slice b zb.length cb] 22)
  have c0 := cell_of_row _ w.heap.size 0 _ 22 (0, 0) hn
  have c1 := cell_of_row _ w.heap.size 1 _ 22 (0, 0) hn
  rw [← hq]
  exact allMay37 w.heap.size a b ca cb za zb _ c0 c1 (ha.below (below_alloc _ _) (Nat.le_refl _)) (hb.below (below_alloc _ _) (Nat.le_refl _)) la lb

/-- What Add, Mul answer: a number that is not too long, or ErrLong. -/
def Told (w : World) (x : Int) (e : Ending) (w' : World) : Prop := ∃ zs, Nt.Can zs ∧ Nt.val zs = x ∧ Below w.heap.size w w' ∧
      ((zs.length ≤ 4096 ∧ ∃ v, e = .returned (.tuple #[v, .int .i64 0]) ∧ Own w.heap.size w' v zs) ∨ (4096 < zs.length ∧ e = .returned (.tuple #[.slice none 0 0, .int .i64 3])))

set_option maxHeartbeats 1000000 in
set_option maxRecDepth 100000 in
theorem add20 (a b : Option Addr) (ca cb : Nat) (za zb : List Int) (w : World) (ha : Lie w a za) (hb : Lie w b zb) (ra : Nt.Rng za) (rb : Nt.Rng zb) (pa : mayB za = true) (pb : mayB zb = true) :
    Calls Try.prog 20 #[.slice a za.length ca, .slice b zb.length cb] w fun e w' => Told w (Nt.val za + Nt.val zb) e w' := by
  have la := (may_can ra pa).2
  have lb := (may_can rb pb).2
  have HM := Hide.mk (allMay_new a b ca cb za zb w ha hb (by unfold maxLen; omega) (by unfold maxLen; omega) true (by rw [pa, pb]; rfl))
  have HS := fun W (h : Below w.heap.size w W) => Hide.mk (sum40 a b ca cb za zb W (ha.below h (Nat.le_refl _)) (hb.below h (Nat.le_refl _)) ra rb (by omega) (by omega))
  clear ha hb ra rb pa pb la lb
  go_enter Try.func20, Try.ntmps20
  go_wp2_with fail
  refine HM.out.mono ?_
  rintro e w' ⟨rfl, rfl⟩
  have hb1 := below_alloc w (.cells #[.slice a za.length ca, .slice b zb.length cb] 22)
  go_wp2_with fail
  refine (HS _ hb1).out.mono ?_
  rintro e w2 ⟨v, zs, rfl, hown, hcan, hval, hbel⟩
  have HO := Hide.mk (hown.mono hb1.size)
  have HL := Hide.mk (below_then hb1 hbel)
  obtain ⟨a2, c2, hv, h1, h2, _⟩ := hown.lie
  clear hbel hown hb1
  have HC := Hide.mk hcan
  have HV := Hide.mk hval
  have HE := Hide.mk hv
  clear hcan hval
  rw [hv]
  clear hv h2 HM HS
  by_cases hz : zs.length ≤ 4096
  · have hz' : ((zs.length : Nat) : Int) ≤ 4096 := by omega
    go_wp2_with fail
    refine (notLong39 _ _ _ _ hz).mono ?_
    rintro e w' ⟨rfl, rfl⟩
    go_wp2
    go_ret2
    exact ⟨zs, HC.out, HV.out, HL.out, .inl ⟨hz, _, rfl, by rw [← HE.out]; exact HO.out⟩⟩
  · go_wp2_with fail
    refine (notLong39_no _ _ _ _ (by omega)).mono ?_
    rintro e w' ⟨rfl, rfl⟩
    go_wp2
    go_ret2
    exact ⟨zs, HC.out, HV.out, HL.out, .inr ⟨by omega, rfl⟩⟩
end Go.Proofs.Ytcjmamlffbhnlaa
