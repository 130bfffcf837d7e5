import Derived.Test.YtcjmamlffbhnlaaW3
namespace Go.Proofs.Ytcjmamlffbhnlaa
open Go.RowKit
set_option linter.unusedVariables false
theorem sgn_lt {x y : Int} (h : x < y) : sgn x y = -1 := by simp [sgn, h]
theorem sgn_gt {x y : Int} (h : y < x) : sgn x y = 1 := by simp [sgn, h]; omega
theorem sgn_eq {x y : Int} (h : x = y) : sgn x y = 0 := by simp [sgn, h]

theorem cmp_len {za zb : List Int} (ha : Nt.Can za) (hb : Nt.Can zb) (h : za.length ≠ zb.length) : sgn (Nt.val za) (Nt.val zb) = sgn (za.length : Int) (zb.length : Int) := by
  rcases Nat.lt_or_gt_of_ne h with c | c
  · rw [sgn_lt (Nt.can_lt ha hb c), sgn_lt (by omega)]
  · rw [sgn_gt (Nt.can_lt hb ha c), sgn_gt (by omega)]
theorem cmp_at {za zb : List Int} (ha : Nt.Rng za) (hb : Nt.Rng zb) (hl : za.length = zb.length) {p : Nat} (hp : p < za.length) (hj : ∀ j, p < j → za.getD j 0 = zb.getD j 0) (hne : za.getD p 0 ≠ zb.getD p 0) :
    sgn (Nt.val za) (Nt.val zb) = sgn (za.getD p 0) (zb.getD p 0) := by
  rcases Int.lt_or_gt_of_ne hne with c | c
  · rw [sgn_lt c, sgn_lt]
    have := Nt.cmp_lt ha hb hp (fun j h1 _ => hj j h1) c
    unfold Nt.val; rw [← hl]; exact this
  · rw [sgn_gt c, sgn_gt]
    have := Nt.cmp_lt hb ha hp (fun j h1 _ => (hj j h1).symm) c
    unfold Nt.val; rw [← hl]; exact this

set_option maxHeartbeats 1000000 in
theorem compare38 (a b : Option Addr) (ca cb : Nat) (za zb : List Int) (w : World) (ha : Lie w a za) (hb : Lie w b zb) (qa : Nt.Can za) (qb : Nt.Can zb) (hm : za.length ≤ maxLen) :
    Calls Try.prog 38 #[.slice a za.length ca, .slice b zb.length cb] w fun e w' => e = .returned (.int .i64 (sgn (Nt.val za) (Nt.val zb))) ∧ Below w.heap.size w w' := by
  unfold maxLen at hm
  by_cases hne : za.length = zb.length
  · have h1 : ((za.length : Int) != (zb.length : Int)) = false := by simp [hne]
    have hpast : ∀ j, za.length ≤ j → za.getD j 0 = zb.getD j 0 := fun j hj => by simp [List.getD_eq_getElem?_getD, List.getElem?_eq_none hj, List.getElem?_eq_none (show zb.length ≤ j by omega)]
    have HP := Hide.mk hpast
    have HL := Hide.mk hne
    have HA := Hide.mk ha
    have HB := Hide.mk hb
    have QA := Hide.mk qa
    have QB := Hide.mk qb
    clear hne ha hb qa qb hpast
    go_enter Try.func38, Try.ntmps38
    go_wp2
    go_loopw [19] (fun i wr => ∃ k : Nat, k ≤ za.length ∧ i = .int .i64 k ∧ (∀ j, za.length - k ≤ j → za.getD j 0 = zb.getD j 0) ∧ Below w.heap.size w wr) (fun i _ => za.length - (intOf i).toNat)
    case atStart => exact ⟨0, Nat.zero_le _, rfl, HP.out, Below.refl _ _⟩
    case round =>
      obtain ⟨k, hk, rfl, hsame, hbel⟩ := hrel
      have HS := Hide.mk hsame
      clear hsame
      by_cases hlt : k < za.length
      · rcases HA.out with rfl | ⟨ba, oa, rfl, hac⟩
        · simp at hlt
        rcases HB.out with rfl | ⟨bb, ob, rfl, hbc⟩
        · have := HL.out; simp only [List.length_nil] at this; omega
        obtain ⟨p, hp⟩ : ∃ p, za.length = k + 1 + p := ⟨za.length - k - 1, by omega⟩
        have hp1 : p < za.length := by omega
        have hlt2 : p < zb.length := by rw [← HL.out]; exact hp1
        have hca : wr.cell? ⟨ba, oa + p, none⟩ = some (.int .u32 (za.getD p 0)) := by
          have := hac p hp1
          rw [hbel.cell (World.block_lt_of_cell? w _ this)]; exact this
        have hcb : wr.cell? ⟨bb, ob + p, none⟩ = some (.int .u32 (zb.getD p 0)) := by
          have := hbc p hlt2
          rw [hbel.cell (World.block_lt_of_cell? w _ this)]; exact this
        have hpi : (za.length : Int) - 1 - (k : Int) = (p : Int) := by omega
        have HSp : Hide (∀ j, p < j → za.getD j 0 = zb.getD j 0) := ⟨fun j hj => HS.out j (by omega)⟩
        have HPk := Hide.mk hp
        clear hac hbc hp
        generalize hx : za.getD p 0 = x at *
        generalize hy : zb.getD p 0 = y at *
        have HX := Hide.mk hx
        have HY := Hide.mk hy
        clear hx hy
        by_cases hxy : x = y
        · have hb1 : (x != y) = false := by simp [hxy]
          have HXY := Hide.mk hxy
          clear hxy
          go_wp2
          go_region
          all_goals go_wp2
          go_roundw
          case rel =>
            refine ⟨k + 1, by omega, by go_num, fun j hj => ?_, hbel.drew⟩
            have hpk := HPk.out
            by_cases e : j = p
            · subst e; rw [HX.out, HY.out]; exact HXY.out
            · exact HSp.out j (by omega)
          case measure => simp [intOf]; omega
        · have hb1 : (x != y) = true := by simp [hxy]
          go_wp2
          have HR : Hide (sgn (Nt.val za) (Nt.val zb) = sgn x y) := ⟨by rw [cmp_at QA.out.1 QB.out.1 HL.out hp1 HSp.out (by rw [HX.out, HY.out]; exact hxy), HX.out, HY.out]⟩
          go_region
          all_goals go_wp2
          go_region_with (go_at_call 52; refine (cmp52 _ _ _).mono ?_; rintro e w' ⟨rfl, rfl⟩)
          all_goals go_wp2
          all_goals go_ret
          all_goals exact ⟨by rw [HR.out]; rfl, hbel.drew.drew⟩
      · go_wp2
        go_ret
        refine ⟨?_, hbel⟩
        have : za = zb := getD_eq_of_same (fun j hj => HS.out j (by omega)) HL.out
        rw [this, sgn_eq rfl]; rfl
  · have h1 : ((za.length : Int) != (zb.length : Int)) = true := by simp; omega
    rw [cmp_len qa qb hne]
    go_enter Try.func38, Try.ntmps38
    go_wp2_with (go_at_call 51; refine (cmp51 _ _ _).mono ?_; rintro e w' ⟨rfl, rfl⟩)
    go_ret
    exact ⟨rfl, Below.refl _ _⟩
end Go.Proofs.Ytcjmamlffbhnlaa
