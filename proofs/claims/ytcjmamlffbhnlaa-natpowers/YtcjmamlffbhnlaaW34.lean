import Derived.Test.YtcjmamlffbhnlaaW33
namespace Go.Proofs.Ytcjmamlffbhnlaa
open Go.RowKit
set_option linter.unusedVariables false
/-- 2^64, kept from the walk. -/
def twoW : Int := 18446744073709551616
theorem twoW_eq : twoW = 18446744073709551616 := rfl
theorem wrap_over {l p : Int} (h0 : 0 ≤ l) (h1 : l < twoW) (p0 : 0 ≤ p) (p1 : p < twoW) (h : twoW ≤ l + p) : ∃ l2, IntKind.u64.wrap (l + p) = l2 ∧ l2 = l + p - twoW ∧ 0 ≤ l2 ∧ l2 < p ∧ l2 < twoW := by
  refine ⟨_, rfl, ?_⟩
  rw [wrap_u64_mod]
  unfold twoW at *
  omega
theorem or_col (l h : Int) (h0 : 0 ≤ l) (h1 : l < twoW) (k0 : 0 ≤ h) (k1 : h ≤ 1000000) : bits .or .u64 (l / 4294967296) (h * 4294967296) = l / 4294967296 + 4294967296 * h := or64_join _ _ (by omega) (by unfold twoW at h1; omega) k0 (by omega)

set_option maxHeartbeats 8000000 in
theorem refMul28 (a b : Option Addr) (ca cb : Nat) (za zb : List Int) (w : World) (ha : Lie w a za) (hb : Lie w b zb) (ra : Nt.Rng za) (rb : Nt.Rng zb) (hpa : 0 < za.length) (hpb : 0 < zb.length) (hna : za.length ≤ 100000) (hnb : zb.length ≤ 100000) :
    Calls Try.prog 28 #[.slice a za.length ca, .slice b zb.length cb] w fun e w' => ∃ zs a' c, e = .returned (.slice a' zs.length c) ∧ Own w.heap.size w' (.slice a' zs.length c) zs ∧ Nt.Can zs ∧ Nt.val zs = Nt.val za * Nt.val zb ∧ Below w.heap.size w w' := by
  obtain ⟨ba, oa, rfl⟩ := lie_some ha hpa
  obtain ⟨bb, ob, rfl⟩ := lie_some hb hpb
  have HA := Hide.mk ha
  have HB := Hide.mk hb
  have RA := Hide.mk ra
  have RB := Hide.mk rb
  have hz1 : ((za.length : Int) == 0) = false := beq_eq_false_iff_ne.2 (by omega)
  have hz2 : ((zb.length : Int) == 0) = false := beq_eq_false_iff_ne.2 (by omega)
  clear ha hb ra rb
  go_enter Try.func28, Try.ntmps28
  go_wp2
  go_loopw [5, 6, 7, 8] (fun v lo hi i wr => ∃ (s : List Int) (l : Int), s.length ≤ za.length + zb.length ∧ i = .int .i64 (s.length : Int) ∧ lo = .int .u64 l ∧ hi = .int .u64 0 ∧ 0 ≤ l ∧ l ≤ 429501024600000 ∧ Hide (Own w.heap.size wr v s) ∧ Hide (MulInv za zb s l) ∧ Below w.heap.size w wr) (fun _ _ _ i _ => za.length + zb.length - (intOf i).toNat)
  case atStart => exact ⟨[], 0, Nat.zero_le _, rfl, rfl, rfl, by decide, by decide, ⟨Own.nil _ _⟩, ⟨⟨Nt.rng_nil, by simp [Nt.vp, cols], by decide⟩⟩, Below.refl _ _⟩
  case round =>
    obtain ⟨s, l, hk, rfl, rfl, rfl, hl0, hl1, HO, HI, hbel⟩ := hrel
    by_cases hlt : s.length < za.length + zb.length
    · -- the first term of the column
      obtain ⟨fr, hfr, hfz⟩ : ∃ fr : Nat, (fr : Int) = (if zb.length ≤ s.length then (s.length : Int) - zb.length + 1 else 0) ∧ colp za zb s.length fr = 0 := by
        by_cases c : zb.length ≤ s.length
        · exact ⟨s.length - zb.length + 1, by rw [if_pos c]; omega, colp_zero za zb s.length _ (by omega)⟩
        · exact ⟨0, by rw [if_neg c]; rfl, rfl⟩
      have hstep := fun t => Hide.mk (fun h1 h2 => HI.out.step (t := t) h1 h2)
      have hC := Hide.mk (colp_bd RA.out RB.out s.length)
      have hstop := Hide.mk (colp_stop za zb s.length)
      generalize hn : s.length = n at *
      have HN := Hide.mk hn
      have HFZ := Hide.mk hfz
      have hfb : fr ≤ n + 1 ∧ fr ≤ za.length := by split at hfr <;> omega
      have hlti : (n : Int) < (za.length : Int) + (zb.length : Int) := by omega
      clear hn hfz HI
      by_cases hc : zb.length ≤ n
      · rw [if_pos hc] at hfr
        have hfi : (n : Int) - (zb.length : Int) + 1 = (fr : Int) := hfr.symm
        clear hfr
        go_wp2
        go_loopw [6, 7, 10] (fun lo hi iv wr2 => ∃ (i : Nat) (l2 h2 : Int), fr ≤ i ∧ i ≤ n + 1 ∧ i ≤ za.length ∧ iv = .int .i64 i ∧ lo = .int .u64 l2 ∧ hi = .int .u64 h2 ∧ 0 ≤ l2 ∧ l2 < twoW ∧ 0 ≤ h2 ∧ h2 ≤ (i : Int) ∧ Hide (l2 + h2 * twoW = l + colp za zb n i) ∧ Below w.heap.size w wr2 ∧ Hide (Own w.heap.size wr2 u5 s)) (fun _ _ iv _ => n + 1 - (intOf iv).toNat)
        case atStart => exact ⟨fr, l, 0, Nat.le_refl _, hfb.1, hfb.2, rfl, rfl, rfl, hl0, by unfold twoW; omega, by decide, by omega, ⟨by rw [HFZ.out]; omega⟩, hbel, HO⟩
        case round =>
          obtain ⟨i, l2, h2, hi0, hi1, hi2, rfl, rfl, rfl, hl20, hl21, hh0, hh1, HE, hbel2, HO2⟩ := hrel
          clear HO hbel
          by_cases hgo : i ≤ n ∧ i < za.length
          · obtain ⟨hin, hia⟩ := hgo
            have hib : n - i < zb.length := by omega
            have hini : (n : Int) - (i : Int) = ((n - i : Nat) : Int) := by omega
            have hca := lie_cell (HA.out.below hbel2 (Nat.le_refl _)) rfl hia
            have hcb : wr.cell? ⟨bb, ob + (n - i), none⟩ = _ := lie_cell (HB.out.below hbel2 (Nat.le_refl _)) rfl (i := n - i) hib
            have hra := RA.out i
            have hrb := RB.out (n - i)
            have HE2 : Hide (∀ x y, x = za.getD i 0 → y = zb.getD (n - i) 0 → l + colp za zb n (i + 1) = l2 + h2 * twoW + x * y) := ⟨fun x y hx hy => by rw [colp, ← hx, ← hy]; have := HE.out; omega⟩
            clear HE
            generalize hx : za.getD i 0 = x at *
            generalize hy : zb.getD (n - i) 0 = y at *
            have HXY := Hide.mk (HE2.out x y rfl rfl)
            clear HE2 hx hy
            generalize hni : n - i = ni at *
            have HNI := Hide.mk hni
            clear hni
            have hpb := mul_bd hra.1 hra.2 hrb.1 hrb.2
            by_cases hov : l2 + x * y < twoW
            · have hov2 : l2 + x * y ≤ 18446744073709551615 := by unfold twoW at hov; omega
              go_wp2
              go_region
              all_goals go_wp2
              go_roundw
              case rel => exact ⟨i + 1, _, _, by omega, by omega, by omega, by go_num, rfl, rfl, by omega, hov, hh0, by omega, ⟨by rw [HXY.out]; omega⟩, hbel2.drew, ⟨HO2.out.below (Below.refl _ _).drew (Nat.le_refl _)⟩⟩
              case measure => simp [intOf]; omega
            · obtain ⟨l3, hw, hl3, hl30, hl3p, hl3w⟩ := wrap_over (p := x * y) hl20 hl21 hpb.1 (by unfold twoW; omega) (by omega)
              have HL3 := Hide.mk hl3
              clear hl3
              have hhb : h2 ≤ 100000 := by omega
              go_wp2
              go_region
              all_goals go_wp2
              go_roundw
              case rel => exact ⟨i + 1, _, _, by omega, by omega, by omega, by go_num, rfl, rfl, hl30, hl3w, by omega, by omega, ⟨by rw [HXY.out, HL3.out, Int.add_mul]; omega⟩, hbel2.drew, ⟨HO2.out.below (Below.refl _ _).drew (Nat.le_refl _)⟩⟩
              case measure => simp [intOf]; omega
          · have hcol : Hide (l2 + h2 * twoW = l + colp za zb n (n + 1)) := ⟨by
              rw [HE.out]
              by_cases c : i = n + 1
              · rw [c]
              · rw [hstop.out i (n + 1) (by omega) hi1]⟩
            have hcb1 := hC.out (n + 1)
            have hcb2 := hC.out i
            have hcol2 := hcol.out
            have hcol3 := HE.out
            have hB1 : l + colp za zb n (n + 1) ≤ 429501024600000 + 100000 * 18446744065119617025 := by
              have : (i : Int) * 18446744065119617025 ≤ 100000 * 18446744065119617025 := Int.mul_le_mul_of_nonneg_right (by omega) (by decide)
              omega
            have hacc0 : 0 ≤ l + colp za zb n (n + 1) := by omega
            have HS := Hide.mk ((hstep (l + colp za zb n (n + 1))).out rfl hacc0)
            have em : (l + colp za zb n (n + 1)) % 4294967296 = l2 % 4294967296 := by rw [← hcol2]; unfold twoW; omega
            have ed : (l + colp za zb n (n + 1)) / 4294967296 = l2 / 4294967296 + 4294967296 * h2 := by rw [← hcol2]; unfold twoW; omega
            have hnew : l2 / 4294967296 + 4294967296 * h2 ≤ 429501024600000 := by rw [← ed]; omega
            rw [em, ed] at HS
            have hor := or_col l2 h2 hl20 hl21 hh0 (by omega)
            have hl2b : l2 ≤ 18446744073709551615 := by unfold twoW at hl21; omega
            have hlu : l2 / 4294967296 < 4294967296 := by omega
            have hgo2 : (n : Int) < (i : Int) ∨ ((i : Int) ≤ (n : Int) ∧ (za.length : Int) ≤ (i : Int)) := by omega
            clear hcb1 hcb2 hcol2 hcol3 hcol HE hB1 hacc0 em ed hl21 hC hstop hstep
            rcases hgo2 with hgo2 | ⟨hgo2, hgo3⟩
            all_goals
              go_wp2_with (at_builtin; refine app1 rfl (.tmp 71) (.tmp 74) rfl w.heap.size _ s (l2 % 4294967296) wr.heap.size rfl rfl (own_alloc HO2.out _) (cell_new1 _ _) (by have := HN.out; omega) (by have := hbel2.size; simp; omega) ?_; intro v2 w2 hown2 hgrow)
              have hb3 := own_push HO2.out hgrow hbel2 (by have := hbel2.size; omega)
              have HO3 := Hide.mk hown2
              clear hown2 hgrow
              go_wp2
              go_roundw
              case rel => exact ⟨_, _, by rw [List.length_append, List.length_singleton, HN.out]; omega, by rw [List.length_append, List.length_singleton, HN.out]; go_num, rfl, by go_num, by omega, hnew, HO3, HS, hb3⟩
              case measure => simp [intOf]; omega
      · rw [if_neg hc] at hfr
        have hf0 : fr = 0 := by omega
        subst hf0
        clear hfr
        go_wp2
        go_loopw [6, 7, 10] (fun lo hi iv wr2 => ∃ (i : Nat) (l2 h2 : Int), 0 ≤ i ∧ i ≤ n + 1 ∧ i ≤ za.length ∧ iv = .int .i64 i ∧ lo = .int .u64 l2 ∧ hi = .int .u64 h2 ∧ 0 ≤ l2 ∧ l2 < twoW ∧ 0 ≤ h2 ∧ h2 ≤ (i : Int) ∧ Hide (l2 + h2 * twoW = l + colp za zb n i) ∧ Below w.heap.size w wr2 ∧ Hide (Own w.heap.size wr2 u5 s)) (fun _ _ iv _ => n + 1 - (intOf iv).toNat)
        case atStart => exact ⟨0, l, 0, Nat.le_refl _, hfb.1, hfb.2, rfl, rfl, rfl, hl0, by unfold twoW; omega, by decide, by omega, ⟨by rw [HFZ.out]; omega⟩, hbel, HO⟩
        case round =>
          obtain ⟨i, l2, h2, hi0, hi1, hi2, rfl, rfl, rfl, hl20, hl21, hh0, hh1, HE, hbel2, HO2⟩ := hrel
          clear HO hbel
          by_cases hgo : i ≤ n ∧ i < za.length
          · obtain ⟨hin, hia⟩ := hgo
            have hib : n - i < zb.length := by omega
            have hini : (n : Int) - (i : Int) = ((n - i : Nat) : Int) := by omega
            have hca := lie_cell (HA.out.below hbel2 (Nat.le_refl _)) rfl hia
            have hcb : wr.cell? ⟨bb, ob + (n - i), none⟩ = _ := lie_cell (HB.out.below hbel2 (Nat.le_refl _)) rfl (i := n - i) hib
            have hra := RA.out i
            have hrb := RB.out (n - i)
            have HE2 : Hide (∀ x y, x = za.getD i 0 → y = zb.getD (n - i) 0 → l + colp za zb n (i + 1) = l2 + h2 * twoW + x * y) := ⟨fun x y hx hy => by rw [colp, ← hx, ← hy]; have := HE.out; omega⟩
            clear HE
            generalize hx : za.getD i 0 = x at *
            generalize hy : zb.getD (n - i) 0 = y at *
            have HXY := Hide.mk (HE2.out x y rfl rfl)
            clear HE2 hx hy
            generalize hni : n - i = ni at *
            have HNI := Hide.mk hni
            clear hni
            have hpb := mul_bd hra.1 hra.2 hrb.1 hrb.2
            by_cases hov : l2 + x * y < twoW
            · have hov2 : l2 + x * y ≤ 18446744073709551615 := by unfold twoW at hov; omega
              go_wp2
              go_region
              all_goals go_wp2
              go_roundw
              case rel => exact ⟨i + 1, _, _, by omega, by omega, by omega, by go_num, rfl, rfl, by omega, hov, hh0, by omega, ⟨by rw [HXY.out]; omega⟩, hbel2.drew, ⟨HO2.out.below (Below.refl _ _).drew (Nat.le_refl _)⟩⟩
              case measure => simp [intOf]; omega
            · obtain ⟨l3, hw, hl3, hl30, hl3p, hl3w⟩ := wrap_over (p := x * y) hl20 hl21 hpb.1 (by unfold twoW; omega) (by omega)
              have HL3 := Hide.mk hl3
              clear hl3
              have hhb : h2 ≤ 100000 := by omega
              go_wp2
              go_region
              all_goals go_wp2
              go_roundw
              case rel => exact ⟨i + 1, _, _, by omega, by omega, by omega, by go_num, rfl, rfl, hl30, hl3w, by omega, by omega, ⟨by rw [HXY.out, HL3.out, Int.add_mul]; omega⟩, hbel2.drew, ⟨HO2.out.below (Below.refl _ _).drew (Nat.le_refl _)⟩⟩
              case measure => simp [intOf]; omega
          · have hcol : Hide (l2 + h2 * twoW = l + colp za zb n (n + 1)) := ⟨by
              rw [HE.out]
              by_cases c : i = n + 1
              · rw [c]
              · rw [hstop.out i (n + 1) (by omega) hi1]⟩
            have hcb1 := hC.out (n + 1)
            have hcb2 := hC.out i
            have hcol2 := hcol.out
            have hcol3 := HE.out
            have hB1 : l + colp za zb n (n + 1) ≤ 429501024600000 + 100000 * 18446744065119617025 := by
              have : (i : Int) * 18446744065119617025 ≤ 100000 * 18446744065119617025 := Int.mul_le_mul_of_nonneg_right (by omega) (by decide)
              omega
            have hacc0 : 0 ≤ l + colp za zb n (n + 1) := by omega
            have HS := Hide.mk ((hstep (l + colp za zb n (n + 1))).out rfl hacc0)
            have em : (l + colp za zb n (n + 1)) % 4294967296 = l2 % 4294967296 := by rw [← hcol2]; unfold twoW; omega
            have ed : (l + colp za zb n (n + 1)) / 4294967296 = l2 / 4294967296 + 4294967296 * h2 := by rw [← hcol2]; unfold twoW; omega
            have hnew : l2 / 4294967296 + 4294967296 * h2 ≤ 429501024600000 := by rw [← ed]; omega
            rw [em, ed] at HS
            have hor := or_col l2 h2 hl20 hl21 hh0 (by omega)
            have hl2b : l2 ≤ 18446744073709551615 := by unfold twoW at hl21; omega
            have hlu : l2 / 4294967296 < 4294967296 := by omega
            have hgo2 : (n : Int) < (i : Int) ∨ ((i : Int) ≤ (n : Int) ∧ (za.length : Int) ≤ (i : Int)) := by omega
            clear hcb1 hcb2 hcol2 hcol3 hcol HE hB1 hacc0 em ed hl21 hC hstop hstep
            rcases hgo2 with hgo2 | ⟨hgo2, hgo3⟩
            all_goals
              go_wp2_with (at_builtin; refine app1 rfl (.tmp 71) (.tmp 74) rfl w.heap.size _ s (l2 % 4294967296) wr.heap.size rfl rfl (own_alloc HO2.out _) (cell_new1 _ _) (by have := HN.out; omega) (by have := hbel2.size; simp; omega) ?_; intro v2 w2 hown2 hgrow)
              have hb3 := own_push HO2.out hgrow hbel2 (by have := hbel2.size; omega)
              have HO3 := Hide.mk hown2
              clear hown2 hgrow
              go_wp2
              go_roundw
              case rel => exact ⟨_, _, by rw [List.length_append, List.length_singleton, HN.out]; omega, by rw [List.length_append, List.length_singleton, HN.out]; go_num, rfl, by go_num, by omega, hnew, HO3, HS, hb3⟩
              case measure => simp [intOf]; omega
    · have hl : s.length = za.length + zb.length := by omega
      have hv := HI.out.done RA.out RB.out hl
      have HR := Hide.mk HI.out.rng
      obtain ⟨a2, c2, hve, h1, h2, hl2⟩ := HO.out.lie
      have HT := Hide.mk (trim36 a2 c2 s wr hl2 h1 h2)
      have HV := Hide.mk hv
      have HVE := Hide.mk hve
      have HLN := Hide.mk hl
      clear hv h1 h2 hl2 HI hl
      rw [hve]
      clear hve
      go_wp2_with fail
      refine HT.out.mono ?_
      rintro e w' ⟨rfl, m, hm, rfl, hz, hd⟩
      have HG : Hide (∃ zs a' c, Value.slice a2 m c2 = .slice a' zs.length c ∧ Own w.heap.size wr (.slice a' zs.length c) zs ∧ Nt.Can zs ∧ Nt.val zs = Nt.val za * Nt.val zb) := ⟨by
        have hl : (s.take m).length = m := by simp only [List.length_take]; omega
        have ho := HO.out
        rw [HVE.out] at ho
        exact ⟨s.take m, a2, c2, by rw [hl], by rw [hl]; exact own_take ho hm, Nt.can_take HR.out hm hd, by rw [Nt.val_take hz hm]; exact HV.out⟩⟩
      clear hz hd hm HT HO
      go_wp2
      go_ret
      obtain ⟨zs, a', c, h1, h2, h3, h4⟩ := HG.out
      exact ⟨zs, a', c, congrArg Ending.returned h1, h2, h3, h4, hbel⟩
end Go.Proofs.Ytcjmamlffbhnlaa
