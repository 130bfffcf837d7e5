import Derived.Test.YtcjmamlffbhnlaaW14
namespace Go.Proofs.Ytcjmamlffbhnlaa
open Go.RowKit
set_option linter.unusedVariables false
set_option maxHeartbeats 1000000 in
theorem refCmp22 (a b : Option Addr) (ca cb : Nat) (za zb : List Int) (w : World) (ha : Lie w a za) (hb : Lie w b zb) (qa : Nt.Can za) (qb : Nt.Can zb) (hm : za.length ≤ maxLen) :
    Calls Try.prog 22 #[.slice a za.length ca, .slice b zb.length cb] w fun e w' => e = .returned (.int .i64 (sgn (Nt.val za) (Nt.val zb))) ∧ Below w.heap.size w w' := by
  unfold maxLen at hm
  by_cases hne : za.length = zb.length
  · have h1 : ((za.length : Int) != (zb.length : Int)) = false := by simp [hne]
    have hpast : ∀ j, za.length ≤ j → za.getD j 0 = zb.getD j 0 := fun j hj => by simp [List.getD_eq_getElem?_getD, List.getElem?_eq_none hj, List.getElem?_eq_none (show zb.length ≤ j by omega)]
    have HP := Hide.mk hpast
    have HL := Hide.mk hne
    have HA := Hide.mk ha
    have HB := Hide.mk hb
    have QA := Hide.mk qa
    have QB := Hide.mk qb
    clear hne ha hb qa qb hpast
    go_enter Try.func22, Try.ntmps22
    go_wp2
    go_loopw [5] (fun i wr => ∃ k : Nat, k ≤ za.length ∧ i = .int .i64 ((k : Int) - 1) ∧ (∀ j, k ≤ j → za.getD j 0 = zb.getD j 0) ∧ Below w.heap.size w wr) (fun i _ => (intOf i + 1).toNat)
    case atStart => exact ⟨za.length, Nat.le_refl _, rfl, HP.out, Below.refl _ _⟩
    case round =>
      obtain ⟨k, hk, rfl, hsame, hbel⟩ := hrel
      have HS := Hide.mk hsame
      clear hsame
      cases k with
      | succ p =>
        have hp1 : p < za.length := by omega
        obtain ⟨ba, oa, rfl⟩ := lie_some HA.out (by omega)
        obtain ⟨bb, ob, rfl⟩ := lie_some HB.out (by rw [← HL.out]; omega)
        have hlt2 : p < zb.length := by rw [← HL.out]; exact hp1
        have hca : wr.cell? ⟨ba, oa + p, none⟩ = some (.int .u32 (za.getD p 0)) := lie_cell (HA.out.below hbel (Nat.le_refl _)) rfl hp1
        have hcb : wr.cell? ⟨bb, ob + p, none⟩ = some (.int .u32 (zb.getD p 0)) := lie_cell (HB.out.below hbel (Nat.le_refl _)) rfl hlt2
        have hpi : ((p + 1 : Nat) : Int) - 1 = (p : Int) := by omega
        rw [hpi]
        have HR : Hide (za.getD p 0 ≠ zb.getD p 0 → sgn (Nt.val za) (Nt.val zb) = sgn (za.getD p 0) (zb.getD p 0)) := ⟨fun hne => cmp_at QA.out.1 QB.out.1 HL.out hp1 (fun j hj => HS.out j (by omega)) hne⟩
        clear hpi
        generalize hx : za.getD p 0 = x at *
        generalize hy : zb.getD p 0 = y at *
        have HX := Hide.mk hx
        have HY := Hide.mk hy
        clear hx hy
        rcases Int.lt_trichotomy x y with hxy | hxy | hxy
        · go_wp2
          go_region
          all_goals go_wp2
          all_goals go_ret
          all_goals exact ⟨by rw [HR.out (by omega), sgn_lt hxy]; rfl, hbel.drew⟩
        · have h1 : ¬ x < y := by omega
          have h2 : ¬ y < x := by omega
          have HXY := Hide.mk hxy
          clear hxy
          go_wp2
          go_region
          all_goals go_wp2
          go_region
          all_goals go_wp2
          go_roundw
          case rel =>
            refine ⟨p, by omega, rfl, fun j hj => ?_, hbel.drew.drew⟩
            by_cases e : j = p
            · subst e; rw [HX.out, HY.out]; exact HXY.out
            · exact HS.out j (by omega)
          case measure => simp [intOf]; try omega
        · have h1 : ¬ x < y := by omega
          go_wp2
          go_region
          all_goals go_wp2
          go_region
          all_goals go_wp2
          all_goals go_ret
          all_goals exact ⟨by rw [HR.out (by omega), sgn_gt hxy]; rfl, hbel.drew.drew⟩
      | zero =>
        go_wp2
        go_ret
        refine ⟨?_, hbel⟩
        have : za = zb := getD_eq_of_same (fun j hj => HS.out j (by omega)) HL.out
        rw [this, sgn_eq rfl]; rfl
  · have h1 : ((za.length : Int) != (zb.length : Int)) = true := by simp; omega
    rw [cmp_len qa qb hne]
    by_cases hlt : za.length < zb.length
    · rw [sgn_lt (by omega)]
      go_enter Try.func22, Try.ntmps22
      go_wp2
      go_ret
      exact ⟨rfl, Below.refl _ _⟩
    · rw [sgn_gt (by omega)]
      go_enter Try.func22, Try.ntmps22
      go_wp2
      go_ret
      exact ⟨rfl, Below.refl _ _⟩

theorem getD_append_lt {s : List Int} {x : Int} {j : Nat} (h : j < s.length) : (s ++ [x]).getD j 0 = s.getD j 0 := by
  simp [List.getD_eq_getElem?_getD, List.getElem?_append, h]
theorem getD_append_at {s : List Int} {x : Int} : (s ++ [x]).getD s.length 0 = x := by
  simp [List.getD_eq_getElem?_getD]
theorem vp_snoc (s : List Int) (x : Int) : Nt.vp (s ++ [x]) (s.length + 1) = Nt.vp s s.length + x * 4294967296 ^ s.length := by
  rw [Nt.vp_step, getD_append_at, Nt.vp_congr (fun j hj => getD_append_lt hj)]
theorem rng_snoc {s : List Int} {x : Int} (h : Nt.Rng s) (h0 : 0 ≤ x) (h1 : x < 4294967296) : Nt.Rng (s ++ [x]) := by
  intro k
  by_cases c : k < s.length
  · rw [getD_append_lt c]; exact h k
  · by_cases e : k = s.length
    · subst e; rw [getD_append_at]; exact ⟨h0, h1⟩
    · have : (s ++ [x]).getD k 0 = 0 := by
        simp only [List.getD_eq_getElem?_getD]
        rw [List.getElem?_eq_none (by simp; omega)]; rfl
      rw [this]; decide
theorem getD_past {s : List Int} {j : Nat} (h : s.length ≤ j) : s.getD j 0 = 0 := by
  simp [List.getD_eq_getElem?_getD, List.getElem?_eq_none h]

/-- After as many rounds of the reference's Add as s has digits. -/
structure RefAddInv (za zb s : List Int) (c : Int) : Prop where
  rng : Nt.Rng s
  eq : Nt.vp s s.length + c * 4294967296 ^ s.length = Nt.vp za s.length + Nt.vp zb s.length
theorem RefAddInv.step {za zb s : List Int} {c : Int} (h : RefAddInv za zb s c) (t : Int) (ht : t = c + za.getD s.length 0 + zb.getD s.length 0) :
    RefAddInv za zb (s ++ [t % 4294967296]) (t / 4294967296) := by
  refine ⟨rng_snoc h.rng (by omega) (by omega), ?_⟩
  have e := h.eq
  have hn : t % 4294967296 + t / 4294967296 * 4294967296 = t := by omega
  rw [List.length_append, List.length_singleton, vp_snoc, Nt.vp_step, Nt.vp_step, Nt.pw_succ]
  generalize t % 4294967296 = n at *
  generalize t / 4294967296 = c' at *
  generalize (4294967296 : Int) ^ s.length = P at *
  grind

theorem cell_new1 (w : World) (u : Value) : (w.alloc (.cells #[u] 49)).cell? ⟨w.heap.size, 0, none⟩ = some u := by
  rw [cell_of_row _ w.heap.size 0 _ 49 (0, 0) (heap_alloc_new w _)]; rfl
theorem own_push {B : Nat} {w0 w w' : World} {v : Value} {s : List Int} {o : Obj} (hown : Own B w v s) (hg : (w.alloc o).grownBy w' v.ownBlock) (hb : Below B w0 w) (hB : B ≤ w.heap.size) : Below B w0 w' :=
  own_grown (own_alloc hown o) hg (hb.alloc hB o) (by simp; omega)

theorem own_take {B : Nat} {w : World} {a : Option Addr} {n c m : Nat} {zs : List Int} (h : Own B w (.slice a n c) zs) (hm : m ≤ zs.length) : Own B w (.slice a m c) (zs.take m) := by
  have hl : (zs.take m).length = m := by simp; omega
  have h1 := h.1
  rcases h.2 with ⟨hv, h0⟩ | ⟨g, cap, cur, hv, hB, hg, hn, hcm, hsz, ht⟩
  · simp only [Value.slice.injEq] at hv
    obtain ⟨rfl, rfl, rfl⟩ := hv
    have : m = 0 := by omega
    subst this
    simpa using Own.nil B w
  · simp only [Value.slice.injEq] at hv
    obtain ⟨rfl, rfl, rfl⟩ := hv
    refine ⟨by simp, .inr ⟨g, c, cur, by rw [hl], hB, hg, by omega, hcm, hsz, ?_⟩⟩
    rw [hl, List.map_take, ← ht, List.take_take]
    congr 1
    omega

set_option maxHeartbeats 2000000 in
theorem refAdd23 (a b : Option Addr) (ca cb : Nat) (za zb : List Int) (w : World) (ha : Lie w a za) (hb : Lie w b zb) (ra : Nt.Rng za) (rb : Nt.Rng zb) (hna : za.length ≤ 100000) (hnb : zb.length ≤ 100000) :
    Calls Try.prog 23 #[.slice a za.length ca, .slice b zb.length cb] w fun e w' => ∃ zs a' c, e = .returned (.slice a' zs.length c) ∧ Own w.heap.size w' (.slice a' zs.length c) zs ∧ Nt.Can zs ∧ Nt.val zs = Nt.val za + Nt.val zb ∧ Below w.heap.size w w' := by
  have HA := Hide.mk ha
  have HB := Hide.mk hb
  have RA := Hide.mk ra
  have RB := Hide.mk rb
  clear ha hb ra rb
  go_enter Try.func23, Try.ntmps23
  go_wp2
  go_loopw [5, 6, 7] (fun v c i wr => ∃ (s : List Int) (cc : Int), s.length ≤ max za.length zb.length ∧ i = .int .i64 (s.length : Int) ∧ c = .int .u64 cc ∧ 0 ≤ cc ∧ cc ≤ 1 ∧ Own w.heap.size wr v s ∧ RefAddInv za zb s cc ∧ Below w.heap.size w wr) (fun _ _ i _ => max za.length zb.length - (intOf i).toNat)
  case atStart => exact ⟨[], 0, Nat.zero_le _, rfl, rfl, by decide, by decide, Own.nil _ _, ⟨Nt.rng_nil, by simp [Nt.vp]⟩, Below.refl _ _⟩
  case round =>
    obtain ⟨s, cc, hk, rfl, rfl, hc0, hc1, hown, hinv, hbel⟩ := hrel
    by_cases hlt : s.length < za.length
    · obtain ⟨ba, oa, rfl⟩ := lie_some HA.out (by omega)
      have hca := lie_cell (HA.out.below hbel (Nat.le_refl _)) rfl hlt
      have hra := RA.out s.length
      by_cases hlt2 : s.length < zb.length
      · obtain ⟨bb, ob, rfl⟩ := lie_some HB.out (by omega)
        have hcb := lie_cell (HB.out.below hbel (Nat.le_refl _)) rfl hlt2
        have hrb := RB.out s.length
        have HI := Hide.mk (hinv.step (cc + za.getD s.length 0 + zb.getD s.length 0) rfl)
        have HO := Hide.mk hown
        clear hinv hown
        generalize hn : s.length = n at *
        have HN := Hide.mk hn
        clear hn
        generalize za.getD n 0 = x at *
        generalize zb.getD n 0 = y at *
        go_wp2_with (at_builtin; refine app1 rfl (.tmp 42) (.tmp 45) rfl w.heap.size _ s ((cc + x + y) % 4294967296) wr.heap.size rfl rfl (own_alloc HO.out _) (cell_new1 _ _) (by have := HN.out; omega) (by have := hbel.size; simp; omega) ?_; intro v2 w2 hown2 hgrow)
        have hb2 := own_push HO.out hgrow hbel (by have := hbel.size; omega)
        have HO2 := Hide.mk hown2
        clear hown2 hgrow
        go_wp2
        go_roundw
        case rel => exact ⟨_, _, by rw [List.length_append, List.length_singleton, HN.out]; omega, by rw [List.length_append, List.length_singleton, HN.out]; go_num, rfl, by omega, by omega, HO2.out, HI.out, hb2⟩
        case measure => simp [intOf]; omega
      · have HI : Hide (RefAddInv za zb (s ++ [(cc + za.getD s.length 0) % 4294967296]) ((cc + za.getD s.length 0) / 4294967296)) := ⟨by
          have := hinv.step (cc + za.getD s.length 0) (by rw [getD_past (s := zb) (by omega)]; omega)
          exact this⟩
        have HO := Hide.mk hown
        clear hinv hown
        generalize hn : s.length = n at *
        have HN := Hide.mk hn
        clear hn
        generalize za.getD n 0 = x at *
        go_wp2_with (at_builtin; refine app1 rfl (.tmp 42) (.tmp 45) rfl w.heap.size _ s ((cc + x) % 4294967296) wr.heap.size rfl rfl (own_alloc HO.out _) (cell_new1 _ _) (by have := HN.out; omega) (by have := hbel.size; simp; omega) ?_; intro v2 w2 hown2 hgrow)
        have hb2 := own_push HO.out hgrow hbel (by have := hbel.size; omega)
        have HO2 := Hide.mk hown2
        clear hown2 hgrow
        go_wp2
        go_roundw
        case rel => exact ⟨_, _, by rw [List.length_append, List.length_singleton, HN.out]; omega, by rw [List.length_append, List.length_singleton, HN.out]; go_num, rfl, by omega, by omega, HO2.out, HI.out, hb2⟩
        case measure => simp [intOf]; omega
    · by_cases hlt2 : s.length < zb.length
      · obtain ⟨bb, ob, rfl⟩ := lie_some HB.out (by omega)
        have hcb := lie_cell (HB.out.below hbel (Nat.le_refl _)) rfl hlt2
        have hrb := RB.out s.length
        have HI : Hide (RefAddInv za zb (s ++ [(cc + zb.getD s.length 0) % 4294967296]) ((cc + zb.getD s.length 0) / 4294967296)) := ⟨by
          have := hinv.step (cc + zb.getD s.length 0) (by rw [getD_past (s := za) (by omega)]; omega)
          exact this⟩
        have HO := Hide.mk hown
        clear hinv hown
        generalize hn : s.length = n at *
        have HN := Hide.mk hn
        clear hn
        generalize zb.getD n 0 = y at *
        go_wp2_with (at_builtin; refine app1 rfl (.tmp 42) (.tmp 45) rfl w.heap.size _ s ((cc + y) % 4294967296) wr.heap.size rfl rfl (own_alloc HO.out _) (cell_new1 _ _) (by have := HN.out; omega) (by have := hbel.size; simp; omega) ?_; intro v2 w2 hown2 hgrow)
        have hb2 := own_push HO.out hgrow hbel (by have := hbel.size; omega)
        have HO2 := Hide.mk hown2
        clear hown2 hgrow
        go_wp2
        go_roundw
        case rel => exact ⟨_, _, by rw [List.length_append, List.length_singleton, HN.out]; omega, by rw [List.length_append, List.length_singleton, HN.out]; go_num, rfl, by omega, by omega, HO2.out, HI.out, hb2⟩
        case measure => simp [intOf]; omega
      · have HI := Hide.mk (hinv.step cc (by rw [getD_past (s := za) (by omega), getD_past (s := zb) (by omega)]; omega))
        have HO := Hide.mk hown
        have HV : Hide (Nt.vp za s.length = Nt.val za ∧ Nt.vp zb s.length = Nt.val zb) := ⟨(Nt.val_vp (by omega)).symm, (Nt.val_vp (by omega)).symm⟩
        have HQ := Hide.mk hinv.eq
        have hcc : cc % 4294967296 = cc := by omega
        have HC := Hide.mk hcc
        clear hinv hown hcc
        generalize hn : s.length = n at *
        have HN := Hide.mk hn
        clear hn
        go_wp2_with (at_builtin; refine app1 rfl (.tmp 49) (.tmp 52) rfl w.heap.size _ s cc wr.heap.size rfl rfl (own_alloc HO.out _) (cell_new1 _ _) (by have := HN.out; omega) (by have := hbel.size; simp; omega) ?_; intro v2 w2 hown2 hgrow)
        have hb2 := own_push HO.out hgrow hbel (by have := hbel.size; omega)
        obtain ⟨a2, c2, hv2, h1, h2, hl2⟩ := hown2.lie
        have HO2 := Hide.mk hown2
        have HT := Hide.mk (trim36 a2 c2 _ w2 hl2 h1 h2)
        have HV2 := Hide.mk hv2
        clear hown2 hgrow hl2 h1 h2
        rw [hv2]
        clear hv2
        refine HT.out.mono ?_
        rintro e w' ⟨rfl, m, hm, rfl, hz, hd⟩
        have HF : Hide (∃ zs a' c, Value.slice a2 m c2 = .slice a' zs.length c ∧ Own w.heap.size w2 (.slice a' zs.length c) zs ∧ Nt.Can zs ∧ Nt.val zs = Nt.val za + Nt.val zb) := ⟨by
          have hl : ((s ++ [cc]).take m).length = m := by simp only [List.length_take]; omega
          have hr := HI.out.rng
          rw [HC.out] at hr
          refine ⟨(s ++ [cc]).take m, a2, c2, by rw [hl], ?_, Nt.can_take hr hm hd, ?_⟩
          · rw [hl]
            have := HO2.out
            rw [HV2.out] at this
            exact own_take this hm
          · rw [Nt.val_take hz hm]
            unfold Nt.val
            rw [List.length_append, List.length_singleton, vp_snoc]
            have h1 := HQ.out
            have h2 := HV.out
            have h3 := HN.out
            unfold Nt.val at h2
            rw [h3, h1, h2.1, h2.2]⟩
        clear hz hd hm HI HQ HV HT HO HO2
        go_wp2
        go_ret
        obtain ⟨zs, a', c, h1, h2, h3, h4⟩ := HF.out
        exact ⟨zs, a', c, congrArg Ending.returned h1, h2, h3, h4, hb2⟩
end Go.Proofs.Ytcjmamlffbhnlaa
