import Derived.Test.YtcjmamlffbhnlaaW15
namespace Go.Proofs.Ytcjmamlffbhnlaa
open Go.RowKit
set_option linter.unusedVariables false
/-- After as many rounds of the reference's Sub as s has digits. -/
structure RefSubInv (za zb s : List Int) (c : Int) : Prop where
  rng : Nt.Rng s
  eq : Nt.vp s s.length - c * 4294967296 ^ s.length = Nt.vp za s.length - Nt.vp zb s.length
theorem RefSubInv.step {za zb s : List Int} {c t : Int} (h : RefSubInv za zb s c) (b : Int) (ht : t - b * 4294967296 = za.getD s.length 0 - (c + zb.getD s.length 0)) (h0 : 0 ≤ t) (h1 : t < 4294967296) :
    RefSubInv za zb (s ++ [t]) b := by
  refine ⟨rng_snoc h.rng h0 h1, ?_⟩
  have e := h.eq
  rw [List.length_append, List.length_singleton, vp_snoc, Nt.vp_step, Nt.vp_step, Nt.pw_succ]
  generalize (4294967296 : Int) ^ s.length = P at *
  grind

set_option maxHeartbeats 4000000 in
theorem refSub24 (a b : Option Addr) (ca cb : Nat) (za zb : List Int) (w : World) (ha : Lie w a za) (hb : Lie w b zb) (ra : Nt.Rng za) (rb : Nt.Rng zb) (hna : za.length ≤ 100000) (hle : zb.length ≤ za.length) (hv : Nt.val zb ≤ Nt.val za) :
    Calls Try.prog 24 #[.slice a za.length ca, .slice b zb.length cb] w fun e w' => ∃ zs a' c, e = .returned (.slice a' zs.length c) ∧ Own w.heap.size w' (.slice a' zs.length c) zs ∧ Nt.Can zs ∧ Nt.val zs = Nt.val za - Nt.val zb ∧ Below w.heap.size w w' := by
  have HA := Hide.mk ha
  have HB := Hide.mk hb
  have RA := Hide.mk ra
  have RB := Hide.mk rb
  have HV := Hide.mk hv
  clear ha hb ra rb hv
  go_enter Try.func24, Try.ntmps24
  go_wp2
  go_loopw [5, 6, 7] (fun v c i wr => ∃ (s : List Int) (cc : Int), s.length ≤ za.length ∧ i = .int .i64 (s.length : Int) ∧ c = .int .u64 cc ∧ 0 ≤ cc ∧ cc ≤ 1 ∧ Own w.heap.size wr v s ∧ RefSubInv za zb s cc ∧ Below w.heap.size w wr) (fun _ _ i _ => za.length - (intOf i).toNat)
  case atStart => exact ⟨[], 0, Nat.zero_le _, rfl, rfl, by decide, by decide, Own.nil _ _, ⟨Nt.rng_nil, by simp [Nt.vp]⟩, Below.refl _ _⟩
  case round =>
    obtain ⟨s, cc, hk, rfl, rfl, hc0, hc1, hown, hinv, hbel⟩ := hrel
    by_cases hlt : s.length < za.length
    · obtain ⟨ba, oa, rfl⟩ := lie_some HA.out (by omega)
      have hca := lie_cell (HA.out.below hbel (Nat.le_refl _)) rfl hlt
      have hra := RA.out s.length
      by_cases hlt2 : s.length < zb.length
      · obtain ⟨bb, ob, rfl⟩ := lie_some HB.out (by omega)
        have hcb := lie_cell (HB.out.below hbel (Nat.le_refl _)) rfl hlt2
        have hrb := RB.out s.length
        have HS := fun t b => Hide.mk (fun h0 h1 h2 => hinv.step (t := t) b h0 h1 h2)
        have HO := Hide.mk hown
        clear hinv hown
        generalize hn : s.length = n at *
        have HN := Hide.mk hn
        clear hn
        generalize za.getD n 0 = x at *
        generalize zb.getD n 0 = y at *
        by_cases hxy : x < cc + y
        · have HI := Hide.mk ((HS (x + 4294967296 - (cc + y)) 1).out (by omega) (by omega) (by omega))
          clear HS
          go_wp2_with (at_builtin; refine app1 rfl (.tmp 38) (.tmp 43) rfl w.heap.size _ s (x + 4294967296 - (cc + y)) wr.heap.size rfl rfl (own_alloc HO.out _) (cell_new1 _ _) (by have := HN.out; omega) (by have := hbel.size; simp; omega) ?_; intro v2 w2 hown2 hgrow)
          have hb2 := own_push HO.out hgrow hbel (by have := hbel.size; omega)
          have HO2 := Hide.mk hown2
          clear hown2 hgrow
          go_wp2
          go_roundw
          case rel => exact ⟨_, 1, by rw [List.length_append, List.length_singleton, HN.out]; omega, by rw [List.length_append, List.length_singleton, HN.out]; go_num, rfl, by omega, by omega, HO2.out, HI.out, hb2⟩
          case measure => simp [intOf]; omega
        · have HI := Hide.mk ((HS (x - (cc + y)) 0).out (by omega) (by omega) (by omega))
          clear HS
          go_wp2_with (at_builtin; refine app1 rfl (.tmp 38) (.tmp 43) rfl w.heap.size _ s (x - (cc + y)) wr.heap.size rfl rfl (own_alloc HO.out _) (cell_new1 _ _) (by have := HN.out; omega) (by have := hbel.size; simp; omega) ?_; intro v2 w2 hown2 hgrow)
          have hb2 := own_push HO.out hgrow hbel (by have := hbel.size; omega)
          have HO2 := Hide.mk hown2
          clear hown2 hgrow
          go_wp2
          go_roundw
          case rel => exact ⟨_, 0, by rw [List.length_append, List.length_singleton, HN.out]; omega, by rw [List.length_append, List.length_singleton, HN.out]; go_num, rfl, by omega, by omega, HO2.out, HI.out, hb2⟩
          case measure => simp [intOf]; omega
      · have HS := fun t b => Hide.mk (fun h0 h1 h2 => hinv.step (t := t) b h0 h1 h2)
        rw [getD_past (s := zb) (show zb.length ≤ s.length by omega)] at HS
        have HO := Hide.mk hown
        clear hinv hown
        generalize hn : s.length = n at *
        have HN := Hide.mk hn
        clear hn
        generalize za.getD n 0 = x at *
        by_cases hxy : x < cc
        · have HI := Hide.mk ((HS (x + 4294967296 - cc) 1).out (by omega) (by omega) (by omega))
          clear HS
          go_wp2_with (at_builtin; refine app1 rfl (.tmp 38) (.tmp 43) rfl w.heap.size _ s (x + 4294967296 - cc) wr.heap.size rfl rfl (own_alloc HO.out _) (cell_new1 _ _) (by have := HN.out; omega) (by have := hbel.size; simp; omega) ?_; intro v2 w2 hown2 hgrow)
          have hb2 := own_push HO.out hgrow hbel (by have := hbel.size; omega)
          have HO2 := Hide.mk hown2
          clear hown2 hgrow
          go_wp2
          go_roundw
          case rel => exact ⟨_, 1, by rw [List.length_append, List.length_singleton, HN.out]; omega, by rw [List.length_append, List.length_singleton, HN.out]; go_num, rfl, by omega, by omega, HO2.out, HI.out, hb2⟩
          case measure => simp [intOf]; omega
        · have HI := Hide.mk ((HS (x - cc) 0).out (by omega) (by omega) (by omega))
          clear HS
          go_wp2_with (at_builtin; refine app1 rfl (.tmp 38) (.tmp 43) rfl w.heap.size _ s (x - cc) wr.heap.size rfl rfl (own_alloc HO.out _) (cell_new1 _ _) (by have := HN.out; omega) (by have := hbel.size; simp; omega) ?_; intro v2 w2 hown2 hgrow)
          have hb2 := own_push HO.out hgrow hbel (by have := hbel.size; omega)
          have HO2 := Hide.mk hown2
          clear hown2 hgrow
          go_wp2
          go_roundw
          case rel => exact ⟨_, 0, by rw [List.length_append, List.length_singleton, HN.out]; omega, by rw [List.length_append, List.length_singleton, HN.out]; go_num, rfl, by omega, by omega, HO2.out, HI.out, hb2⟩
          case measure => simp [intOf]; omega
    · have HF : Hide (Nt.Rng s ∧ Nt.val s = Nt.val za - Nt.val zb) := ⟨by
        have hn : s.length = za.length := by omega
        have e := hinv.eq
        have hb := (Nt.vp_bd hinv.rng s.length).2
        have h3 : Nt.vp za s.length = Nt.val za := by rw [hn]; rfl
        have h4 : Nt.vp zb s.length = Nt.val zb := (Nt.val_vp (by omega)).symm
        have hv := HV.out
        have hc : cc = 0 := by
          by_cases c : cc = 0
          · exact c
          · have : cc = 1 := by omega
            subst this
            omega
        subst hc
        refine ⟨hinv.rng, ?_⟩
        show Nt.vp s s.length = _
        omega⟩
      obtain ⟨a2, c2, hv2, h1, h2, hl2⟩ := hown.lie
      have HO := Hide.mk hown
      have HT := Hide.mk (trim36 a2 c2 _ wr hl2 h1 h2)
      clear hown hinv hl2 h1 h2
      subst hv2
      go_wp2_with fail
      refine HT.out.mono ?_
      rintro e w' ⟨rfl, m, hm, rfl, hz, hd⟩
      have HG : Hide (∃ zs a' c, Value.slice a2 m c2 = .slice a' zs.length c ∧ Own w.heap.size wr (.slice a' zs.length c) zs ∧ Nt.Can zs ∧ Nt.val zs = Nt.val za - Nt.val zb) := ⟨by
        have hl : (s.take m).length = m := by simp only [List.length_take]; omega
        refine ⟨s.take m, a2, c2, by rw [hl], ?_, Nt.can_take HF.out.1 hm hd, ?_⟩
        · rw [hl]; exact own_take HO.out hm
        · rw [Nt.val_take hz hm]; exact HF.out.2⟩
      clear hz hd hm HT HO HF
      go_wp2
      go_ret
      obtain ⟨zs, a', c, h1, h2, h3, h4⟩ := HG.out
      exact ⟨zs, a', c, congrArg Ending.returned h1, h2, h3, h4, hbel⟩

/-- The memory of an answer is written over: nothing else turns. -/
theorem Own.blk {B : Nat} {w : World} {v : Value} {zs : List Int} (h : Own B w v zs) : (v = .slice none 0 0 ∧ zs = []) ∨ ∃ g cap cur, v = .slice (some ⟨g, 0, none⟩) zs.length cap ∧ B ≤ g ∧ w.heap[g]? = some (.cells cur 49 (0, 0)) ∧ zs.length ≤ cur.size := by
  have h1 := h.1
  rcases h.2 with ⟨hv, h0⟩ | ⟨g, cap, cur, hv, hB, hg, hn, _, hsz, _⟩
  · exact .inl ⟨hv, List.length_eq_zero_iff.1 h0⟩
  · exact .inr ⟨g, cap, cur, hv, hB, hg, by omega⟩

set_option maxHeartbeats 1000000 in
theorem marked25 (B : Nat) (v : Value) (zs : List Int) (w : World) (h : Own B w v zs) (hl : zs.length ≤ 1000000) :
    Calls Try.prog 25 #[v] w fun e w' => e = .returned (.tuple #[]) ∧ w.grownBy w' v.ownBlock := by
  rcases h.blk with ⟨rfl, rfl⟩ | ⟨g, cap, cur, rfl, _, hg, hn⟩
  · go_enter Try.func25, Try.ntmps25
    go_wp2
    refine wp_loop_rounds 1 ?_
    rw [rounds_succ]
    go_wp2
    go_end0
    exact ⟨rfl, grown_refl _ _⟩
  · have HG : Hide (w.heap[g]? = some (.cells cur 49 (0, 0))) := ⟨hg⟩
    clear hg h
    generalize zs.length = n at *
    go_enter Try.func25, Try.ntmps25
    go_wp2
    go_loopw [2] (fun i wr => ∃ (k : Nat) (c2 : Array Value), k ≤ n ∧ i = .int .i64 k ∧ n ≤ c2.size ∧ Hide (wr.heap[g]? = some (.cells c2 49 (0, 0))) ∧ Hide (w.grownBy wr (some g))) (fun i _ => n - (intOf i).toNat)
    case atStart => exact ⟨0, cur, Nat.zero_le _, rfl, hn, HG, ⟨grown_refl _ _⟩⟩
    case round =>
      obtain ⟨k, c2, hk, rfl, hs, hh, hgr⟩ := hrel
      by_cases hlt : k < n
      · obtain ⟨u, hu⟩ : ∃ u, wr.cell? ⟨g, k, none⟩ = some u := ⟨c2[k]'(by omega), by rw [cell_of_row wr g k _ 49 (0, 0) hh.out]; simp [show k < c2.size by omega]⟩
        have hf := frozen_of_row wr g k _ 49 hh.out
        have hst := Hide.mk (heap_setCell_same wr g k c2 49 (.int .u32 77) hh.out)
        go_wp2
        go_roundw
        case rel => exact ⟨k + 1, _, hlt, by go_num, by simpa using hs, hst, ⟨grown_trans hgr.out (grown_set _ _ _ _)⟩⟩
        case measure => simp [intOf]; omega
      · go_wp2
        go_end0
        exact ⟨rfl, hgr.out⟩
end Go.Proofs.Ytcjmamlffbhnlaa
