import Derived.Test.YtcjmamlffbhnlaaW40
namespace Go.Proofs.Ytcjmamlffbhnlaa
open Go.RowKit
set_option linter.unusedVariables false
/-- Memory of the call's own, which may be written. -/
def Wr (B : Nat) (w : World) (v : Value) : Prop := v = .slice none 0 0 ∨ ∃ g n cap cur, v = .slice (some ⟨g, 0, none⟩) n cap ∧ B ≤ g ∧ w.heap[g]? = some (.cells cur 49 (0, 0)) ∧ n ≤ cur.size ∧ n ≤ 1000000
theorem Own.wr {B : Nat} {w : World} {v : Value} {zs : List Int} (h : Own B w v zs) (hl : zs.length ≤ 1000000) : Wr B w v := by
  rcases h.blk with ⟨h, _⟩ | ⟨g, cap, cur, hv, hB, hg, hn⟩
  · exact .inl h
  · exact .inr ⟨g, zs.length, cap, cur, hv, hB, hg, hn, hl⟩
theorem Wr.below {B B' : Nat} {w w' : World} {v : Value} (h : Wr B w v) (hb : Below B' w w') (hB : w.heap.size ≤ B') : Wr B w' v := by
  rcases h with h | ⟨g, n, cap, cur, hv, h1, hg, r⟩
  · exact .inl h
  · exact .inr ⟨g, n, cap, cur, hv, h1, (hb.block g (by have := (Array.getElem?_eq_some_iff.1 hg).1; omega)).trans hg, r⟩
set_option maxHeartbeats 1000000 in
theorem mark25 (B : Nat) (v : Value) (w : World) (h : Wr B w v) :
    Calls Try.prog 25 #[v] w fun e w' => e = .returned (.tuple #[]) ∧ Hide (∀ A, A ≤ w.heap.size → A ≤ B → Below A w w') ∧ Hide (∀ B2 v2, Wr B2 w v2 → Wr B2 w' v2) := by
  rcases h with rfl | ⟨g, n, cap, cur, rfl, hgB, hg, hn, hl⟩
  · go_enter Try.func25, Try.ntmps25
    go_wp2
    refine wp_loop_rounds 1 ?_
    rw [rounds_succ]
    go_wp2
    go_end0
    exact ⟨rfl, ⟨fun A _ _ => Below.refl _ _⟩, ⟨fun _ _ h => h⟩⟩
  · have HG : Hide (w.heap[g]? = some (.cells cur 49 (0, 0))) := ⟨hg⟩
    clear hg
    go_enter Try.func25, Try.ntmps25
    go_wp2
    go_loopw [2] (fun i wr => ∃ (k : Nat) (c2 : Array Value), k ≤ n ∧ i = .int .i64 k ∧ Hide (c2.size = cur.size) ∧ Hide (wr.heap[g]? = some (.cells c2 49 (0, 0))) ∧ Hide (w.grownBy wr (some g))) (fun i _ => n - (intOf i).toNat)
    case atStart => exact ⟨0, cur, Nat.zero_le _, rfl, ⟨rfl⟩, HG, ⟨grown_refl _ _⟩⟩
    case round =>
      obtain ⟨k, c2, hk, rfl, hs, hh, hgr⟩ := hrel
      by_cases hlt : k < n
      · obtain ⟨u, hu⟩ : ∃ u, wr.cell? ⟨g, k, none⟩ = some u := ⟨c2[k]'(by rw [hs.out]; omega), by rw [cell_of_row wr g k _ 49 (0, 0) hh.out]; simp [show k < c2.size by rw [hs.out]; omega]⟩
        have hf := frozen_of_row wr g k _ 49 hh.out
        have hst := Hide.mk (heap_setCell_same wr g k c2 49 (.int .u32 77) hh.out)
        go_wp2
        go_roundw
        case rel => exact ⟨k + 1, _, hlt, by go_num, ⟨by simpa using hs.out⟩, hst, ⟨grown_trans hgr.out (grown_set _ _ _ _)⟩⟩
        case measure => simp [intOf]; omega
      · go_wp2
        go_end0
        refine ⟨rfl, ⟨fun A h1 h2 => (Below.refl A w).grown hgr.out h1 (fun j hj => by cases hj; omega)⟩, ⟨fun B2 v2 hw => ?_⟩⟩
        rcases hw with hw | ⟨g2, n2, cap2, cur2, hv2, hb2, hg2, hn2, hl2⟩
        · exact .inl hw
        · by_cases e : g2 = g
          · subst e
            have := HG.out
            rw [this] at hg2
            cases hg2
            exact .inr ⟨g2, n2, cap2, c2, hv2, hb2, hh.out, by rw [hs.out]; exact hn2, hl2⟩
          · exact .inr ⟨g2, n2, cap2, cur2, hv2, hb2, (hgr.out.block g2 (Array.getElem?_eq_some_iff.1 hg2).1 (by simpa using e)).trans hg2, hn2, hl2⟩
end Go.Proofs.Ytcjmamlffbhnlaa
