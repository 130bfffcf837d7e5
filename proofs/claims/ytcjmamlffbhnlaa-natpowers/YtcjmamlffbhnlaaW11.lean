import Derived.Test.YtcjmamlffbhnlaaW10
namespace Go.Proofs.Ytcjmamlffbhnlaa
open Go.RowKit
set_option linter.unusedVariables false
theorem lie_new (w : World) (zs : List Int) : Lie (w.alloc (.cells (zs.map (Value.int .u32)).toArray 49)) (some ⟨w.heap.size, 0, none⟩) zs := by
  have h : Blk (w.alloc (.cells (zs.map (Value.int .u32)).toArray 49)) w.heap.size zs := heap_alloc_new w _
  exact h.lie (n := 0)

/-- The success of Add or Mul: the sum is not too long. -/
theorem Told.fits {w w' : World} {x : Int} {e : Ending} (h : Told w x e w') (hx : x < 4294967296 ^ 4096) : ∃ zs, Nt.Can zs ∧ Nt.val zs = x ∧ Below w.heap.size w w' ∧ zs.length ≤ 4096 ∧ ∃ a c, e = .returned (.tuple #[.slice a zs.length c, .int .i64 0]) ∧ Own w.heap.size w' (.slice a zs.length c) zs ∧ Lie w' a zs := by
  obtain ⟨zs, h1, h2, h3, h4⟩ := h
  refine ⟨zs, h1, h2, h3, ?_⟩
  rcases h4 with ⟨h5, v, rfl, h6⟩ | ⟨h5, _⟩
  · obtain ⟨a, c, rfl, _, _, hl⟩ := h6.lie
    exact ⟨h5, a, c, rfl, h6, hl⟩
  · have := (Nt.can_len h1 4096).1 (by rw [h2]; exact hx)
    omega

theorem small_pow {x : Int} (h : x < 4294967296 ^ 2) : x < (4294967296 : Int) ^ 4096 := by
  have := Nt.pw_mono (show 2 ≤ 4096 by decide)
  omega

theorem known_add (w : World) : Calls Try.prog 20 #[.slice (some ⟨w.heap.size, 0, none⟩) 1 1, .slice (some ⟨w.heap.size + 1, 0, none⟩) 1 1] ((w.alloc (.cells #[.int .u32 4294967295] 49)).alloc (.cells #[.int .u32 1] 49)) fun e w' =>
    ∃ a c, e = .returned (.tuple #[.slice a 2 c, .int .i64 0]) ∧ Lie w' a [0, 1] ∧ Below w.heap.size w w' := by
  have l1 : Lie ((w.alloc (.cells #[.int .u32 4294967295] 49)).alloc (.cells #[.int .u32 1] 49)) (some ⟨w.heap.size, 0, none⟩) [4294967295] := (lie_new w [4294967295]).below (below_alloc _ _) (Nat.le_refl _)
  have l2 : Lie ((w.alloc (.cells #[.int .u32 4294967295] 49)).alloc (.cells #[.int .u32 1] 49)) (some ⟨w.heap.size + 1, 0, none⟩) [1] := by
    have := lie_new (w.alloc (.cells #[.int .u32 4294967295] 49)) [1]
    simpa using this
  refine (add20 _ _ 1 1 [4294967295] [1] _ l1 l2 (Nt.rng_mem (by simp)) (Nt.rng_mem (by simp)) (by decide) (by decide)).mono ?_
  intro e w' h
  obtain ⟨zs, hc, hv, hb, hl, a, c, he, ho, hli⟩ := h.fits (small_pow (by decide))
  have hz : zs = [0, 1] := Nt.can_unique hc ⟨Nt.rng_mem (by simp), by simp⟩ (by rw [hv]; decide)
  subst hz
  exact ⟨a, c, he, hli, below_then (below_alloc w _) (below_then (below_alloc _ _) hb)⟩

set_option maxHeartbeats 1000000 in
set_option maxRecDepth 100000 in
theorem known11 (w : World) : Calls Try.prog 11 #[] w fun e w' => e = .returned (.bool true) ∧ Below w.heap.size w w' := by
  go_enter Try.func11, Try.ntmps11
  go_wp2_with fail
  refine (known_add w).mono ?_
  rintro e w2 ⟨a, c, rfl, hl, hb⟩
  have HS := Hide.mk (same15 a (some ⟨w2.heap.size, 0, none⟩) c 2 [0, 1] [0, 1] _ (hl.below (below_alloc w2 (.cells #[.int .u32 0, .int .u32 1] 49)) (Nat.le_refl _)) (lie_new w2 [0, 1]) (by unfold maxLen; decide))
  have HB := Hide.mk (below_then hb (below_alloc w2 (.cells #[.int .u32 0, .int .u32 1] 49)))
  clear hl hb
  go_wp2_with fail
  refine HS.out.mono ?_
  rintro e w3 ⟨rfl, hb3⟩
  go_wp2
  go_ret
  exact ⟨by simp, below_then HB.out hb3⟩
end Go.Proofs.Ytcjmamlffbhnlaa
