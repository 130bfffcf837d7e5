import Derived.Test.YtcjmamlffbhnlaaW19
import Derived.Lib.BitFns
import Derived.Lib.Walk

namespace Go.Proofs.Ytcjmamlffbhnlaa
open Go.RowKit
set_option linter.unusedVariables false
set_option maxHeartbeats 4000000 in
set_option maxRecDepth 100000 in
theorem len68 (x : Int) (w : World) (h0 : 0 ≤ x) (h1 : x ≤ 4294967295) :
    Calls Try.prog 68 #[.int .u32 x] w fun e w' => e = .returned (.int .i64 (Lib.bitLen x.toNat)) ∧ w = w' := by
  by_cases c1 : 65536 ≤ x
  · by_cases c2 : 256 ≤ x / 65536
    · have i0 : (0 : Int) ≤ x / 65536 / 256 := by omega
      have i1 : x / 65536 / 256 ≤ 255 := by omega
      have hl := Lib.len8_of (x / 65536 / 256) i0 i1
      have hb : ((Lib.bitLen (x / 65536 / 256).toNat : Nat) : Int) ≤ 8 := by have := Lib.bitLen_le8' (x / 65536 / 256) i0 i1; omega
      have HF : Hide (((Lib.bitLen x.toNat : Nat) : Int) = 24 + ((Lib.bitLen (x / 65536 / 256).toNat : Nat) : Int)) := ⟨by
        have e : (x / 65536 / 256).toNat = x.toNat / 16777216 := by omega
        rw [e, Lib.bitLen_shift24 x.toNat (by omega) (by omega)]; omega⟩
      generalize Lib.bitLen (x / 65536 / 256).toNat = L at *
      rw [HF.out]
      go_enter Try.func68, Try.ntmps68
      go_wp2
      go_ret
      exact ⟨rfl, rfl⟩
    · have i0 : (0 : Int) ≤ x / 65536 := by omega
      have i1 : x / 65536 ≤ 255 := by omega
      have hl := Lib.len8_of (x / 65536) i0 i1
      have hb : ((Lib.bitLen (x / 65536).toNat : Nat) : Int) ≤ 8 := by have := Lib.bitLen_le8' (x / 65536) i0 i1; omega
      have HF : Hide (((Lib.bitLen x.toNat : Nat) : Int) = 16 + ((Lib.bitLen (x / 65536).toNat : Nat) : Int)) := ⟨by
        have e : (x / 65536).toNat = x.toNat / 65536 := by omega
        rw [e, Lib.bitLen_shift16 x.toNat (by omega) (by omega)]; omega⟩
      generalize Lib.bitLen (x / 65536).toNat = L at *
      rw [HF.out]
      go_enter Try.func68, Try.ntmps68
      go_wp2
      go_ret
      exact ⟨rfl, rfl⟩
  · by_cases c2 : 256 ≤ x
    · have i0 : (0 : Int) ≤ x / 256 := by omega
      have i1 : x / 256 ≤ 255 := by omega
      have hl := Lib.len8_of (x / 256) i0 i1
      have hb : ((Lib.bitLen (x / 256).toNat : Nat) : Int) ≤ 8 := by have := Lib.bitLen_le8' (x / 256) i0 i1; omega
      have HF : Hide (((Lib.bitLen x.toNat : Nat) : Int) = 8 + ((Lib.bitLen (x / 256).toNat : Nat) : Int)) := ⟨by
        have e : (x / 256).toNat = x.toNat / 256 := by omega
        rw [e, Lib.bitLen_shift8 x.toNat (by omega) (by omega)]; omega⟩
      generalize Lib.bitLen (x / 256).toNat = L at *
      rw [HF.out]
      go_enter Try.func68, Try.ntmps68
      go_wp2
      go_ret
      exact ⟨rfl, rfl⟩
    · have hl := Lib.len8_of x h0 (by omega)
      have i1 : x ≤ 255 := by omega
      have hb : ((Lib.bitLen x.toNat : Nat) : Int) ≤ 8 := by have := Lib.bitLen_le8' x h0 i1; omega
      generalize Lib.bitLen x.toNat = L at *
      go_enter Try.func68, Try.ntmps68
      go_wp2
      go_ret
      exact ⟨by first | rfl | simp, rfl⟩

theorem bitLen_bd : ∀ (f x : Nat), x < 2 ^ f → f ≤ 63 → x < 2 ^ Lib.bitLen x ∧ (x ≠ 0 → 2 ^ Lib.bitLen x ≤ 2 * x) ∧ Lib.bitLen x ≤ f := by
  intro f
  induction f with
  | zero =>
    intro x hx _
    have : x = 0 := by simpa using hx
    subst this
    decide
  | succ f ih =>
    intro x hx hf
    by_cases h0 : x = 0
    · subst h0
      refine ⟨by decide, fun h => absurd rfl h, ?_⟩
      have : Lib.bitLen 0 = 0 := by decide
      omega
    · have h64 : x < 2 ^ 64 := Nat.lt_of_lt_of_le hx (Nat.pow_le_pow_right (by decide) (by omega))
      have e := Lib.bitLen_half x h0 h64
      have h2 : x / 2 < 2 ^ f := by rw [Nat.pow_succ] at hx; omega
      obtain ⟨i1, i2, i3⟩ := ih (x / 2) h2 (by omega)
      rw [e, Nat.add_comm, Nat.pow_succ]
      refine ⟨by omega, fun _ => ?_, by omega⟩
      by_cases c : x / 2 = 0
      · rw [c]
        have : Lib.bitLen 0 = 0 := by decide
        rw [this]; simp; omega
      · have := i2 c; omega
theorem bitLen32 (x : Int) (h0 : 0 < x) (h1 : x < 4294967296) : ∃ L : Nat, Lib.bitLen x.toNat = L ∧ 1 ≤ L ∧ L ≤ 32 ∧ x < 2 ^ L ∧ (2 : Int) ^ L ≤ 2 * x := by
  have h := bitLen_bd 32 x.toNat (by have e : (2 : Nat) ^ 32 = 4294967296 := by decide
                                     omega) (by decide)
  obtain ⟨i1, i2, i3⟩ := h
  have i2 := i2 (by omega)
  refine ⟨_, rfl, ?_, i3, ?_, ?_⟩
  · by_cases c : Lib.bitLen x.toNat = 0
    · rw [c] at i1; simp at i1; omega
    · omega
  · have : ((2 ^ Lib.bitLen x.toNat : Nat) : Int) = 2 ^ Lib.bitLen x.toNat := by simp
    omega
  · have : ((2 ^ Lib.bitLen x.toNat : Nat) : Int) = 2 ^ Lib.bitLen x.toNat := by simp
    omega

set_option maxHeartbeats 1000000 in
theorem lz66 (x : Int) (w : World) (h0 : 0 ≤ x) (h1 : x ≤ 4294967295) (L : Nat) (hL : Lib.bitLen x.toNat = L) (hb : L ≤ 32) :
    Calls Try.prog 66 #[.int .u32 x] w fun e w' => e = .returned (.int .i64 (32 - (L : Int))) ∧ w = w' := by
  have HL := Hide.mk (len68 x w h0 h1)
  rw [hL] at HL
  clear hL
  go_enter Try.func66, Try.ntmps66
  go_wp2_with fail
  refine HL.out.mono ?_
  rintro e w' ⟨rfl, rfl⟩
  go_wp2
  go_ret
  exact ⟨rfl, rfl⟩

set_option maxHeartbeats 1000000 in
theorem clone56 (a : Option Addr) (ca : Nat) (za : List Int) (w : World) (ha : Lie w a za) (hl : za.length ≤ 1000000) :
    Calls Try.prog 56 #[.slice a za.length ca] w fun e w' => ∃ a' c, e = .returned (.slice a' za.length c) ∧ Own w.heap.size w' (.slice a' za.length c) za ∧ Below w.heap.size w w' := by
  obtain ⟨i0, hi, hz0, hz1, hz2⟩ := info_parts Try.info49
  have hown : Hide (Own w.heap.size (w.alloc (.cells #[] 49)) (.slice (some ⟨w.heap.size, 0, none⟩) 0 0) []) := ⟨World.ownsRow_made w #[] 0 (Nat.le_refl _) (by unfold maxLen; omega) (by simp)⟩
  have heq := fun (w : World) (a : Option Addr) (l c : Nat) => Lib.run_eql_slice_nil (P := Try.prog) w 22 49 a l c 0 0 Try.underlying22
  cases a with
  | none =>
    have hz : za = [] := by
      rcases ha with h | ⟨b, o, h, _⟩
      · exact h
      · cases h
    subst hz
    go_enter Try.func56, Try.ntmps56
    go_wp2
    go_ret
    exact ⟨none, 0, rfl, Own.nil _ _, Below.refl _ _⟩
  | some ad =>
    have hs : Hide (∀ j v, (za.map (Value.int .u32))[j]? = some v → (w.alloc (.cells #[] 49)).cell? (ad.add j) = some v) := ⟨by
      by_cases h0 : 0 < za.length
      · obtain ⟨ad', e, h⟩ := (ha.below (below_alloc w (.cells #[] 49)) (Nat.le_refl _)).src h0
        cases e
        exact h
      · have : za = [] := List.length_eq_zero_iff.1 (by omega)
        subst this
        intro j v h
        simp at h⟩
    have h1 := Hide.mk (oneCell_ints za)
    have hmm : Hide (0 + za.length ≤ maxLen) := ⟨by unfold maxLen; omega⟩
    clear ha
    go_enter Try.func56, Try.ntmps56
    go_wp2_with (at_builtin; refine wpList_append_own _ rfl (.tmp 5) (.tmp 6) 22 rfl w.heap.size 49 i0 (.int .u32 0) 1 4 Try.underlying22 hi hz0 hz1 hz2 rfl (by decide) _ 0 [] rfl hown.out ad za.length ca (za.map (Value.int .u32)) rfl (by simp) hs.out h1.out hmm.out (by omega) (by simp) ?_; intro v' w1 hown' hgrow _)
    have hown2 : Own w.heap.size w1 v' za := by
      unfold Own
      simpa using hown'
    have hb : Below w.heap.size w w1 := own_grown hown.out hgrow (below_alloc _ _) (by simp)
    obtain ⟨a', c, hv, _⟩ := hown2.lie
    have HO := Hide.mk hown2
    have HV := Hide.mk hv
    clear hown' hgrow hown2 hi hz0 hz1 hz2 hs h1 hmm hown heq
    rw [hv]
    clear hv
    go_wp2
    go_ret
    exact ⟨a', c, rfl, by rw [← HV.out]; exact HO.out, hb⟩

/-- The first digits of block g, which has c cells, are s. -/
def Rw (w : World) (g c : Nat) (s : List Int) : Prop := ∃ cur : Array Value, w.heap[g]? = some (.cells cur 49 (0, 0)) ∧ cur.size = c ∧ s.length ≤ c ∧ cur.toList.take s.length = s.map (Value.int .u32)
theorem Rw.cell {w : World} {g c : Nat} {s : List Int} (h : Rw w g c s) {j : Nat} (hj : j < s.length) : w.cell? ⟨g, j, none⟩ = some (.int .u32 (s.getD j 0)) := by
  obtain ⟨cur, h1, _, h2, h3⟩ := h
  rw [cell_of_row w g j _ 49 (0, 0) h1]
  have e : (cur.toList.take s.length)[j]? = cur.toList[j]? := by rw [List.getElem?_take, if_pos hj]
  have : cur.toList[j]? = some (.int .u32 (s.getD j 0)) := by
    rw [← e, h3]
    simp [List.getD_eq_getElem?_getD, hj]
  simpa using this
theorem Rw.frozen {w : World} {g c : Nat} {s : List Int} (h : Rw w g c s) (j : Nat) : w.frozen? ⟨g, j, none⟩ = false := by
  obtain ⟨cur, h1, _⟩ := h
  exact frozen_of_row w g j _ 49 h1
theorem Rw.set {w : World} {g c : Nat} {s : List Int} (h : Rw w g c s) (j : Nat) (x : Int) : Rw (w.setCell ⟨g, j, none⟩ (.int .u32 x)) g c (s.set j x) := by
  obtain ⟨cur, h1, h0, h2, h3⟩ := h
  refine ⟨_, heap_setCell_same w g j _ 49 _ h1, by simpa using h0, by simpa using h2, ?_⟩
  rw [List.length_set, Array.toList_setIfInBounds, List.take_set, h3, List.map_set]
theorem Own.rw {B : Nat} {w : World} {a : Option Addr} {c : Nat} {zs : List Int} (h : Own B w (.slice a zs.length c) zs) (hp : 0 < zs.length) : ∃ g, a = some ⟨g, 0, none⟩ ∧ B ≤ g ∧ Rw w g c zs ∧ zs.length ≤ c ∧ c ≤ maxLen := by
  rcases h.2 with ⟨hv, h0⟩ | ⟨g, cap, cur, hv, hB, hg, hn, hm, hsz, ht⟩
  · omega
  · simp only [Value.slice.injEq] at hv
    obtain ⟨rfl, _, rfl⟩ := hv
    exact ⟨g, rfl, hB, ⟨cur, hg, by omega, hn, by rw [Nat.mul_one] at ht; exact ht⟩, hn, hm⟩
theorem Rw.own {B : Nat} {w : World} {g c n : Nat} {s : List Int} (h : Rw w g c s) (hB : B ≤ g) (hn : n ≤ s.length) (hm : c ≤ maxLen) : Own B w (.slice (some ⟨g, 0, none⟩) n c) (s.take n) := by
  obtain ⟨cur, h1, h0, h2, h3⟩ := h
  have hl : (s.take n).length = n := by rw [List.length_take]; omega
  unfold Own
  rw [hl]
  refine ⟨by simp; omega, .inr ⟨g, c, cur, rfl, hB, h1, by omega, hm, by omega, ?_⟩⟩
  rw [Nat.mul_one, List.map_take, ← h3, List.take_take, Nat.min_eq_left hn]
theorem Rw.lie {w : World} {g c : Nat} {s : List Int} (h : Rw w g c s) : Lie w (some ⟨g, 0, none⟩) s := .inr ⟨g, 0, rfl, fun i hi => by rw [Nat.zero_add]; exact h.cell hi⟩
end Go.Proofs.Ytcjmamlffbhnlaa
