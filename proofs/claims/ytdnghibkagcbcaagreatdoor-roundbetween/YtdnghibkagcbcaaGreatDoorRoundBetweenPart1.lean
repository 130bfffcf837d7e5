import Derived.Test.YtdnghibkagcbcaaGreatDoorRows
import Derived.WalkKit
import Derived.WalkSpells
import Derived.WalkLawsBesides
import Derived.Laws.CopyOwn
/-
  Plain arithmetic of digit lists to the base 2^32: no program in sight.
-/
set_option linter.unusedVariables false
namespace Nt

/-- The value of the first k digits of s. -/
def vp (s : List Int) : Nat → Int
  | 0 => 0
  | k + 1 => vp s k + s.getD k 0 * 4294967296 ^ k

def val (s : List Int) : Int := vp s s.length

def Rng (s : List Int) : Prop := ∀ k, 0 ≤ s.getD k 0 ∧ s.getD k 0 < 4294967296

def Can (s : List Int) : Prop := Rng s ∧ (s.length ≠ 0 → s.getD (s.length - 1) 0 ≠ 0)

theorem pw_pos (k : Nat) : (0 : Int) < 4294967296 ^ k := Int.pow_pos (by decide)
theorem pw_succ (k : Nat) : (4294967296 : Int) ^ (k + 1) = 4294967296 ^ k * 4294967296 := Int.pow_succ _ _
theorem pw_add (i j : Nat) : (4294967296 : Int) ^ (i + j) = 4294967296 ^ i * 4294967296 ^ j := Int.pow_add _ _ _

theorem vp_congr {s t : List Int} {k : Nat} (h : ∀ j, j < k → s.getD j 0 = t.getD j 0) : vp s k = vp t k := by
  induction k with
  | zero => rfl
  | succ k ih => simp only [vp]; rw [ih (fun j hj => h j (by omega)), h k (by omega)]

theorem vp_bd {s : List Int} (h : Rng s) (k : Nat) : 0 ≤ vp s k ∧ vp s k < 4294967296 ^ k := by
  induction k with
  | zero => simp [vp]
  | succ k ih =>
    simp only [vp]
    have hk := h k
    have hp := pw_pos k
    have e := pw_succ k
    have h1 : 0 ≤ s.getD k 0 * 4294967296 ^ k := Int.mul_nonneg hk.1 (by omega)
    have h2 : s.getD k 0 * 4294967296 ^ k ≤ 4294967295 * 4294967296 ^ k := Int.mul_le_mul_of_nonneg_right (by omega) (by omega)
    omega

theorem vp_past {s : List Int} {k m : Nat} (h : s.length ≤ k) (hm : k ≤ m) : vp s m = vp s k := by
  induction m with
  | zero => have : k = 0 := by omega
            subst this; rfl
  | succ m ih =>
    by_cases e : k = m + 1
    · subst e; rfl
    · simp only [vp]
      rw [ih (by omega)]
      have : s.getD m 0 = 0 := by simp [List.getD_eq_getElem?_getD, List.getElem?_eq_none (show s.length ≤ m by omega)]
      rw [this]; omega

theorem val_vp {s : List Int} {k : Nat} (h : s.length ≤ k) : val s = vp s k := (vp_past (Nat.le_refl _) h).symm

theorem val_bd {s : List Int} (h : Rng s) : 0 ≤ val s ∧ val s < 4294967296 ^ s.length := vp_bd h _

theorem vp_step (s : List Int) (k : Nat) : vp s (k + 1) = vp s k + s.getD k 0 * 4294967296 ^ k := rfl

theorem pw_mono {i j : Nat} (h : i ≤ j) : (4294967296 : Int) ^ i ≤ 4294967296 ^ j := by
  induction j with
  | zero => have : i = 0 := by omega
            subst this; exact Int.le_refl _
  | succ j ih =>
    by_cases e : i = j + 1
    · subst e; exact Int.le_refl _
    · have := ih (by omega)
      have hp := pw_pos j
      have := pw_succ j
      omega

/-- The lowest digits that agree, and values that agree, agree above too: the heart of uniqueness. -/
theorem dig_eq_of_vp {s t : List Int} (hs : Rng s) (ht : Rng t) {n : Nat} (h : vp s n = vp t n) : ∀ j, j < n → s.getD j 0 = t.getD j 0 := by
  induction n with
  | zero => intro j hj; omega
  | succ n ih =>
    have h1 := vp_bd hs n
    have h2 := vp_bd ht n
    have hp := pw_pos n
    rw [vp_step, vp_step] at h
    have hd : s.getD n 0 = t.getD n 0 := by
      rcases Int.lt_trichotomy (s.getD n 0) (t.getD n 0) with c | c | c
      · have : (s.getD n 0 + 1) * 4294967296 ^ n ≤ t.getD n 0 * 4294967296 ^ n := Int.mul_le_mul_of_nonneg_right (by omega) (by omega)
        rw [Int.add_mul] at this; omega
      · exact c
      · have : (t.getD n 0 + 1) * 4294967296 ^ n ≤ s.getD n 0 * 4294967296 ^ n := Int.mul_le_mul_of_nonneg_right (by omega) (by omega)
        rw [Int.add_mul] at this; omega
    intro j hj
    by_cases e : j = n
    · subst e; exact hd
    · exact ih (by rw [hd] at h; omega) j (by omega)

theorem can_len {s : List Int} (h : Can s) (n : Nat) : val s < 4294967296 ^ n ↔ s.length ≤ n := by
  constructor
  · intro hv
    by_cases c : s.length ≤ n
    · exact c
    · exfalso
      have h0 : s.length ≠ 0 := by omega
      have hd := h.2 h0
      have hr := h.1 (s.length - 1)
      have hb := vp_bd h.1 (s.length - 1)
      have e : val s = vp s (s.length - 1) + s.getD (s.length - 1) 0 * 4294967296 ^ (s.length - 1) := by
        unfold val
        have : s.length = (s.length - 1) + 1 := by omega
        rw [this]; simp only [Nat.add_sub_cancel]; exact vp_step _ _
      have hp := pw_pos (s.length - 1)
      have hm := pw_mono (show n ≤ s.length - 1 by omega)
      have : 1 * 4294967296 ^ (s.length - 1) ≤ s.getD (s.length - 1) 0 * 4294967296 ^ (s.length - 1) := Int.mul_le_mul_of_nonneg_right (by omega) (by omega)
      omega
  · intro hl
    have := (val_bd h.1).2
    have := pw_mono hl
    omega

theorem can_unique {s t : List Int} (hs : Can s) (ht : Can t) (h : val s = val t) : s = t := by
  have h1 := (can_len hs t.length).1 (by rw [h]; exact (val_bd ht.1).2)
  have h2 := (can_len ht s.length).1 (by rw [← h]; exact (val_bd hs.1).2)
  have hl : s.length = t.length := by omega
  have hd := dig_eq_of_vp hs.1 ht.1 (n := s.length) (by unfold val at h; rw [← hl] at h; exact h)
  refine List.ext_getElem hl (fun i hi hi' => ?_)
  have := hd i hi
  simpa [List.getD_eq_getElem?_getD, hi, hi'] using this

/-- Without the noughts above. -/
theorem rng_take {s : List Int} (h : Rng s) (n : Nat) : Rng (s.take n) := by
  intro k
  have := h k
  simp only [List.getD_eq_getElem?_getD, List.getElem?_take]
  split
  · simpa [List.getD_eq_getElem?_getD] using this
  · simp

theorem getD_take {s : List Int} {n j : Nat} (h : j < n) : (s.take n).getD j 0 = s.getD j 0 := by
  simp [List.getD_eq_getElem?_getD, h]

theorem val_take {s : List Int} {n : Nat} (h : ∀ j, n ≤ j → s.getD j 0 = 0) (hn : n ≤ s.length) : val (s.take n) = val s := by
  have e1 : val (s.take n) = vp s n := by
    rw [val_vp (k := n) (by simp; omega)]
    exact vp_congr (fun j hj => getD_take hj)
  rw [e1]
  unfold val
  have : ∀ m, n ≤ m → vp s m = vp s n := by
    intro m hm
    induction m with
    | zero => have : n = 0 := by omega
              subst this; rfl
    | succ m ih =>
      by_cases e : n = m + 1
      · subst e; rfl
      · rw [vp_step, ih (by omega), h m (by omega)]; omega
  exact (this _ hn).symm

theorem can_take {s : List Int} (hr : Rng s) {n : Nat} (hn : n ≤ s.length) (hd : n ≠ 0 → s.getD (n - 1) 0 ≠ 0) : Can (s.take n) := by
  refine ⟨rng_take hr n, fun h => ?_⟩
  have hl : (s.take n).length = n := by simp; omega
  rw [hl] at h ⊢
  rw [getD_take (by omega)]
  exact hd h

theorem getD_set_self {s : List Int} {i : Nat} {x : Int} (h : i < s.length) : (s.set i x).getD i 0 = x := by
  simp [List.getD_eq_getElem?_getD, h]
theorem getD_set_ne {s : List Int} {i j : Nat} {x : Int} (h : i ≠ j) : (s.set i x).getD j 0 = s.getD j 0 := by
  simp [List.getD_eq_getElem?_getD, List.getElem?_set_ne h]
theorem rng_set {s : List Int} (h : Rng s) {i : Nat} {x : Int} (h0 : 0 ≤ x) (h1 : x < 4294967296) : Rng (s.set i x) := by
  intro k
  by_cases e : i = k
  · subst e
    by_cases c : i < s.length
    · rw [getD_set_self c]; exact ⟨h0, h1⟩
    · have : s.set i x = s := List.set_eq_of_length_le (by omega)
      rw [this]; exact h i
  · rw [getD_set_ne e]; exact h k
theorem vp_set {s : List Int} {i k : Nat} {x : Int} (h : k ≤ i) : vp (s.set i x) k = vp s k :=
  vp_congr (fun j hj => getD_set_ne (by omega))

theorem rng_nil : Rng [] := fun k => by simp
theorem val_nil : val [] = 0 := rfl
theorem can_nil : Can [] := ⟨rng_nil, fun h => absurd rfl h⟩

theorem rng_mem {s : List Int} (h : ∀ z ∈ s, 0 ≤ z ∧ z < 4294967296) : Rng s := by
  intro k
  simp only [List.getD_eq_getElem?_getD]
  by_cases c : k < s.length
  · simpa [c] using h _ (List.getElem_mem c)
  · simp [List.getElem?_eq_none (show s.length ≤ k by omega)]

/-- Sum, one round: digit i of s takes in x and the carry. -/
theorem sum_step {s a b : List Int} {i : Nat} {c x n c' : Int} (hi : i < s.length)
    (hv : vp s i + c * 4294967296 ^ i = vp a i + vp b i) (hs : s.getD i 0 = a.getD i 0) (hx : x = b.getD i 0)
    (hn : n + c' * 4294967296 = s.getD i 0 + x + c) :
    vp (s.set i n) (i + 1) + c' * 4294967296 ^ (i + 1) = vp a (i + 1) + vp b (i + 1) := by
  rw [vp_step, vp_step, vp_step, vp_set (Nat.le_refl _), getD_set_self hi, pw_succ, ← hs, ← hx]
  generalize (4294967296 : Int) ^ i = P at *
  grind

theorem dif_step {s a b : List Int} {i : Nat} {c x n c' : Int} (hi : i < s.length)
    (hv : vp s i - c * 4294967296 ^ i = vp a i - vp b i) (hs : s.getD i 0 = a.getD i 0) (hx : x = b.getD i 0)
    (hn : n - c' * 4294967296 = s.getD i 0 - x - c) :
    vp (s.set i n) (i + 1) - c' * 4294967296 ^ (i + 1) = vp a (i + 1) - vp b (i + 1) := by
  rw [vp_step, vp_step, vp_step, vp_set (Nat.le_refl _), getD_set_self hi, pw_succ, ← hs, ← hx]
  generalize (4294967296 : Int) ^ i = P at *
  grind
theorem cmp_lt {a b : List Int} (ha : Rng a) (hb : Rng b) {p n : Nat} (hp : p < n) (hj : ∀ j, p < j → j < n → a.getD j 0 = b.getD j 0) (hd : a.getD p 0 < b.getD p 0) : vp a n < vp b n := by
  induction n with
  | zero => omega
  | succ n ih =>
    rw [vp_step, vp_step]
    by_cases e : p = n
    · subst e
      have h1 := vp_bd ha p
      have h2 := vp_bd hb p
      have h3 : (a.getD p 0 + 1) * 4294967296 ^ p ≤ b.getD p 0 * 4294967296 ^ p := Int.mul_le_mul_of_nonneg_right (by omega) (by have := pw_pos p; omega)
      rw [Int.add_mul] at h3
      omega
    · have := ih (by omega) (fun j h1 h2 => hj j h1 (by omega))
      rw [hj n (by omega) (by omega)]
      omega

theorem can_lt {a b : List Int} (ha : Can a) (hb : Can b) (h : a.length < b.length) : val a < val b := by
  have h1 := (val_bd ha.1).2
  have h2 : ¬ val b < 4294967296 ^ a.length := fun c => by have := (can_len hb _).1 c; omega
  omega

/-- -1, 0 or 1. -/
def sgn (x y : Int) : Int := if x < y then -1 else if y < x then 1 else 0

end Nt

namespace Go.Proofs.YtdnghibkagcbcaaGreatDoor
open Go.RowKit
set_option linter.unusedVariables false
/-- The digits zs lie in memory from address a on (nil where there are none). -/
def Lie (w : World) (a : Option Addr) (zs : List Int) : Prop :=
  zs = [] ∨ ∃ b o, a = some ⟨b, o, none⟩ ∧ ∀ i, i < zs.length → w.cell? ⟨b, o + i, none⟩ = some (.int .u32 (zs.getD i 0))

/-- Block g is a row of digits s. -/
def Blk (w : World) (g : Nat) (s : List Int) : Prop := w.heap[g]? = some (.cells (s.map (Value.int .u32)).toArray 108 (0, 0))

/-- A number in new memory (blocks from B on): a slice value with the digits zs. -/
def Own (B : Nat) (w : World) (v : Value) (zs : List Int) : Prop := w.ownsRow B 108 1 v zs.length (zs.map (Value.int .u32))

theorem Tryz.info49 : (Tryz.prog.info? 108).map (fun i => (i.zero, i.size, i.bytes)) = some (some (.int .u32 0), 1, 4) := by kernel_rfl

theorem Lie.below {w w' : World} {a : Option Addr} {zs : List Int} {B : Nat} (h : Lie w a zs) (hb : Below B w w') (hB : w.heap.size ≤ B) : Lie w' a zs := by
  rcases h with h | ⟨b, o, rfl, hc⟩
  · exact .inl h
  · refine .inr ⟨b, o, rfl, fun i hi => ?_⟩
    have := hc i hi
    have hlt := World.block_lt_of_cell? w _ this
    rw [hb.cell (p := ⟨b, o + i, none⟩) (by simpa using Nat.lt_of_lt_of_le hlt hB)]
    exact this

theorem Blk.cell {w : World} {g : Nat} {s : List Int} (h : Blk w g s) {j : Nat} (hj : j < s.length) : w.cell? ⟨g, j, none⟩ = some (.int .u32 (s.getD j 0)) := by
  rw [cell_of_row w g j _ 108 (0, 0) h]
  simp [List.getD_eq_getElem?_getD, hj]
theorem Blk.frozen {w : World} {g : Nat} {s : List Int} (h : Blk w g s) (j : Nat) : w.frozen? ⟨g, j, none⟩ = false := frozen_of_row w g j _ 108 h
theorem Blk.set {w : World} {g : Nat} {s : List Int} (h : Blk w g s) (j : Nat) (x : Int) : Blk (w.setCell ⟨g, j, none⟩ (.int .u32 x)) g (s.set j x) := by
  unfold Blk
  rw [heap_setCell_same w g j _ 108 _ h]
  simp [List.map_set]
theorem Blk.below {w w' : World} {g B : Nat} {s : List Int} (h : Blk w g s) (hb : Below B w w') (hg : g < B) : Blk w' g s := (hb.block g hg).trans h
theorem Blk.lt {w : World} {g : Nat} {s : List Int} (h : Blk w g s) : g < w.heap.size := (Array.getElem?_eq_some_iff.1 h).1
theorem Blk.own {w : World} {g B n : Nat} {s : List Int} (h : Blk w g s) (hB : B ≤ g) (hn : n ≤ s.length) (hm : s.length ≤ maxLen) :
    Own B w (.slice (some ⟨g, 0, none⟩) n s.length) (s.take n) := by
  have e : (s.take n).length = n := by simp; omega
  unfold Own
  rw [e]
  exact ⟨by simp; omega, .inr ⟨g, s.length, _, rfl, hB, h, hn, hm, by simp, by simp [List.map_take]⟩⟩
theorem Blk.lie {w : World} {g n : Nat} {s : List Int} (h : Blk w g s) : Lie w (some ⟨g, 0, none⟩) s :=
  .inr ⟨g, 0, rfl, fun i hi => by rw [Nat.zero_add]; exact h.cell hi⟩
theorem blk_made {w : World} {B g n : Nat} (h : w.ownsRow B 108 1 (.slice (some ⟨g, 0, none⟩) n n) n (madeCells (Value.int .u32 0).cells (n * 1)).toList) : Blk w g (List.replicate n 0) := by
  rcases h.2 with ⟨h', _⟩ | ⟨g', cap', cur, h', _, hg, _, _, hsz, htake⟩
  · simp at h'
  · simp only [Value.slice.injEq, Option.some.injEq, Addr.mk.injEq, and_true, true_and] at h'
    obtain ⟨rfl, rfl⟩ := h'
    unfold Blk
    rw [hg]
    have : cur.toList = (List.replicate n (0 : Int)).map (Value.int .u32) := by
      rw [List.take_of_length_le (by simp; omega)] at htake
      rw [htake]
      show (madeCells #[.int .u32 0] (n * 1)).toList = _
      rw [toList_madeCells_one]; simp
    rw [← this]

theorem Own.lie {B : Nat} {w : World} {v : Value} {zs : List Int} (h : Own B w v zs) : ∃ a cap, v = .slice a zs.length cap ∧ zs.length ≤ cap ∧ cap ≤ maxLen ∧ Lie w a zs := by
  rcases h.2 with ⟨rfl, h0⟩ | ⟨g, cap, cur, hv, _, hg, hn, hm, _, htake⟩
  · exact ⟨none, 0, by rw [h0], by omega, by unfold maxLen; omega, .inl (List.length_eq_zero_iff.1 h0)⟩
  · refine ⟨_, cap, hv, hn, hm, .inr ⟨g, 0, rfl, fun i hi => ?_⟩⟩
    rw [Nat.zero_add, cell_of_row w g i _ 108 (0, 0) hg]
    have : cur.toList[i]? = some (.int .u32 (zs.getD i 0)) := by
      have e : (cur.toList.take (zs.length * 1))[i]? = cur.toList[i]? := by rw [List.getElem?_take, if_pos (by omega)]
      rw [← e, htake]
      simp [List.getD_eq_getElem?_getD, hi]
    simpa using this
theorem Own.nil (B : Nat) (w : World) : Own B w (.slice none 0 0) [] := World.ownsRow_nil w B 108 1
theorem Own.below {B B' : Nat} {w w' : World} {v : Value} {zs : List Int} (h : Own B w v zs) (hb : Below B' w w') (hB : w.heap.size ≤ B') : Own B w' v zs := by
  refine ⟨h.1, ?_⟩
  rcases h.2 with h | ⟨g, cap, cur, hv, h1, hg, r⟩
  · exact .inl h
  · exact .inr ⟨g, cap, cur, hv, h1, (hb.block g (by have := (Array.getElem?_eq_some_iff.1 hg).1; omega)).trans hg, r⟩
theorem Own.mono {B B' : Nat} {w : World} {v : Value} {zs : List Int} (h : Own B w v zs) (hB : B' ≤ B) : Own B' w v zs := by
  refine ⟨h.1, ?_⟩
  rcases h.2 with h | ⟨g, cap, cur, hv, h1, r⟩
  · exact .inl h
  · exact .inr ⟨g, cap, cur, hv, by omega, r⟩

theorem below_of_grown {w w' : World} (h : w.grownBy w' none) : Below w.heap.size w w' := (Below.refl _ w).grown h (Nat.le_refl _) (by simp)
theorem below_alloc (w : World) (o : Obj) : Below w.heap.size w (w.alloc o) := (Below.refl _ w).alloc (Nat.le_refl _) o
theorem below_then {w w1 w2 : World} (h : Below w.heap.size w w1) (k : Below w1.heap.size w1 w2) : Below w.heap.size w w2 := h.trans (k.mono h.size)
end Go.Proofs.YtdnghibkagcbcaaGreatDoor
