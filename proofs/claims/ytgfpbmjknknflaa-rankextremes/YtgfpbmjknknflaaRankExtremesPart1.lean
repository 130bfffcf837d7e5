import Derived.Test.YtgfpbmjknknflaaRows
import Derived.WalkKit
import Derived.WalkSpells
import Derived.WalkLawsBesides
import Derived.Laws.CopyOwn
import Derived.Laws.AppendOwnNone
/-
  Plain arithmetic of digit lists to the base 2^32: no program in sight.
-/
set_option linter.unusedVariables false
namespace Nt

/-- The value of the first k digits of s. -/
def vp (s : List Int) : Nat → Int
  | 0 => 0
  | k + 1 => vp s k + s.getD k 0 * 4294967296 ^ k

def val (s : List Int) : Int := vp s s.length

def Rng (s : List Int) : Prop := ∀ k, 0 ≤ s.getD k 0 ∧ s.getD k 0 < 4294967296

def Can (s : List Int) : Prop := Rng s ∧ (s.length ≠ 0 → s.getD (s.length - 1) 0 ≠ 0)

theorem pw_pos (k : Nat) : (0 : Int) < 4294967296 ^ k := Int.pow_pos (by decide)
theorem pw_succ (k : Nat) : (4294967296 : Int) ^ (k + 1) = 4294967296 ^ k * 4294967296 := Int.pow_succ _ _
theorem pw_add (i j : Nat) : (4294967296 : Int) ^ (i + j) = 4294967296 ^ i * 4294967296 ^ j := Int.pow_add _ _ _

theorem vp_congr {s t : List Int} {k : Nat} (h : ∀ j, j < k → s.getD j 0 = t.getD j 0) : vp s k = vp t k := by
  induction k with
  | zero => rfl
  | succ k ih => simp only [vp]; rw [ih (fun j hj => h j (by omega)), h k (by omega)]

theorem vp_bd {s : List Int} (h : Rng s) (k : Nat) : 0 ≤ vp s k ∧ vp s k < 4294967296 ^ k := by
  induction k with
  | zero => simp [vp]
  | succ k ih =>
    simp only [vp]
    have hk := h k
    have hp := pw_pos k
    have e := pw_succ k
    have h1 : 0 ≤ s.getD k 0 * 4294967296 ^ k := Int.mul_nonneg hk.1 (by omega)
    have h2 : s.getD k 0 * 4294967296 ^ k ≤ 4294967295 * 4294967296 ^ k := Int.mul_le_mul_of_nonneg_right (by omega) (by omega)
    omega

theorem vp_past {s : List Int} {k m : Nat} (h : s.length ≤ k) (hm : k ≤ m) : vp s m = vp s k := by
  induction m with
  | zero => have : k = 0 := by omega
            subst this; rfl
  | succ m ih =>
    by_cases e : k = m + 1
    · subst e; rfl
    · simp only [vp]
      rw [ih (by omega)]
      have : s.getD m 0 = 0 := by simp [List.getD_eq_getElem?_getD, List.getElem?_eq_none (show s.length ≤ m by omega)]
      rw [this]; omega

theorem val_vp {s : List Int} {k : Nat} (h : s.length ≤ k) : val s = vp s k := (vp_past (Nat.le_refl _) h).symm

theorem val_bd {s : List Int} (h : Rng s) : 0 ≤ val s ∧ val s < 4294967296 ^ s.length := vp_bd h _

theorem vp_step (s : List Int) (k : Nat) : vp s (k + 1) = vp s k + s.getD k 0 * 4294967296 ^ k := rfl

theorem pw_mono {i j : Nat} (h : i ≤ j) : (4294967296 : Int) ^ i ≤ 4294967296 ^ j := by
  induction j with
  | zero => have : i = 0 := by omega
            subst this; exact Int.le_refl _
  | succ j ih =>
    by_cases e : i = j + 1
    · subst e; exact Int.le_refl _
    · have := ih (by omega)
      have hp := pw_pos j
      have := pw_succ j
      omega

/-- The lowest digits that agree, and values that agree, agree above too: the heart of uniqueness. -/
theorem dig_eq_of_vp {s t : List Int} (hs : Rng s) (ht : Rng t) {n : Nat} (h : vp s n = vp t n) : ∀ j, j < n → s.getD j 0 = t.getD j 0 := by
  induction n with
  | zero => intro j hj; omega
  | succ n ih =>
    have h1 := vp_bd hs n
    have h2 := vp_bd ht n
    have hp := pw_pos n
    rw [vp_step, vp_step] at h
    have hd : s.getD n 0 = t.getD n 0 := by
      rcases Int.lt_trichotomy (s.getD n 0) (t.getD n 0) with c | c | c
      · have : (s.getD n 0 + 1) * 4294967296 ^ n ≤ t.getD n 0 * 4294967296 ^ n := Int.mul_le_mul_of_nonneg_right (by omega) (by omega)
        rw [Int.add_mul] at this; omega
      · exact c
      · have : (t.getD n 0 + 1) * 4294967296 ^ n ≤ s.getD n 0 * 4294967296 ^ n := Int.mul_le_mul_of_nonneg_right (by omega) (by omega)
        rw [Int.add_mul] at this; omega
    intro j hj
    by_cases e : j = n
    · subst e; exact hd
    · exact ih (by rw [hd] at h; omega) j (by omega)

theorem can_len {s : List Int} (h : Can s) (n : Nat) : val s < 4294967296 ^ n ↔ s.length ≤ n := by
  constructor
  · intro hv
    by_cases c : s.length ≤ n
    · exact c
    · exfalso
      have h0 : s.length ≠ 0 := by omega
      have hd := h.2 h0
      have hr := h.1 (s.length - 1)
      have hb := vp_bd h.1 (s.length - 1)
      have e : val s = vp s (s.length - 1) + s.getD (s.length - 1) 0 * 4294967296 ^ (s.length - 1) := by
        unfold val
        have : s.length = (s.length - 1) + 1 := by omega
        rw [this]; simp only [Nat.add_sub_cancel]; exact vp_step _ _
      have hp := pw_pos (s.length - 1)
      have hm := pw_mono (show n ≤ s.length - 1 by omega)
      have : 1 * 4294967296 ^ (s.length - 1) ≤ s.getD (s.length - 1) 0 * 4294967296 ^ (s.length - 1) := Int.mul_le_mul_of_nonneg_right (by omega) (by omega)
      omega
  · intro hl
    have := (val_bd h.1).2
    have := pw_mono hl
    omega

theorem can_unique {s t : List Int} (hs : Can s) (ht : Can t) (h : val s = val t) : s = t := by
  have h1 := (can_len hs t.length).1 (by rw [h]; exact (val_bd ht.1).2)
  have h2 := (can_len ht s.length).1 (by rw [← h]; exact (val_bd hs.1).2)
  have hl : s.length = t.length := by omega
  have hd := dig_eq_of_vp hs.1 ht.1 (n := s.length) (by unfold val at h; rw [← hl] at h; exact h)
  refine List.ext_getElem hl (fun i hi hi' => ?_)
  have := hd i hi
  simpa [List.getD_eq_getElem?_getD, hi, hi'] using this

/-- Without the noughts above. -/
theorem rng_take {s : List Int} (h : Rng s) (n : Nat) : Rng (s.take n) := by
  intro k
  have := h k
  simp only [List.getD_eq_getElem?_getD, List.getElem?_take]
  split
  · simpa [List.getD_eq_getElem?_getD] using this
  · simp

theorem getD_take {s : List Int} {n j : Nat} (h : j < n) : (s.take n).getD j 0 = s.getD j 0 := by
  simp [List.getD_eq_getElem?_getD, h]

theorem val_take {s : List Int} {n : Nat} (h : ∀ j, n ≤ j → s.getD j 0 = 0) (hn : n ≤ s.length) : val (s.take n) = val s := by
  have e1 : val (s.take n) = vp s n := by
    rw [val_vp (k := n) (by simp; omega)]
    exact vp_congr (fun j hj => getD_take hj)
  rw [e1]
  unfold val
  have : ∀ m, n ≤ m → vp s m = vp s n := by
    intro m hm
    induction m with
    | zero => have : n = 0 := by omega
              subst this; rfl
    | succ m ih =>
      by_cases e : n = m + 1
      · subst e; rfl
      · rw [vp_step, ih (by omega), h m (by omega)]; omega
  exact (this _ hn).symm

theorem can_take {s : List Int} (hr : Rng s) {n : Nat} (hn : n ≤ s.length) (hd : n ≠ 0 → s.getD (n - 1) 0 ≠ 0) : Can (s.take n) := by
  refine ⟨rng_take hr n, fun h => ?_⟩
  have hl : (s.take n).length = n := by simp; omega
  rw [hl] at h ⊢
  rw [getD_take (by omega)]
  exact hd h

theorem getD_set_self {s : List Int} {i : Nat} {x : Int} (h : i < s.length) : (s.set i x).getD i 0 = x := by
  simp [List.getD_eq_getElem?_getD, h]
theorem getD_set_ne {s : List Int} {i j : Nat} {x : Int} (h : i ≠ j) : (s.set i x).getD j 0 = s.getD j 0 := by
  simp [List.getD_eq_getElem?_getD, List.getElem?_set_ne h]
theorem rng_set {s : List Int} (h : Rng s) {i : Nat} {x : Int} (h0 : 0 ≤ x) (h1 : x < 4294967296) : Rng (s.set i x) := by
  intro k
  by_cases e : i = k
  · subst e
    by_cases c : i < s.length
    · rw [getD_set_self c]; exact ⟨h0, h1⟩
    · have : s.set i x = s := List.set_eq_of_length_le (by omega)
      rw [this]; exact h i
  · rw [getD_set_ne e]; exact h k
theorem vp_set {s : List Int} {i k : Nat} {x : Int} (h : k ≤ i) : vp (s.set i x) k = vp s k :=
  vp_congr (fun j hj => getD_set_ne (by omega))

theorem rng_nil : Rng [] := fun k => by simp
theorem val_nil : val [] = 0 := rfl
theorem can_nil : Can [] := ⟨rng_nil, fun h => absurd rfl h⟩

theorem rng_mem {s : List Int} (h : ∀ z ∈ s, 0 ≤ z ∧ z < 4294967296) : Rng s := by
  intro k
  simp only [List.getD_eq_getElem?_getD]
  by_cases c : k < s.length
  · simpa [c] using h _ (List.getElem_mem c)
  · simp [List.getElem?_eq_none (show s.length ≤ k by omega)]

/-- Sum, one round: digit i of s takes in x and the carry. -/
theorem sum_step {s a b : List Int} {i : Nat} {c x n c' : Int} (hi : i < s.length)
    (hv : vp s i + c * 4294967296 ^ i = vp a i + vp b i) (hs : s.getD i 0 = a.getD i 0) (hx : x = b.getD i 0)
    (hn : n + c' * 4294967296 = s.getD i 0 + x + c) :
    vp (s.set i n) (i + 1) + c' * 4294967296 ^ (i + 1) = vp a (i + 1) + vp b (i + 1) := by
  rw [vp_step, vp_step, vp_step, vp_set (Nat.le_refl _), getD_set_self hi, pw_succ, ← hs, ← hx]
  generalize (4294967296 : Int) ^ i = P at *
  grind

theorem dif_step {s a b : List Int} {i : Nat} {c x n c' : Int} (hi : i < s.length)
    (hv : vp s i - c * 4294967296 ^ i = vp a i - vp b i) (hs : s.getD i 0 = a.getD i 0) (hx : x = b.getD i 0)
    (hn : n - c' * 4294967296 = s.getD i 0 - x - c) :
    vp (s.set i n) (i + 1) - c' * 4294967296 ^ (i + 1) = vp a (i + 1) - vp b (i + 1) := by
  rw [vp_step, vp_step, vp_step, vp_set (Nat.le_refl _), getD_set_self hi, pw_succ, ← hs, ← hx]
  generalize (4294967296 : Int) ^ i = P at *
  grind
theorem cmp_lt {a b : List Int} (ha : Rng a) (hb : Rng b) {p n : Nat} (hp : p < n) (hj : ∀ j, p < j → j < n → a.getD j 0 = b.getD j 0) (hd : a.getD p 0 < b.getD p 0) : vp a n < vp b n := by
  induction n with
  | zero => omega
  | succ n ih =>
    rw [vp_step, vp_step]
    by_cases e : p = n
    · subst e
      have h1 := vp_bd ha p
      have h2 := vp_bd hb p
      have h3 : (a.getD p 0 + 1) * 4294967296 ^ p ≤ b.getD p 0 * 4294967296 ^ p := Int.mul_le_mul_of_nonneg_right (by omega) (by have := pw_pos p; omega)
      rw [Int.add_mul] at h3
      omega
    · have := ih (by omega) (fun j h1 h2 => hj j h1 (by omega))
      rw [hj n (by omega) (by omega)]
      omega

theorem can_lt {a b : List Int} (ha : Can a) (hb : Can b) (h : a.length < b.length) : val a < val b := by
  have h1 := (val_bd ha.1).2
  have h2 : ¬ val b < 4294967296 ^ a.length := fun c => by have := (can_len hb _).1 c; omega
  omega

/-- -1, 0 or 1. -/
def sgn (x y : Int) : Int := if x < y then -1 else if y < x then 1 else 0

end Nt

namespace Go.Proofs.Ytgfpbmjknknflaa
open Go.RowKit
set_option linter.unusedVariables false
/-- The digits zs lie in memory from address a on (nil where there are none). -/
def Lie (w : World) (a : Option Addr) (zs : List Int) : Prop :=
  zs = [] ∨ ∃ b o, a = some ⟨b, o, none⟩ ∧ ∀ i, i < zs.length → w.cell? ⟨b, o + i, none⟩ = some (.int .u32 (zs.getD i 0))

/-- Block g is a row of digits s. -/
def Blk (w : World) (g : Nat) (s : List Int) : Prop := w.heap[g]? = some (.cells (s.map (Value.int .u32)).toArray 112 (0, 0))

/-- A number in new memory (blocks from B on): a slice value with the digits zs. -/
def Own (B : Nat) (w : World) (v : Value) (zs : List Int) : Prop := w.ownsRow B 112 1 v zs.length (zs.map (Value.int .u32))

theorem Try.info49 : (Try.prog.info? 112).map (fun i => (i.zero, i.size, i.bytes)) = some (some (.int .u32 0), 1, 4) := by kernel_rfl

theorem Lie.below {w w' : World} {a : Option Addr} {zs : List Int} {B : Nat} (h : Lie w a zs) (hb : Below B w w') (hB : w.heap.size ≤ B) : Lie w' a zs := by
  rcases h with h | ⟨b, o, rfl, hc⟩
  · exact .inl h
  · refine .inr ⟨b, o, rfl, fun i hi => ?_⟩
    have := hc i hi
    have hlt := World.block_lt_of_cell? w _ this
    rw [hb.cell (p := ⟨b, o + i, none⟩) (by simpa using Nat.lt_of_lt_of_le hlt hB)]
    exact this

theorem Blk.cell {w : World} {g : Nat} {s : List Int} (h : Blk w g s) {j : Nat} (hj : j < s.length) : w.cell? ⟨g, j, none⟩ = some (.int .u32 (s.getD j 0)) := by
  rw [cell_of_row w g j _ 112 (0, 0) h]
  simp [List.getD_eq_getElem?_getD, hj]
theorem Blk.frozen {w : World} {g : Nat} {s : List Int} (h : Blk w g s) (j : Nat) : w.frozen? ⟨g, j, none⟩ = false := frozen_of_row w g j _ 112 h
theorem Blk.set {w : World} {g : Nat} {s : List Int} (h : Blk w g s) (j : Nat) (x : Int) : Blk (w.setCell ⟨g, j, none⟩ (.int .u32 x)) g (s.set j x) := by
  unfold Blk
  rw [heap_setCell_same w g j _ 112 _ h]
  simp [List.map_set]
theorem Blk.below {w w' : World} {g B : Nat} {s : List Int} (h : Blk w g s) (hb : Below B w w') (hg : g < B) : Blk w' g s := (hb.block g hg).trans h
theorem Blk.lt {w : World} {g : Nat} {s : List Int} (h : Blk w g s) : g < w.heap.size := (Array.getElem?_eq_some_iff.1 h).1
theorem Blk.own {w : World} {g B n : Nat} {s : List Int} (h : Blk w g s) (hB : B ≤ g) (hn : n ≤ s.length) (hm : s.length ≤ maxLen) :
    Own B w (.slice (some ⟨g, 0, none⟩) n s.length) (s.take n) := by
  have e : (s.take n).length = n := by simp; omega
  unfold Own
  rw [e]
  exact ⟨by simp; omega, .inr ⟨g, s.length, _, rfl, hB, h, hn, hm, by simp, by simp [List.map_take]⟩⟩
theorem Blk.lie {w : World} {g n : Nat} {s : List Int} (h : Blk w g s) : Lie w (some ⟨g, 0, none⟩) s :=
  .inr ⟨g, 0, rfl, fun i hi => by rw [Nat.zero_add]; exact h.cell hi⟩
theorem blk_made {w : World} {B g n : Nat} (h : w.ownsRow B 112 1 (.slice (some ⟨g, 0, none⟩) n n) n (madeCells (Value.int .u32 0).cells (n * 1)).toList) : Blk w g (List.replicate n 0) := by
  rcases h.2 with ⟨h', _⟩ | ⟨g', cap', cur, h', _, hg, _, _, hsz, htake⟩
  · simp at h'
  · simp only [Value.slice.injEq, Option.some.injEq, Addr.mk.injEq, and_true, true_and] at h'
    obtain ⟨rfl, rfl⟩ := h'
    unfold Blk
    rw [hg]
    have : cur.toList = (List.replicate n (0 : Int)).map (Value.int .u32) := by
      rw [List.take_of_length_le (by simp; omega)] at htake
      rw [htake]
      show (madeCells #[.int .u32 0] (n * 1)).toList = _
      rw [toList_madeCells_one]; simp
    rw [← this]

theorem Own.lie {B : Nat} {w : World} {v : Value} {zs : List Int} (h : Own B w v zs) : ∃ a cap, v = .slice a zs.length cap ∧ zs.length ≤ cap ∧ cap ≤ maxLen ∧ Lie w a zs := by
  rcases h.2 with ⟨rfl, h0⟩ | ⟨g, cap, cur, hv, _, hg, hn, hm, _, htake⟩
  · exact ⟨none, 0, by rw [h0], by omega, by unfold maxLen; omega, .inl (List.length_eq_zero_iff.1 h0)⟩
  · refine ⟨_, cap, hv, hn, hm, .inr ⟨g, 0, rfl, fun i hi => ?_⟩⟩
    rw [Nat.zero_add, cell_of_row w g i _ 112 (0, 0) hg]
    have : cur.toList[i]? = some (.int .u32 (zs.getD i 0)) := by
      have e : (cur.toList.take (zs.length * 1))[i]? = cur.toList[i]? := by rw [List.getElem?_take, if_pos (by omega)]
      rw [← e, htake]
      simp [List.getD_eq_getElem?_getD, hi]
    simpa using this
theorem Own.nil (B : Nat) (w : World) : Own B w (.slice none 0 0) [] := World.ownsRow_nil w B 112 1
theorem Own.below {B B' : Nat} {w w' : World} {v : Value} {zs : List Int} (h : Own B w v zs) (hb : Below B' w w') (hB : w.heap.size ≤ B') : Own B w' v zs := by
  refine ⟨h.1, ?_⟩
  rcases h.2 with h | ⟨g, cap, cur, hv, h1, hg, r⟩
  · exact .inl h
  · exact .inr ⟨g, cap, cur, hv, h1, (hb.block g (by have := (Array.getElem?_eq_some_iff.1 hg).1; omega)).trans hg, r⟩
theorem Own.mono {B B' : Nat} {w : World} {v : Value} {zs : List Int} (h : Own B w v zs) (hB : B' ≤ B) : Own B' w v zs := by
  refine ⟨h.1, ?_⟩
  rcases h.2 with h | ⟨g, cap, cur, hv, h1, r⟩
  · exact .inl h
  · exact .inr ⟨g, cap, cur, hv, by omega, r⟩

theorem below_of_grown {w w' : World} (h : w.grownBy w' none) : Below w.heap.size w w' := (Below.refl _ w).grown h (Nat.le_refl _) (by simp)
theorem below_alloc (w : World) (o : Obj) : Below w.heap.size w (w.alloc o) := (Below.refl _ w).alloc (Nat.le_refl _) o
theorem below_then {w w1 w2 : World} (h : Below w.heap.size w w1) (k : Below w1.heap.size w1 w2) : Below w.heap.size w w2 := h.trans (k.mono h.size)
end Go.Proofs.Ytgfpbmjknknflaa

namespace Go.Proofs.Ytgfpbmjknknflaa
open Go.RowKit
set_option linter.unusedVariables false
set_option maxRecDepth 3000
/-- A fact kept from the walk. -/
structure Hide (p : Prop) : Prop where
  out : p

def mayB (zs : List Int) : Bool := zs.length == 0 || (decide (zs.length ≤ 4096) && zs.getD (zs.length - 1) 0 != 0)

/-- After k rounds: digits s, carry c. -/
structure SumInv (za zb s : List Int) (k : Nat) (c : Int) : Prop where
  len : s.length = za.length + 1
  rng : Nt.Rng s
  eq : Nt.vp s k + c * 4294967296 ^ k = Nt.vp za k + Nt.vp zb k
  rest : ∀ j, k ≤ j → s.getD j 0 = za.getD j 0

theorem getD_app {za : List Int} (j : Nat) (n : Nat) : (za ++ List.replicate n 0).getD j 0 = za.getD j 0 := by
  simp only [List.getD_eq_getElem?_getD, List.getElem?_append]
  split
  · rfl
  · rename_i h
    rw [List.getElem?_eq_none (l := za) (by omega)]
    simp only [List.getElem?_replicate]
    split <;> rfl
theorem rng_app {za : List Int} (n : Nat) (h : Nt.Rng za) : Nt.Rng (za ++ List.replicate n 0) := fun k => by rw [getD_app]; exact h k

theorem SumInv.start {za zb : List Int} (h : Nt.Rng za) : SumInv za zb (za ++ List.replicate 1 0) 0 0 :=
  ⟨by simp, rng_app 1 h, by simp [Nt.vp], fun j _ => getD_app j 1⟩
theorem SumInv.step {za zb s : List Int} {k : Nat} {c x : Int} (h : SumInv za zb s k c) (hk : k < s.length) (hx : x = zb.getD k 0) :
    SumInv za zb (s.set k ((s.getD k 0 + x + c) % 4294967296)) (k + 1) ((s.getD k 0 + x + c) / 4294967296) := by
  refine ⟨by rw [List.length_set]; exact h.len, Nt.rng_set h.rng (by omega) (by omega), ?_, fun j hj => ?_⟩
  · exact Nt.sum_step hk h.eq (h.rest k (Nat.le_refl _)) hx (by omega)
  · rw [Nt.getD_set_ne (by omega)]; exact h.rest j (by omega)
theorem SumInv.done {za zb s : List Int} {k : Nat} (h : SumInv za zb s k 0) (hk : zb.length ≤ k) : Nt.val s = Nt.val za + Nt.val zb := by
  have e : ∀ m, k ≤ m → Nt.vp s m = Nt.vp za m + Nt.vp zb m := by
    intro m hm
    induction m with
    | zero =>
      have : k = 0 := by omega
      subst this
      have := h.eq
      omega
    | succ m ih =>
      by_cases e : k = m + 1
      · subst e; have := h.eq; omega
      · rw [Nt.vp_step, Nt.vp_step, Nt.vp_step, ih (by omega), h.rest m (by omega)]
        have : zb.getD m 0 = 0 := by simp [List.getD_eq_getElem?_getD, List.getElem?_eq_none (show zb.length ≤ m by omega)]
        rw [this]; omega
  have hl := h.len
  rw [Nt.val_vp (s := s) (k := s.length + k) (by omega), Nt.val_vp (s := za) (k := s.length + k) (by omega), Nt.val_vp (s := zb) (k := s.length + k) (by omega)]
  exact e _ (by omega)
theorem SumInv.top {za zb s : List Int} {c : Int} (h : SumInv za zb s za.length c) : s.getD za.length 0 = 0 := by
  rw [h.rest _ (Nat.le_refl _)]
  simp [List.getD_eq_getElem?_getD]

theorem getD_eq_of_same {za zb : List Int} (h : ∀ j, j < za.length → za.getD j 0 = zb.getD j 0) (hl : za.length = zb.length) : za = zb := by
  refine List.ext_getElem hl (fun i hi hi' => ?_)
  have := h i hi
  simpa [List.getD_eq_getElem?_getD, hi, hi'] using this

def sgn (x y : Int) : Int := if x < y then -1 else if y < x then 1 else 0
theorem sgn_lt {x y : Int} (h : x < y) : sgn x y = -1 := by simp [sgn, h]
theorem sgn_gt {x y : Int} (h : y < x) : sgn x y = 1 := by simp [sgn, h]; omega
theorem sgn_eq {x y : Int} (h : x = y) : sgn x y = 0 := by simp [sgn, h]

theorem cmp_len {za zb : List Int} (ha : Nt.Can za) (hb : Nt.Can zb) (h : za.length ≠ zb.length) : sgn (Nt.val za) (Nt.val zb) = sgn (za.length : Int) (zb.length : Int) := by
  rcases Nat.lt_or_gt_of_ne h with c | c
  · rw [sgn_lt (Nt.can_lt ha hb c), sgn_lt (by omega)]
  · rw [sgn_gt (Nt.can_lt hb ha c), sgn_gt (by omega)]
theorem cmp_at {za zb : List Int} (ha : Nt.Rng za) (hb : Nt.Rng zb) (hl : za.length = zb.length) {p : Nat} (hp : p < za.length) (hj : ∀ j, p < j → za.getD j 0 = zb.getD j 0) (hne : za.getD p 0 ≠ zb.getD p 0) :
    sgn (Nt.val za) (Nt.val zb) = sgn (za.getD p 0) (zb.getD p 0) := by
  rcases Int.lt_or_gt_of_ne hne with c | c
  · rw [sgn_lt c, sgn_lt]
    have := Nt.cmp_lt ha hb hp (fun j h1 _ => hj j h1) c
    unfold Nt.val; rw [← hl]; exact this
  · rw [sgn_gt c, sgn_gt]
    have := Nt.cmp_lt hb ha hp (fun j h1 _ => (hj j h1).symm) c
    unfold Nt.val; rw [← hl]; exact this

/-- What is borrowed. -/
def bor (x y : Int) : Int := if x < y then 1 else 0
/-- After k rounds: digits s, borrowed c. -/
structure DifInv (za zb s : List Int) (k : Nat) (c : Int) : Prop where
  len : s.length = za.length
  rng : Nt.Rng s
  eq : Nt.vp s k - c * 4294967296 ^ k = Nt.vp za k - Nt.vp zb k
  rest : ∀ j, k ≤ j → s.getD j 0 = za.getD j 0

theorem DifInv.start {za zb : List Int} (h : Nt.Rng za) : DifInv za zb (za ++ List.replicate 0 0) 0 0 :=
  ⟨by simp, rng_app 0 h, by simp [Nt.vp], fun j _ => getD_app j 0⟩
theorem bor_eq {y x c : Int} (hy : 0 ≤ y) (hy' : y < 4294967296) (hx : 0 ≤ x) (hx' : x < 4294967296) (hc : 0 ≤ c) (hc' : c ≤ 1) : (y - x - c) % 4294967296 - bor y (x + c) * 4294967296 = y - x - c := by
  unfold bor; split <;> omega
theorem DifInv.step {za zb s : List Int} {k : Nat} {c x : Int} (h : DifInv za zb s k c) (hk : k < s.length) (hx : x = zb.getD k 0) (hx0 : 0 ≤ x) (hx1 : x < 4294967296) (hc : 0 ≤ c) (hc' : c ≤ 1) :
    DifInv za zb (s.set k ((s.getD k 0 - x - c) % 4294967296)) (k + 1) (bor (s.getD k 0) (x + c)) := by
  refine ⟨by rw [List.length_set]; exact h.len, Nt.rng_set h.rng (by omega) (by omega), ?_, fun j hj => ?_⟩
  · exact Nt.dif_step hk h.eq (h.rest k (Nat.le_refl _)) hx (bor_eq (h.rng k).1 (h.rng k).2 hx0 hx1 hc hc')
  · rw [Nt.getD_set_ne (by omega)]; exact h.rest j (by omega)
theorem DifInv.done {za zb s : List Int} {k : Nat} (h : DifInv za zb s k 0) (hk : zb.length ≤ k) (hl : zb.length ≤ za.length) : Nt.val s = Nt.val za - Nt.val zb := by
  have e : ∀ m, k ≤ m → Nt.vp s m = Nt.vp za m - Nt.vp zb m := by
    intro m hm
    induction m with
    | zero =>
      have : k = 0 := by omega
      subst this
      have := h.eq
      omega
    | succ m ih =>
      by_cases e : k = m + 1
      · subst e; have := h.eq; omega
      · rw [Nt.vp_step, Nt.vp_step, Nt.vp_step, ih (by omega), h.rest m (by omega)]
        have : zb.getD m 0 = 0 := by simp [List.getD_eq_getElem?_getD, List.getElem?_eq_none (show zb.length ≤ m by omega)]
        rw [this]; omega
  have hl := h.len
  rw [Nt.val_vp (s := s) (k := s.length + k) (by omega), Nt.val_vp (s := za) (k := s.length + k) (by omega), Nt.val_vp (s := zb) (k := s.length + k) (by omega)]
  exact e _ (by omega)
theorem DifInv.top {za zb s : List Int} {c : Int} {k : Nat} (h : DifInv za zb s k c) (hk : k = za.length) (hl : zb.length ≤ za.length) (hv : Nt.val zb ≤ Nt.val za) (hc : 0 ≤ c) (hc' : c ≤ 1) : c = 0 := by
  subst hk
  have h1 := h.eq
  have h2 := (Nt.vp_bd h.rng za.length).2
  have h3 : Nt.vp za za.length = Nt.val za := rfl
  have h4 : Nt.vp zb za.length = Nt.val zb := (Nt.val_vp hl).symm
  by_cases e : c = 0
  · exact e
  · have : c = 1 := by omega
    subst this
    omega

theorem Lie.grown {w w' : World} {a : Option Addr} {zs : List Int} {g : Nat} (h : Lie w a zs) (hg : w.grownBy w' (some g)) (hne : 0 < zs.length → ∀ x, a = some x → x.block ≠ g) : Lie w' a zs := by
  rcases h with h | ⟨b, o, rfl, hc⟩
  · exact .inl h
  · refine .inr ⟨b, o, rfl, fun i hi => ?_⟩
    exact hg.cell (hc i hi) (by have := hne (by omega) _ rfl; simpa using this)

/-- After k rounds of addTimes: digits s, carry c. -/
structure TimesInv (s0 zb : List Int) (off : Nat) (d : Int) (s : List Int) (k : Nat) (c : Int) : Prop where
  len : s.length = s0.length
  rng : Nt.Rng s
  eq : Nt.vp s (off + k) + c * 4294967296 ^ (off + k) = Nt.vp s0 (off + k) + d * Nt.vp zb k * 4294967296 ^ off
  rest : ∀ j, off + k ≤ j → s.getD j 0 = s0.getD j 0
theorem TimesInv.start {s0 zb : List Int} {off : Nat} {d : Int} (h : Nt.Rng s0) : TimesInv s0 zb off d s0 0 0 := ⟨rfl, h, by simp [Nt.vp], fun _ _ => rfl⟩
theorem TimesInv.step {s0 zb s : List Int} {off k : Nat} {d c x : Int} (h : TimesInv s0 zb off d s k c) (hk : off + k < s.length) (hx : x = zb.getD k 0) :
    TimesInv s0 zb off d (s.set (off + k) ((x * d + s.getD (off + k) 0 + c) % 4294967296)) (k + 1) ((x * d + s.getD (off + k) 0 + c) / 4294967296) := by
  refine ⟨by rw [List.length_set]; exact h.len, Nt.rng_set h.rng (by omega) (by omega), ?_, fun j hj => ?_⟩
  · have he := h.eq
    have hr := h.rest (off + k) (Nat.le_refl _)
    have hn : (x * d + s.getD (off + k) 0 + c) % 4294967296 + (x * d + s.getD (off + k) 0 + c) / 4294967296 * 4294967296 = x * d + s.getD (off + k) 0 + c := by omega
    rw [← Nat.add_assoc, Nt.vp_step, Nt.vp_step, Nt.vp_step, Nt.vp_set (Nat.le_refl _), Nt.getD_set_self hk, Nt.pw_succ, ← hr, ← hx]
    generalize (x * d + s.getD (off + k) 0 + c) % 4294967296 = n at *
    generalize (x * d + s.getD (off + k) 0 + c) / 4294967296 = c' at *
    rw [Nt.pw_add] at *
    generalize (4294967296 : Int) ^ off = P at *
    generalize (4294967296 : Int) ^ k = K at *
    grind
  · rw [Nt.getD_set_ne (by omega)]; exact h.rest j (by omega)

/-- After i rounds of product. -/
structure ProdInv (za zb s : List Int) (i : Nat) : Prop where
  len : s.length = za.length + zb.length
  rng : Nt.Rng s
  eq : Nt.vp s (i + zb.length) = Nt.vp za i * Nt.val zb
  rest : ∀ j, i + zb.length ≤ j → s.getD j 0 = 0
theorem getD_rep (n j : Nat) : (List.replicate n (0 : Int)).getD j 0 = 0 := by
  simp only [List.getD_eq_getElem?_getD, List.getElem?_replicate]; split <;> rfl
theorem vp_rep (n k : Nat) : Nt.vp (List.replicate n (0 : Int)) k = 0 := by
  induction k with
  | zero => rfl
  | succ k ih => rw [Nt.vp_step, ih, getD_rep]; omega
theorem ProdInv.start {za zb : List Int} : ProdInv za zb (List.replicate (za.length + zb.length) 0) 0 :=
  ⟨by simp, fun k => by rw [getD_rep]; decide, by rw [vp_rep]; simp [Nt.vp], fun j _ => getD_rep _ _⟩
theorem ProdInv.step {za zb s s' : List Int} {i : Nat} {c d : Int} (h : ProdInv za zb s i) (hi : i < za.length) (hd : d = za.getD i 0) (ht : TimesInv s zb i d s' zb.length c) (hc : 0 ≤ c) (hc' : c < 4294967296) :
    ProdInv za zb (s'.set (i + zb.length) c) (i + 1) := by
  have hl : i + zb.length < s'.length := by rw [ht.len, h.len]; omega
  refine ⟨by rw [List.length_set, ht.len]; exact h.len, Nt.rng_set ht.rng hc hc', ?_, fun j hj => ?_⟩
  · have e1 : i + 1 + zb.length = (i + zb.length) + 1 := by omega
    have he := ht.eq
    rw [h.eq] at he
    have ev : Nt.vp zb zb.length = Nt.val zb := rfl
    rw [ev] at he
    rw [e1, Nt.vp_step, Nt.vp_step, Nt.vp_set (Nat.le_refl _), Nt.getD_set_self hl, ← hd]
    rw [Nt.pw_add] at *
    generalize (4294967296 : Int) ^ i = P at *
    generalize (4294967296 : Int) ^ zb.length = K at *
    grind
  · rw [Nt.getD_set_ne (by omega), ht.rest j (by omega)]; exact h.rest j (by omega)
theorem ProdInv.done {za zb s : List Int} (h : ProdInv za zb s za.length) : Nt.val s = Nt.val za * Nt.val zb := by
  have := h.eq
  unfold Nt.val at *
  rw [h.len]; exact this

theorem Lie.lt {w : World} {a : Option Addr} {zs : List Int} (h : Lie w a zs) (hp : 0 < zs.length) : ∀ x, a = some x → x.block < w.heap.size := by
  intro x hx
  rcases h with rfl | ⟨b, o, rfl, hc⟩
  · simp at hp
  · cases hx
    exact World.block_lt_of_cell? w _ (hc 0 hp)

end Go.Proofs.Ytgfpbmjknknflaa

namespace Go.Proofs.Ytgfpbmjknknflaa
open Go.RowKit
set_option linter.unusedVariables false
set_option maxRecDepth 3000
theorem may_can {za : List Int} (hr : Nt.Rng za) (h : mayB za = true) : Nt.Can za ∧ za.length ≤ 4096 := by
  simp only [mayB, Bool.or_eq_true, beq_iff_eq, Bool.and_eq_true, decide_eq_true_eq, bne_iff_ne] at h
  rcases h with h | ⟨h1, h2⟩
  · exact ⟨⟨hr, fun c => absurd h c⟩, by omega⟩
  · exact ⟨⟨hr, fun _ => h2⟩, h1⟩
theorem can_may {za : List Int} (h : Nt.Can za) (hl : za.length ≤ 4096) : mayB za = true := by
  simp only [mayB, Bool.or_eq_true, beq_iff_eq, Bool.and_eq_true, decide_eq_true_eq, bne_iff_ne]
  by_cases c : za.length = 0
  · exact .inl c
  · exact .inr ⟨hl, h.2 c⟩

/-- What Add, Mul answer: a number that is not too long, or ErrLong. -/
def Told (w : World) (x : Int) (e : Ending) (w' : World) : Prop := ∃ zs, Nt.Can zs ∧ Nt.val zs = x ∧ Below w.heap.size w w' ∧
      ((zs.length ≤ 4096 ∧ ∃ v, e = .returned (.tuple #[v, .int .i64 0]) ∧ Own w.heap.size w' v zs) ∨ (4096 < zs.length ∧ e = .returned (.tuple #[.slice none 0 0, .int .i64 3])))

theorem vp_cons (d : Int) (s : List Int) (k : Nat) : Nt.vp (d :: s) (k + 1) = d + 4294967296 * Nt.vp s k := by
  induction k with
  | zero => simp [Nt.vp]
  | succ k ih =>
    rw [Nt.vp_step, ih, Nt.vp_step s k, Nt.pw_succ]
    have : (d :: s).getD (k + 1) 0 = s.getD k 0 := by simp [List.getD_eq_getElem?_getD]
    rw [this]
    generalize (4294967296 : Int) ^ k = P
    grind
theorem val_cons (d : Int) (s : List Int) : Nt.val (d :: s) = d + 4294967296 * Nt.val s := vp_cons d s s.length
theorem can_ge {s : List Int} (h : Nt.Can s) (hp : 0 < s.length) : (4294967296 : Int) ^ (s.length - 1) ≤ Nt.val s := by
  have := (Nt.can_len h (s.length - 1))
  by_cases c : Nt.val s < 4294967296 ^ (s.length - 1)
  · have := this.1 c; omega
  · omega

theorem lie_new (w : World) (zs : List Int) : Lie (w.alloc (.cells (zs.map (Value.int .u32)).toArray 112)) (some ⟨w.heap.size, 0, none⟩) zs := by
  have h : Blk (w.alloc (.cells (zs.map (Value.int .u32)).toArray 112)) w.heap.size zs := heap_alloc_new w _
  exact h.lie (n := 0)

/-- The success of Add or Mul: the sum is not too long. -/
theorem Told.fits {w w' : World} {x : Int} {e : Ending} (h : Told w x e w') (hx : x < 4294967296 ^ 4096) : ∃ zs, Nt.Can zs ∧ Nt.val zs = x ∧ Below w.heap.size w w' ∧ zs.length ≤ 4096 ∧ ∃ a c, e = .returned (.tuple #[.slice a zs.length c, .int .i64 0]) ∧ Own w.heap.size w' (.slice a zs.length c) zs ∧ Lie w' a zs := by
  obtain ⟨zs, h1, h2, h3, h4⟩ := h
  refine ⟨zs, h1, h2, h3, ?_⟩
  rcases h4 with ⟨h5, v, rfl, h6⟩ | ⟨h5, _⟩
  · obtain ⟨a, c, rfl, _, _, hl⟩ := h6.lie
    exact ⟨h5, a, c, rfl, h6, hl⟩
  · have := (Nt.can_len h1 4096).1 (by rw [h2]; exact hx)
    omega

/-- Not below nought, and of at most n digits. -/
def Lt (n : Nat) (x : Int) : Prop := 0 ≤ x ∧ x < 4294967296 ^ n
theorem Lt.of {n : Nat} {zs : List Int} (h : Nt.Rng zs) (hl : zs.length ≤ n) : Lt n (Nt.val zs) := by
  have h1 := Nt.val_bd h
  have h2 := Nt.pw_mono hl
  exact ⟨h1.1, by omega⟩
theorem Lt.mono {n m : Nat} {x : Int} (h : Lt n x) (hl : n ≤ m) : Lt m x := ⟨h.1, by have := Nt.pw_mono hl; have := h.2; omega⟩
theorem Lt.add {n : Nat} {x y : Int} (h : Lt n x) (k : Lt n y) : Lt (n + 1) (x + y) := by
  obtain ⟨h1, h2⟩ := h
  obtain ⟨k1, k2⟩ := k
  have := Nt.pw_succ n
  have := Nt.pw_pos n
  exact ⟨by omega, by omega⟩
/-- Numbers that lie in memory. -/
structure Live (w : World) (l : List (Option Addr × List Int)) : Prop where
  all : ∀ p ∈ l, Lie w p.1 p.2
theorem Live.push {w w' : World} {l : List (Option Addr × List Int)} {a : Option Addr} {zs : List Int} (h : Live w l) (hl : Lie w' a zs) (hb : Below w.heap.size w w') : Live w' ((a, zs) :: l) := by
  refine ⟨fun p hp => ?_⟩
  rcases List.mem_cons.1 hp with rfl | hp
  · exact hl
  · exact (h.all p hp).below hb (Nat.le_refl _)
theorem Live.keep {w w' : World} {l : List (Option Addr × List Int)} (h : Live w l) (hb : Below w.heap.size w w') : Live w' l := ⟨fun p hp => (h.all p hp).below hb (Nat.le_refl _)⟩

/-- A new number, x. -/
structure IsNum (w w' : World) (a : Option Addr) (zs : List Int) (x : Int) : Prop where
  can : Nt.Can zs
  len : zs.length ≤ 4096
  val : Nt.val zs = x
  lie : Lie w' a zs
  bel : Below w.heap.size w w'
/-- What is known of a number. -/
structure Good (zs : List Int) (x : Int) : Prop where
  can : Nt.Can zs
  len : zs.length ≤ 4096
  val : Nt.val zs = x
theorem IsNum.good {w w' : World} {a : Option Addr} {zs : List Int} {x : Int} (h : IsNum w w' a zs x) : Good zs x := ⟨h.can, h.len, h.val⟩
theorem Good.may {z : List Int} {u : Int} (h : Good z u) : mayB z = true := can_may h.can h.len
theorem Good.lt {z : List Int} {u : Int} (h : Good z u) : Lt 4096 u := by rw [← h.val]; exact Lt.of h.can.1 h.len

/-- append of one digit to a list of the call's own. -/
theorem app1 {w : World} {ops : Array Oper} {rest : List Oper} {o : Oper} {a : Act} {Q : Exit → Act → World → Prop} (hgd : o.guard = none) (s x : Operand)
    (ho : o.op = .call { callee := .builtin .append, args := #[s, x], argTypes := #[65, 65] }) (B : Nat) (v : Value) (zs : List Int) (d : Int) (g : Nat) (hs : a.eval s = v) (hx : a.eval x = .slice (some ⟨g, 0, none⟩) 1 1)
    (hown : Own B w v zs) (hc : w.cell? ⟨g, 0, none⟩ = some (.int .u32 d)) (hl : zs.length ≤ 100000000) (hB : B ≤ w.heap.size)
    (h : ∀ v' w', Own B w' v' (zs ++ [d]) → w.grownBy w' v.ownBlock → wpList Try.prog ops Q rest (a.put o.dst v') w') : wpList Try.prog ops Q (o :: rest) a w := by
  obtain ⟨i0, hi, hz0, hz1, hz2⟩ := info_parts Try.info49
  refine wpList_append_own w hgd s x 65 ho B 112 i0 (.int .u32 0) 1 4 Try.underlying65 hi hz0 hz1 hz2 rfl (by decide) v zs.length _ hs hown ⟨g, 0, none⟩ 1 1 [.int .u32 d] hx rfl ?_ ?_ (by unfold maxLen; omega) (by omega) hB ?_
  · intro j u hj
    match j, hj with
    | 0, hj =>
      simp only [List.getElem?_cons_zero, Option.some.injEq] at hj
      subst hj
      simpa [Addr.add] using hc
  · intro u hu
    simp only [List.mem_singleton] at hu
    subst hu; rfl
  · intro v' w' h1 h2 _
    refine h v' w' ?_ h2
    unfold Own
    simpa using h1

theorem own_grown {B : Nat} {w w0 w' : World} {v : Value} {zs : List Int} (hown : Own B w v zs) (hg : w.grownBy w' v.ownBlock) (hb : Below B w0 w) (hB : B ≤ w.heap.size) : Below B w0 w' :=
  hb.grown hg hB (fun k hk => (hown.lt k hk).1)
theorem own_alloc {B : Nat} {w : World} {v : Value} {zs : List Int} (h : Own B w v zs) (o : Obj) : Own B (w.alloc o) v zs := World.ownsRow.alloc h o

set_option maxHeartbeats 400000 in
theorem trim36 (a : Option Addr) (cap : Nat) (zs : List Int) (w : World) (hl : Lie w a zs) (hc : zs.length ≤ cap) (hm : cap ≤ maxLen) :
    Calls Try.prog 78 #[.slice a zs.length cap] w fun e w' => w = w' ∧ ∃ n, n ≤ zs.length ∧ e = .returned (.slice a n cap) ∧ (∀ j, n ≤ j → zs.getD j 0 = 0) ∧ (n ≠ 0 → zs.getD (n - 1) 0 ≠ 0) := by
  unfold maxLen at hm
  have hpast : ∀ j, zs.length ≤ j → zs.getD j 0 = 0 := fun j hj => by simp [List.getD_eq_getElem?_getD, List.getElem?_eq_none hj]
  rcases hl with rfl | ⟨b, o, rfl, hcell⟩
  · go_enter Try.func78, Try.ntmps78
    go_wp2
    refine wp_loop_rounds 1 ?_
    rw [rounds_succ]
    go_wp2
    go_ret
    exact ⟨rfl, 0, Nat.le_refl _, rfl, fun j _ => by simp, fun h => absurd rfl h⟩
  · generalize hn : zs.length = n at *
    have hN : Hid (zs.length = n) := hn
    clear hn
    go_enter Try.func78, Try.ntmps78
    go_wp2
    go_loop [3] (fun i => ∃ k : Nat, k ≤ n ∧ i = .int .i64 k ∧ ∀ j, k ≤ j → zs.getD j 0 = 0) (fun i => (intOf i).toNat)
    case atStart => exact ⟨n, Nat.le_refl _, rfl, hpast⟩
    case round =>
      obtain ⟨k, hk, rfl, hz⟩ := hrel
      have HZ : Hid (∀ j, k ≤ j → zs.getD j 0 = 0) := hz
      clear hz hpast
      cases k with
      | zero =>
        go_wp2
        go_ret
        exact ⟨rfl, 0, Nat.zero_le _, rfl, HZ.out, fun h => absurd rfl h⟩
      | succ k =>
        have hck := hcell k (by omega)
        clear hcell
        generalize hx : zs.getD k 0 = x at *
        have HX : Hid (zs.getD k 0 = x) := hx
        clear hx
        by_cases h0 : x = 0
        · subst h0
          go_wp2
          go_round
          case rel =>
            refine ⟨k, by omega, by go_num, fun j hj => ?_⟩
            by_cases e : j = k
            · subst e; exact HX.out
            · exact HZ.out j (by omega)
          case measure => simp [intOf]; try omega
        · have hb : (x == 0) = false := by simp [h0]
          go_wp2
          go_ret
          exact ⟨rfl, k + 1, hk, by go_num, HZ.out, fun _ => by have h := HX.out; simp only [List.getD_eq_getElem?_getD, Nat.add_sub_cancel] at h ⊢; rw [h]; exact h0⟩


/-- A number of two digits or less, trimmed. -/
theorem of_aux (w : World) (n : Int) (h0 : 0 ≤ n) (h1 : n < 18446744073709551616) (m : Nat) (hm : m ≤ 2) (hz : ∀ j, m ≤ j → ([n % 4294967296, n / 4294967296] : List Int).getD j 0 = 0) (hd : m ≠ 0 → ([n % 4294967296, n / 4294967296] : List Int).getD (m - 1) 0 ≠ 0) :
    ∃ zs, zs.length = m ∧ IsNum w (w.alloc (.cells #[.int .u32 (n % 4294967296), .int .u32 (n / 4294967296)] 112)) (some ⟨w.heap.size, 0, none⟩) zs n ∧ Own w.heap.size (w.alloc (.cells #[.int .u32 (n % 4294967296), .int .u32 (n / 4294967296)] 112)) (.slice (some ⟨w.heap.size, 0, none⟩) zs.length 2) zs := by
  have hb : Blk (w.alloc (.cells #[.int .u32 (n % 4294967296), .int .u32 (n / 4294967296)] 112)) w.heap.size [n % 4294967296, n / 4294967296] := heap_alloc_new w _
  have hr : Nt.Rng [n % 4294967296, n / 4294967296] := Nt.rng_mem (by intro z hz; simp at hz; omega)
  have hl : (([n % 4294967296, n / 4294967296] : List Int).take m).length = m := by simp; omega
  have ho := hb.own (B := w.heap.size) (n := m) (Nat.le_refl _) (by simpa using hm) (by unfold maxLen; simp)
  refine ⟨([n % 4294967296, n / 4294967296] : List Int).take m, hl, ⟨Nt.can_take hr (by simpa using hm) hd, by omega, ?_, ?_, below_alloc _ _⟩, by rw [hl]; exact ho⟩
  · rw [Nt.val_take hz (by simpa using hm)]
    rw [val_cons, val_cons, Nt.val_nil]; omega
  · obtain ⟨a, c, he, _, _, h⟩ := ho.lie
    simp only [Value.slice.injEq] at he
    rw [he.1]
    exact h

set_option maxHeartbeats 1000000 in
theorem of17 (n : Int) (h0 : 0 ≤ n) (h1 : n < 18446744073709551616) (w : World) :
    Calls Try.prog 59 #[.int .u64 n] w fun e w' => ∃ zs a c, e = .returned (.slice a zs.length c) ∧ IsNum w w' a zs n ∧ Own w.heap.size w' (.slice a zs.length c) zs := by
  have HT := Hide.mk (trim36 (some ⟨w.heap.size, 0, none⟩) 2 [n % 4294967296, n / 4294967296] _ (lie_new w [n % 4294967296, n / 4294967296]) (by simp) (by unfold maxLen; omega))
  go_enter Try.func59, Try.ntmps59
  go_wp2_with fail
  refine HT.out.mono ?_
  rintro e w' ⟨rfl, m, hm, rfl, hz, hd⟩
  have HF := Hide.mk (of_aux w n h0 h1 m hm hz hd)
  clear hz hd HT
  go_wp2
  go_ret
  obtain ⟨zs, hl, h2, h3⟩ := HF.out
  exact ⟨zs, _, 2, by rw [hl]; rfl, h2, h3⟩

theorem lie_cell {w : World} {a : Option Addr} {zs : List Int} (h : Lie w a zs) {b o : Nat} (ha : a = some ⟨b, o, none⟩) {i : Nat} (hi : i < zs.length) : w.cell? ⟨b, o + i, none⟩ = some (.int .u32 (zs.getD i 0)) := by
  rcases h with rfl | ⟨b', o', he, hc⟩
  · simp at hi
  · rw [ha] at he
    cases he
    exact hc i hi
theorem lie_some {w : World} {a : Option Addr} {zs : List Int} (h : Lie w a zs) (hp : 0 < zs.length) : ∃ b o, a = some ⟨b, o, none⟩ := by
  rcases h with rfl | ⟨b, o, he, _⟩
  · simp at hp
  · exact ⟨b, o, he⟩

set_option maxHeartbeats 1000000 in
theorem refCmp22 (a b : Option Addr) (ca cb : Nat) (za zb : List Int) (w : World) (ha : Lie w a za) (hb : Lie w b zb) (qa : Nt.Can za) (qb : Nt.Can zb) (hm : za.length ≤ maxLen) :
    Calls Try.prog 101 #[.slice a za.length ca, .slice b zb.length cb] w fun e w' => e = .returned (.int .i64 (sgn (Nt.val za) (Nt.val zb))) ∧ Below w.heap.size w w' := by
  unfold maxLen at hm
  by_cases hne : za.length = zb.length
  · have h1 : ((za.length : Int) != (zb.length : Int)) = false := by simp [hne]
    have hpast : ∀ j, za.length ≤ j → za.getD j 0 = zb.getD j 0 := fun j hj => by simp [List.getD_eq_getElem?_getD, List.getElem?_eq_none hj, List.getElem?_eq_none (show zb.length ≤ j by omega)]
    have HP := Hide.mk hpast
    have HL := Hide.mk hne
    have HA := Hide.mk ha
    have HB := Hide.mk hb
    have QA := Hide.mk qa
    have QB := Hide.mk qb
    clear hne ha hb qa qb hpast
    go_enter Try.func101, Try.ntmps101
    go_wp2
    go_loopw [5] (fun i wr => ∃ k : Nat, k ≤ za.length ∧ i = .int .i64 ((k : Int) - 1) ∧ (∀ j, k ≤ j → za.getD j 0 = zb.getD j 0) ∧ Below w.heap.size w wr) (fun i _ => (intOf i + 1).toNat)
    case atStart => exact ⟨za.length, Nat.le_refl _, rfl, HP.out, Below.refl _ _⟩
    case round =>
      obtain ⟨k, hk, rfl, hsame, hbel⟩ := hrel
      have HS := Hide.mk hsame
      clear hsame
      cases k with
      | succ p =>
        have hp1 : p < za.length := by omega
        obtain ⟨ba, oa, rfl⟩ := lie_some HA.out (by omega)
        obtain ⟨bb, ob, rfl⟩ := lie_some HB.out (by rw [← HL.out]; omega)
        have hlt2 : p < zb.length := by rw [← HL.out]; exact hp1
        have hca : wr.cell? ⟨ba, oa + p, none⟩ = some (.int .u32 (za.getD p 0)) := lie_cell (HA.out.below hbel (Nat.le_refl _)) rfl hp1
        have hcb : wr.cell? ⟨bb, ob + p, none⟩ = some (.int .u32 (zb.getD p 0)) := lie_cell (HB.out.below hbel (Nat.le_refl _)) rfl hlt2
        have hpi : ((p + 1 : Nat) : Int) - 1 = (p : Int) := by omega
        rw [hpi]
        have HR : Hide (za.getD p 0 ≠ zb.getD p 0 → sgn (Nt.val za) (Nt.val zb) = sgn (za.getD p 0) (zb.getD p 0)) := ⟨fun hne => cmp_at QA.out.1 QB.out.1 HL.out hp1 (fun j hj => HS.out j (by omega)) hne⟩
        clear hpi
        generalize hx : za.getD p 0 = x at *
        generalize hy : zb.getD p 0 = y at *
        have HX := Hide.mk hx
        have HY := Hide.mk hy
        clear hx hy
        rcases Int.lt_trichotomy x y with hxy | hxy | hxy
        · go_wp2
          go_region
          all_goals go_wp2
          all_goals go_ret
          all_goals exact ⟨by rw [HR.out (by omega), sgn_lt hxy]; rfl, hbel.drew⟩
        · have h1 : ¬ x < y := by omega
          have h2 : ¬ y < x := by omega
          have HXY := Hide.mk hxy
          clear hxy
          go_wp2
          go_region
          all_goals go_wp2
          go_region
          all_goals go_wp2
          go_roundw
          case rel =>
            refine ⟨p, by omega, rfl, fun j hj => ?_, hbel.drew.drew⟩
            by_cases e : j = p
            · subst e; rw [HX.out, HY.out]; exact HXY.out
            · exact HS.out j (by omega)
          case measure => simp [intOf]; try omega
        · have h1 : ¬ x < y := by omega
          go_wp2
          go_region
          all_goals go_wp2
          go_region
          all_goals go_wp2
          all_goals go_ret
          all_goals exact ⟨by rw [HR.out (by omega), sgn_gt hxy]; rfl, hbel.drew.drew⟩
      | zero =>
        go_wp2
        go_ret
        refine ⟨?_, hbel⟩
        have : za = zb := getD_eq_of_same (fun j hj => HS.out j (by omega)) HL.out
        rw [this, sgn_eq rfl]; rfl
  · have h1 : ((za.length : Int) != (zb.length : Int)) = true := by simp; omega
    rw [cmp_len qa qb hne]
    by_cases hlt : za.length < zb.length
    · rw [sgn_lt (by omega)]
      go_enter Try.func101, Try.ntmps101
      go_wp2
      go_ret
      exact ⟨rfl, Below.refl _ _⟩
    · rw [sgn_gt (by omega)]
      go_enter Try.func101, Try.ntmps101
      go_wp2
      go_ret
      exact ⟨rfl, Below.refl _ _⟩

theorem getD_append_lt {s : List Int} {x : Int} {j : Nat} (h : j < s.length) : (s ++ [x]).getD j 0 = s.getD j 0 := by
  simp [List.getD_eq_getElem?_getD, List.getElem?_append, h]
theorem getD_append_at {s : List Int} {x : Int} : (s ++ [x]).getD s.length 0 = x := by
  simp [List.getD_eq_getElem?_getD]
theorem vp_snoc (s : List Int) (x : Int) : Nt.vp (s ++ [x]) (s.length + 1) = Nt.vp s s.length + x * 4294967296 ^ s.length := by
  rw [Nt.vp_step, getD_append_at, Nt.vp_congr (fun j hj => getD_append_lt hj)]
theorem rng_snoc {s : List Int} {x : Int} (h : Nt.Rng s) (h0 : 0 ≤ x) (h1 : x < 4294967296) : Nt.Rng (s ++ [x]) := by
  intro k
  by_cases c : k < s.length
  · rw [getD_append_lt c]; exact h k
  · by_cases e : k = s.length
    · subst e; rw [getD_append_at]; exact ⟨h0, h1⟩
    · have : (s ++ [x]).getD k 0 = 0 := by
        simp only [List.getD_eq_getElem?_getD]
        rw [List.getElem?_eq_none (by simp; omega)]; rfl
      rw [this]; decide
theorem getD_past {s : List Int} {j : Nat} (h : s.length ≤ j) : s.getD j 0 = 0 := by
  simp [List.getD_eq_getElem?_getD, List.getElem?_eq_none h]

/-- After as many rounds of the reference's Add as s has digits. -/
structure RefAddInv (za zb s : List Int) (c : Int) : Prop where
  rng : Nt.Rng s
  eq : Nt.vp s s.length + c * 4294967296 ^ s.length = Nt.vp za s.length + Nt.vp zb s.length
theorem RefAddInv.step {za zb s : List Int} {c : Int} (h : RefAddInv za zb s c) (t : Int) (ht : t = c + za.getD s.length 0 + zb.getD s.length 0) :
    RefAddInv za zb (s ++ [t % 4294967296]) (t / 4294967296) := by
  refine ⟨rng_snoc h.rng (by omega) (by omega), ?_⟩
  have e := h.eq
  have hn : t % 4294967296 + t / 4294967296 * 4294967296 = t := by omega
  rw [List.length_append, List.length_singleton, vp_snoc, Nt.vp_step, Nt.vp_step, Nt.pw_succ]
  generalize t % 4294967296 = n at *
  generalize t / 4294967296 = c' at *
  generalize (4294967296 : Int) ^ s.length = P at *
  grind

theorem cell_new1 (w : World) (u : Value) : (w.alloc (.cells #[u] 112)).cell? ⟨w.heap.size, 0, none⟩ = some u := by
  rw [cell_of_row _ w.heap.size 0 _ 112 (0, 0) (heap_alloc_new w _)]; rfl
theorem own_push {B : Nat} {w0 w w' : World} {v : Value} {s : List Int} {o : Obj} (hown : Own B w v s) (hg : (w.alloc o).grownBy w' v.ownBlock) (hb : Below B w0 w) (hB : B ≤ w.heap.size) : Below B w0 w' :=
  own_grown (own_alloc hown o) hg (hb.alloc hB o) (by simp; omega)

theorem own_take {B : Nat} {w : World} {a : Option Addr} {n c m : Nat} {zs : List Int} (h : Own B w (.slice a n c) zs) (hm : m ≤ zs.length) : Own B w (.slice a m c) (zs.take m) := by
  have hl : (zs.take m).length = m := by simp; omega
  have h1 := h.1
  rcases h.2 with ⟨hv, h0⟩ | ⟨g, cap, cur, hv, hB, hg, hn, hcm, hsz, ht⟩
  · simp only [Value.slice.injEq] at hv
    obtain ⟨rfl, rfl, rfl⟩ := hv
    have : m = 0 := by omega
    subst this
    simpa using Own.nil B w
  · simp only [Value.slice.injEq] at hv
    obtain ⟨rfl, rfl, rfl⟩ := hv
    refine ⟨by simp, .inr ⟨g, c, cur, by rw [hl], hB, hg, by omega, hcm, hsz, ?_⟩⟩
    rw [hl, List.map_take, ← ht, List.take_take]
    congr 1
    omega

set_option maxHeartbeats 2000000 in
theorem refAdd23 (a b : Option Addr) (ca cb : Nat) (za zb : List Int) (w : World) (ha : Lie w a za) (hb : Lie w b zb) (ra : Nt.Rng za) (rb : Nt.Rng zb) (hna : za.length ≤ 4000000) (hnb : zb.length ≤ 4000000) :
    Calls Try.prog 100 #[.slice a za.length ca, .slice b zb.length cb] w fun e w' => ∃ zs a' c, e = .returned (.slice a' zs.length c) ∧ Own w.heap.size w' (.slice a' zs.length c) zs ∧ Nt.Can zs ∧ Nt.val zs = Nt.val za + Nt.val zb ∧ Below w.heap.size w w' := by
  have HA := Hide.mk ha
  have HB := Hide.mk hb
  have RA := Hide.mk ra
  have RB := Hide.mk rb
  clear ha hb ra rb
  go_enter Try.func100, Try.ntmps100
  go_wp2
  go_loopw [5, 6, 7] (fun v c i wr => ∃ (s : List Int) (cc : Int), s.length ≤ max za.length zb.length ∧ i = .int .i64 (s.length : Int) ∧ c = .int .u64 cc ∧ 0 ≤ cc ∧ cc ≤ 1 ∧ Own w.heap.size wr v s ∧ RefAddInv za zb s cc ∧ Below w.heap.size w wr) (fun _ _ i _ => max za.length zb.length - (intOf i).toNat)
  case atStart => exact ⟨[], 0, Nat.zero_le _, rfl, rfl, by decide, by decide, Own.nil _ _, ⟨Nt.rng_nil, by simp [Nt.vp]⟩, Below.refl _ _⟩
  case round =>
    obtain ⟨s, cc, hk, rfl, rfl, hc0, hc1, hown, hinv, hbel⟩ := hrel
    by_cases hlt : s.length < za.length
    · obtain ⟨ba, oa, rfl⟩ := lie_some HA.out (by omega)
      have hca := lie_cell (HA.out.below hbel (Nat.le_refl _)) rfl hlt
      have hra := RA.out s.length
      by_cases hlt2 : s.length < zb.length
      · obtain ⟨bb, ob, rfl⟩ := lie_some HB.out (by omega)
        have hcb := lie_cell (HB.out.below hbel (Nat.le_refl _)) rfl hlt2
        have hrb := RB.out s.length
        have HI := Hide.mk (hinv.step (cc + za.getD s.length 0 + zb.getD s.length 0) rfl)
        have HO := Hide.mk hown
        clear hinv hown
        generalize hn : s.length = n at *
        have HN := Hide.mk hn
        clear hn
        generalize za.getD n 0 = x at *
        generalize zb.getD n 0 = y at *
        go_wp2_with (at_builtin; refine app1 rfl (.tmp 42) (.tmp 45) rfl w.heap.size _ s ((cc + x + y) % 4294967296) wr.heap.size rfl rfl (own_alloc HO.out _) (cell_new1 _ _) (by have := HN.out; omega) (by have := hbel.size; simp; omega) ?_; intro v2 w2 hown2 hgrow)
        have hb2 := own_push HO.out hgrow hbel (by have := hbel.size; omega)
        have HO2 := Hide.mk hown2
        clear hown2 hgrow
        go_wp2
        go_roundw
        case rel => exact ⟨_, _, by rw [List.length_append, List.length_singleton, HN.out]; omega, by rw [List.length_append, List.length_singleton, HN.out]; go_num, rfl, by omega, by omega, HO2.out, HI.out, hb2⟩
        case measure => simp [intOf]; omega
      · have HI : Hide (RefAddInv za zb (s ++ [(cc + za.getD s.length 0) % 4294967296]) ((cc + za.getD s.length 0) / 4294967296)) := ⟨by
          have := hinv.step (cc + za.getD s.length 0) (by rw [getD_past (s := zb) (by omega)]; omega)
          exact this⟩
        have HO := Hide.mk hown
        clear hinv hown
        generalize hn : s.length = n at *
        have HN := Hide.mk hn
        clear hn
        generalize za.getD n 0 = x at *
        go_wp2_with (at_builtin; refine app1 rfl (.tmp 42) (.tmp 45) rfl w.heap.size _ s ((cc + x) % 4294967296) wr.heap.size rfl rfl (own_alloc HO.out _) (cell_new1 _ _) (by have := HN.out; omega) (by have := hbel.size; simp; omega) ?_; intro v2 w2 hown2 hgrow)
        have hb2 := own_push HO.out hgrow hbel (by have := hbel.size; omega)
        have HO2 := Hide.mk hown2
        clear hown2 hgrow
        go_wp2
        go_roundw
        case rel => exact ⟨_, _, by rw [List.length_append, List.length_singleton, HN.out]; omega, by rw [List.length_append, List.length_singleton, HN.out]; go_num, rfl, by omega, by omega, HO2.out, HI.out, hb2⟩
        case measure => simp [intOf]; omega
    · by_cases hlt2 : s.length < zb.length
      · obtain ⟨bb, ob, rfl⟩ := lie_some HB.out (by omega)
        have hcb := lie_cell (HB.out.below hbel (Nat.le_refl _)) rfl hlt2
        have hrb := RB.out s.length
        have HI : Hide (RefAddInv za zb (s ++ [(cc + zb.getD s.length 0) % 4294967296]) ((cc + zb.getD s.length 0) / 4294967296)) := ⟨by
          have := hinv.step (cc + zb.getD s.length 0) (by rw [getD_past (s := za) (by omega)]; omega)
          exact this⟩
        have HO := Hide.mk hown
        clear hinv hown
        generalize hn : s.length = n at *
        have HN := Hide.mk hn
        clear hn
        generalize zb.getD n 0 = y at *
        go_wp2_with (at_builtin; refine app1 rfl (.tmp 42) (.tmp 45) rfl w.heap.size _ s ((cc + y) % 4294967296) wr.heap.size rfl rfl (own_alloc HO.out _) (cell_new1 _ _) (by have := HN.out; omega) (by have := hbel.size; simp; omega) ?_; intro v2 w2 hown2 hgrow)
        have hb2 := own_push HO.out hgrow hbel (by have := hbel.size; omega)
        have HO2 := Hide.mk hown2
        clear hown2 hgrow
        go_wp2
        go_roundw
        case rel => exact ⟨_, _, by rw [List.length_append, List.length_singleton, HN.out]; omega, by rw [List.length_append, List.length_singleton, HN.out]; go_num, rfl, by omega, by omega, HO2.out, HI.out, hb2⟩
        case measure => simp [intOf]; omega
      · have HI := Hide.mk (hinv.step cc (by rw [getD_past (s := za) (by omega), getD_past (s := zb) (by omega)]; omega))
        have HO := Hide.mk hown
        have HV : Hide (Nt.vp za s.length = Nt.val za ∧ Nt.vp zb s.length = Nt.val zb) := ⟨(Nt.val_vp (by omega)).symm, (Nt.val_vp (by omega)).symm⟩
        have HQ := Hide.mk hinv.eq
        have hcc : cc % 4294967296 = cc := by omega
        have HC := Hide.mk hcc
        clear hinv hown hcc
        generalize hn : s.length = n at *
        have HN := Hide.mk hn
        clear hn
        go_wp2_with (at_builtin; refine app1 rfl (.tmp 49) (.tmp 52) rfl w.heap.size _ s cc wr.heap.size rfl rfl (own_alloc HO.out _) (cell_new1 _ _) (by have := HN.out; omega) (by have := hbel.size; simp; omega) ?_; intro v2 w2 hown2 hgrow)
        have hb2 := own_push HO.out hgrow hbel (by have := hbel.size; omega)
        obtain ⟨a2, c2, hv2, h1, h2, hl2⟩ := hown2.lie
        have HO2 := Hide.mk hown2
        have HT := Hide.mk (trim36 a2 c2 _ w2 hl2 h1 h2)
        have HV2 := Hide.mk hv2
        clear hown2 hgrow hl2 h1 h2
        rw [hv2]
        clear hv2
        refine HT.out.mono ?_
        rintro e w' ⟨rfl, m, hm, rfl, hz, hd⟩
        have HF : Hide (∃ zs a' c, Value.slice a2 m c2 = .slice a' zs.length c ∧ Own w.heap.size w2 (.slice a' zs.length c) zs ∧ Nt.Can zs ∧ Nt.val zs = Nt.val za + Nt.val zb) := ⟨by
          have hl : ((s ++ [cc]).take m).length = m := by simp only [List.length_take]; omega
          have hr := HI.out.rng
          rw [HC.out] at hr
          refine ⟨(s ++ [cc]).take m, a2, c2, by rw [hl], ?_, Nt.can_take hr hm hd, ?_⟩
          · rw [hl]
            have := HO2.out
            rw [HV2.out] at this
            exact own_take this hm
          · rw [Nt.val_take hz hm]
            unfold Nt.val
            rw [List.length_append, List.length_singleton, vp_snoc]
            have h1 := HQ.out
            have h2 := HV.out
            have h3 := HN.out
            unfold Nt.val at h2
            rw [h3, h1, h2.1, h2.2]⟩
        clear hz hd hm HI HQ HV HT HO HO2
        go_wp2
        go_ret
        obtain ⟨zs, a', c, h1, h2, h3, h4⟩ := HF.out
        exact ⟨zs, a', c, congrArg Ending.returned h1, h2, h3, h4, hb2⟩

/-- After as many rounds of the reference's Sub as s has digits. -/
structure RefSubInv (za zb s : List Int) (c : Int) : Prop where
  rng : Nt.Rng s
  eq : Nt.vp s s.length - c * 4294967296 ^ s.length = Nt.vp za s.length - Nt.vp zb s.length
theorem RefSubInv.step {za zb s : List Int} {c t : Int} (h : RefSubInv za zb s c) (b : Int) (ht : t - b * 4294967296 = za.getD s.length 0 - (c + zb.getD s.length 0)) (h0 : 0 ≤ t) (h1 : t < 4294967296) :
    RefSubInv za zb (s ++ [t]) b := by
  refine ⟨rng_snoc h.rng h0 h1, ?_⟩
  have e := h.eq
  rw [List.length_append, List.length_singleton, vp_snoc, Nt.vp_step, Nt.vp_step, Nt.pw_succ]
  generalize (4294967296 : Int) ^ s.length = P at *
  grind

set_option maxHeartbeats 4000000 in
theorem refSub24 (a b : Option Addr) (ca cb : Nat) (za zb : List Int) (w : World) (ha : Lie w a za) (hb : Lie w b zb) (ra : Nt.Rng za) (rb : Nt.Rng zb) (hna : za.length ≤ 4000000) (hle : zb.length ≤ za.length) (hv : Nt.val zb ≤ Nt.val za) :
    Calls Try.prog 102 #[.slice a za.length ca, .slice b zb.length cb] w fun e w' => ∃ zs a' c, e = .returned (.slice a' zs.length c) ∧ Own w.heap.size w' (.slice a' zs.length c) zs ∧ Nt.Can zs ∧ Nt.val zs = Nt.val za - Nt.val zb ∧ Below w.heap.size w w' := by
  have HA := Hide.mk ha
  have HB := Hide.mk hb
  have RA := Hide.mk ra
  have RB := Hide.mk rb
  have HV := Hide.mk hv
  clear ha hb ra rb hv
  go_enter Try.func102, Try.ntmps102
  go_wp2
  go_loopw [5, 6, 7] (fun v c i wr => ∃ (s : List Int) (cc : Int), s.length ≤ za.length ∧ i = .int .i64 (s.length : Int) ∧ c = .int .u64 cc ∧ 0 ≤ cc ∧ cc ≤ 1 ∧ Own w.heap.size wr v s ∧ RefSubInv za zb s cc ∧ Below w.heap.size w wr) (fun _ _ i _ => za.length - (intOf i).toNat)
  case atStart => exact ⟨[], 0, Nat.zero_le _, rfl, rfl, by decide, by decide, Own.nil _ _, ⟨Nt.rng_nil, by simp [Nt.vp]⟩, Below.refl _ _⟩
  case round =>
    obtain ⟨s, cc, hk, rfl, rfl, hc0, hc1, hown, hinv, hbel⟩ := hrel
    by_cases hlt : s.length < za.length
    · obtain ⟨ba, oa, rfl⟩ := lie_some HA.out (by omega)
      have hca := lie_cell (HA.out.below hbel (Nat.le_refl _)) rfl hlt
      have hra := RA.out s.length
      by_cases hlt2 : s.length < zb.length
      · obtain ⟨bb, ob, rfl⟩ := lie_some HB.out (by omega)
        have hcb := lie_cell (HB.out.below hbel (Nat.le_refl _)) rfl hlt2
        have hrb := RB.out s.length
        have HS := fun t b => Hide.mk (fun h0 h1 h2 => hinv.step (t := t) b h0 h1 h2)
        have HO := Hide.mk hown
        clear hinv hown
        generalize hn : s.length = n at *
        have HN := Hide.mk hn
        clear hn
        generalize za.getD n 0 = x at *
        generalize zb.getD n 0 = y at *
        by_cases hxy : x < cc + y
        · have HI := Hide.mk ((HS (x + 4294967296 - (cc + y)) 1).out (by omega) (by omega) (by omega))
          clear HS
          go_wp2_with (at_builtin; refine app1 rfl (.tmp 38) (.tmp 43) rfl w.heap.size _ s (x + 4294967296 - (cc + y)) wr.heap.size rfl rfl (own_alloc HO.out _) (cell_new1 _ _) (by have := HN.out; omega) (by have := hbel.size; simp; omega) ?_; intro v2 w2 hown2 hgrow)
          have hb2 := own_push HO.out hgrow hbel (by have := hbel.size; omega)
          have HO2 := Hide.mk hown2
          clear hown2 hgrow
          go_wp2
          go_roundw
          case rel => exact ⟨_, 1, by rw [List.length_append, List.length_singleton, HN.out]; omega, by rw [List.length_append, List.length_singleton, HN.out]; go_num, rfl, by omega, by omega, HO2.out, HI.out, hb2⟩
          case measure => simp [intOf]; omega
        · have HI := Hide.mk ((HS (x - (cc + y)) 0).out (by omega) (by omega) (by omega))
          clear HS
          go_wp2_with (at_builtin; refine app1 rfl (.tmp 38) (.tmp 43) rfl w.heap.size _ s (x - (cc + y)) wr.heap.size rfl rfl (own_alloc HO.out _) (cell_new1 _ _) (by have := HN.out; omega) (by have := hbel.size; simp; omega) ?_; intro v2 w2 hown2 hgrow)
          have hb2 := own_push HO.out hgrow hbel (by have := hbel.size; omega)
          have HO2 := Hide.mk hown2
          clear hown2 hgrow
          go_wp2
          go_roundw
          case rel => exact ⟨_, 0, by rw [List.length_append, List.length_singleton, HN.out]; omega, by rw [List.length_append, List.length_singleton, HN.out]; go_num, rfl, by omega, by omega, HO2.out, HI.out, hb2⟩
          case measure => simp [intOf]; omega
      · have HS := fun t b => Hide.mk (fun h0 h1 h2 => hinv.step (t := t) b h0 h1 h2)
        rw [getD_past (s := zb) (show zb.length ≤ s.length by omega)] at HS
        have HO := Hide.mk hown
        clear hinv hown
        generalize hn : s.length = n at *
        have HN := Hide.mk hn
        clear hn
        generalize za.getD n 0 = x at *
        by_cases hxy : x < cc
        · have HI := Hide.mk ((HS (x + 4294967296 - cc) 1).out (by omega) (by omega) (by omega))
          clear HS
          go_wp2_with (at_builtin; refine app1 rfl (.tmp 38) (.tmp 43) rfl w.heap.size _ s (x + 4294967296 - cc) wr.heap.size rfl rfl (own_alloc HO.out _) (cell_new1 _ _) (by have := HN.out; omega) (by have := hbel.size; simp; omega) ?_; intro v2 w2 hown2 hgrow)
          have hb2 := own_push HO.out hgrow hbel (by have := hbel.size; omega)
          have HO2 := Hide.mk hown2
          clear hown2 hgrow
          go_wp2
          go_roundw
          case rel => exact ⟨_, 1, by rw [List.length_append, List.length_singleton, HN.out]; omega, by rw [List.length_append, List.length_singleton, HN.out]; go_num, rfl, by omega, by omega, HO2.out, HI.out, hb2⟩
          case measure => simp [intOf]; omega
        · have HI := Hide.mk ((HS (x - cc) 0).out (by omega) (by omega) (by omega))
          clear HS
          go_wp2_with (at_builtin; refine app1 rfl (.tmp 38) (.tmp 43) rfl w.heap.size _ s (x - cc) wr.heap.size rfl rfl (own_alloc HO.out _) (cell_new1 _ _) (by have := HN.out; omega) (by have := hbel.size; simp; omega) ?_; intro v2 w2 hown2 hgrow)
          have hb2 := own_push HO.out hgrow hbel (by have := hbel.size; omega)
          have HO2 := Hide.mk hown2
          clear hown2 hgrow
          go_wp2
          go_roundw
          case rel => exact ⟨_, 0, by rw [List.length_append, List.length_singleton, HN.out]; omega, by rw [List.length_append, List.length_singleton, HN.out]; go_num, rfl, by omega, by omega, HO2.out, HI.out, hb2⟩
          case measure => simp [intOf]; omega
    · have HF : Hide (Nt.Rng s ∧ Nt.val s = Nt.val za - Nt.val zb) := ⟨by
        have hn : s.length = za.length := by omega
        have e := hinv.eq
        have hb := (Nt.vp_bd hinv.rng s.length).2
        have h3 : Nt.vp za s.length = Nt.val za := by rw [hn]; rfl
        have h4 : Nt.vp zb s.length = Nt.val zb := (Nt.val_vp (by omega)).symm
        have hv := HV.out
        have hc : cc = 0 := by
          by_cases c : cc = 0
          · exact c
          · have : cc = 1 := by omega
            subst this
            omega
        subst hc
        refine ⟨hinv.rng, ?_⟩
        show Nt.vp s s.length = _
        omega⟩
      obtain ⟨a2, c2, hv2, h1, h2, hl2⟩ := hown.lie
      have HO := Hide.mk hown
      have HT := Hide.mk (trim36 a2 c2 _ wr hl2 h1 h2)
      clear hown hinv hl2 h1 h2
      subst hv2
      go_wp2_with fail
      refine HT.out.mono ?_
      rintro e w' ⟨rfl, m, hm, rfl, hz, hd⟩
      have HG : Hide (∃ zs a' c, Value.slice a2 m c2 = .slice a' zs.length c ∧ Own w.heap.size wr (.slice a' zs.length c) zs ∧ Nt.Can zs ∧ Nt.val zs = Nt.val za - Nt.val zb) := ⟨by
        have hl : (s.take m).length = m := by simp only [List.length_take]; omega
        refine ⟨s.take m, a2, c2, by rw [hl], ?_, Nt.can_take HF.out.1 hm hd, ?_⟩
        · rw [hl]; exact own_take HO.out hm
        · rw [Nt.val_take hz hm]; exact HF.out.2⟩
      clear hz hd hm HT HO HF
      go_wp2
      go_ret
      obtain ⟨zs, a', c, h1, h2, h3, h4⟩ := HG.out
      exact ⟨zs, a', c, congrArg Ending.returned h1, h2, h3, h4, hbel⟩

/-- The memory of an answer is written over: nothing else turns. -/
theorem Own.blk {B : Nat} {w : World} {v : Value} {zs : List Int} (h : Own B w v zs) : (v = .slice none 0 0 ∧ zs = []) ∨ ∃ g cap cur, v = .slice (some ⟨g, 0, none⟩) zs.length cap ∧ B ≤ g ∧ w.heap[g]? = some (.cells cur 112 (0, 0)) ∧ zs.length ≤ cur.size := by
  have h1 := h.1
  rcases h.2 with ⟨hv, h0⟩ | ⟨g, cap, cur, hv, hB, hg, hn, _, hsz, _⟩
  · exact .inl ⟨hv, List.length_eq_zero_iff.1 h0⟩
  · exact .inr ⟨g, cap, cur, hv, hB, hg, by omega⟩


end Go.Proofs.Ytgfpbmjknknflaa
