import Derived.Test.YtgfpbmjknknflaaRows
import Derived.WalkKit
import Derived.WalkSpells
import Derived.WalkLawsBesides
import Derived.Laws.CopyOwn
import Derived.Laws.AppendOwnNone
import Derived.Lib.BitFns
import Derived.Lib.Walk
import Derived.Shelf.Spec.TrailingZeros
import Derived.OwnWalk
import Derived.RegionTactic
import Derived.Below
import Derived.Laws.ResultCell
import Derived.Laws.Rows
/-
  Plain arithmetic of digit lists to the base 2^32: no program in sight.
-/
set_option linter.unusedVariables false
namespace Nt

/-- The value of the first k digits of s. -/
def vp (s : List Int) : Nat → Int
  | 0 => 0
  | k + 1 => vp s k + s.getD k 0 * 4294967296 ^ k

def val (s : List Int) : Int := vp s s.length

def Rng (s : List Int) : Prop := ∀ k, 0 ≤ s.getD k 0 ∧ s.getD k 0 < 4294967296

def Can (s : List Int) : Prop := Rng s ∧ (s.length ≠ 0 → s.getD (s.length - 1) 0 ≠ 0)

theorem pw_pos (k : Nat) : (0 : Int) < 4294967296 ^ k := Int.pow_pos (by decide)
theorem pw_succ (k : Nat) : (4294967296 : Int) ^ (k + 1) = 4294967296 ^ k * 4294967296 := Int.pow_succ _ _
theorem pw_add (i j : Nat) : (4294967296 : Int) ^ (i + j) = 4294967296 ^ i * 4294967296 ^ j := Int.pow_add _ _ _

theorem vp_congr {s t : List Int} {k : Nat} (h : ∀ j, j < k → s.getD j 0 = t.getD j 0) : vp s k = vp t k := by
  induction k with
  | zero => rfl
  | succ k ih => simp only [vp]; rw [ih (fun j hj => h j (by omega)), h k (by omega)]

theorem vp_bd {s : List Int} (h : Rng s) (k : Nat) : 0 ≤ vp s k ∧ vp s k < 4294967296 ^ k := by
  induction k with
  | zero => simp [vp]
  | succ k ih =>
    simp only [vp]
    have hk := h k
    have hp := pw_pos k
    have e := pw_succ k
    have h1 : 0 ≤ s.getD k 0 * 4294967296 ^ k := Int.mul_nonneg hk.1 (by omega)
    have h2 : s.getD k 0 * 4294967296 ^ k ≤ 4294967295 * 4294967296 ^ k := Int.mul_le_mul_of_nonneg_right (by omega) (by omega)
    omega

theorem vp_past {s : List Int} {k m : Nat} (h : s.length ≤ k) (hm : k ≤ m) : vp s m = vp s k := by
  induction m with
  | zero => have : k = 0 := by omega
            subst this; rfl
  | succ m ih =>
    by_cases e : k = m + 1
    · subst e; rfl
    · simp only [vp]
      rw [ih (by omega)]
      have : s.getD m 0 = 0 := by simp [List.getD_eq_getElem?_getD, List.getElem?_eq_none (show s.length ≤ m by omega)]
      rw [this]; omega

theorem val_vp {s : List Int} {k : Nat} (h : s.length ≤ k) : val s = vp s k := (vp_past (Nat.le_refl _) h).symm

theorem val_bd {s : List Int} (h : Rng s) : 0 ≤ val s ∧ val s < 4294967296 ^ s.length := vp_bd h _

theorem vp_step (s : List Int) (k : Nat) : vp s (k + 1) = vp s k + s.getD k 0 * 4294967296 ^ k := rfl

theorem pw_mono {i j : Nat} (h : i ≤ j) : (4294967296 : Int) ^ i ≤ 4294967296 ^ j := by
  induction j with
  | zero => have : i = 0 := by omega
            subst this; exact Int.le_refl _
  | succ j ih =>
    by_cases e : i = j + 1
    · subst e; exact Int.le_refl _
    · have := ih (by omega)
      have hp := pw_pos j
      have := pw_succ j
      omega

theorem can_len {s : List Int} (h : Can s) (n : Nat) : val s < 4294967296 ^ n ↔ s.length ≤ n := by
  constructor
  · intro hv
    by_cases c : s.length ≤ n
    · exact c
    · exfalso
      have h0 : s.length ≠ 0 := by omega
      have hd := h.2 h0
      have hr := h.1 (s.length - 1)
      have hb := vp_bd h.1 (s.length - 1)
      have e : val s = vp s (s.length - 1) + s.getD (s.length - 1) 0 * 4294967296 ^ (s.length - 1) := by
        unfold val
        have : s.length = (s.length - 1) + 1 := by omega
        rw [this]; simp only [Nat.add_sub_cancel]; exact vp_step _ _
      have hp := pw_pos (s.length - 1)
      have hm := pw_mono (show n ≤ s.length - 1 by omega)
      have : 1 * 4294967296 ^ (s.length - 1) ≤ s.getD (s.length - 1) 0 * 4294967296 ^ (s.length - 1) := Int.mul_le_mul_of_nonneg_right (by omega) (by omega)
      omega
  · intro hl
    have := (val_bd h.1).2
    have := pw_mono hl
    omega

theorem getD_set_self {s : List Int} {i : Nat} {x : Int} (h : i < s.length) : (s.set i x).getD i 0 = x := by
  simp [List.getD_eq_getElem?_getD, h]
theorem getD_set_ne {s : List Int} {i j : Nat} {x : Int} (h : i ≠ j) : (s.set i x).getD j 0 = s.getD j 0 := by
  simp [List.getD_eq_getElem?_getD, List.getElem?_set_ne h]
theorem vp_set {s : List Int} {i k : Nat} {x : Int} (h : k ≤ i) : vp (s.set i x) k = vp s k :=
  vp_congr (fun j hj => getD_set_ne (by omega))

theorem rng_nil : Rng [] := fun k => by simp
theorem val_nil : val [] = 0 := rfl
theorem can_nil : Can [] := ⟨rng_nil, fun h => absurd rfl h⟩

/-- -1, 0 or 1. -/
def sgn (x y : Int) : Int := if x < y then -1 else if y < x then 1 else 0

end Nt

namespace Go.Proofs.Ytgfpbmjknknflaa
open Go.RowKit
set_option linter.unusedVariables false
/-- The digits zs lie in memory from address a on (nil where there are none). -/
def Lie (w : World) (a : Option Addr) (zs : List Int) : Prop :=
  zs = [] ∨ ∃ b o, a = some ⟨b, o, none⟩ ∧ ∀ i, i < zs.length → w.cell? ⟨b, o + i, none⟩ = some (.int .u32 (zs.getD i 0))

/-- Block g is a row of digits s. -/
def Blk (w : World) (g : Nat) (s : List Int) : Prop := w.heap[g]? = some (.cells (s.map (Value.int .u32)).toArray 112 (0, 0))

/-- A number in new memory (blocks from B on): a slice value with the digits zs. -/
def Own (B : Nat) (w : World) (v : Value) (zs : List Int) : Prop := w.ownsRow B 112 1 v zs.length (zs.map (Value.int .u32))

theorem Lie.below {w w' : World} {a : Option Addr} {zs : List Int} {B : Nat} (h : Lie w a zs) (hb : Below B w w') (hB : w.heap.size ≤ B) : Lie w' a zs := by
  rcases h with h | ⟨b, o, rfl, hc⟩
  · exact .inl h
  · refine .inr ⟨b, o, rfl, fun i hi => ?_⟩
    have := hc i hi
    have hlt := World.block_lt_of_cell? w _ this
    rw [hb.cell (p := ⟨b, o + i, none⟩) (by simpa using Nat.lt_of_lt_of_le hlt hB)]
    exact this

theorem Blk.cell {w : World} {g : Nat} {s : List Int} (h : Blk w g s) {j : Nat} (hj : j < s.length) : w.cell? ⟨g, j, none⟩ = some (.int .u32 (s.getD j 0)) := by
  rw [cell_of_row w g j _ 112 (0, 0) h]
  simp [List.getD_eq_getElem?_getD, hj]
theorem Blk.frozen {w : World} {g : Nat} {s : List Int} (h : Blk w g s) (j : Nat) : w.frozen? ⟨g, j, none⟩ = false := frozen_of_row w g j _ 112 h
theorem Blk.set {w : World} {g : Nat} {s : List Int} (h : Blk w g s) (j : Nat) (x : Int) : Blk (w.setCell ⟨g, j, none⟩ (.int .u32 x)) g (s.set j x) := by
  unfold Blk
  rw [heap_setCell_same w g j _ 112 _ h]
  simp [List.map_set]
theorem Blk.below {w w' : World} {g B : Nat} {s : List Int} (h : Blk w g s) (hb : Below B w w') (hg : g < B) : Blk w' g s := (hb.block g hg).trans h
theorem Blk.lt {w : World} {g : Nat} {s : List Int} (h : Blk w g s) : g < w.heap.size := (Array.getElem?_eq_some_iff.1 h).1
theorem Blk.own {w : World} {g B n : Nat} {s : List Int} (h : Blk w g s) (hB : B ≤ g) (hn : n ≤ s.length) (hm : s.length ≤ maxLen) :
    Own B w (.slice (some ⟨g, 0, none⟩) n s.length) (s.take n) := by
  have e : (s.take n).length = n := by simp; omega
  unfold Own
  rw [e]
  exact ⟨by simp; omega, .inr ⟨g, s.length, _, rfl, hB, h, hn, hm, by simp, by simp [List.map_take]⟩⟩
theorem Blk.lie {w : World} {g n : Nat} {s : List Int} (h : Blk w g s) : Lie w (some ⟨g, 0, none⟩) s :=
  .inr ⟨g, 0, rfl, fun i hi => by rw [Nat.zero_add]; exact h.cell hi⟩
theorem Own.lie {B : Nat} {w : World} {v : Value} {zs : List Int} (h : Own B w v zs) : ∃ a cap, v = .slice a zs.length cap ∧ zs.length ≤ cap ∧ cap ≤ maxLen ∧ Lie w a zs := by
  rcases h.2 with ⟨rfl, h0⟩ | ⟨g, cap, cur, hv, _, hg, hn, hm, _, htake⟩
  · exact ⟨none, 0, by rw [h0], by omega, by unfold maxLen; omega, .inl (List.length_eq_zero_iff.1 h0)⟩
  · refine ⟨_, cap, hv, hn, hm, .inr ⟨g, 0, rfl, fun i hi => ?_⟩⟩
    rw [Nat.zero_add, cell_of_row w g i _ 112 (0, 0) hg]
    have : cur.toList[i]? = some (.int .u32 (zs.getD i 0)) := by
      have e : (cur.toList.take (zs.length * 1))[i]? = cur.toList[i]? := by rw [List.getElem?_take, if_pos (by omega)]
      rw [← e, htake]
      simp [List.getD_eq_getElem?_getD, hi]
    simpa using this
theorem Own.nil (B : Nat) (w : World) : Own B w (.slice none 0 0) [] := World.ownsRow_nil w B 112 1
theorem Own.below {B B' : Nat} {w w' : World} {v : Value} {zs : List Int} (h : Own B w v zs) (hb : Below B' w w') (hB : w.heap.size ≤ B') : Own B w' v zs := by
  refine ⟨h.1, ?_⟩
  rcases h.2 with h | ⟨g, cap, cur, hv, h1, hg, r⟩
  · exact .inl h
  · exact .inr ⟨g, cap, cur, hv, h1, (hb.block g (by have := (Array.getElem?_eq_some_iff.1 hg).1; omega)).trans hg, r⟩
theorem Own.mono {B B' : Nat} {w : World} {v : Value} {zs : List Int} (h : Own B w v zs) (hB : B' ≤ B) : Own B' w v zs := by
  refine ⟨h.1, ?_⟩
  rcases h.2 with h | ⟨g, cap, cur, hv, h1, r⟩
  · exact .inl h
  · exact .inr ⟨g, cap, cur, hv, by omega, r⟩

theorem below_alloc (w : World) (o : Obj) : Below w.heap.size w (w.alloc o) := (Below.refl _ w).alloc (Nat.le_refl _) o
theorem below_then {w w1 w2 : World} (h : Below w.heap.size w w1) (k : Below w1.heap.size w1 w2) : Below w.heap.size w w2 := h.trans (k.mono h.size)
end Go.Proofs.Ytgfpbmjknknflaa

namespace Go.Proofs.Ytgfpbmjknknflaa
open Go.RowKit
set_option linter.unusedVariables false
set_option maxRecDepth 3000
/-- A fact kept from the walk. -/
structure Hide (p : Prop) : Prop where
  out : p

def mayB (zs : List Int) : Bool := zs.length == 0 || (decide (zs.length ≤ 4096) && zs.getD (zs.length - 1) 0 != 0)

/-- After k rounds: digits s, carry c. -/
structure SumInv (za zb s : List Int) (k : Nat) (c : Int) : Prop where
  len : s.length = za.length + 1
  rng : Nt.Rng s
  eq : Nt.vp s k + c * 4294967296 ^ k = Nt.vp za k + Nt.vp zb k
  rest : ∀ j, k ≤ j → s.getD j 0 = za.getD j 0

theorem SumInv.done {za zb s : List Int} {k : Nat} (h : SumInv za zb s k 0) (hk : zb.length ≤ k) : Nt.val s = Nt.val za + Nt.val zb := by
  have e : ∀ m, k ≤ m → Nt.vp s m = Nt.vp za m + Nt.vp zb m := by
    intro m hm
    induction m with
    | zero =>
      have : k = 0 := by omega
      subst this
      have := h.eq
      omega
    | succ m ih =>
      by_cases e : k = m + 1
      · subst e; have := h.eq; omega
      · rw [Nt.vp_step, Nt.vp_step, Nt.vp_step, ih (by omega), h.rest m (by omega)]
        have : zb.getD m 0 = 0 := by simp [List.getD_eq_getElem?_getD, List.getElem?_eq_none (show zb.length ≤ m by omega)]
        rw [this]; omega
  have hl := h.len
  rw [Nt.val_vp (s := s) (k := s.length + k) (by omega), Nt.val_vp (s := za) (k := s.length + k) (by omega), Nt.val_vp (s := zb) (k := s.length + k) (by omega)]
  exact e _ (by omega)
theorem SumInv.top {za zb s : List Int} {c : Int} (h : SumInv za zb s za.length c) : s.getD za.length 0 = 0 := by
  rw [h.rest _ (Nat.le_refl _)]
  simp [List.getD_eq_getElem?_getD]

def sgn (x y : Int) : Int := if x < y then -1 else if y < x then 1 else 0
/-- What is borrowed. -/
def bor (x y : Int) : Int := if x < y then 1 else 0
/-- After k rounds: digits s, borrowed c. -/
structure DifInv (za zb s : List Int) (k : Nat) (c : Int) : Prop where
  len : s.length = za.length
  rng : Nt.Rng s
  eq : Nt.vp s k - c * 4294967296 ^ k = Nt.vp za k - Nt.vp zb k
  rest : ∀ j, k ≤ j → s.getD j 0 = za.getD j 0

theorem DifInv.done {za zb s : List Int} {k : Nat} (h : DifInv za zb s k 0) (hk : zb.length ≤ k) (hl : zb.length ≤ za.length) : Nt.val s = Nt.val za - Nt.val zb := by
  have e : ∀ m, k ≤ m → Nt.vp s m = Nt.vp za m - Nt.vp zb m := by
    intro m hm
    induction m with
    | zero =>
      have : k = 0 := by omega
      subst this
      have := h.eq
      omega
    | succ m ih =>
      by_cases e : k = m + 1
      · subst e; have := h.eq; omega
      · rw [Nt.vp_step, Nt.vp_step, Nt.vp_step, ih (by omega), h.rest m (by omega)]
        have : zb.getD m 0 = 0 := by simp [List.getD_eq_getElem?_getD, List.getElem?_eq_none (show zb.length ≤ m by omega)]
        rw [this]; omega
  have hl := h.len
  rw [Nt.val_vp (s := s) (k := s.length + k) (by omega), Nt.val_vp (s := za) (k := s.length + k) (by omega), Nt.val_vp (s := zb) (k := s.length + k) (by omega)]
  exact e _ (by omega)
theorem DifInv.top {za zb s : List Int} {c : Int} {k : Nat} (h : DifInv za zb s k c) (hk : k = za.length) (hl : zb.length ≤ za.length) (hv : Nt.val zb ≤ Nt.val za) (hc : 0 ≤ c) (hc' : c ≤ 1) : c = 0 := by
  subst hk
  have h1 := h.eq
  have h2 := (Nt.vp_bd h.rng za.length).2
  have h3 : Nt.vp za za.length = Nt.val za := rfl
  have h4 : Nt.vp zb za.length = Nt.val zb := (Nt.val_vp hl).symm
  by_cases e : c = 0
  · exact e
  · have : c = 1 := by omega
    subst this
    omega

/-- After k rounds of addTimes: digits s, carry c. -/
structure TimesInv (s0 zb : List Int) (off : Nat) (d : Int) (s : List Int) (k : Nat) (c : Int) : Prop where
  len : s.length = s0.length
  rng : Nt.Rng s
  eq : Nt.vp s (off + k) + c * 4294967296 ^ (off + k) = Nt.vp s0 (off + k) + d * Nt.vp zb k * 4294967296 ^ off
  rest : ∀ j, off + k ≤ j → s.getD j 0 = s0.getD j 0
/-- After i rounds of product. -/
structure ProdInv (za zb s : List Int) (i : Nat) : Prop where
  len : s.length = za.length + zb.length
  rng : Nt.Rng s
  eq : Nt.vp s (i + zb.length) = Nt.vp za i * Nt.val zb
  rest : ∀ j, i + zb.length ≤ j → s.getD j 0 = 0
theorem ProdInv.done {za zb s : List Int} (h : ProdInv za zb s za.length) : Nt.val s = Nt.val za * Nt.val zb := by
  have := h.eq
  unfold Nt.val at *
  rw [h.len]; exact this

theorem Lie.lt {w : World} {a : Option Addr} {zs : List Int} (h : Lie w a zs) (hp : 0 < zs.length) : ∀ x, a = some x → x.block < w.heap.size := by
  intro x hx
  rcases h with rfl | ⟨b, o, rfl, hc⟩
  · simp at hp
  · cases hx
    exact World.block_lt_of_cell? w _ (hc 0 hp)

end Go.Proofs.Ytgfpbmjknknflaa

namespace Go.Proofs.Ytgfpbmjknknflaa
open Go.RowKit
set_option linter.unusedVariables false
set_option maxRecDepth 3000
theorem may_can {za : List Int} (hr : Nt.Rng za) (h : mayB za = true) : Nt.Can za ∧ za.length ≤ 4096 := by
  simp only [mayB, Bool.or_eq_true, beq_iff_eq, Bool.and_eq_true, decide_eq_true_eq, bne_iff_ne] at h
  rcases h with h | ⟨h1, h2⟩
  · exact ⟨⟨hr, fun c => absurd h c⟩, by omega⟩
  · exact ⟨⟨hr, fun _ => h2⟩, h1⟩
theorem can_may {za : List Int} (h : Nt.Can za) (hl : za.length ≤ 4096) : mayB za = true := by
  simp only [mayB, Bool.or_eq_true, beq_iff_eq, Bool.and_eq_true, decide_eq_true_eq, bne_iff_ne]
  by_cases c : za.length = 0
  · exact .inl c
  · exact .inr ⟨hl, h.2 c⟩

/-- What Add, Mul answer: a number that is not too long, or ErrLong. -/
def Told (w : World) (x : Int) (e : Ending) (w' : World) : Prop := ∃ zs, Nt.Can zs ∧ Nt.val zs = x ∧ Below w.heap.size w w' ∧
      ((zs.length ≤ 4096 ∧ ∃ v, e = .returned (.tuple #[v, .int .i64 0]) ∧ Own w.heap.size w' v zs) ∨ (4096 < zs.length ∧ e = .returned (.tuple #[.slice none 0 0, .int .i64 3])))

theorem vp_cons (d : Int) (s : List Int) (k : Nat) : Nt.vp (d :: s) (k + 1) = d + 4294967296 * Nt.vp s k := by
  induction k with
  | zero => simp [Nt.vp]
  | succ k ih =>
    rw [Nt.vp_step, ih, Nt.vp_step s k, Nt.pw_succ]
    have : (d :: s).getD (k + 1) 0 = s.getD k 0 := by simp [List.getD_eq_getElem?_getD]
    rw [this]
    generalize (4294967296 : Int) ^ k = P
    grind
theorem val_cons (d : Int) (s : List Int) : Nt.val (d :: s) = d + 4294967296 * Nt.val s := vp_cons d s s.length
theorem can_ge {s : List Int} (h : Nt.Can s) (hp : 0 < s.length) : (4294967296 : Int) ^ (s.length - 1) ≤ Nt.val s := by
  have := (Nt.can_len h (s.length - 1))
  by_cases c : Nt.val s < 4294967296 ^ (s.length - 1)
  · have := this.1 c; omega
  · omega

/-- Not below nought, and of at most n digits. -/
def Lt (n : Nat) (x : Int) : Prop := 0 ≤ x ∧ x < 4294967296 ^ n
theorem Lt.of {n : Nat} {zs : List Int} (h : Nt.Rng zs) (hl : zs.length ≤ n) : Lt n (Nt.val zs) := by
  have h1 := Nt.val_bd h
  have h2 := Nt.pw_mono hl
  exact ⟨h1.1, by omega⟩
theorem Lt.mono {n m : Nat} {x : Int} (h : Lt n x) (hl : n ≤ m) : Lt m x := ⟨h.1, by have := Nt.pw_mono hl; have := h.2; omega⟩
theorem Lt.add {n : Nat} {x y : Int} (h : Lt n x) (k : Lt n y) : Lt (n + 1) (x + y) := by
  obtain ⟨h1, h2⟩ := h
  obtain ⟨k1, k2⟩ := k
  have := Nt.pw_succ n
  have := Nt.pw_pos n
  exact ⟨by omega, by omega⟩
/-- Numbers that lie in memory. -/
structure Live (w : World) (l : List (Option Addr × List Int)) : Prop where
  all : ∀ p ∈ l, Lie w p.1 p.2
theorem Live.push {w w' : World} {l : List (Option Addr × List Int)} {a : Option Addr} {zs : List Int} (h : Live w l) (hl : Lie w' a zs) (hb : Below w.heap.size w w') : Live w' ((a, zs) :: l) := by
  refine ⟨fun p hp => ?_⟩
  rcases List.mem_cons.1 hp with rfl | hp
  · exact hl
  · exact (h.all p hp).below hb (Nat.le_refl _)
theorem Live.keep {w w' : World} {l : List (Option Addr × List Int)} (h : Live w l) (hb : Below w.heap.size w w') : Live w' l := ⟨fun p hp => (h.all p hp).below hb (Nat.le_refl _)⟩

/-- A new number, x. -/
structure IsNum (w w' : World) (a : Option Addr) (zs : List Int) (x : Int) : Prop where
  can : Nt.Can zs
  len : zs.length ≤ 4096
  val : Nt.val zs = x
  lie : Lie w' a zs
  bel : Below w.heap.size w w'
/-- What is known of a number. -/
structure Good (zs : List Int) (x : Int) : Prop where
  can : Nt.Can zs
  len : zs.length ≤ 4096
  val : Nt.val zs = x
theorem IsNum.good {w w' : World} {a : Option Addr} {zs : List Int} {x : Int} (h : IsNum w w' a zs x) : Good zs x := ⟨h.can, h.len, h.val⟩
theorem Good.may {z : List Int} {u : Int} (h : Good z u) : mayB z = true := can_may h.can h.len
theorem Good.lt {z : List Int} {u : Int} (h : Good z u) : Lt 4096 u := by rw [← h.val]; exact Lt.of h.can.1 h.len

theorem getD_past {s : List Int} {j : Nat} (h : s.length ≤ j) : s.getD j 0 = 0 := by
  simp [List.getD_eq_getElem?_getD, List.getElem?_eq_none h]

/-- After as many rounds of the reference's Add as s has digits. -/
structure RefAddInv (za zb s : List Int) (c : Int) : Prop where
  rng : Nt.Rng s
  eq : Nt.vp s s.length + c * 4294967296 ^ s.length = Nt.vp za s.length + Nt.vp zb s.length
/-- After as many rounds of the reference's Sub as s has digits. -/
structure RefSubInv (za zb s : List Int) (c : Int) : Prop where
  rng : Nt.Rng s
  eq : Nt.vp s s.length - c * 4294967296 ^ s.length = Nt.vp za s.length - Nt.vp zb s.length
/-- The memory of an answer is written over: nothing else turns. -/
theorem Own.blk {B : Nat} {w : World} {v : Value} {zs : List Int} (h : Own B w v zs) : (v = .slice none 0 0 ∧ zs = []) ∨ ∃ g cap cur, v = .slice (some ⟨g, 0, none⟩) zs.length cap ∧ B ≤ g ∧ w.heap[g]? = some (.cells cur 112 (0, 0)) ∧ zs.length ≤ cur.size := by
  have h1 := h.1
  rcases h.2 with ⟨hv, h0⟩ | ⟨g, cap, cur, hv, hB, hg, hn, _, hsz, _⟩
  · exact .inl ⟨hv, List.length_eq_zero_iff.1 h0⟩
  · exact .inr ⟨g, cap, cur, hv, hB, hg, by omega⟩


end Go.Proofs.Ytgfpbmjknknflaa

namespace Go.Proofs.Ytgfpbmjknknflaa
open Go.RowKit
set_option linter.unusedVariables false
set_option maxRecDepth 3000
/-- After k rounds of shiftUp. -/
structure UpInv (za s : List Int) (wh p k : Nat) : Prop where
  len : s.length = za.length + wh + 1
  rng : Nt.Rng s
  eq : Nt.vp s (wh + k + 1) = Nt.vp za k * 2 ^ p * 4294967296 ^ wh
  top : s.getD (wh + k) 0 < 2 ^ p
  rest : ∀ j, wh + k < j → s.getD j 0 = 0
theorem UpInv.done {za s : List Int} {wh p : Nat} (h : UpInv za s wh p za.length) : Nt.val s = Nt.val za * 2 ^ p * 4294967296 ^ wh := by
  have := h.eq
  unfold Nt.val
  rw [h.len, show za.length + wh + 1 = wh + za.length + 1 by omega]; exact this

theorem val_drop_step {s : List Int} {m : Nat} (h : m < s.length) : Nt.val (s.drop m) = s.getD m 0 + 4294967296 * Nt.val (s.drop (m + 1)) := by
  rw [List.drop_eq_getElem_cons h, val_cons]
  simp [List.getD_eq_getElem?_getD, h]
theorem val_drop_split {s : List Int} (m : Nat) (h : m ≤ s.length) : Nt.val s = Nt.vp s m + 4294967296 ^ m * Nt.val (s.drop m) := by
  induction m with
  | zero => simp [Nt.vp]
  | succ m ih =>
    rw [ih (by omega), val_drop_step (show m < s.length by omega), Nt.vp_step, Nt.pw_succ]
    generalize (4294967296 : Int) ^ m = P
    grind
theorem val_drop_div {s : List Int} (hr : Nt.Rng s) (m : Nat) (h : m ≤ s.length) : Nt.val (s.drop m) = Nt.val s / 4294967296 ^ m := by
  have h1 := Nt.vp_bd hr m
  have h2 := Nt.pw_pos m
  rw [val_drop_split m h, Int.add_mul_ediv_left _ _ (by omega), Int.ediv_eq_zero_of_lt h1.1 h1.2]
  omega

/-- Digits from m on are settled. -/
structure DownInv (za s : List Int) (wh p m : Nat) : Prop where
  len : s.length + wh = za.length
  rng : Nt.Rng s
  eq : Nt.val (s.drop m) = Nt.val (za.drop (wh + m)) / 2 ^ p
theorem DownInv.done {za s : List Int} {wh p : Nat} (h : DownInv za s wh p 0) (ra : Nt.Rng za) : Nt.val s = Nt.val za / (4294967296 ^ wh * 2 ^ p) := by
  have e := h.eq
  have hl := h.len
  rw [List.drop_zero, Nat.add_zero, val_drop_div ra wh (by omega)] at e
  rw [e, Int.ediv_ediv_of_nonneg (Int.le_of_lt (Nt.pw_pos _))]

/-- The first digits of block g, which has c cells, are s. -/
def Rw (w : World) (g c : Nat) (s : List Int) : Prop := ∃ cur : Array Value, w.heap[g]? = some (.cells cur 112 (0, 0)) ∧ cur.size = c ∧ s.length ≤ c ∧ cur.toList.take s.length = s.map (Value.int .u32)
theorem Rw.cell {w : World} {g c : Nat} {s : List Int} (h : Rw w g c s) {j : Nat} (hj : j < s.length) : w.cell? ⟨g, j, none⟩ = some (.int .u32 (s.getD j 0)) := by
  obtain ⟨cur, h1, _, h2, h3⟩ := h
  rw [cell_of_row w g j _ 112 (0, 0) h1]
  have e : (cur.toList.take s.length)[j]? = cur.toList[j]? := by rw [List.getElem?_take, if_pos hj]
  have : cur.toList[j]? = some (.int .u32 (s.getD j 0)) := by
    rw [← e, h3]
    simp [List.getD_eq_getElem?_getD, hj]
  simpa using this
theorem Rw.frozen {w : World} {g c : Nat} {s : List Int} (h : Rw w g c s) (j : Nat) : w.frozen? ⟨g, j, none⟩ = false := by
  obtain ⟨cur, h1, _⟩ := h
  exact frozen_of_row w g j _ 112 h1
theorem Rw.set {w : World} {g c : Nat} {s : List Int} (h : Rw w g c s) (j : Nat) (x : Int) : Rw (w.setCell ⟨g, j, none⟩ (.int .u32 x)) g c (s.set j x) := by
  obtain ⟨cur, h1, h0, h2, h3⟩ := h
  refine ⟨_, heap_setCell_same w g j _ 112 _ h1, by simpa using h0, by simpa using h2, ?_⟩
  rw [List.length_set, Array.toList_setIfInBounds, List.take_set, h3, List.map_set]
theorem Own.rw {B : Nat} {w : World} {a : Option Addr} {c : Nat} {zs : List Int} (h : Own B w (.slice a zs.length c) zs) (hp : 0 < zs.length) : ∃ g, a = some ⟨g, 0, none⟩ ∧ B ≤ g ∧ Rw w g c zs ∧ zs.length ≤ c ∧ c ≤ maxLen := by
  rcases h.2 with ⟨hv, h0⟩ | ⟨g, cap, cur, hv, hB, hg, hn, hm, hsz, ht⟩
  · omega
  · simp only [Value.slice.injEq] at hv
    obtain ⟨rfl, _, rfl⟩ := hv
    exact ⟨g, rfl, hB, ⟨cur, hg, by omega, hn, by rw [Nat.mul_one] at ht; exact ht⟩, hn, hm⟩
theorem Rw.own {B : Nat} {w : World} {g c n : Nat} {s : List Int} (h : Rw w g c s) (hB : B ≤ g) (hn : n ≤ s.length) (hm : c ≤ maxLen) : Own B w (.slice (some ⟨g, 0, none⟩) n c) (s.take n) := by
  obtain ⟨cur, h1, h0, h2, h3⟩ := h
  have hl : (s.take n).length = n := by rw [List.length_take]; omega
  unfold Own
  rw [hl]
  refine ⟨by simp; omega, .inr ⟨g, c, cur, rfl, hB, h1, by omega, hm, by omega, ?_⟩⟩
  rw [Nat.mul_one, List.map_take, ← h3, List.take_take, Nat.min_eq_left hn]
theorem Rw.lie {w : World} {g c : Nat} {s : List Int} (h : Rw w g c s) : Lie w (some ⟨g, 0, none⟩) s := .inr ⟨g, 0, rfl, fun i hi => by rw [Nat.zero_add]; exact h.cell hi⟩

/-- Digits from m on are divided. -/
structure DivInv (s0 s : List Int) (d : Int) (m : Nat) (l : Int) : Prop where
  len : s.length = s0.length
  rng : Nt.Rng s
  low : ∀ j, j < m → s.getD j 0 = s0.getD j 0
  eq : Nt.val (s0.drop m) = d * Nt.val (s.drop m) + l
  l0 : 0 ≤ l
  l1 : l < d
/-- k digits of q times v are taken from T0: what is left is T, and c is borrowed. -/
structure TakeInv (T0 zv : List Int) (q : Int) (T : List Int) (k : Nat) (c : Int) : Prop where
  len : T.length = T0.length
  rng : Nt.Rng T
  eq : Nt.vp T k - c * 4294967296 ^ k = Nt.vp T0 k - q * Nt.vp zv k
  rest : ∀ j, k ≤ j → T.getD j 0 = T0.getD j 0
theorem TakeInv.done {T0 zv T : List Int} {q c n : Int} {f : Bool} (h : TakeInv T0 zv q T zv.length c) (hl : zv.length < T.length) (hn : n = T.getD zv.length 0 - c + (if f then 4294967296 else 0)) :
    Nt.vp (T.set zv.length n) (zv.length + 1) = Nt.vp T0 (zv.length + 1) - q * Nt.val zv + (if f then 4294967296 ^ (zv.length + 1) else 0) := by
  have he := h.eq
  have hr := h.rest zv.length (Nat.le_refl _)
  have ev : Nt.vp zv zv.length = Nt.val zv := rfl
  rw [ev] at he
  rw [Nt.vp_step, Nt.vp_step, Nt.vp_set (Nat.le_refl _), Nt.getD_set_self hl, Nt.pw_succ, ← hr]
  generalize (4294967296 : Int) ^ zv.length = K at *
  cases f
  · simp only [Bool.false_eq_true, if_false] at hn ⊢
    subst hn
    grind
  · simp only [if_true] at hn ⊢
    subst hn
    grind

/-- k digits of v are added to T0: T, with carry c. -/
structure GiveInv (T0 zv T : List Int) (k : Nat) (c : Int) : Prop where
  len : T.length = T0.length
  rng : Nt.Rng T
  eq : Nt.vp T k + c * 4294967296 ^ k = Nt.vp T0 k + Nt.vp zv k
  rest : ∀ j, k ≤ j → T.getD j 0 = T0.getD j 0
theorem GiveInv.done {T0 zv T : List Int} {c : Int} (h : GiveInv T0 zv T zv.length c) (hl : zv.length < T.length) :
    Nt.vp (T.set zv.length ((T.getD zv.length 0 + c) % 4294967296)) (zv.length + 1) = Nt.vp T0 (zv.length + 1) + Nt.val zv - (T.getD zv.length 0 + c) / 4294967296 * 4294967296 ^ (zv.length + 1) := by
  have he := h.eq
  have hr := h.rest zv.length (Nat.le_refl _)
  have ev : Nt.vp zv zv.length = Nt.val zv := rfl
  rw [ev] at he
  have hn : (T.getD zv.length 0 + c) % 4294967296 + (T.getD zv.length 0 + c) / 4294967296 * 4294967296 = T.getD zv.length 0 + c := by omega
  rw [Nt.vp_step, Nt.vp_step, Nt.vp_set (Nat.le_refl _), Nt.getD_set_self hl, Nt.pw_succ, ← hr]
  generalize (T.getD zv.length 0 + c) % 4294967296 = n at *
  generalize (T.getD zv.length 0 + c) / 4294967296 = f at *
  generalize (4294967296 : Int) ^ zv.length = K at *
  grind

/-- A digit that is guessed from three digits by two: what the loop keeps. -/
structure GuInv (hi nx a b c q l : Int) : Prop where
  eq : q * hi + l = a * 4294967296 + b
  q0 : 0 ≤ q
  l0 : 0 ≤ l
  mx : 4294967295 < q + 1 ∨ (a * 4294967296 + b) * 4294967296 + c < (q + 1) * (hi * 4294967296 + nx)
/-- What is told: the greatest digit that will do for the highest digits. -/
structure Guess (hi nx a b c q : Int) : Prop where
  q0 : 0 ≤ q
  q1 : q ≤ 4294967295
  le : q * (hi * 4294967296 + nx) ≤ (a * 4294967296 + b) * 4294967296 + c
  mx : 4294967295 < q + 1 ∨ (a * 4294967296 + b) * 4294967296 + c < (q + 1) * (hi * 4294967296 + nx)
theorem GuInv.done {hi nx a b c q l : Int} (h : GuInv hi nx a b c q l) (hq : q ≤ 4294967295) (hx : q * nx ≤ l * 4294967296 + c) : Guess hi nx a b c q := by
  refine ⟨h.q0, hq, ?_, h.mx⟩
  have he := h.eq
  rw [← he]
  have : q * (hi * 4294967296 + nx) = q * hi * 4294967296 + q * nx := by grind
  rw [this]
  generalize q * hi = z at *
  generalize q * nx = y at *
  omega
theorem GuInv.over {hi nx a b c q l : Int} (h : GuInv hi nx a b c q l) (hl : 4294967295 < l) (hh : 2147483648 ≤ hi) (hab : a ≤ hi) (hb : b < 4294967296) (hc : 0 ≤ c) (hn : 0 ≤ nx) (hn' : nx < 4294967296) : Guess hi nx a b c q := by
  have he := h.eq
  have hq0 := h.q0
  have hq : q < 4294967296 := by
    by_cases g : q < 4294967296
    · exact g
    · have h1 : 4294967296 * hi ≤ q * hi := Int.mul_le_mul_of_nonneg_right (by omega) (by omega)
      generalize q * hi = z at *
      omega
  have h2 : q * nx ≤ 4294967296 * 4294967296 := Int.mul_le_mul (by omega) (by omega) hn (by decide)
  exact h.done (by omega) (by omega)

/-- The next digit of a quotient: what is left stands in T. -/
structure Next (T0 zv T : List Int) (q : Int) : Prop where
  q0 : 0 ≤ q
  q1 : q < 4294967296
  len : T.length = T0.length
  rng : Nt.Rng T
  eq : Nt.vp T (zv.length + 1) = Nt.vp T0 (zv.length + 1) - q * Nt.val zv
  lt : Nt.vp T (zv.length + 1) < Nt.val zv
  rest : ∀ j, zv.length + 1 ≤ j → T.getD j 0 = T0.getD j 0

end Go.Proofs.Ytgfpbmjknknflaa

namespace Go.Proofs.Ytgfpbmjknknflaa
open Go.RowKit
set_option linter.unusedVariables false
set_option maxRecDepth 3000
/-- Digits from t on of the quotient are told: Q; what is left of U0 stands in U. -/
structure LongInv (U0 zv U Q : List Int) (t : Nat) : Prop where
  lu : U.length = U0.length
  ru : Nt.Rng U
  rq : Nt.Rng Q
  eq : Nt.val U0 = Nt.val (Q.drop t) * 4294967296 ^ t * Nt.val zv + Nt.val U
  lt : Nt.val (U.drop t) < Nt.val zv
theorem pow2_split (n wh p : Nat) (h : n = 32 * wh + p) : (2 : Int) ^ n = 4294967296 ^ wh * 2 ^ p := by
  subst h
  rw [Int.pow_add, Int.pow_mul]
  rfl
/-- What a division answers. -/
def Divs (w w' : World) (za zb : List Int) (v : Value → Value → Value) (e : Ending) : Prop := ∃ zq zr aq cq ar cr, e = .returned (v (.slice aq zq.length cq) (.slice ar zr.length cr)) ∧ Own w.heap.size w' (.slice aq zq.length cq) zq ∧ Own w.heap.size w' (.slice ar zr.length cr) zr ∧ Nt.Can zq ∧ Nt.Can zr ∧ Nt.val za = Nt.val zq * Nt.val zb + Nt.val zr ∧ Nt.val zr < Nt.val zb ∧ Below w.heap.size w w'
def two (x y : Value) : Value := .tuple #[x, y]

def three (x y : Value) : Value := .tuple #[x, y, .int .i64 0]
/-- How many bits: BL. -/
structure Bits (x : Int) (BL : Nat) : Prop where
  lt : x < 2 ^ BL
  le : (2 : Int) ^ BL ≤ 2 * x
/-- a is a root, one too great at most, of as much of n as d bits of its root say. -/
structure RootInv (n : Int) (c d : Nat) (a : Int) : Prop where
  one : 1 ≤ a
  lo : (a - 1) * (a - 1) < n / 2 ^ (2 * (c - d))
  hi : n / 2 ^ (2 * (c - d)) < (a + 1) * (a + 1)
theorem p2pos (k : Nat) : (0 : Int) < 2 ^ k := Int.pow_pos (by decide)
theorem p2mono {i j : Nat} (h : i ≤ j) : (2 : Int) ^ i ≤ 2 ^ j := by
  obtain ⟨k, rfl⟩ : ∃ k, j = i + k := ⟨j - i, by omega⟩
  rw [Int.pow_add]
  have := p2pos k
  have : 2 ^ i * 1 ≤ (2 : Int) ^ i * 2 ^ k := Int.mul_le_mul_of_nonneg_left (by omega) (Int.le_of_lt (p2pos i))
  omega
theorem RootInv.len {n a : Int} {c d : Nat} (h : RootInv n c d a) (hn : 0 ≤ n) : a ≤ n + 1 := by
  have h1 := h.lo
  have h2 := h.one
  have h3 : n / 2 ^ (2 * (c - d)) ≤ n := Int.ediv_le_self _ hn
  have h4 : (a - 1) * 1 ≤ (a - 1) * (a - 1) ∨ a = 1 := by
    by_cases e : a = 1
    · exact .inr e
    · exact .inl (Int.mul_le_mul_of_nonneg_left (by omega) (by omega))
  rcases h4 with h4 | h4 <;> omega
/-- What a root answers. -/
def Roots (w w' : World) (za : List Int) (e : Ending) : Prop := ∃ zr a c, e = .returned (.tuple #[.slice a zr.length c, .bool (decide (Nt.val zr * Nt.val zr = Nt.val za)), .int .i64 0]) ∧ Own w.heap.size w' (.slice a zr.length c) zr ∧ Nt.Can zr ∧ Nt.val zr * Nt.val zr ≤ Nt.val za ∧ Nt.val za < (Nt.val zr + 1) * (Nt.val zr + 1) ∧ Below w.heap.size w w'

end Go.Proofs.Ytgfpbmjknknflaa

namespace Go.Proofs.Ytgfpbmjknknflaa
open Go.RowKit
set_option linter.unusedVariables false
set_option maxRecDepth 3000
/-- The first i products of column k. -/
def colp (a b : List Int) (k : Nat) : Nat → Int
  | 0 => 0
  | i + 1 => colp a b k i + a.getD i 0 * b.getD (k - i) 0
/-- The first n columns. -/
def cols (a b : List Int) : Nat → Int
  | 0 => 0
  | k + 1 => cols a b k + colp a b k (k + 1) * 4294967296 ^ k
/-- Row by row: digit i of a by as much of b as lies below column n. -/
def rows (a b : List Int) (n : Nat) : Nat → Int
  | 0 => 0
  | i + 1 => rows a b n i + a.getD i 0 * 4294967296 ^ i * Nt.vp b (n - i)
theorem rows_succ (a b : List Int) (n i : Nat) (hi : i ≤ n + 1) : rows a b (n + 1) i = rows a b n i + colp a b n i * 4294967296 ^ n := by
  induction i with
  | zero => simp [rows, colp]
  | succ i ih =>
    rw [rows, rows, colp, ih (by omega), show n + 1 - i = (n - i) + 1 by omega, Nt.vp_step]
    have e : (4294967296 : Int) ^ n = 4294967296 ^ i * 4294967296 ^ (n - i) := by rw [← Nt.pw_add, show i + (n - i) = n by omega]
    rw [e]
    generalize (4294967296 : Int) ^ i = X
    generalize (4294967296 : Int) ^ (n - i) = Y
    grind
theorem cols_rows (a b : List Int) (n : Nat) : cols a b n = rows a b n n := by
  induction n with
  | zero => rfl
  | succ n ih =>
    rw [cols, ih, rows_succ a b n (n + 1) (by omega), rows]
    rw [Nat.sub_self, show Nt.vp b 0 = 0 from rfl]
    omega
theorem rows_full (a b : List Int) (n i : Nat) (hn : a.length + b.length ≤ n) : rows a b n i = Nt.vp a i * Nt.val b := by
  induction i with
  | zero => simp [rows, Nt.vp]
  | succ i ih =>
    rw [rows, ih, Nt.vp_step]
    by_cases c : i < a.length
    · rw [← Nt.val_vp (s := b) (k := n - i) (by omega)]
      grind
    · rw [getD_past (by omega)]; grind
theorem cols_full (a b : List Int) (n : Nat) (hn : a.length + b.length ≤ n) : cols a b n = Nt.val a * Nt.val b := by
  rw [cols_rows, rows_full a b n n hn, ← Nt.val_vp (s := a) (by omega)]
/-- Columns below k are told: s; l is what goes on. -/
structure MulInv (a b s : List Int) (l : Int) : Prop where
  rng : Nt.Rng s
  eq : Nt.vp s s.length + l * 4294967296 ^ s.length = cols a b s.length
  l0 : 0 ≤ l
theorem MulInv.done {a b s : List Int} {l : Int} (h : MulInv a b s l) (ha : Nt.Rng a) (hb : Nt.Rng b) (hl : s.length = a.length + b.length) : Nt.val s = Nt.val a * Nt.val b := by
  have e := h.eq
  rw [cols_full a b s.length (by omega)] at e
  have h1 := Nt.val_bd ha
  have h2 := Nt.val_bd hb
  have h3 := Nt.val_bd h.rng
  have hp := Nt.pw_pos s.length
  have hlt : Nt.val a * Nt.val b < 4294967296 ^ s.length := by
    rw [hl, Nt.pw_add]
    have a1 : Nt.val a * Nt.val b ≤ Nt.val a * 4294967296 ^ b.length := Int.mul_le_mul_of_nonneg_left (by omega) h1.1
    have a2 : Nt.val a * 4294967296 ^ b.length < 4294967296 ^ a.length * 4294967296 ^ b.length := Int.mul_lt_mul_of_pos_right h1.2 (Nt.pw_pos _)
    omega
  have hl0 : l = 0 := by
    by_cases c : l = 0
    · exact c
    · exfalso
      have : 1 * 4294967296 ^ s.length ≤ l * 4294967296 ^ s.length := Int.mul_le_mul_of_nonneg_right (by have := h.l0; omega) (by omega)
      have h4 : 0 ≤ Nt.vp s s.length := h3.1
      omega
  subst hl0
  show Nt.vp s s.length = _
  omega

/-- 2^64, kept from the walk. -/
def twoW : Int := 18446744073709551616
/-- A new number that the reference answers. -/
def Made (w w' : World) (x : Int) (e : Ending) : Prop := ∃ zs a' c, e = .returned (.slice a' zs.length c) ∧ Own w.heap.size w' (.slice a' zs.length c) zs ∧ Nt.Can zs ∧ Nt.val zs = x ∧ Below w.heap.size w w'
/-- After k digits of the reference's Up. -/
structure RUpInv (za s : List Int) (wh p k : Nat) (l : Int) : Prop where
  len : s.length = wh + k
  rng : Nt.Rng s
  eq : Nt.vp s (wh + k) + l * 4294967296 ^ (wh + k) = Nt.vp za k * 2 ^ p * 4294967296 ^ wh
/-- The place of the lowest bit that is 1. -/
structure LowBit (x : Int) (t : Nat) : Prop where
  zero : x % 2 ^ t = 0
  one : x / 2 ^ t % 2 = 1

/-- After k digits of the reference's Down. -/
structure RDnInv (za s : List Int) (wh p : Nat) : Prop where
  rng : Nt.Rng s
  eq : Nt.vp s s.length + 4294967296 ^ s.length * (Nt.val (za.drop (wh + s.length)) / 2 ^ p) = Nt.val (za.drop wh) / 2 ^ p
theorem RDnInv.done {za s : List Int} {wh p : Nat} (h : RDnInv za s wh p) (ra : Nt.Rng za) (hl : wh + s.length = za.length) : Nt.val s = Nt.val za / 2 ^ (32 * wh + p) := by
  have e := h.eq
  rw [hl, List.drop_eq_nil_of_le (Nat.le_refl _), Nt.val_nil, Int.zero_ediv, Int.mul_zero, Int.add_zero] at e
  rw [pow2_split (32 * wh + p) wh p rfl, ← Int.ediv_ediv_of_nonneg (Int.le_of_lt (Nt.pw_pos _)), ← val_drop_div ra wh (by omega)]
  exact e
theorem low_lost {x : Int} {t n : Nat} (h : LowBit x t) : decide (t < n) = decide (x % 2 ^ n ≠ 0) := by
  have h1 := Int.emod_add_mul_ediv x (2 ^ t)
  rw [h.zero] at h1
  have ho := h.one
  by_cases c : t < n
  · have : x % 2 ^ n ≠ 0 := by
      intro e
      obtain ⟨m, hm⟩ := Int.dvd_of_emod_eq_zero e
      obtain ⟨k, rfl⟩ : ∃ k, n = t + (k + 1) := ⟨n - t - 1, by omega⟩
      have e2 : x / 2 ^ t = 2 * (2 ^ k * m) := by
        rw [hm, Int.pow_add, Int.mul_assoc, Int.mul_ediv_cancel_left _ (by have := p2pos t; omega), Int.pow_succ]; grind
      omega
    simp [this, c]
  · have : x % 2 ^ n = 0 := by
      obtain ⟨k, rfl⟩ : ∃ k, t = n + k := ⟨t - n, by omega⟩
      refine Int.emod_eq_zero_of_dvd ⟨2 ^ k * (x / 2 ^ (n + k)), ?_⟩
      rw [← Int.mul_assoc, ← Int.pow_add]; omega
    simp [this, c]

/-- What the reference's Down answers. -/
def Downs (w w' : World) (x : Int) (n : Nat) (e : Ending) : Prop := ∃ zs a' c, e = .returned (.tuple #[.slice a' zs.length c, .bool (decide (x % 2 ^ n ≠ 0))]) ∧ Own w.heap.size w' (.slice a' zs.length c) zs ∧ Nt.Can zs ∧ Nt.val zs = x / 2 ^ n ∧ Below w.heap.size w w'

/-- Digits from m on are divided: q. -/
structure ByInv (za q : List Int) (d : Int) (m : Nat) (l : Int) : Prop where
  len : q.length = za.length
  rng : Nt.Rng q
  eq : Nt.val (za.drop m) = d * Nt.val (q.drop m) + l
  l0 : 0 ≤ l
  l1 : l < d
/-- Bits of the quotient from i on are told. -/
structure BitInv (za zb q : List Int) (r : Int) (i : Nat) : Prop where
  len : q.length = za.length
  rng : Nt.Rng q
  ex : ∃ Q, Nt.val q = Q * 2 ^ i ∧ Nt.val za / 2 ^ i = Q * Nt.val zb + r
  r0 : 0 ≤ r
  r1 : r < Nt.val zb
theorem bits_next (x : Int) (i : Nat) : x / 2 ^ i = 2 * (x / 2 ^ (i + 1)) + x / 2 ^ i % 2 := by
  rw [Int.pow_succ, ← Int.ediv_ediv_of_nonneg (Int.le_of_lt (p2pos i))]
  omega
theorem BitInv.no {za zb q : List Int} {r : Int} {i : Nat} (h : BitInv za zb q r (i + 1)) (hc : 2 * r + Nt.val za / 2 ^ i % 2 < Nt.val zb) : BitInv za zb q (2 * r + Nt.val za / 2 ^ i % 2) i := by
  obtain ⟨Q, e1, e2⟩ := h.ex
  have hr := h.r0
  refine ⟨h.len, h.rng, ⟨2 * Q, by rw [e1, Int.pow_succ]; grind, ?_⟩, by omega, hc⟩
  have := bits_next (Nt.val za) i
  rw [e2] at this
  generalize Nt.val za / 2 ^ i % 2 = b at *
  rw [this]; grind
theorem Blk.drew {w : World} {g : Nat} {s : List Int} (h : Blk w g s) : Blk w.drew g s := h
end Go.Proofs.Ytgfpbmjknknflaa

namespace Go.Proofs.Ytgfpbmjknknflaa
open Go.RowKit
set_option linter.unusedVariables false
set_option maxRecDepth 3000
/-- Memory of the call's own, which may be written. -/
def Wr (B : Nat) (w : World) (v : Value) : Prop := v = .slice none 0 0 ∨ ∃ g n cap cur, v = .slice (some ⟨g, 0, none⟩) n cap ∧ B ≤ g ∧ w.heap[g]? = some (.cells cur 112 (0, 0)) ∧ n ≤ cur.size ∧ n ≤ 1000000
theorem Own.wr {B : Nat} {w : World} {v : Value} {zs : List Int} (h : Own B w v zs) (hl : zs.length ≤ 1000000) : Wr B w v := by
  rcases h.blk with ⟨h, _⟩ | ⟨g, cap, cur, hv, hB, hg, hn⟩
  · exact .inl h
  · exact .inr ⟨g, zs.length, cap, cur, hv, hB, hg, hn, hl⟩
theorem Wr.below {B B' : Nat} {w w' : World} {v : Value} (h : Wr B w v) (hb : Below B' w w') (hB : w.heap.size ≤ B') : Wr B w' v := by
  rcases h with h | ⟨g, n, cap, cur, hv, h1, hg, r⟩
  · exact .inl h
  · exact .inr ⟨g, n, cap, cur, hv, h1, (hb.block g (by have := (Array.getElem?_eq_some_iff.1 hg).1; omega)).trans hg, r⟩

/-- r is the whole root of x, s what is left. -/
structure RtInv (x r s : Int) : Prop where
  r0 : 0 ≤ r
  s0 : 0 ≤ s
  eq : x = r * r + s
  le : s ≤ 2 * r
theorem RtInv.no {x y r s b : Int} (h : RtInv x r s) (hy : y = 4 * x + b) (hb : 0 ≤ b) (hb3 : b ≤ 3) (hc : 4 * s + b < 4 * r + 1) : RtInv y (2 * r) (4 * s + b) := by
  obtain ⟨h1, h2, h3, h4⟩ := h
  refine ⟨by omega, by omega, ?_, by omega⟩
  have e : 2 * r * (2 * r) = 4 * (r * r) := by grind
  rw [e]; omega
/-- What a power answers: its digits, or that they are too many. -/
def PowEnd (w w' : World) (x M : Int) (e : Ending) : Prop :=
  (x < M ∧ ∃ zs a c, e = .returned (.tuple #[.slice a zs.length c, .int .i64 0]) ∧ Lie w' a zs ∧ Good zs x ∧ Below w.heap.size w w') ∨
  (M ≤ x ∧ e = .returned (.tuple #[.slice none 0 0, .int .i64 3]) ∧ Below w.heap.size w w')
/-- What is told of a slice of integers that came in: it is nil; or it leads to a row of cap cells, the numbers zs (the first len are its elements), each fitting its kind. -/
def IsRow (k : IntKind) (w : World) (a : Option Addr) (len cap : Nat) (zs : List Int) : Prop :=
  (a = none ∧ len = 0 ∧ cap = 0 ∧ zs = []) ∨
  ∃ x, a = some x ∧ len ≤ cap ∧ cap ≤ maxLen ∧ zs.length = cap ∧ (∀ i, i < zs.length → w.cell? (x.add i) = some (.int k (zs.getD i 0))) ∧ ∀ n ∈ zs, (Lit.int k n).wf = true

theorem wf_u64 {n : Int} (h : (Lit.int .u64 n).wf = true) : 0 ≤ n ∧ n < 18446744073709551616 := by
  have e : ∀ n, (Lit.int .u64 n).wf = (decide (IntKind.u64.min ≤ n) && decide (n ≤ IntKind.u64.max)) := fun _ => rfl
  rw [e] at h
  have e1 : IntKind.u64.min = 0 := rfl
  have e2 : IntKind.u64.max = 18446744073709551615 := rfl
  rw [e1, e2] at h
  simp at h
  omega
theorem wf_i64 {n : Int} (h : (Lit.int .i64 n).wf = true) : -9223372036854775808 ≤ n ∧ n ≤ 9223372036854775807 := by
  have e : ∀ n, (Lit.int .i64 n).wf = (decide (IntKind.i64.min ≤ n) && decide (n ≤ IntKind.i64.max)) := fun _ => rfl
  rw [e] at h
  have e1 : IntKind.i64.min = -9223372036854775808 := rfl
  have e2 : IntKind.i64.max = 9223372036854775807 := rfl
  rw [e1, e2] at h
  simp at h
  omega
end Go.Proofs.Ytgfpbmjknknflaa

namespace Go.Proofs.Ytgfpbmjknknflaa
open Go.RowKit
set_option linter.unusedVariables false
set_option maxRecDepth 3000
/-- The library's table lies at its variable (block 0). -/
def Tab (w : World) : Prop := TabAt 0 Lib.deBruijn32tab w
theorem Tab.below {w w' : World} {B : Nat} (h : Tab w) (hb : Below B w w') (hB : w.heap.size ≤ B) : Tab w' := by
  intro j hj
  have := h j hj
  rw [hb.cell (p := ⟨0, j, none⟩) (by have h1 := World.block_lt_of_cell? w _ this; simpa using Nat.lt_of_lt_of_le h1 hB)]
  exact this
theorem p2lt {i j : Nat} (h : (2 : Int) ^ i < 2 ^ j) : i < j := by
  by_cases c : i < j
  · exact c
  · have := p2mono (show j ≤ i by omega)
    omega
theorem p2succ (i : Nat) : (2 : Int) ^ (i + 1) = 2 * 2 ^ i := by rw [Int.pow_succ, Int.mul_comm]
/-- How many bits a number has. -/
def BitLen (x : Int) (B : Nat) : Prop := (x = 0 ∧ B = 0) ∨ (0 < x ∧ Bits x B)
theorem Good.pos {z : List Int} {x : Int} (h : Good z x) (hz : 0 < z.length) : 0 < x := by
  have h1 := can_ge h.can hz
  have := Nt.pw_pos (z.length - 1)
  rw [← h.val]; omega
theorem Good.nil {z : List Int} {x : Int} (h : Good z x) (hz : z.length = 0) : z = [] ∧ x = 0 := by
  have e := List.length_eq_zero_iff.1 hz
  subst e
  exact ⟨rfl, by rw [← h.val]; rfl⟩
theorem Bits.up {x : Int} {B : Nat} (h : Bits x B) (n : Nat) : Bits (x * 2 ^ n) (B + n) := by
  have hp := p2pos n
  refine ⟨?_, ?_⟩
  · rw [Int.pow_add]; exact Int.mul_lt_mul_of_pos_right h.lt hp
  · rw [Int.pow_add, ← Int.mul_assoc]; exact Int.mul_le_mul_of_nonneg_right h.le (by omega)
theorem BitLen.up {x : Int} {B : Nat} (h : BitLen x B) (hx : 0 < x) (n : Nat) : BitLen (x * 2 ^ n) (B + n) := by
  rcases h with ⟨h1, h2⟩ | ⟨h1, h2⟩
  · omega
  · exact .inr ⟨Int.mul_pos hx (p2pos n), h2.up n⟩
theorem Live.one {w : World} {a : Option Addr} {zs : List Int} (h : Lie w a zs) : Live w [(a, zs)] := ⟨by simp [h]⟩
end Go.Proofs.Ytgfpbmjknknflaa

/-
  A region that draws its order, where what it reads stays as it is: the reads may be taken first. I tells what every world on the way keeps.
-/
set_option linter.unusedVariables false
namespace Go.Drawn
open Go
section
variable {P : Program} {ops : Array Oper} {Q : Exit → Act → World → Prop} {md : Region.Mode} {I : World → Prop}
/-- Whatever order: the end holds, and each world on the way keeps I. -/
def wpIn (P : Program) (md : Region.Mode) (ops : Array Oper) (Q : Exit → Act → World → Prop) (I : World → Prop) : Nat → Array Bool → Act → World → Prop
  | 0, listed, a, w => Region.ready md ops listed = [] ∧ Q .normal a w
  | n + 1, listed, a, w => (Region.ready md ops listed = [] → Q .normal a w) ∧
      ∀ i ∈ Region.ready md ops listed, wpOp P ops Q i (fun a' w' => I w' ∧ wpIn P md ops Q I n (listed.setIfInBounds i true) a' w') a w
theorem wpIn.any : ∀ {n : Nat} {listed : Array Bool} {a : Act} {w : World}, wpIn P md ops Q I n listed a w → wpAny P md ops Q n listed a w
  | 0, _, _, _, h => h
  | n + 1, _, _, _, h => ⟨h.1, fun i hi => wpOp_mono (fun _ _ hh => wpIn.any hh.2) (h.2 i hi)⟩
/-- What an operation leaves of the frame. -/
theorem wpOp_acts {j : Nat} {o : Oper} (hj : ops[j]? = some o) {K : Act → World → Prop} {a : Act} {w : World} (h : wpOp P ops Q j K a w) :
    wpOp P ops Q j (fun a' w' => (∃ u ds, a' = { a.put o.dst u with defers := ds }) ∧ K a' w') a w := by
  unfold wpOp at *
  simp only [hj] at *
  by_cases hw : Region.wanted o (yielded ops a.tmps) = true
  · rw [if_pos hw] at h ⊢
    refine h.imp (fun hh => ?_) id
    unfold Oper.wp at *
    cases hr : (execOp a.eval o).run P w with
    | ok n w' =>
      rw [hr] at hh
      cases n <;> simp only [Oper.upon] at hh ⊢
      case value u => exact ⟨⟨u, _, rfl⟩, hh⟩
      case skip => exact ⟨⟨undef, _, rfl⟩, hh⟩
      case defer d => exact ⟨⟨undef, d :: a.defers, by cases o.dst <;> rfl⟩, hh⟩
      case enter f args =>
        refine Calls.mono hh fun e w'' he => ?_
        cases e with
        | returned u => exact ⟨⟨u, _, rfl⟩, he⟩
        | panicked c => exact he
        | outgrown => exact he
      case row r args => exact Rows.mono hh fun u w'' he => ⟨⟨u, _, rfl⟩, he⟩
    | halt x w' =>
      rw [hr] at hh
      cases x <;> first | exact hh | (simp only [Oper.upon] at hh ⊢; exact hh)
  · rw [if_neg hw] at h ⊢
    exact ⟨⟨undef, _, rfl⟩, h⟩
/-- In every world that keeps I the operation yields v, or it is not wanted. -/
def YieldsIn (P : Program) (ops : Array Oper) (I : World → Prop) (o : Oper) (v : Value) (a : Act) : Prop :=
  (Region.wanted o (yielded ops a.tmps) = true ∧ ∀ w, I w → (execOp a.eval o).run P w = .ok (.value v) w) ∨ (Region.wanted o (yielded ops a.tmps) = false ∧ v = undef)
theorem YieldsIn.op {i : Nat} {o : Oper} {v : Value} {a : Act} {w : World} (hi : ops[i]? = some o) (hy : YieldsIn P ops I o v a) (hI : I w) {K : Act → World → Prop} (h : K (a.put o.dst v) w) : wpOp P ops Q i K a w := by
  unfold wpOp
  rcases hy with hy | ⟨hy, rfl⟩
  · simp only [hi, hy.1, if_true]
    refine .inl ?_
    unfold Oper.wp
    rw [hy.2 w hI]
    exact h
  · simp only [hi, hy]
    exact h
/-- The same place, filled by a constant. -/
def still (o : Oper) (v : Value) : Oper := { o with op := .move (.const v), guard := none }
theorem still_yields (o : Oper) (v : Value) (a : Act) : Yields P ops (still o v) v a := .inl ⟨rfl, fun _ => rfl⟩
theorem still_apart {o oj : Oper} (v : Value) (h : o.apart ops oj = true) : (still o v).apart ops oj = true := by
  unfold Oper.apart at *
  rw [Bool.and_eq_true] at h ⊢
  refine ⟨h.1, ?_⟩
  have e : (still o v).looksAt ops = [] := rfl
  rw [e]
  cases oj.dst <;> rfl
theorem take_first {i : Nat} {oi : Oper} {v : Value} (hi : ops[i]? = some oi) (hsel : ∀ (j : Nat) (o : Oper) cs b, ops[j]? = some o → o.op ≠ .select cs b)
    (hQ : ∀ c a w, Q (.panic c) (a.put oi.dst v) w → Q (.panic c) a w) :
    ∀ (n : Nat) (listed : Array Bool) (a : Act) (w : World),
      (∀ j oj, ops[j]? = some oj → j ≠ i → listed.getD j true = false → (∀ e ∈ oj.after, Region.binds md e = true → e.on ≠ i) → oi.apart ops oj = true) →
      i ∈ Region.ready md ops listed → YieldsIn P ops I oi v a → I w →
      wpIn P md ops Q I n (listed.setIfInBounds i true) (a.put oi.dst v) w → wpIn P md ops Q I (n + 1) listed a w := by
  intro n
  induction n with
  | zero =>
    intro listed a w _ hr hy hI H
    refine ⟨fun h => by rw [h] at hr; exact absurd hr (by simp), fun j hj => ?_⟩
    by_cases c : j = i
    · subst c; exact hy.op hi hI ⟨hI, H⟩
    · have := ready_mono hj c
      rw [H.1] at this
      exact absurd this (by simp)
  | succ n ih =>
    intro listed a w hfree hr hy hI H
    refine ⟨fun h => by rw [h] at hr; exact absurd hr (by simp), fun j hj => ?_⟩
    by_cases c : j = i
    · subst c; exact hy.op hi hI ⟨hI, H⟩
    · obtain ⟨hjun, oj, hoj, hall⟩ := mem_ready.1 hj
      have hnot : ∀ e ∈ oj.after, Region.binds md e = true → e.on ≠ i := by
        intro e he hb heq
        have h1 := hall e he hb
        have h0 := (mem_ready.1 hr).1
        rw [heq] at h1
        simp only [Array.getD_eq_getD_getElem?] at h0 h1
        cases hx : listed[i]? with
        | none => rw [hx] at h1; simp at h1
        | some q => rw [hx] at h0 h1; simp at h0 h1; rw [h0] at h1; cases h1
      have hap := hfree j oj hoj c hjun hnot
      have h2 := wpOp_acts hoj (wpOp_put (oi := still oi v) hoj (still_apart v hap) (fun cs b h => by cases h) (fun cs b => hsel j oj cs b hoj) hQ (still_yields oi v a) (H.2 j (ready_mono hj c)))
      refine wpOp_mono (fun a' w' h3 => ?_) h2
      obtain ⟨⟨u, ds, rfl⟩, _, hI', H'⟩ := h3
      obtain ⟨_, _, h5⟩ := Oper.apart_spec hap
      refine ⟨hI', ih _ _ _ ?_ (ready_mono hr (Ne.symm c)) ?_ hI' ?_⟩
      · intro k ok hk hki hun hno
        refine hfree k ok hk hki ?_ hno
        by_cases e : j = k
        · subst e; exact hjun
        · rw [getD_set_ne true e] at hun; exact hun
      · rcases hy with hy | ⟨hy, hv⟩
        · refine .inl ⟨?_, fun w'' hw'' => ?_⟩
          · have := wanted_put oi a oj.dst u h5
            rw [← hy.1]; exact this
          · have e : execOp (Act.eval { a.put oj.dst u with defers := ds }) oi = execOp a.eval oi := execOp_put oi (fun cs b => hsel i oi cs b hi) a oj.dst u h5
            rw [e]; exact hy.2 w'' hw''
        · have := wanted_put oi a oj.dst u h5
          exact .inr ⟨by rw [← hy]; exact this, hv⟩
      · rw [Array.setIfInBounds_comm _ _ c]
        exact H'
/-- A read that is ready is taken. -/
theorem take {i : Nat} {oi : Oper} {v : Value} {n : Nat} {listed : Array Bool} {a : Act} {w : World} (hi : ops[i]? = some oi)
    (hs : Region.noSelect ops = true) (hf : Region.free md ops listed i = true) (hr : (Region.ready md ops listed).contains i = true)
    (hQ : ∀ c a w, Q (.panic c) (a.put oi.dst v) w → Q (.panic c) a w) (hw : Region.wanted oi (yielded ops a.tmps) = true) (hy : ∀ w, I w → (execOp a.eval oi).run P w = .ok (.value v) w) (hI : I w)
    (h : wpIn P md ops Q I n (listed.setIfInBounds i true) (a.put oi.dst v) w) : wpIn P md ops Q I (n + 1) listed a w :=
  take_first hi (Region.noSelect_spec hs) hQ n listed a w (Region.free_spec hi hf) (by simpa using hr) (.inl ⟨hw, hy⟩) hI h
/-- An operation that is ready and not wanted is passed by. -/
theorem skip {i : Nat} {oi : Oper} {n : Nat} {listed : Array Bool} {a : Act} {w : World} (hi : ops[i]? = some oi)
    (hs : Region.noSelect ops = true) (hf : Region.free md ops listed i = true) (hr : (Region.ready md ops listed).contains i = true)
    (hQ : ∀ c a w, Q (.panic c) (a.put oi.dst undef) w → Q (.panic c) a w) (hw : Region.wanted oi (yielded ops a.tmps) = false) (hI : I w)
    (h : wpIn P md ops Q I n (listed.setIfInBounds i true) (a.put oi.dst undef) w) : wpIn P md ops Q I (n + 1) listed a w :=
  take_first hi (Region.noSelect_spec hs) hQ n listed a w (Region.free_spec hi hf) (by simpa using hr) (.inr ⟨hw, rfl⟩) hI h
/-- As take and skip, what the kernel sees by itself left out. -/
theorem tk {i : Nat} {oi : Oper} {v : Value} {n : Nat} {listed : Array Bool} {a : Act} {w : World} (hi : ops[i]? = some oi)
    (hy : ∀ w, I w → (execOp a.eval oi).run P w = .ok (.value v) w) (hI : I w) (h : wpIn P md ops Q I n (listed.setIfInBounds i true) (a.put oi.dst v) w)
    (hs : Region.noSelect ops = true := by kernel_rfl) (hf : Region.free md ops listed i = true := by kernel_rfl) (hr : (Region.ready md ops listed).contains i = true := by kernel_rfl)
    (hQ : ∀ c a w, Q (.panic c) (a.put oi.dst v) w → Q (.panic c) a w := by exact fun _ _ _ h => h) (hw : Region.wanted oi (yielded ops a.tmps) = true := by kernel_rfl) : wpIn P md ops Q I (n + 1) listed a w :=
  take hi hs hf hr hQ hw hy hI h
/-- The one operation that is ready. -/
theorem one {j : Nat} {o : Oper} {n : Nat} {listed : Array Bool} {a : Act} {w : World} (hr : Region.ready md ops listed = [j]) (hj : ops[j]? = some o)
    (h : ∀ K : Act → World → Prop, (∀ a w, I w → wpIn P md ops Q I n (listed.setIfInBounds j true) a w → K a w) → if Region.wanted o (yielded ops a.tmps) = true then Oper.wp P o a w K Q else K (a.put o.dst undef) w) :
    wpIn P md ops Q I (n + 1) listed a w := by
  refine ⟨fun h0 => absurd (hr.symm.trans h0) (by simp), fun i hi => ?_⟩
  rw [hr] at hi
  obtain rfl := List.mem_singleton.1 hi
  exact wpOp_step hj (fun K hK => h K fun a w h1 h2 => hK a w ⟨h1, h2⟩)
theorem done {n : Nat} {listed : Array Bool} {a : Act} {w : World} (hr : Region.ready md ops listed = []) (h : Q .normal a w) : wpIn P md ops Q I n listed a w := by
  cases n with
  | zero => exact ⟨hr, h⟩
  | succ n => exact ⟨fun _ => h, fun i hi => by rw [hr] at hi; cases hi⟩
theorem enter {id : Nat} {a : Act} {w : World} (I : World → Prop) (hm : P.follows .mixedOrders = true)
    (h : wpIn P .any ops Q I ops.size (Array.replicate ops.size false) a w.drew) : (Code.region id ops true).wp P Q a w := wp_region_any hm h.any
end
end Go.Drawn

namespace Go.Proofs.Ytgfpbmjknknflaa
open Go.RowKit
set_option linter.unusedVariables false
set_option maxRecDepth 3000
/-- The block g holds a number's three cells. -/
def DCell (w : World) (g : Nat) (cs : Array Value) : Prop := w.heap[g]? = some (.cells cs 67 (0, 0)) ∧ cs.size = 3
theorem dcell_new (w : World) (a b c : Value) : DCell (w.alloc (.cells #[a, b, c] 67)) w.heap.size #[a, b, c] := ⟨heap_alloc_new w _, rfl⟩
theorem DCell.below {w w' : World} {g B : Nat} {cs : Array Value} (h : DCell w g cs) (hb : Below B w w') (hg : g < B) : DCell w' g cs := ⟨(hb.block g hg).trans h.1, h.2⟩
theorem Own.setOff {B g j : Nat} {w : World} {v : Value} {zs : List Int} (h : Own B w v zs) (hg : g < B) (x : Value) : Own B (w.setCell ⟨g, j, none⟩ x) v zs := ownsRow_setCell_below h hg x
theorem DCell.set {w : World} {g : Nat} {cs : Array Value} (h : DCell w g cs) (j : Nat) (x : Value) : DCell (w.setCell ⟨g, j, none⟩ x) g (cs.setIfInBounds j x) := by
  refine ⟨?_, by simpa using h.2⟩
  exact heap_setCell_same w g j _ 67 _ h.1
/-- No number, in the place of one. -/
abbrev noD : Value := .agg #[.bool false, .slice none 0 0, .int .i64 0]
/-- A dyadic number's value in a call. -/
abbrev dV (ng : Bool) (a : Option Addr) (n c : Nat) (ex : Int) : Value := .agg #[.bool ng, .slice a n c, .int .i64 ex]
/-- May this be a dyadic number? -/
def dmayB (ng : Bool) (zs : List Int) (ex : Int) : Bool :=
  if zs.length = 0 then (!ng && ex == 0) else (mayB zs && zs.getD 0 0 % 2 == 1 && decide (-16777216 ≤ ex) && decide (ex ≤ 16777216))
/-- Some dyadic number that lies in memory, whatever its form. -/
structure DLie (w : World) (a : Option Addr) (zs : List Int) : Prop where
  lie : Lie w a zs
  len : zs.length ≤ maxLen
  rng : Nt.Rng zs
theorem DLie.below {w w' : World} {a : Option Addr} {zs : List Int} (h : DLie w a zs) (hb : Below w.heap.size w w') : DLie w' a zs := ⟨h.lie.below hb (Nat.le_refl _), h.len, h.rng⟩
/-- MaxExp. -/
def KK : Nat := 16777216
def sv (ng : Bool) (x : Int) : Int := if ng then -x else x
theorem sv_t (x : Int) : sv true x = -x := rfl
theorem sv_f (x : Int) : sv false x = x := rfl
theorem sv_abs (ng : Bool) {x : Int} (h : 0 ≤ x) : ((sv ng x).natAbs : Int) = x := by cases ng <;> simp only [sv_t, sv_f] <;> omega
def pK (ex : Int) : Int := 2 ^ (ex + KK).toNat
theorem pK_pos (ex : Int) : 0 < pK ex := Int.pow_pos (by decide)
/-- The value of a dyadic number, in units of 2 to the -MaxExp. -/
def dv (ng : Bool) (zs : List Int) (ex : Int) : Int := sv ng (Nt.val zs) * pK ex
/-- A number that may be. -/
structure DG (ng : Bool) (zs : List Int) (ex : Int) : Prop where
  can : Nt.Can zs
  len : zs.length ≤ 4096
  form : (zs = [] ∧ ng = false ∧ ex = 0) ∨ (0 < zs.length ∧ Nt.val zs % 2 = 1 ∧ -16777216 ≤ ex ∧ ex ≤ 16777216)
theorem val_odd {zs : List Int} (hz : 0 < zs.length) : Nt.val zs % 2 = zs.getD 0 0 % 2 := by
  cases zs with
  | nil => simp at hz
  | cons d s => rw [val_cons]; simp only [List.getD_cons_zero]; omega
theorem DG.of {ng : Bool} {zs : List Int} {ex : Int} (hr : Nt.Rng zs) (h : dmayB ng zs ex = true) : DG ng zs ex := by
  unfold dmayB at h
  by_cases hz : zs.length = 0
  · rw [if_pos hz] at h
    have e := List.length_eq_zero_iff.1 hz
    subst e
    refine ⟨Nt.can_nil, by simp, .inl ⟨rfl, ?_, ?_⟩⟩ <;> cases ng <;> simp_all
  · rw [if_neg hz] at h
    simp only [Bool.and_eq_true, beq_iff_eq, decide_eq_true_eq] at h
    obtain ⟨⟨⟨h1, h2⟩, h3⟩, h4⟩ := h
    exact ⟨(may_can hr h1).1, (may_can hr h1).2, .inr ⟨by omega, by rw [val_odd (by omega)]; exact h2, h3, h4⟩⟩
theorem DG.good {ng : Bool} {zs : List Int} {ex : Int} (h : DG ng zs ex) : Good zs (Nt.val zs) := ⟨h.can, h.len, rfl⟩
theorem DG.nil {ng : Bool} {zs : List Int} {ex : Int} (h : DG ng zs ex) (hz : zs.length ≤ 0) : zs = [] ∧ ng = false ∧ ex = 0 := by
  rcases h.form with h1 | ⟨h1, _⟩
  · exact h1
  · omega
theorem DG.odd {ng : Bool} {zs : List Int} {ex : Int} (h : DG ng zs ex) (hz : 0 < zs.length) : Nt.val zs % 2 = 1 := by
  rcases h.form with ⟨rfl, _⟩ | ⟨_, h2, _⟩
  · simp at hz
  · exact h2
theorem DG.pos {ng : Bool} {zs : List Int} {ex : Int} (h : DG ng zs ex) (hz : 0 < zs.length) : 0 < Nt.val zs := h.good.pos hz
theorem odd_low {x : Int} (h : x % 2 = 1) : LowBit x 0 := ⟨by simp, by simpa using h⟩
theorem LowBit.up {x : Int} {t : Nat} (h : LowBit x t) (n : Nat) : LowBit (x * 2 ^ n) (t + n) := by
  have hp := p2pos n
  have h1 := Int.emod_add_mul_ediv x (2 ^ t)
  rw [h.zero, Int.zero_add] at h1
  have e : x * 2 ^ n = 2 ^ (t + n) * (x / 2 ^ t) := by rw [Int.pow_add, ← h1, Int.mul_ediv_cancel_left _ (by have := p2pos t; omega)]; generalize x / 2 ^ t = q; grind
  refine ⟨by rw [e]; exact Int.mul_emod_right _ _, ?_⟩
  rw [e, Int.mul_ediv_cancel_left _ (by have := p2pos (t + n); omega)]
  exact h.one
theorem low_half {x : Int} {t : Nat} (h : LowBit x t) : x = x / 2 ^ t * 2 ^ t := by
  have h1 := Int.emod_add_mul_ediv x (2 ^ t)
  rw [h.zero, Int.zero_add, Int.mul_comm] at h1
  exact h1.symm
/-- What is answered for the exact number s times 2 to the E. -/
structure DV (w w' : World) (s E : Int) (ng : Bool) (a : Option Addr) (n c : Nat) (ex code : Int) : Prop where
  bel : Below w.heap.size w w'
  all : (s = 0 ∧ ng = false ∧ a = none ∧ n = 0 ∧ c = 0 ∧ ex = 0 ∧ code = 0) ∨ (s ≠ 0 ∧ ∃ t : Nat, LowBit (s.natAbs : Int) t ∧
    ((-16777216 ≤ E + t ∧ E + t ≤ 16777216 ∧ ng = decide (s < 0) ∧ ex = E + t ∧ code = 0 ∧ ∃ zs, n = zs.length ∧ Good zs ((s.natAbs : Int) / 2 ^ t) ∧ Own w.heap.size w' (.slice a n c) zs) ∨
     (4294967296 ^ 4096 ≤ (s.natAbs : Int) / 2 ^ t ∧ ng = false ∧ a = none ∧ n = 0 ∧ c = 0 ∧ ex = 0 ∧ code = 3) ∨
     ((s.natAbs : Int) / 2 ^ t < 4294967296 ^ 4096 ∧ (E + t < -16777216 ∨ 16777216 < E + t) ∧ ng = false ∧ a = none ∧ n = 0 ∧ c = 0 ∧ ex = 0 ∧ code = 20)))
def DRes (w w' : World) (s E : Int) (e : Ending) : Prop := ∃ ng a n c ex code, e = .returned (.tuple #[dV ng a n c ex, .int .i64 code]) ∧ DV w w' s E ng a n c ex code
theorem natAbs_mul_pow (s : Int) (k : Nat) : ((s * 2 ^ k).natAbs : Int) = (s.natAbs : Int) * 2 ^ k := by
  rw [Int.natAbs_mul, Int.natCast_mul]
  have := p2pos k
  have e : (((2 : Int) ^ k).natAbs : Int) = 2 ^ k := by omega
  rw [e]
/-- From an earlier world on, and with another cell of the call's own written. -/
theorem DV.back {w0 w w' : World} {s E : Int} {ng : Bool} {a : Option Addr} {n c : Nat} {ex code : Int} (h : DV w w' s E ng a n c ex code) (hb : Below w0.heap.size w0 w) {g : Nat} (hg : w0.heap.size ≤ g) (hg' : g < w.heap.size) (u0 u1 u2 : Value) :
    DV w0 (((w'.setCell ⟨g, 0, none⟩ u0).setCell ⟨g, 1, none⟩ u1).setCell ⟨g, 2, none⟩ u2) s E ng a n c ex code := by
  refine ⟨(((below_then hb h.bel).setCell (p := ⟨g, 0, none⟩) hg u0).setCell (p := ⟨g, 1, none⟩) hg u1).setCell (p := ⟨g, 2, none⟩) hg u2, ?_⟩
  rcases h.all with h1 | ⟨h1, t, h2, h3⟩
  · exact .inl h1
  · refine .inr ⟨h1, t, h2, ?_⟩
    rcases h3 with ⟨k1, k2, k3, k4, k5, zs, k6, k7, k8⟩ | h3
    · exact .inl ⟨k1, k2, k3, k4, k5, zs, k6, k7, (((k8.setOff (j := 0) hg' u0).setOff (j := 1) hg' u1).setOff (j := 2) hg' u2).mono hb.size⟩
    · exact .inr h3
end Go.Proofs.Ytgfpbmjknknflaa

namespace Go.Proofs.Ytgfpbmjknknflaa
open Go.RowKit
set_option linter.unusedVariables false
set_option maxRecDepth 3000
theorem DCell.c0 {w : World} {g : Nat} {a b c : Value} (h : DCell w g #[a, b, c]) : w.cell? ⟨g, 0, none⟩ = some a := cell_of_row _ _ 0 _ 67 (0, 0) h.1
theorem DCell.c1 {w : World} {g : Nat} {a b c : Value} (h : DCell w g #[a, b, c]) : w.cell? ⟨g, 1, none⟩ = some b := cell_of_row _ _ 1 _ 67 (0, 0) h.1
theorem DCell.c2 {w : World} {g : Nat} {a b c : Value} (h : DCell w g #[a, b, c]) : w.cell? ⟨g, 2, none⟩ = some c := cell_of_row _ _ 2 _ 67 (0, 0) h.1
theorem DCell.fr {w : World} {g : Nat} {cs : Array Value} (h : DCell w g cs) (j : Nat) : w.frozen? ⟨g, j, none⟩ = false := frozen_of_row _ _ j _ 67 h.1
theorem wrap_ok {x : Int} (h0 : -9223372036854775808 ≤ x) (h1 : x ≤ 9223372036854775807) : IntKind.i64.wrap x = x := by
  rw [IntKind.wrap_i64]; omega
section
variable {w w' : World} {x y ex : Int} {n1 n2 ng : Bool} {a : Option Addr} {n c : Nat} {xx code : Int}
end
end Go.Proofs.Ytgfpbmjknknflaa

namespace Go.Proofs.Ytgfpbmjknknflaa
open Go.RowKit
set_option linter.unusedVariables false
set_option maxRecDepth 3000
end Go.Proofs.Ytgfpbmjknknflaa

namespace Go.Proofs.Ytgfpbmjknknflaa
open Go.RowKit
set_option linter.unusedVariables false
set_option maxRecDepth 3000
theorem DRes.back {w0 w w' : World} {s E : Int} {ng : Bool} {a : Option Addr} {n c : Nat} {ex code : Int} (h : DV w w' s E ng a n c ex code) (hb : Below w0.heap.size w0 w) {g : Nat} (hg : w0.heap.size ≤ g) (hg' : g < w.heap.size) (u0 u1 u2 : Value) :
    DRes w0 (((w'.setCell ⟨g, 0, none⟩ u0).setCell ⟨g, 1, none⟩ u1).setCell ⟨g, 2, none⟩ u2) s E (.returned (.tuple #[dV ng a n c ex, .int .i64 code])) := ⟨ng, a, n, c, ex, code, rfl, h.back hb hg hg' u0 u1 u2⟩
theorem DG.lie {ng : Bool} {zs : List Int} {ex : Int} (g : DG ng zs ex) {w : World} {a : Option Addr} (h : Lie w a zs) : DLie w a zs := ⟨h, by have := g.len; unfold maxLen; omega, g.can.1⟩

end Go.Proofs.Ytgfpbmjknknflaa

namespace Go.Proofs.Ytgfpbmjknknflaa
open Go.RowKit
set_option linter.unusedVariables false
set_option maxRecDepth 3000
/-- A multiple of 2 to the lo, below 2 to the hi in size. -/
structure DB (lo hi : Nat) (s : Int) : Prop where
  dvd : s % 2 ^ lo = 0
  gt : -(2 ^ hi) < s
  lt : s < 2 ^ hi
theorem DB.mono {lo hi l h : Nat} {s : Int} (b : DB lo hi s) (hl : l ≤ lo) (hh : hi ≤ h) : DB l h s := by
  have := p2mono hh
  refine ⟨?_, by have := b.gt; omega, by have := b.lt; omega⟩
  obtain ⟨k, rfl⟩ : ∃ k, lo = l + k := ⟨lo - l, by omega⟩
  obtain ⟨m, hm⟩ := Int.dvd_of_emod_eq_zero b.dvd
  exact Int.emod_eq_zero_of_dvd ⟨2 ^ k * m, by rw [hm, Int.pow_add, Int.mul_assoc]⟩
theorem DB.add {lo hi : Nat} {s t : Int} (b : DB lo hi s) (c : DB lo hi t) : DB lo (hi + 1) (s + t) := by
  have e := p2succ hi
  have b1 := b.gt
  have b2 := b.lt
  have c1 := c.gt
  have c2 := c.lt
  refine ⟨?_, by omega, by omega⟩
  obtain ⟨m, hm⟩ := Int.dvd_of_emod_eq_zero b.dvd
  obtain ⟨k, hk⟩ := Int.dvd_of_emod_eq_zero c.dvd
  exact Int.emod_eq_zero_of_dvd ⟨m + k, by rw [hm, hk, Int.mul_add]⟩
theorem DB.low {lo hi t : Nat} {s : Int} (b : DB lo hi s) (hs : s ≠ 0) (ht : LowBit (s.natAbs : Int) t) : lo ≤ t ∧ t < hi ∧ (s.natAbs : Int) / 2 ^ t < 2 ^ (hi - lo) := by
  have b1 := b.gt
  have b2 := b.lt
  have h1 : lo ≤ t := by
    have := low_lost (n := lo) ht
    have e : (s.natAbs : Int) % 2 ^ lo = 0 := by
      obtain ⟨m, hm⟩ := Int.dvd_of_emod_eq_zero b.dvd
      have hp := p2pos lo
      by_cases c : 0 ≤ s
      · exact Int.emod_eq_zero_of_dvd ⟨m, by rw [← hm]; omega⟩
      · exact Int.emod_eq_zero_of_dvd ⟨-m, by rw [Int.mul_neg, ← hm]; omega⟩
    rw [e] at this
    simp at this
    omega
  have h2 := low_half ht
  have h4 : 1 ≤ (s.natAbs : Int) / 2 ^ t := by
    have := Int.ediv_nonneg (show 0 ≤ (s.natAbs : Int) by omega) (Int.le_of_lt (p2pos t))
    have := ht.one
    omega
  have h5 : 1 * 2 ^ t ≤ (s.natAbs : Int) / 2 ^ t * 2 ^ t := Int.mul_le_mul_of_nonneg_right h4 (Int.le_of_lt (p2pos t))
  have h6 : t < hi := p2lt (by omega)
  refine ⟨h1, h6, ?_⟩
  refine Int.ediv_lt_of_lt_mul (p2pos t) ?_
  rw [← Int.pow_add]
  have := p2mono (show hi ≤ hi - lo + t by omega)
  omega
/-- A number of the value v. -/
structure DN (ng : Bool) (zs : List Int) (ex v : Int) : Prop where
  dg : DG ng zs ex
  val : dv ng zs ex = v
/-- A new number. -/
structure IsD (w w' : World) (a : Option Addr) (c : Nat) (ng : Bool) (zs : List Int) (ex v : Int) : Prop where
  num : DN ng zs ex v
  lie : Lie w' a zs
  bel : Below w.heap.size w w'
  own : Own w.heap.size w' (.slice a zs.length c) zs
/-- A number that is handed in. -/
structure Arg where
  ng : Bool
  a : Option Addr
  c : Nat
  zs : List Int
  ex : Int
def nearB (x : Arg) : Bool := decide (x.zs.length ≤ 100) && decide (-3000 ≤ x.ex) && decide (x.ex ≤ 3000) && dmayB x.ng x.zs x.ex
/-- The numbers of l lie in a row. -/
structure ARow (w : World) (b : Nat) (l : List Arg) : Prop where
  c0 : ∀ (i : Nat) (x : Arg), l[i]? = some x → w.cell? ⟨b, i * 3, none⟩ = some (.bool x.ng)
  c1 : ∀ (i : Nat) (x : Arg), l[i]? = some x → w.cell? ⟨b, i * 3 + 1, none⟩ = some (.slice x.a x.zs.length x.c)
  c2 : ∀ (i : Nat) (x : Arg), l[i]? = some x → w.cell? ⟨b, i * 3 + 2, none⟩ = some (.int .i64 x.ex)
  lie : ∀ (i : Nat) (x : Arg), l[i]? = some x → DLie w x.a x.zs
theorem DB.shift {lo hi k : Nat} {p : Int} (h : DB lo hi (p * 2 ^ k)) (hk : k ≤ lo) (hk2 : k ≤ hi) : DB (lo - k) (hi - k) p := by
  have hp := p2pos k
  obtain ⟨j, rfl⟩ : ∃ j, lo = j + k := ⟨lo - k, by omega⟩
  obtain ⟨i, rfl⟩ : ∃ i, hi = i + k := ⟨hi - k, by omega⟩
  rw [show j + k - k = j by omega, show i + k - k = i by omega]
  have b1 := h.gt
  have b2 := h.lt
  rw [Int.pow_add] at b1 b2
  refine ⟨?_, ?_, Int.lt_of_mul_lt_mul_right b2 (by omega)⟩
  · obtain ⟨m, hm⟩ := Int.dvd_of_emod_eq_zero h.dvd
    rw [Int.pow_add] at hm
    exact Int.emod_eq_zero_of_dvd ⟨m, Int.eq_of_mul_eq_mul_right (show (2 : Int) ^ k ≠ 0 by omega) (by rw [hm, Int.mul_right_comm])⟩
  · refine Int.lt_of_mul_lt_mul_right (a := 2 ^ k) ?_ (by omega)
    rw [Int.neg_mul]; exact b1
/-- Variables of the law that hold numbers. -/
structure Boxes (w : World) (l : List (Nat × Array Value)) : Prop where
  all : ∀ p ∈ l, DCell w p.1 p.2
theorem Boxes.keep {w w' : World} {l : List (Nat × Array Value)} (h : Boxes w l) (hb : Below w.heap.size w w') : Boxes w' l :=
  ⟨fun p hp => (h.all p hp).below hb (Array.getElem?_eq_some_iff.1 (h.all p hp).1).1⟩
theorem Boxes.push {w w' : World} {l : List (Nat × Array Value)} (h : Boxes w l) (hb : Below w.heap.size w w') (x y z : Value) : Boxes (w'.alloc (.cells #[x, y, z] 67)) ((w'.heap.size, #[x, y, z]) :: l) := by
  refine ⟨fun p hp => ?_⟩
  rcases List.mem_cons.1 hp with rfl | hp
  · exact dcell_new _ _ _ _
  · exact ((h.keep hb).keep (below_alloc _ _)).all p hp
end Go.Proofs.Ytgfpbmjknknflaa

namespace Go.Proofs.Ytgfpbmjknknflaa
open Go.RowKit
set_option linter.unusedVariables false
set_option maxRecDepth 3000
end Go.Proofs.Ytgfpbmjknknflaa

set_option linter.unusedVariables false
namespace Go.Drawn
open Go
section
variable {P : Program} {ops : Array Oper} {Q : Exit → Act → World → Prop} {md : Region.Mode} {I : World → Prop}
end
end Go.Drawn
