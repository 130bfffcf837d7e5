import Derived.Test.YtiamdmfhkhlppaaDoorRows
import Derived.Test.YtiamdmfhkhlppaaDoorMath
import Derived.WalkKit
import Derived.WalkSpells
import Derived.WalkLawsBesides
import Derived.Laws.CopyOwn
namespace Go.Proofs.YtiamdmfhkhlppaaDoor
open Go.RowKit
set_option linter.unusedVariables false
/-- The digits zs lie in memory from address a on (nil where there are none). -/
def Lie (w : World) (a : Option Addr) (zs : List Int) : Prop :=
  zs = [] ∨ ∃ b o, a = some ⟨b, o, none⟩ ∧ ∀ i, i < zs.length → w.cell? ⟨b, o + i, none⟩ = some (.int .u32 (zs.getD i 0))

/-- Block g is a row of digits s. -/
def Blk (w : World) (g : Nat) (s : List Int) : Prop := w.heap[g]? = some (.cells (s.map (Value.int .u32)).toArray 70 (0, 0))

/-- A number in new memory (blocks from B on): a slice value with the digits zs. -/
def Own (B : Nat) (w : World) (v : Value) (zs : List Int) : Prop := w.ownsRow B 70 1 v zs.length (zs.map (Value.int .u32))

theorem Tryd.info49 : (Tryd.prog.info? 70).map (fun i => (i.zero, i.size, i.bytes)) = some (some (.int .u32 0), 1, 4) := by kernel_rfl

theorem Lie.below {w w' : World} {a : Option Addr} {zs : List Int} {B : Nat} (h : Lie w a zs) (hb : Below B w w') (hB : w.heap.size ≤ B) : Lie w' a zs := by
  rcases h with h | ⟨b, o, rfl, hc⟩
  · exact .inl h
  · refine .inr ⟨b, o, rfl, fun i hi => ?_⟩
    have := hc i hi
    have hlt := World.block_lt_of_cell? w _ this
    rw [hb.cell (p := ⟨b, o + i, none⟩) (by simpa using Nat.lt_of_lt_of_le hlt hB)]
    exact this

theorem Blk.cell {w : World} {g : Nat} {s : List Int} (h : Blk w g s) {j : Nat} (hj : j < s.length) : w.cell? ⟨g, j, none⟩ = some (.int .u32 (s.getD j 0)) := by
  rw [cell_of_row w g j _ 70 (0, 0) h]
  simp [List.getD_eq_getElem?_getD, hj]
theorem Blk.frozen {w : World} {g : Nat} {s : List Int} (h : Blk w g s) (j : Nat) : w.frozen? ⟨g, j, none⟩ = false := frozen_of_row w g j _ 70 h
theorem Blk.set {w : World} {g : Nat} {s : List Int} (h : Blk w g s) (j : Nat) (x : Int) : Blk (w.setCell ⟨g, j, none⟩ (.int .u32 x)) g (s.set j x) := by
  unfold Blk
  rw [heap_setCell_same w g j _ 70 _ h]
  simp [List.map_set]
theorem Blk.below {w w' : World} {g B : Nat} {s : List Int} (h : Blk w g s) (hb : Below B w w') (hg : g < B) : Blk w' g s := (hb.block g hg).trans h
theorem Blk.lt {w : World} {g : Nat} {s : List Int} (h : Blk w g s) : g < w.heap.size := (Array.getElem?_eq_some_iff.1 h).1
theorem Blk.own {w : World} {g B n : Nat} {s : List Int} (h : Blk w g s) (hB : B ≤ g) (hn : n ≤ s.length) (hm : s.length ≤ maxLen) :
    Own B w (.slice (some ⟨g, 0, none⟩) n s.length) (s.take n) := by
  have e : (s.take n).length = n := by simp; omega
  unfold Own
  rw [e]
  exact ⟨by simp; omega, .inr ⟨g, s.length, _, rfl, hB, h, hn, hm, by simp, by simp [List.map_take]⟩⟩
theorem Blk.lie {w : World} {g n : Nat} {s : List Int} (h : Blk w g s) : Lie w (some ⟨g, 0, none⟩) s :=
  .inr ⟨g, 0, rfl, fun i hi => by rw [Nat.zero_add]; exact h.cell hi⟩
theorem blk_made {w : World} {B g n : Nat} (h : w.ownsRow B 70 1 (.slice (some ⟨g, 0, none⟩) n n) n (madeCells (Value.int .u32 0).cells (n * 1)).toList) : Blk w g (List.replicate n 0) := by
  rcases h.2 with ⟨h', _⟩ | ⟨g', cap', cur, h', _, hg, _, _, hsz, htake⟩
  · simp at h'
  · simp only [Value.slice.injEq, Option.some.injEq, Addr.mk.injEq, and_true, true_and] at h'
    obtain ⟨rfl, rfl⟩ := h'
    unfold Blk
    rw [hg]
    have : cur.toList = (List.replicate n (0 : Int)).map (Value.int .u32) := by
      rw [List.take_of_length_le (by simp; omega)] at htake
      rw [htake]
      show (madeCells #[.int .u32 0] (n * 1)).toList = _
      rw [toList_madeCells_one]; simp
    rw [← this]

theorem Own.lie {B : Nat} {w : World} {v : Value} {zs : List Int} (h : Own B w v zs) : ∃ a cap, v = .slice a zs.length cap ∧ zs.length ≤ cap ∧ cap ≤ maxLen ∧ Lie w a zs := by
  rcases h.2 with ⟨rfl, h0⟩ | ⟨g, cap, cur, hv, _, hg, hn, hm, _, htake⟩
  · exact ⟨none, 0, by rw [h0], by omega, by unfold maxLen; omega, .inl (List.length_eq_zero_iff.1 h0)⟩
  · refine ⟨_, cap, hv, hn, hm, .inr ⟨g, 0, rfl, fun i hi => ?_⟩⟩
    rw [Nat.zero_add, cell_of_row w g i _ 70 (0, 0) hg]
    have : cur.toList[i]? = some (.int .u32 (zs.getD i 0)) := by
      have e : (cur.toList.take (zs.length * 1))[i]? = cur.toList[i]? := by rw [List.getElem?_take, if_pos (by omega)]
      rw [← e, htake]
      simp [List.getD_eq_getElem?_getD, hi]
    simpa using this
theorem Own.nil (B : Nat) (w : World) : Own B w (.slice none 0 0) [] := World.ownsRow_nil w B 70 1
theorem Own.below {B B' : Nat} {w w' : World} {v : Value} {zs : List Int} (h : Own B w v zs) (hb : Below B' w w') (hB : w.heap.size ≤ B') : Own B w' v zs := by
  refine ⟨h.1, ?_⟩
  rcases h.2 with h | ⟨g, cap, cur, hv, h1, hg, r⟩
  · exact .inl h
  · exact .inr ⟨g, cap, cur, hv, h1, (hb.block g (by have := (Array.getElem?_eq_some_iff.1 hg).1; omega)).trans hg, r⟩
theorem Own.mono {B B' : Nat} {w : World} {v : Value} {zs : List Int} (h : Own B w v zs) (hB : B' ≤ B) : Own B' w v zs := by
  refine ⟨h.1, ?_⟩
  rcases h.2 with h | ⟨g, cap, cur, hv, h1, r⟩
  · exact .inl h
  · exact .inr ⟨g, cap, cur, hv, by omega, r⟩

theorem below_of_grown {w w' : World} (h : w.grownBy w' none) : Below w.heap.size w w' := (Below.refl _ w).grown h (Nat.le_refl _) (by simp)
theorem below_alloc (w : World) (o : Obj) : Below w.heap.size w (w.alloc o) := (Below.refl _ w).alloc (Nat.le_refl _) o
theorem below_then {w w1 w2 : World} (h : Below w.heap.size w w1) (k : Below w1.heap.size w1 w2) : Below w.heap.size w w2 := h.trans (k.mono h.size)
end Go.Proofs.YtiamdmfhkhlppaaDoor
