import Derived.Test.YtiamdmfhkhlppaaDoorWD
namespace Go.Proofs.YtiamdmfhkhlppaaDoor
open Go.RowKit Go.Wd Go.Box
set_option linter.unusedVariables false
set_option maxRecDepth 3000
theorem wChanged_nan (b : Bool) (x : Int) (h : Ok b x) (hn : inf b < sz b x) (v : Value) (w : World) :
    Calls Tryd.prog 104 #[.int .u8 (fm b), .int .u64 x, v] w fun e w' => e = .returned (.tuple #[.int .u64 (nan b), .int .i64 0]) ∧ Below w.heap.size w w' := by
  go_enter Tryd.func104, Tryd.ntmps104
  go_wp2_with fail
  refine (wGoodShape b x h _).mono ?_
  rintro e w2 ⟨rfl, h2⟩
  have B2 := ((Bx.nil w).keep h2).push (SO b)
  clear h2
  go_wp2_with fail
  refine (wIsNaN b x h _).mono ?_
  rintro e w3 ⟨rfl, h3⟩
  have B3 := B2.keep h3
  obtain ⟨e0, e1, e2, e3⟩ := shape_cells B3 w2.heap.size b (.head _)
  clear h3 B2
  rw [decide_eq_true hn]
  clear hn
  go_wp2_with fail
  refine (wNone b _).mono ?_
  rintro e w4 ⟨rfl, h4⟩
  have B4 := B3.keep h4
  clear h4 B3 e0 e1 e2 e3
  go_wp2
  go_ret2
  exact ⟨rfl, B4.bel⟩
theorem wChanged_err (f x c : Int) (h : GE f x c) (v : Value) (w : World) :
    Calls Tryd.prog 104 #[.int .u8 f, .int .u64 x, v] w fun e w' => e = .returned (.tuple #[.int .u64 0, .int .i64 c]) ∧ Below w.heap.size w w' := by
  have hc := h.ne
  go_enter Tryd.func104, Tryd.ntmps104
  go_wp2_with fail
  refine (h.call _).mono ?_
  rintro e w2 ⟨rfl, h2⟩
  have B2 := ((Bx.nil w).keep h2).push ZO
  clear h2 h
  go_wp2
  go_ret2
  exact ⟨rfl, B2.bel⟩


theorem wChanged_above (b : Bool) (x : Int) (h : Ok b x) (hn : sz b x ≤ inf b) (w : World) (y c : Int)
    (H : ∀ W, Below w.heap.size w W → Calls Tryd.prog 105 #[S b, .int .u64 x] W fun e w' => e = .returned (.tuple #[.int .u64 y, .int .i64 c]) ∧ Below W.heap.size W w') :
    Calls Tryd.prog 104 #[.int .u8 (fm b), .int .u64 x, .func (Fn.func 105) #[] #[]] w fun e w' => e = .returned (.tuple #[.int .u64 y, .int .i64 c]) ∧ Below w.heap.size w w' := by
  go_enter Tryd.func104, Tryd.ntmps104
  go_wp2_with fail
  refine (wGoodShape b x h _).mono ?_
  rintro e w2 ⟨rfl, h2⟩
  have B2 := ((Bx.nil w).keep h2).push (SO b)
  clear h2
  go_wp2_with fail
  refine (wIsNaN b x h _).mono ?_
  rintro e w3 ⟨rfl, h3⟩
  have B3 := B2.keep h3
  obtain ⟨e0, e1, e2, e3⟩ := shape_cells B3 w2.heap.size b (.head _)
  clear h3 B2
  rw [decide_eq_false (by omega)]
  clear hn
  have H3 := Hide.mk (H w3 B3.bel)
  clear H
  go_wp2_with fail
  refine H3.out.mono ?_
  rintro e w4 ⟨rfl, h4⟩
  have B4 := B3.keep h4
  clear h4 B3 e0 e1 e2 e3 H3
  go_wp2
  go_ret2
  exact ⟨rfl, B4.bel⟩
theorem wChanged_below (b : Bool) (x : Int) (h : Ok b x) (hn : sz b x ≤ inf b) (w : World) (y c : Int)
    (H : ∀ W, Below w.heap.size w W → Calls Tryd.prog 108 #[S b, .int .u64 x] W fun e w' => e = .returned (.tuple #[.int .u64 y, .int .i64 c]) ∧ Below W.heap.size W w') :
    Calls Tryd.prog 104 #[.int .u8 (fm b), .int .u64 x, .func (Fn.func 108) #[] #[]] w fun e w' => e = .returned (.tuple #[.int .u64 y, .int .i64 c]) ∧ Below w.heap.size w w' := by
  go_enter Tryd.func104, Tryd.ntmps104
  go_wp2_with fail
  refine (wGoodShape b x h _).mono ?_
  rintro e w2 ⟨rfl, h2⟩
  have B2 := ((Bx.nil w).keep h2).push (SO b)
  clear h2
  go_wp2_with fail
  refine (wIsNaN b x h _).mono ?_
  rintro e w3 ⟨rfl, h3⟩
  have B3 := B2.keep h3
  obtain ⟨e0, e1, e2, e3⟩ := shape_cells B3 w2.heap.size b (.head _)
  clear h3 B2
  rw [decide_eq_false (by omega)]
  clear hn
  have H3 := Hide.mk (H w3 B3.bel)
  clear H
  go_wp2_with fail
  refine H3.out.mono ?_
  rintro e w4 ⟨rfl, h4⟩
  have B4 := B3.keep h4
  clear h4 B3 e0 e1 e2 e3 H3
  go_wp2
  go_ret2
  exact ⟨rfl, B4.bel⟩
theorem ok_flip (b : Bool) {x : Int} (h : Ok b x) : Ok b (if sg b ≤ x then x - sg b else x + sg b) := by
  have := sg_pos b
  obtain ⟨h0, h1⟩ := h
  unfold Ok
  by_cases c : sg b ≤ x
  · rw [if_pos c]; omega
  · rw [if_neg c]; omega
/-- The word with the other sign. -/
def fl (b : Bool) (x : Int) : Int := if sg b ≤ x then x - sg b else x + sg b
/-- One step up of a word that is no NaN, and the error. -/
def upr (b : Bool) (x : Int) : Int × Int := if x = inf b then (0, 7) else (up b x, 0)
theorem wAbove_inf (b : Bool) (w : World) :
    Calls Tryd.prog 105 #[S b, .int .u64 (inf b)] w fun e w' => e = .returned (.tuple #[.int .u64 0, .int .i64 7]) ∧ Below w.heap.size w w' := by
  have B1 := (Bx.nil w).push (SO b)
  have d1 : (inf b == inf b) = true := by simp
  go_enter Tryd.func105, Tryd.ntmps105
  go_wp2_with fail
  refine (wInfinite b _).mono ?_
  rintro e w2 ⟨rfl, h2⟩
  have B2 := B1.keep h2
  clear h2 B1
  go_wp2
  go_ret2
  exact ⟨rfl, B2.bel⟩
theorem wAbove_up (b : Bool) (x : Int) (h : Ok b x) (hi : x ≠ inf b) (w : World) :
    Calls Tryd.prog 105 #[S b, .int .u64 x] w fun e w' => e = .returned (.tuple #[.int .u64 (up b x), .int .i64 0]) ∧ Below w.heap.size w w' := by
  have B1 := (Bx.nil w).push (SO b)
  have d1 : (x == inf b) = false := beq_eq_false_iff_ne.2 hi
  have hs := sg_pos b
  have hl := sg_le b
  have h0 := h.1
  have h1 := h.2
  have hz := sz_bd b x
  go_enter Tryd.func105, Tryd.ntmps105
  go_wp2_with fail
  refine (wInfinite b _).mono ?_
  rintro e w2 ⟨rfl, h2⟩
  have B2 := B1.keep h2
  obtain ⟨e0, e1, e2, e3⟩ := shape_cells B2 w.heap.size b (.head _)
  clear h2 B1
  go_wp2_with fail
  refine (wSize b x h _).mono ?_
  rintro e w3 ⟨rfl, h3⟩
  have B3 := B2.keep h3
  obtain ⟨e0, e1, e2, e3⟩ := shape_cells B3 w.heap.size b (.head _)
  clear h3 B2
  by_cases c1 : sz b x = 0
  · have HC : Hide (up b x = 1) := ⟨by unfold up; rw [if_pos c1]⟩
    have d2 : (sz b x == 0) = true := by simp [c1]
    clear c1
    go_wp2
    go_ret2
    exact ⟨by rw [HC.out]; rfl, B3.bel⟩
  · have d2 : (sz b x == 0) = false := beq_eq_false_iff_ne.2 c1
    go_wp2_with fail
    refine (wIsNeg b x h _).mono ?_
    rintro e w4 ⟨rfl, h4⟩
    have B4 := B3.keep h4
    clear h4 B3 e0 e1 e2 e3
    by_cases c2 : sg b ≤ x
    · have HC : Hide (up b x = x - 1) := ⟨by unfold up; rw [if_neg c1, if_pos c2]⟩
      rw [show ng b x = true from decide_eq_true c2]
      go_wp2
      go_ret2
      refine ⟨?_, B4.bel⟩
      rw [HC.out]
      rfl
    · have HC : Hide (up b x = x + 1) := ⟨by unfold up; rw [if_neg c1, if_neg c2]⟩
      rw [show ng b x = false from decide_eq_false c2]
      have c3 : x < sg b := by omega
      clear c2
      go_wp2
      go_ret2
      refine ⟨?_, B4.bel⟩
      rw [HC.out]
      rfl
end Go.Proofs.YtiamdmfhkhlppaaDoor
