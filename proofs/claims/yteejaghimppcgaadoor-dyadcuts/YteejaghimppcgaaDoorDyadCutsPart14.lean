import Derived.Test.YteejaghimppcgaaDoorDyadCutsPart13
namespace Go.Proofs.YteejaghimppcgaaDoor
open Go.RowKit Go.Wd Go.Box
set_option linter.unusedVariables false
set_option maxRecDepth 3000
theorem wChanged_nan (b : Bool) (x : Int) (h : Ok b x) (hn : inf b < sz b x) (v : Value) (w : World) :
    Calls Tryd.prog 104 #[.int .u8 (fm b), .int .u64 x, v] w fun e w' => e = .returned (.tuple #[.int .u64 (nan b), .int .i64 0]) ∧ Below w.heap.size w w' := by
  go_enter Tryd.func104, Tryd.ntmps104
  go_wp2_with fail
  refine (wGoodShape b x h _).mono ?_
  rintro e w2 ⟨rfl, h2⟩
  have B2 := ((Bx.nil w).keep h2).push (SO b)
  clear h2
  go_wp2_with fail
  refine (wIsNaN b x h _).mono ?_
  rintro e w3 ⟨rfl, h3⟩
  have B3 := B2.keep h3
  obtain ⟨e0, e1, e2, e3⟩ := shape_cells B3 w2.heap.size b (.head _)
  clear h3 B2
  rw [decide_eq_true hn]
  clear hn
  go_wp2_with fail
  refine (wNone b _).mono ?_
  rintro e w4 ⟨rfl, h4⟩
  have B4 := B3.keep h4
  clear h4 B3 e0 e1 e2 e3
  go_wp2
  go_ret2
  exact ⟨rfl, B4.bel⟩
theorem wChanged_err (f x c : Int) (h : GE f x c) (v : Value) (w : World) :
    Calls Tryd.prog 104 #[.int .u8 f, .int .u64 x, v] w fun e w' => e = .returned (.tuple #[.int .u64 0, .int .i64 c]) ∧ Below w.heap.size w w' := by
  have hc := h.ne
  go_enter Tryd.func104, Tryd.ntmps104
  go_wp2_with fail
  refine (h.call _).mono ?_
  rintro e w2 ⟨rfl, h2⟩
  have B2 := ((Bx.nil w).keep h2).push ZO
  clear h2 h
  go_wp2
  go_ret2
  exact ⟨rfl, B2.bel⟩


theorem wChanged_above (b : Bool) (x : Int) (h : Ok b x) (hn : sz b x ≤ inf b) (w : World) (y c : Int)
    (H : ∀ W, Below w.heap.size w W → Calls Tryd.prog 105 #[S b, .int .u64 x] W fun e w' => e = .returned (.tuple #[.int .u64 y, .int .i64 c]) ∧ Below W.heap.size W w') :
    Calls Tryd.prog 104 #[.int .u8 (fm b), .int .u64 x, .func (Fn.func 105) #[] #[]] w fun e w' => e = .returned (.tuple #[.int .u64 y, .int .i64 c]) ∧ Below w.heap.size w w' := by
  go_enter Tryd.func104, Tryd.ntmps104
  go_wp2_with fail
  refine (wGoodShape b x h _).mono ?_
  rintro e w2 ⟨rfl, h2⟩
  have B2 := ((Bx.nil w).keep h2).push (SO b)
  clear h2
  go_wp2_with fail
  refine (wIsNaN b x h _).mono ?_
  rintro e w3 ⟨rfl, h3⟩
  have B3 := B2.keep h3
  obtain ⟨e0, e1, e2, e3⟩ := shape_cells B3 w2.heap.size b (.head _)
  clear h3 B2
  rw [decide_eq_false (by omega)]
  clear hn
  have H3 := Hide.mk (H w3 B3.bel)
  clear H
  go_wp2_with fail
  refine H3.out.mono ?_
  rintro e w4 ⟨rfl, h4⟩
  have B4 := B3.keep h4
  clear h4 B3 e0 e1 e2 e3 H3
  go_wp2
  go_ret2
  exact ⟨rfl, B4.bel⟩
theorem wChanged_below (b : Bool) (x : Int) (h : Ok b x) (hn : sz b x ≤ inf b) (w : World) (y c : Int)
    (H : ∀ W, Below w.heap.size w W → Calls Tryd.prog 108 #[S b, .int .u64 x] W fun e w' => e = .returned (.tuple #[.int .u64 y, .int .i64 c]) ∧ Below W.heap.size W w') :
    Calls Tryd.prog 104 #[.int .u8 (fm b), .int .u64 x, .func (Fn.func 108) #[] #[]] w fun e w' => e = .returned (.tuple #[.int .u64 y, .int .i64 c]) ∧ Below w.heap.size w w' := by
  go_enter Tryd.func104, Tryd.ntmps104
  go_wp2_with fail
  refine (wGoodShape b x h _).mono ?_
  rintro e w2 ⟨rfl, h2⟩
  have B2 := ((Bx.nil w).keep h2).push (SO b)
  clear h2
  go_wp2_with fail
  refine (wIsNaN b x h _).mono ?_
  rintro e w3 ⟨rfl, h3⟩
  have B3 := B2.keep h3
  obtain ⟨e0, e1, e2, e3⟩ := shape_cells B3 w2.heap.size b (.head _)
  clear h3 B2
  rw [decide_eq_false (by omega)]
  clear hn
  have H3 := Hide.mk (H w3 B3.bel)
  clear H
  go_wp2_with fail
  refine H3.out.mono ?_
  rintro e w4 ⟨rfl, h4⟩
  have B4 := B3.keep h4
  clear h4 B3 e0 e1 e2 e3 H3
  go_wp2
  go_ret2
  exact ⟨rfl, B4.bel⟩
theorem ok_flip (b : Bool) {x : Int} (h : Ok b x) : Ok b (if sg b ≤ x then x - sg b else x + sg b) := by
  have := sg_pos b
  obtain ⟨h0, h1⟩ := h
  unfold Ok
  by_cases c : sg b ≤ x
  · rw [if_pos c]; omega
  · rw [if_neg c]; omega
/-- The word with the other sign. -/
def fl (b : Bool) (x : Int) : Int := if sg b ≤ x then x - sg b else x + sg b
/-- One step up of a word that is no NaN, and the error. -/
def upr (b : Bool) (x : Int) : Int × Int := if x = inf b then (0, 7) else (up b x, 0)
theorem wAbove_inf (b : Bool) (w : World) :
    Calls Tryd.prog 105 #[S b, .int .u64 (inf b)] w fun e w' => e = .returned (.tuple #[.int .u64 0, .int .i64 7]) ∧ Below w.heap.size w w' := by
  have B1 := (Bx.nil w).push (SO b)
  have d1 : (inf b == inf b) = true := by simp
  go_enter Tryd.func105, Tryd.ntmps105
  go_wp2_with fail
  refine (wInfinite b _).mono ?_
  rintro e w2 ⟨rfl, h2⟩
  have B2 := B1.keep h2
  clear h2 B1
  go_wp2
  go_ret2
  exact ⟨rfl, B2.bel⟩
theorem wAbove_up (b : Bool) (x : Int) (h : Ok b x) (hi : x ≠ inf b) (w : World) :
    Calls Tryd.prog 105 #[S b, .int .u64 x] w fun e w' => e = .returned (.tuple #[.int .u64 (up b x), .int .i64 0]) ∧ Below w.heap.size w w' := by
  have B1 := (Bx.nil w).push (SO b)
  have d1 : (x == inf b) = false := beq_eq_false_iff_ne.2 hi
  have hs := sg_pos b
  have hl := sg_le b
  have h0 := h.1
  have h1 := h.2
  have hz := sz_bd b x
  go_enter Tryd.func105, Tryd.ntmps105
  go_wp2_with fail
  refine (wInfinite b _).mono ?_
  rintro e w2 ⟨rfl, h2⟩
  have B2 := B1.keep h2
  obtain ⟨e0, e1, e2, e3⟩ := shape_cells B2 w.heap.size b (.head _)
  clear h2 B1
  go_wp2_with fail
  refine (wSize b x h _).mono ?_
  rintro e w3 ⟨rfl, h3⟩
  have B3 := B2.keep h3
  obtain ⟨e0, e1, e2, e3⟩ := shape_cells B3 w.heap.size b (.head _)
  clear h3 B2
  by_cases c1 : sz b x = 0
  · have HC : Hide (up b x = 1) := ⟨by unfold up; rw [if_pos c1]⟩
    have d2 : (sz b x == 0) = true := by simp [c1]
    clear c1
    go_wp2
    go_ret2
    exact ⟨by rw [HC.out]; rfl, B3.bel⟩
  · have d2 : (sz b x == 0) = false := beq_eq_false_iff_ne.2 c1
    go_wp2_with fail
    refine (wIsNeg b x h _).mono ?_
    rintro e w4 ⟨rfl, h4⟩
    have B4 := B3.keep h4
    clear h4 B3 e0 e1 e2 e3
    by_cases c2 : sg b ≤ x
    · have HC : Hide (up b x = x - 1) := ⟨by unfold up; rw [if_neg c1, if_pos c2]⟩
      rw [show ng b x = true from decide_eq_true c2]
      go_wp2
      go_ret2
      refine ⟨?_, B4.bel⟩
      rw [HC.out]
      rfl
    · have HC : Hide (up b x = x + 1) := ⟨by unfold up; rw [if_neg c1, if_neg c2]⟩
      rw [show ng b x = false from decide_eq_false c2]
      have c3 : x < sg b := by omega
      clear c2
      go_wp2
      go_ret2
      refine ⟨?_, B4.bel⟩
      rw [HC.out]
      rfl
end Go.Proofs.YteejaghimppcgaaDoor

namespace Go.Proofs.YteejaghimppcgaaDoor
open Go.RowKit Go.Wd Go.Box
set_option linter.unusedVariables false
set_option maxRecDepth 3000
theorem up_ok (b : Bool) {x : Int} (h : Ok b x) : Ok b (up b x) := by
  have := sg_one b
  obtain ⟨h0, h1⟩ := h
  have hz : sz b x = 0 ∨ sz b x ≠ 0 := by omega
  have hx : sz b x ≠ 0 → x ≠ 0 := by
    intro h e; subst e; exact h (by unfold sz; simp)
  unfold Ok up
  rcases hz with c | c
  · rw [if_pos c]; omega
  · have := hx c
    rw [if_neg c]
    by_cases c2 : sg b ≤ x
    · rw [if_pos c2]; omega
    · rw [if_neg c2]; omega
theorem fl_ok (b : Bool) {x : Int} (h : Ok b x) : Ok b (fl b x) := ok_flip b h
theorem wBelow_inf (b : Bool) (x : Int) (h : Ok b x) (hi : fl b x = inf b) (w : World) :
    Calls Tryd.prog 108 #[S b, .int .u64 x] w fun e w' => e = .returned (.tuple #[.int .u64 0, .int .i64 7]) ∧ Below w.heap.size w w' := by
  have B1 := (Bx.nil w).push (SO b)
  go_enter Tryd.func108, Tryd.ntmps108
  go_wp2_with fail
  generalize hw1 : w.alloc (SO b) = w1 at *
  clear hw1
  have HI := B1.drew
  have sh := fun W (hW : Bx w [(w.heap.size, SO b)] W) => shape_cells hW w.heap.size b (.head _)
  refine Drawn.enter (Bx w [(w.heap.size, SO b)]) (by kernel_rfl) ?_
  refine Drawn.take (i := 0) (v := ?v75) rfl (by kernel_rfl) (by kernel_rfl) (by kernel_rfl) (fun _ _ _ h => h) (by kernel_rfl) (fun W hW => ?_) HI ?_
  rotate_left
  · have ⟨e0, e1, e2, e3⟩ := sh W hW
    go_simp <;> exact rfl
  refine Drawn.take (i := 1) (v := ?v76) rfl (by kernel_rfl) (by kernel_rfl) (by kernel_rfl) (fun _ _ _ h => h) (by kernel_rfl) (fun W hW => ?_) HI ?_
  rotate_left
  · have ⟨e0, e1, e2, e3⟩ := sh W hW
    go_simp <;> exact rfl
  refine Drawn.take (i := 2) (v := ?v77) rfl (by kernel_rfl) (by kernel_rfl) (by kernel_rfl) (fun _ _ _ h => h) (by kernel_rfl) (fun W hW => ?_) HI ?_
  rotate_left
  · have ⟨e0, e1, e2, e3⟩ := sh W hW
    go_simp <;> exact rfl
  refine Drawn.one (j := 3) (by kernel_rfl) rfl (fun K hK => ?_)
  go_simp
  refine (wSignBit b _).mono ?_
  rintro e wn ⟨rfl, hn⟩
  refine hK _ _ (HI.keep hn) ?_
  clear hK K
  replace HI := HI.keep hn
  clear hn
  refine Drawn.take (i := 4) (v := .int .u64 (inf b)) rfl (by kernel_rfl) (by kernel_rfl) (by kernel_rfl) (fun _ _ _ h => h) (by kernel_rfl) (fun W hW => ?_) HI ?_
  · have ⟨e0, e1, e2, e3⟩ := sh W hW
    go_simp <;> (rw [xor_sg b h]; exact hi)
  refine Drawn.one (j := 5) (by kernel_rfl) rfl (fun K hK => ?_)
  go_simp
  refine (wAbove_inf b _).mono ?_
  rintro e wn ⟨rfl, hn⟩
  refine hK _ _ (HI.keep hn) ?_
  clear hK K
  replace HI := HI.keep hn
  clear hn
  refine Drawn.take (i := 6) (v := ?v78) rfl (by kernel_rfl) (by kernel_rfl) (by kernel_rfl) (fun _ _ _ h => h) (by kernel_rfl) (fun W hW => ?_) HI ?_
  rotate_left
  · have ⟨e0, e1, e2, e3⟩ := sh W hW
    go_simp <;> exact rfl
  refine Drawn.take (i := 7) (v := ?v79) rfl (by kernel_rfl) (by kernel_rfl) (by kernel_rfl) (fun _ _ _ h => h) (by kernel_rfl) (fun W hW => ?_) HI ?_
  rotate_left
  · have ⟨e0, e1, e2, e3⟩ := sh W hW
    go_simp <;> exact rfl
  refine Drawn.take (i := 8) (v := ?v80) rfl (by kernel_rfl) (by kernel_rfl) (by kernel_rfl) (fun _ _ _ h => h) (by kernel_rfl) (fun W hW => ?_) HI ?_
  rotate_left
  · have ⟨e0, e1, e2, e3⟩ := sh W hW
    go_simp <;> exact rfl
  refine Drawn.take (i := 9) (v := ?v81) rfl (by kernel_rfl) (by kernel_rfl) (by kernel_rfl) (fun _ _ _ h => h) (by kernel_rfl) (fun W hW => ?_) HI ?_
  rotate_left
  · have ⟨e0, e1, e2, e3⟩ := sh W hW
    go_simp <;> exact rfl
  refine Drawn.take (i := 10) (v := ?v82) rfl (by kernel_rfl) (by kernel_rfl) (by kernel_rfl) (fun _ _ _ h => h) (by kernel_rfl) (fun W hW => ?_) HI ?_
  rotate_left
  · have ⟨e0, e1, e2, e3⟩ := sh W hW
    go_simp <;> exact rfl
  refine Drawn.done (by kernel_rfl) ?_
  try go_simp
  clear sh hi
  go_wp2
  go_ret2
  exact ⟨rfl, HI.bel⟩
theorem wBelow_dn (b : Bool) (x : Int) (h : Ok b x) (hi : fl b x ≠ inf b) (w : World) :
    Calls Tryd.prog 108 #[S b, .int .u64 x] w fun e w' => e = .returned (.tuple #[.int .u64 (fl b (up b (fl b x))), .int .i64 0]) ∧ Below w.heap.size w w' := by
  have B1 := (Bx.nil w).push (SO b)
  have h2 := fl_ok b h
  go_enter Tryd.func108, Tryd.ntmps108
  go_wp2_with fail
  generalize hw1 : w.alloc (SO b) = w1 at *
  clear hw1
  have HI := B1.drew
  have sh := fun W (hW : Bx w [(w.heap.size, SO b)] W) => shape_cells hW w.heap.size b (.head _)
  refine Drawn.enter (Bx w [(w.heap.size, SO b)]) (by kernel_rfl) ?_
  refine Drawn.take (i := 0) (v := ?v83) rfl (by kernel_rfl) (by kernel_rfl) (by kernel_rfl) (fun _ _ _ h => h) (by kernel_rfl) (fun W hW => ?_) HI ?_
  rotate_left
  · have ⟨e0, e1, e2, e3⟩ := sh W hW
    go_simp <;> exact rfl
  refine Drawn.take (i := 1) (v := ?v84) rfl (by kernel_rfl) (by kernel_rfl) (by kernel_rfl) (fun _ _ _ h => h) (by kernel_rfl) (fun W hW => ?_) HI ?_
  rotate_left
  · have ⟨e0, e1, e2, e3⟩ := sh W hW
    go_simp <;> exact rfl
  refine Drawn.take (i := 2) (v := ?v85) rfl (by kernel_rfl) (by kernel_rfl) (by kernel_rfl) (fun _ _ _ h => h) (by kernel_rfl) (fun W hW => ?_) HI ?_
  rotate_left
  · have ⟨e0, e1, e2, e3⟩ := sh W hW
    go_simp <;> exact rfl
  refine Drawn.one (j := 3) (by kernel_rfl) rfl (fun K hK => ?_)
  go_simp
  refine (wSignBit b _).mono ?_
  rintro e wn ⟨rfl, hn⟩
  refine hK _ _ (HI.keep hn) ?_
  clear hK K
  replace HI := HI.keep hn
  clear hn
  refine Drawn.take (i := 4) (v := .int .u64 (fl b x)) rfl (by kernel_rfl) (by kernel_rfl) (by kernel_rfl) (fun _ _ _ h => h) (by kernel_rfl) (fun W hW => ?_) HI ?_
  · have ⟨e0, e1, e2, e3⟩ := sh W hW
    go_simp <;> (exact xor_sg b h)
  refine Drawn.one (j := 5) (by kernel_rfl) rfl (fun K hK => ?_)
  go_simp
  refine (wAbove_up b (fl b x) h2 hi _).mono ?_
  rintro e wn ⟨rfl, hn⟩
  refine hK _ _ (HI.keep hn) ?_
  clear hK K
  replace HI := HI.keep hn
  clear hn
  refine Drawn.take (i := 6) (v := ?v86) rfl (by kernel_rfl) (by kernel_rfl) (by kernel_rfl) (fun _ _ _ h => h) (by kernel_rfl) (fun W hW => ?_) HI ?_
  rotate_left
  · have ⟨e0, e1, e2, e3⟩ := sh W hW
    go_simp <;> exact rfl
  refine Drawn.take (i := 7) (v := ?v87) rfl (by kernel_rfl) (by kernel_rfl) (by kernel_rfl) (fun _ _ _ h => h) (by kernel_rfl) (fun W hW => ?_) HI ?_
  rotate_left
  · have ⟨e0, e1, e2, e3⟩ := sh W hW
    go_simp <;> exact rfl
  refine Drawn.take (i := 8) (v := ?v88) rfl (by kernel_rfl) (by kernel_rfl) (by kernel_rfl) (fun _ _ _ h => h) (by kernel_rfl) (fun W hW => ?_) HI ?_
  rotate_left
  · have ⟨e0, e1, e2, e3⟩ := sh W hW
    go_simp <;> exact rfl
  refine Drawn.take (i := 9) (v := ?v89) rfl (by kernel_rfl) (by kernel_rfl) (by kernel_rfl) (fun _ _ _ h => h) (by kernel_rfl) (fun W hW => ?_) HI ?_
  rotate_left
  · have ⟨e0, e1, e2, e3⟩ := sh W hW
    go_simp <;> exact rfl
  refine Drawn.take (i := 10) (v := ?v90) rfl (by kernel_rfl) (by kernel_rfl) (by kernel_rfl) (fun _ _ _ h => h) (by kernel_rfl) (fun W hW => ?_) HI ?_
  rotate_left
  · have ⟨e0, e1, e2, e3⟩ := sh W hW
    go_simp <;> exact rfl
  refine Drawn.done (by kernel_rfl) ?_
  try go_simp
  obtain ⟨e0, e1, e2, e3⟩ := sh _ HI
  clear sh hi
  have HX := Hide.mk (xor_sg b (up_ok b h2))
  go_wp2_with fail
  refine (wSignBit b _).mono ?_
  rintro e w3 ⟨rfl, h3⟩
  have B3 := HI.keep h3
  clear h3 HI e0 e1 e2 e3
  go_wp2
  go_ret2
  exact ⟨by unfold fl at HX ⊢; rw [← HX.out]; rfl, B3.bel⟩
/-- Up, down: the word and the error. -/
def upx (b : Bool) (x : Int) : Int × Int := if inf b < sz b x then (nan b, 0) else if x = inf b then (0, 7) else (up b x, 0)
def dnx (b : Bool) (x : Int) : Int × Int := if inf b < sz b x then (nan b, 0) else if fl b x = inf b then (0, 7) else (fl b (up b (fl b x)), 0)
theorem wUp (b : Bool) (x : Int) (h : Ok b x) (w : World) :
    Calls Tryd.prog 57 #[.int .u8 (fm b), .int .u64 x] w fun e w' => e = .returned (.tuple #[.int .u64 (upx b x).1, .int .i64 (upx b x).2]) ∧ Below w.heap.size w w' := by
  have H : Calls Tryd.prog 104 #[.int .u8 (fm b), .int .u64 x, .func (Fn.func 105) #[] #[]] w fun e w' => e = .returned (.tuple #[.int .u64 (upx b x).1, .int .i64 (upx b x).2]) ∧ Below w.heap.size w w' := by
    unfold upx
    by_cases c : inf b < sz b x
    · rw [if_pos c]; exact wChanged_nan b x h c _ w
    · rw [if_neg c]
      by_cases c2 : x = inf b
      · rw [if_pos c2]
        refine wChanged_above b x h (by omega) w 0 7 (fun W _ => ?_)
        rw [c2]; exact wAbove_inf b W
      · rw [if_neg c2]
        exact wChanged_above b x h (by omega) w _ 0 (fun W _ => wAbove_up b x h c2 W)
  have HH := Hide.mk H
  clear H
  generalize (upx b x).1 = y at *
  generalize (upx b x).2 = c at *
  go_enter Tryd.func57, Tryd.ntmps57
  go_wp2_with fail
  refine HH.out.mono ?_
  rintro e w2 ⟨rfl, h2⟩
  clear HH
  go_wp2
  go_ret2
  exact ⟨rfl, h2⟩
theorem wUp_err (f x c : Int) (h : GE f x c) (w : World) :
    Calls Tryd.prog 57 #[.int .u8 f, .int .u64 x] w fun e w' => e = .returned (.tuple #[.int .u64 0, .int .i64 c]) ∧ Below w.heap.size w w' := by
  have HH := Hide.mk (wChanged_err f x c h (.func (Fn.func 105) #[] #[]) w)
  go_enter Tryd.func57, Tryd.ntmps57
  go_wp2_with fail
  refine HH.out.mono ?_
  rintro e w2 ⟨rfl, h2⟩
  clear HH h
  go_wp2
  go_ret2
  exact ⟨rfl, h2⟩
theorem wDown (b : Bool) (x : Int) (h : Ok b x) (w : World) :
    Calls Tryd.prog 59 #[.int .u8 (fm b), .int .u64 x] w fun e w' => e = .returned (.tuple #[.int .u64 (dnx b x).1, .int .i64 (dnx b x).2]) ∧ Below w.heap.size w w' := by
  have H : Calls Tryd.prog 104 #[.int .u8 (fm b), .int .u64 x, .func (Fn.func 108) #[] #[]] w fun e w' => e = .returned (.tuple #[.int .u64 (dnx b x).1, .int .i64 (dnx b x).2]) ∧ Below w.heap.size w w' := by
    unfold dnx
    by_cases c : inf b < sz b x
    · rw [if_pos c]; exact wChanged_nan b x h c _ w
    · rw [if_neg c]
      by_cases c2 : fl b x = inf b
      · rw [if_pos c2]
        exact wChanged_below b x h (by omega) w 0 7 (fun W _ => wBelow_inf b x h c2 W)
      · rw [if_neg c2]
        exact wChanged_below b x h (by omega) w _ 0 (fun W _ => wBelow_dn b x h c2 W)
  have HH := Hide.mk H
  clear H
  generalize (dnx b x).1 = y at *
  generalize (dnx b x).2 = c at *
  go_enter Tryd.func59, Tryd.ntmps59
  go_wp2_with fail
  refine HH.out.mono ?_
  rintro e w2 ⟨rfl, h2⟩
  clear HH
  go_wp2
  go_ret2
  exact ⟨rfl, h2⟩
theorem wDown_err (f x c : Int) (h : GE f x c) (w : World) :
    Calls Tryd.prog 59 #[.int .u8 f, .int .u64 x] w fun e w' => e = .returned (.tuple #[.int .u64 0, .int .i64 c]) ∧ Below w.heap.size w w' := by
  have HH := Hide.mk (wChanged_err f x c h (.func (Fn.func 108) #[] #[]) w)
  go_enter Tryd.func59, Tryd.ntmps59
  go_wp2_with fail
  refine HH.out.mono ?_
  rintro e w2 ⟨rfl, h2⟩
  clear HH h
  go_wp2
  go_ret2
  exact ⟨rfl, h2⟩
def cnx (b : Bool) (x : Int) : Int := if inf b < sz b x then nan b else x
def ngx (b : Bool) (x : Int) : Int := if inf b < sz b x then nan b else fl b x
def abx (b : Bool) (x : Int) : Int := if inf b < sz b x then nan b else sz b x
def csx (b : Bool) (x s : Int) : Int := if inf b < sz b x then nan b else sd b (sz b x) (ng b s)
end Go.Proofs.YteejaghimppcgaaDoor

namespace Go.Proofs.YteejaghimppcgaaDoor
open Go.RowKit Go.Wd Go.Box
set_option linter.unusedVariables false
set_option maxRecDepth 3000

theorem fields_cells {w W : World} {L : List (Nat × Obj)} (h : Bx w L W) (g : Nat) (n : Bool) (e f : Int) (hm : (g, FO n e f) ∈ L) :
    W.cell? ⟨g, 0, none⟩ = some (.bool n) ∧ W.cell? ⟨g, 1, none⟩ = some (.int .i64 e) ∧ W.cell? ⟨g, 2, none⟩ = some (.int .u64 f) :=
  ⟨h.cell g _ _ hm 0, h.cell g _ _ hm 1, h.cell g _ _ hm 2⟩
theorem tp_bd (b : Bool) : 0 < tp b ∧ tp b ≤ 2047 := by cases b <;> decide
theorem fr_le (b : Bool) : fr b ≤ 4503599627370496 := by cases b <;> decide
theorem fields_lt (b : Bool) {E F : Int} (h0 : 0 ≤ E) (h1 : E ≤ tp b) (h2 : 0 ≤ F) (h3 : F < fr b) : 0 ≤ E * fr b + F ∧ E * fr b + F < sg b ∧ E * fr b < 18446744073709551616 ∧ 0 ≤ E * fr b := by
  cases b <;> simp only [tp, fr, sg] at * <;> omega
theorem or_fr (b : Bool) {E F : Int} (h0 : 0 ≤ E) (h1 : E ≤ tp b) (h2 : 0 ≤ F) (h3 : F < fr b) : bits .or .u64 (E * fr b) F = E * fr b + F := by
  obtain ⟨k1, k2, k3, k4⟩ := fields_lt b h0 h1 h2 h3
  have hs := sg_le b
  cases b
  · exact join 23 (P := fr false) (by decide) k4 (Int.mul_emod_left _ _) h2 h3 (by omega)
  · exact join 52 (P := fr true) (by decide) k4 (Int.mul_emod_left _ _) h2 h3 (by omega)

set_option maxHeartbeats 2000000 in
theorem wJoin_neg (b n : Bool) (E F : Int) (hE : E < 0) (w : World) :
    Calls Tryd.prog 106 #[.int .u8 (fm b), FV n E F] w fun e w' => e = .returned (.tuple #[.int .u64 0, .int .i64 2]) ∧ Below w.heap.size w w' := by
  have B1 := (Bx.nil w).push (FO n E F)
  go_enter Tryd.func106, Tryd.ntmps106
  go_wp2_with fail
  refine (wShapeOf b _).mono ?_
  rintro e w2 ⟨rfl, h2⟩
  have B2 := (B1.keep h2).push (SO b)
  have hlt : w.heap.size < w2.heap.size := (B1.keep h2).lt (.head _)
  clear h2 B1
  go_wp2_with fail
  generalize hw3 : w2.alloc (SO b) = w3 at *
  clear hw3
  have HI := B2.drew
  have sh := fun W (hW : Bx w [(w2.heap.size, SO b), (w.heap.size, FO n E F)] W) => And.intro (shape_cells hW w2.heap.size b (.head _)) (fields_cells hW w.heap.size n E F (.tail _ (.head _)))
  refine Drawn.enter (Bx w [(w2.heap.size, SO b), (w.heap.size, FO n E F)]) (by kernel_rfl) ?_
  refine Drawn.take (i := 0) (v := ?v22) rfl (by kernel_rfl) (by kernel_rfl) (by kernel_rfl) (fun _ _ _ h => h) (by kernel_rfl) (fun W hW => ?_) HI ?_
  rotate_left
  · have ⟨⟨e0, e1, e2, e3⟩, q0, q1, q2⟩ := sh W hW
    go_simp <;> exact rfl
  refine Drawn.take (i := 1) (v := ?v23) rfl (by kernel_rfl) (by kernel_rfl) (by kernel_rfl) (fun _ _ _ h => h) (by kernel_rfl) (fun W hW => ?_) HI ?_
  rotate_left
  · have ⟨⟨e0, e1, e2, e3⟩, q0, q1, q2⟩ := sh W hW
    go_simp <;> exact rfl
  refine Drawn.take (i := 2) (v := .bool true) rfl (by kernel_rfl) (by kernel_rfl) (by kernel_rfl) (fun _ _ _ h => h) (by kernel_rfl) (fun W hW => ?_) HI ?_
  · have ⟨⟨e0, e1, e2, e3⟩, q0, q1, q2⟩ := sh W hW
    go_simp <;> (simp [hE])
  refine Drawn.take (i := 3) (v := ?v24) rfl (by kernel_rfl) (by kernel_rfl) (by kernel_rfl) (fun _ _ _ h => h) (by kernel_rfl) (fun W hW => ?_) HI ?_
  rotate_left
  · have ⟨⟨e0, e1, e2, e3⟩, q0, q1, q2⟩ := sh W hW
    go_simp <;> exact rfl
  refine Drawn.skip (i := 4) rfl (by kernel_rfl) (by kernel_rfl) (by kernel_rfl) (fun _ _ _ h => h) (by kernel_rfl) HI ?_
  refine Drawn.skip (i := 5) rfl (by kernel_rfl) (by kernel_rfl) (by kernel_rfl) (fun _ _ _ h => h) (by kernel_rfl) HI ?_
  refine Drawn.skip (i := 6) rfl (by kernel_rfl) (by kernel_rfl) (by kernel_rfl) (fun _ _ _ h => h) (by kernel_rfl) HI ?_
  refine Drawn.skip (i := 7) rfl (by kernel_rfl) (by kernel_rfl) (by kernel_rfl) (fun _ _ _ h => h) (by kernel_rfl) HI ?_
  refine Drawn.skip (i := 8) rfl (by kernel_rfl) (by kernel_rfl) (by kernel_rfl) (fun _ _ _ h => h) (by kernel_rfl) HI ?_
  refine Drawn.take (i := 9) (v := ?v25) rfl (by kernel_rfl) (by kernel_rfl) (by kernel_rfl) (fun _ _ _ h => h) (by kernel_rfl) (fun W hW => ?_) HI ?_
  rotate_left
  · have ⟨⟨e0, e1, e2, e3⟩, q0, q1, q2⟩ := sh W hW
    go_simp <;> exact rfl
  refine Drawn.take (i := 10) (v := ?v26) rfl (by kernel_rfl) (by kernel_rfl) (by kernel_rfl) (fun _ _ _ h => h) (by kernel_rfl) (fun W hW => ?_) HI ?_
  rotate_left
  · have ⟨⟨e0, e1, e2, e3⟩, q0, q1, q2⟩ := sh W hW
    go_simp <;> exact rfl
  refine Drawn.skip (i := 11) rfl (by kernel_rfl) (by kernel_rfl) (by kernel_rfl) (fun _ _ _ h => h) (by kernel_rfl) HI ?_
  refine Drawn.skip (i := 12) rfl (by kernel_rfl) (by kernel_rfl) (by kernel_rfl) (fun _ _ _ h => h) (by kernel_rfl) HI ?_
  refine Drawn.skip (i := 13) rfl (by kernel_rfl) (by kernel_rfl) (by kernel_rfl) (fun _ _ _ h => h) (by kernel_rfl) HI ?_
  refine Drawn.skip (i := 14) rfl (by kernel_rfl) (by kernel_rfl) (by kernel_rfl) (fun _ _ _ h => h) (by kernel_rfl) HI ?_
  refine Drawn.skip (i := 15) rfl (by kernel_rfl) (by kernel_rfl) (by kernel_rfl) (fun _ _ _ h => h) (by kernel_rfl) HI ?_
  refine Drawn.take (i := 16) (v := ?v27) rfl (by kernel_rfl) (by kernel_rfl) (by kernel_rfl) (fun _ _ _ h => h) (by kernel_rfl) (fun W hW => ?_) HI ?_
  rotate_left
  · have ⟨⟨e0, e1, e2, e3⟩, q0, q1, q2⟩ := sh W hW
    go_simp <;> exact rfl
  refine Drawn.done (by kernel_rfl) ?_
  try go_simp
  clear sh
  go_wp2
  go_ret2
  exact ⟨rfl, HI.bel⟩
set_option maxHeartbeats 2000000 in
theorem wJoin_top (b n : Bool) (E F : Int) (hE : 0 ≤ E) (hE1 : tp b < E) (w : World) :
    Calls Tryd.prog 106 #[.int .u8 (fm b), FV n E F] w fun e w' => e = .returned (.tuple #[.int .u64 0, .int .i64 2]) ∧ Below w.heap.size w w' := by
  have B1 := (Bx.nil w).push (FO n E F)
  go_enter Tryd.func106, Tryd.ntmps106
  go_wp2_with fail
  refine (wShapeOf b _).mono ?_
  rintro e w2 ⟨rfl, h2⟩
  have B2 := (B1.keep h2).push (SO b)
  have hlt : w.heap.size < w2.heap.size := (B1.keep h2).lt (.head _)
  clear h2 B1
  go_wp2_with fail
  generalize hw3 : w2.alloc (SO b) = w3 at *
  clear hw3
  have HI := B2.drew
  have sh := fun W (hW : Bx w [(w2.heap.size, SO b), (w.heap.size, FO n E F)] W) => And.intro (shape_cells hW w2.heap.size b (.head _)) (fields_cells hW w.heap.size n E F (.tail _ (.head _)))
  refine Drawn.enter (Bx w [(w2.heap.size, SO b), (w.heap.size, FO n E F)]) (by kernel_rfl) ?_
  refine Drawn.take (i := 0) (v := ?v28) rfl (by kernel_rfl) (by kernel_rfl) (by kernel_rfl) (fun _ _ _ h => h) (by kernel_rfl) (fun W hW => ?_) HI ?_
  rotate_left
  · have ⟨⟨e0, e1, e2, e3⟩, q0, q1, q2⟩ := sh W hW
    go_simp <;> exact rfl
  refine Drawn.take (i := 1) (v := ?v29) rfl (by kernel_rfl) (by kernel_rfl) (by kernel_rfl) (fun _ _ _ h => h) (by kernel_rfl) (fun W hW => ?_) HI ?_
  rotate_left
  · have ⟨⟨e0, e1, e2, e3⟩, q0, q1, q2⟩ := sh W hW
    go_simp <;> exact rfl
  refine Drawn.take (i := 2) (v := .bool false) rfl (by kernel_rfl) (by kernel_rfl) (by kernel_rfl) (fun _ _ _ h => h) (by kernel_rfl) (fun W hW => ?_) HI ?_
  · have ⟨⟨e0, e1, e2, e3⟩, q0, q1, q2⟩ := sh W hW
    go_simp <;> (simp [show ¬ E < 0 by omega])
  refine Drawn.take (i := 3) (v := ?v30) rfl (by kernel_rfl) (by kernel_rfl) (by kernel_rfl) (fun _ _ _ h => h) (by kernel_rfl) (fun W hW => ?_) HI ?_
  rotate_left
  · have ⟨⟨e0, e1, e2, e3⟩, q0, q1, q2⟩ := sh W hW
    go_simp <;> exact rfl
  refine Drawn.take (i := 4) (v := ?v31) rfl (by kernel_rfl) (by kernel_rfl) (by kernel_rfl) (fun _ _ _ h => h) (by kernel_rfl) (fun W hW => ?_) HI ?_
  rotate_left
  · have ⟨⟨e0, e1, e2, e3⟩, q0, q1, q2⟩ := sh W hW
    go_simp <;> exact rfl
  refine Drawn.take (i := 5) (v := ?v32) rfl (by kernel_rfl) (by kernel_rfl) (by kernel_rfl) (fun _ _ _ h => h) (by kernel_rfl) (fun W hW => ?_) HI ?_
  rotate_left
  · have ⟨⟨e0, e1, e2, e3⟩, q0, q1, q2⟩ := sh W hW
    go_simp <;> exact rfl
  refine Drawn.take (i := 6) (v := ?v33) rfl (by kernel_rfl) (by kernel_rfl) (by kernel_rfl) (fun _ _ _ h => h) (by kernel_rfl) (fun W hW => ?_) HI ?_
  rotate_left
  · have ⟨⟨e0, e1, e2, e3⟩, q0, q1, q2⟩ := sh W hW
    go_simp <;> exact rfl
  refine Drawn.take (i := 7) (v := ?v34) rfl (by kernel_rfl) (by kernel_rfl) (by kernel_rfl) (fun _ _ _ h => h) (by kernel_rfl) (fun W hW => ?_) HI ?_
  rotate_left
  · have ⟨⟨e0, e1, e2, e3⟩, q0, q1, q2⟩ := sh W hW
    go_simp <;> exact rfl
  refine Drawn.take (i := 8) (v := .bool true) rfl (by kernel_rfl) (by kernel_rfl) (by kernel_rfl) (fun _ _ _ h => h) (by kernel_rfl) (fun W hW => ?_) HI ?_
  · have ⟨⟨e0, e1, e2, e3⟩, q0, q1, q2⟩ := sh W hW
    go_simp <;> (simp [hE1])
  refine Drawn.take (i := 9) (v := ?v35) rfl (by kernel_rfl) (by kernel_rfl) (by kernel_rfl) (fun _ _ _ h => h) (by kernel_rfl) (fun W hW => ?_) HI ?_
  rotate_left
  · have ⟨⟨e0, e1, e2, e3⟩, q0, q1, q2⟩ := sh W hW
    go_simp <;> exact rfl
  refine Drawn.take (i := 10) (v := ?v36) rfl (by kernel_rfl) (by kernel_rfl) (by kernel_rfl) (fun _ _ _ h => h) (by kernel_rfl) (fun W hW => ?_) HI ?_
  rotate_left
  · have ⟨⟨e0, e1, e2, e3⟩, q0, q1, q2⟩ := sh W hW
    go_simp <;> exact rfl
  refine Drawn.skip (i := 11) rfl (by kernel_rfl) (by kernel_rfl) (by kernel_rfl) (fun _ _ _ h => h) (by kernel_rfl) HI ?_
  refine Drawn.skip (i := 12) rfl (by kernel_rfl) (by kernel_rfl) (by kernel_rfl) (fun _ _ _ h => h) (by kernel_rfl) HI ?_
  refine Drawn.skip (i := 13) rfl (by kernel_rfl) (by kernel_rfl) (by kernel_rfl) (fun _ _ _ h => h) (by kernel_rfl) HI ?_
  refine Drawn.skip (i := 14) rfl (by kernel_rfl) (by kernel_rfl) (by kernel_rfl) (fun _ _ _ h => h) (by kernel_rfl) HI ?_
  refine Drawn.skip (i := 15) rfl (by kernel_rfl) (by kernel_rfl) (by kernel_rfl) (fun _ _ _ h => h) (by kernel_rfl) HI ?_
  refine Drawn.take (i := 16) (v := ?v37) rfl (by kernel_rfl) (by kernel_rfl) (by kernel_rfl) (fun _ _ _ h => h) (by kernel_rfl) (fun W hW => ?_) HI ?_
  rotate_left
  · have ⟨⟨e0, e1, e2, e3⟩, q0, q1, q2⟩ := sh W hW
    go_simp <;> exact rfl
  refine Drawn.done (by kernel_rfl) ?_
  try go_simp
  clear sh
  go_wp2
  go_ret2
  exact ⟨rfl, HI.bel⟩
set_option maxHeartbeats 2000000 in
theorem wJoin_frac (b n : Bool) (E F : Int) (hE : 0 ≤ E) (hE1 : E ≤ tp b) (hF : fr b ≤ F) (w : World) :
    Calls Tryd.prog 106 #[.int .u8 (fm b), FV n E F] w fun e w' => e = .returned (.tuple #[.int .u64 0, .int .i64 2]) ∧ Below w.heap.size w w' := by
  have B1 := (Bx.nil w).push (FO n E F)
  go_enter Tryd.func106, Tryd.ntmps106
  go_wp2_with fail
  refine (wShapeOf b _).mono ?_
  rintro e w2 ⟨rfl, h2⟩
  have B2 := (B1.keep h2).push (SO b)
  have hlt : w.heap.size < w2.heap.size := (B1.keep h2).lt (.head _)
  clear h2 B1
  go_wp2_with fail
  generalize hw3 : w2.alloc (SO b) = w3 at *
  clear hw3
  have HI := B2.drew
  have sh := fun W (hW : Bx w [(w2.heap.size, SO b), (w.heap.size, FO n E F)] W) => And.intro (shape_cells hW w2.heap.size b (.head _)) (fields_cells hW w.heap.size n E F (.tail _ (.head _)))
  refine Drawn.enter (Bx w [(w2.heap.size, SO b), (w.heap.size, FO n E F)]) (by kernel_rfl) ?_
  refine Drawn.take (i := 0) (v := ?v38) rfl (by kernel_rfl) (by kernel_rfl) (by kernel_rfl) (fun _ _ _ h => h) (by kernel_rfl) (fun W hW => ?_) HI ?_
  rotate_left
  · have ⟨⟨e0, e1, e2, e3⟩, q0, q1, q2⟩ := sh W hW
    go_simp <;> exact rfl
  refine Drawn.take (i := 1) (v := ?v39) rfl (by kernel_rfl) (by kernel_rfl) (by kernel_rfl) (fun _ _ _ h => h) (by kernel_rfl) (fun W hW => ?_) HI ?_
  rotate_left
  · have ⟨⟨e0, e1, e2, e3⟩, q0, q1, q2⟩ := sh W hW
    go_simp <;> exact rfl
  refine Drawn.take (i := 2) (v := .bool false) rfl (by kernel_rfl) (by kernel_rfl) (by kernel_rfl) (fun _ _ _ h => h) (by kernel_rfl) (fun W hW => ?_) HI ?_
  · have ⟨⟨e0, e1, e2, e3⟩, q0, q1, q2⟩ := sh W hW
    go_simp <;> (simp [show ¬ E < 0 by omega])
  refine Drawn.take (i := 3) (v := ?v40) rfl (by kernel_rfl) (by kernel_rfl) (by kernel_rfl) (fun _ _ _ h => h) (by kernel_rfl) (fun W hW => ?_) HI ?_
  rotate_left
  · have ⟨⟨e0, e1, e2, e3⟩, q0, q1, q2⟩ := sh W hW
    go_simp <;> exact rfl
  refine Drawn.take (i := 4) (v := ?v41) rfl (by kernel_rfl) (by kernel_rfl) (by kernel_rfl) (fun _ _ _ h => h) (by kernel_rfl) (fun W hW => ?_) HI ?_
  rotate_left
  · have ⟨⟨e0, e1, e2, e3⟩, q0, q1, q2⟩ := sh W hW
    go_simp <;> exact rfl
  refine Drawn.take (i := 5) (v := ?v42) rfl (by kernel_rfl) (by kernel_rfl) (by kernel_rfl) (fun _ _ _ h => h) (by kernel_rfl) (fun W hW => ?_) HI ?_
  rotate_left
  · have ⟨⟨e0, e1, e2, e3⟩, q0, q1, q2⟩ := sh W hW
    go_simp <;> exact rfl
  refine Drawn.take (i := 6) (v := ?v43) rfl (by kernel_rfl) (by kernel_rfl) (by kernel_rfl) (fun _ _ _ h => h) (by kernel_rfl) (fun W hW => ?_) HI ?_
  rotate_left
  · have ⟨⟨e0, e1, e2, e3⟩, q0, q1, q2⟩ := sh W hW
    go_simp <;> exact rfl
  refine Drawn.take (i := 7) (v := ?v44) rfl (by kernel_rfl) (by kernel_rfl) (by kernel_rfl) (fun _ _ _ h => h) (by kernel_rfl) (fun W hW => ?_) HI ?_
  rotate_left
  · have ⟨⟨e0, e1, e2, e3⟩, q0, q1, q2⟩ := sh W hW
    go_simp <;> exact rfl
  refine Drawn.take (i := 8) (v := .bool false) rfl (by kernel_rfl) (by kernel_rfl) (by kernel_rfl) (fun _ _ _ h => h) (by kernel_rfl) (fun W hW => ?_) HI ?_
  · have ⟨⟨e0, e1, e2, e3⟩, q0, q1, q2⟩ := sh W hW
    go_simp <;> (simp [show ¬ tp b < E by omega])
  refine Drawn.take (i := 9) (v := ?v45) rfl (by kernel_rfl) (by kernel_rfl) (by kernel_rfl) (fun _ _ _ h => h) (by kernel_rfl) (fun W hW => ?_) HI ?_
  rotate_left
  · have ⟨⟨e0, e1, e2, e3⟩, q0, q1, q2⟩ := sh W hW
    go_simp <;> exact rfl
  refine Drawn.take (i := 10) (v := ?v46) rfl (by kernel_rfl) (by kernel_rfl) (by kernel_rfl) (fun _ _ _ h => h) (by kernel_rfl) (fun W hW => ?_) HI ?_
  rotate_left
  · have ⟨⟨e0, e1, e2, e3⟩, q0, q1, q2⟩ := sh W hW
    go_simp <;> exact rfl
  refine Drawn.take (i := 11) (v := ?v47) rfl (by kernel_rfl) (by kernel_rfl) (by kernel_rfl) (fun _ _ _ h => h) (by kernel_rfl) (fun W hW => ?_) HI ?_
  rotate_left
  · have ⟨⟨e0, e1, e2, e3⟩, q0, q1, q2⟩ := sh W hW
    go_simp <;> exact rfl
  refine Drawn.take (i := 12) (v := ?v48) rfl (by kernel_rfl) (by kernel_rfl) (by kernel_rfl) (fun _ _ _ h => h) (by kernel_rfl) (fun W hW => ?_) HI ?_
  rotate_left
  · have ⟨⟨e0, e1, e2, e3⟩, q0, q1, q2⟩ := sh W hW
    go_simp <;> exact rfl
  refine Drawn.take (i := 13) (v := ?v49) rfl (by kernel_rfl) (by kernel_rfl) (by kernel_rfl) (fun _ _ _ h => h) (by kernel_rfl) (fun W hW => ?_) HI ?_
  rotate_left
  · have ⟨⟨e0, e1, e2, e3⟩, q0, q1, q2⟩ := sh W hW
    go_simp <;> exact rfl
  refine Drawn.one (j := 14) (by kernel_rfl) rfl (fun K hK => ?_)
  go_simp
  refine (wFracBits b _).mono ?_
  rintro e wn ⟨rfl, hn⟩
  refine hK _ _ (HI.keep hn) ?_
  clear hK K
  replace HI := HI.keep hn
  clear hn
  refine Drawn.take (i := 15) (v := .bool true) rfl (by kernel_rfl) (by kernel_rfl) (by kernel_rfl) (fun _ _ _ h => h) (by kernel_rfl) (fun W hW => ?_) HI ?_
  · have ⟨⟨e0, e1, e2, e3⟩, q0, q1, q2⟩ := sh W hW
    go_simp <;> (simp [show fr b - 1 < F by omega])
  refine Drawn.take (i := 16) (v := ?v50) rfl (by kernel_rfl) (by kernel_rfl) (by kernel_rfl) (fun _ _ _ h => h) (by kernel_rfl) (fun W hW => ?_) HI ?_
  rotate_left
  · have ⟨⟨e0, e1, e2, e3⟩, q0, q1, q2⟩ := sh W hW
    go_simp <;> exact rfl
  refine Drawn.done (by kernel_rfl) ?_
  try go_simp
  clear sh
  go_wp2
  go_ret2
  exact ⟨rfl, HI.bel⟩
set_option maxHeartbeats 2000000 in
theorem wJoin (b n : Bool) (E F : Int) (hE : 0 ≤ E) (hE1 : E ≤ tp b) (hF0 : 0 ≤ F) (hF : F < fr b) (w : World) :
    Calls Tryd.prog 106 #[.int .u8 (fm b), FV n E F] w fun e w' => e = .returned (.tuple #[.int .u64 (sd b (E * fr b + F) n), .int .i64 0]) ∧ Below w.heap.size w w' := by
  have B1 := (Bx.nil w).push (FO n E F)
  go_enter Tryd.func106, Tryd.ntmps106
  go_wp2_with fail
  refine (wShapeOf b _).mono ?_
  rintro e w2 ⟨rfl, h2⟩
  have B2 := (B1.keep h2).push (SO b)
  have hlt : w.heap.size < w2.heap.size := (B1.keep h2).lt (.head _)
  clear h2 B1
  go_wp2_with fail
  generalize hw3 : w2.alloc (SO b) = w3 at *
  clear hw3
  have HI := B2.drew
  have sh := fun W (hW : Bx w [(w2.heap.size, SO b), (w.heap.size, FO n E F)] W) => And.intro (shape_cells hW w2.heap.size b (.head _)) (fields_cells hW w.heap.size n E F (.tail _ (.head _)))
  refine Drawn.enter (Bx w [(w2.heap.size, SO b), (w.heap.size, FO n E F)]) (by kernel_rfl) ?_
  refine Drawn.take (i := 0) (v := ?v51) rfl (by kernel_rfl) (by kernel_rfl) (by kernel_rfl) (fun _ _ _ h => h) (by kernel_rfl) (fun W hW => ?_) HI ?_
  rotate_left
  · have ⟨⟨e0, e1, e2, e3⟩, q0, q1, q2⟩ := sh W hW
    go_simp <;> exact rfl
  refine Drawn.take (i := 1) (v := ?v52) rfl (by kernel_rfl) (by kernel_rfl) (by kernel_rfl) (fun _ _ _ h => h) (by kernel_rfl) (fun W hW => ?_) HI ?_
  rotate_left
  · have ⟨⟨e0, e1, e2, e3⟩, q0, q1, q2⟩ := sh W hW
    go_simp <;> exact rfl
  refine Drawn.take (i := 2) (v := .bool false) rfl (by kernel_rfl) (by kernel_rfl) (by kernel_rfl) (fun _ _ _ h => h) (by kernel_rfl) (fun W hW => ?_) HI ?_
  · have ⟨⟨e0, e1, e2, e3⟩, q0, q1, q2⟩ := sh W hW
    go_simp <;> (simp [show ¬ E < 0 by omega])
  refine Drawn.take (i := 3) (v := ?v53) rfl (by kernel_rfl) (by kernel_rfl) (by kernel_rfl) (fun _ _ _ h => h) (by kernel_rfl) (fun W hW => ?_) HI ?_
  rotate_left
  · have ⟨⟨e0, e1, e2, e3⟩, q0, q1, q2⟩ := sh W hW
    go_simp <;> exact rfl
  refine Drawn.take (i := 4) (v := ?v54) rfl (by kernel_rfl) (by kernel_rfl) (by kernel_rfl) (fun _ _ _ h => h) (by kernel_rfl) (fun W hW => ?_) HI ?_
  rotate_left
  · have ⟨⟨e0, e1, e2, e3⟩, q0, q1, q2⟩ := sh W hW
    go_simp <;> exact rfl
  refine Drawn.take (i := 5) (v := ?v55) rfl (by kernel_rfl) (by kernel_rfl) (by kernel_rfl) (fun _ _ _ h => h) (by kernel_rfl) (fun W hW => ?_) HI ?_
  rotate_left
  · have ⟨⟨e0, e1, e2, e3⟩, q0, q1, q2⟩ := sh W hW
    go_simp <;> exact rfl
  refine Drawn.take (i := 6) (v := ?v56) rfl (by kernel_rfl) (by kernel_rfl) (by kernel_rfl) (fun _ _ _ h => h) (by kernel_rfl) (fun W hW => ?_) HI ?_
  rotate_left
  · have ⟨⟨e0, e1, e2, e3⟩, q0, q1, q2⟩ := sh W hW
    go_simp <;> exact rfl
  refine Drawn.take (i := 7) (v := ?v57) rfl (by kernel_rfl) (by kernel_rfl) (by kernel_rfl) (fun _ _ _ h => h) (by kernel_rfl) (fun W hW => ?_) HI ?_
  rotate_left
  · have ⟨⟨e0, e1, e2, e3⟩, q0, q1, q2⟩ := sh W hW
    go_simp <;> exact rfl
  refine Drawn.take (i := 8) (v := .bool false) rfl (by kernel_rfl) (by kernel_rfl) (by kernel_rfl) (fun _ _ _ h => h) (by kernel_rfl) (fun W hW => ?_) HI ?_
  · have ⟨⟨e0, e1, e2, e3⟩, q0, q1, q2⟩ := sh W hW
    go_simp <;> (simp [show ¬ tp b < E by omega])
  refine Drawn.take (i := 9) (v := ?v58) rfl (by kernel_rfl) (by kernel_rfl) (by kernel_rfl) (fun _ _ _ h => h) (by kernel_rfl) (fun W hW => ?_) HI ?_
  rotate_left
  · have ⟨⟨e0, e1, e2, e3⟩, q0, q1, q2⟩ := sh W hW
    go_simp <;> exact rfl
  refine Drawn.take (i := 10) (v := ?v59) rfl (by kernel_rfl) (by kernel_rfl) (by kernel_rfl) (fun _ _ _ h => h) (by kernel_rfl) (fun W hW => ?_) HI ?_
  rotate_left
  · have ⟨⟨e0, e1, e2, e3⟩, q0, q1, q2⟩ := sh W hW
    go_simp <;> exact rfl
  refine Drawn.take (i := 11) (v := ?v60) rfl (by kernel_rfl) (by kernel_rfl) (by kernel_rfl) (fun _ _ _ h => h) (by kernel_rfl) (fun W hW => ?_) HI ?_
  rotate_left
  · have ⟨⟨e0, e1, e2, e3⟩, q0, q1, q2⟩ := sh W hW
    go_simp <;> exact rfl
  refine Drawn.take (i := 12) (v := ?v61) rfl (by kernel_rfl) (by kernel_rfl) (by kernel_rfl) (fun _ _ _ h => h) (by kernel_rfl) (fun W hW => ?_) HI ?_
  rotate_left
  · have ⟨⟨e0, e1, e2, e3⟩, q0, q1, q2⟩ := sh W hW
    go_simp <;> exact rfl
  refine Drawn.take (i := 13) (v := ?v62) rfl (by kernel_rfl) (by kernel_rfl) (by kernel_rfl) (fun _ _ _ h => h) (by kernel_rfl) (fun W hW => ?_) HI ?_
  rotate_left
  · have ⟨⟨e0, e1, e2, e3⟩, q0, q1, q2⟩ := sh W hW
    go_simp <;> exact rfl
  refine Drawn.one (j := 14) (by kernel_rfl) rfl (fun K hK => ?_)
  go_simp
  refine (wFracBits b _).mono ?_
  rintro e wn ⟨rfl, hn⟩
  refine hK _ _ (HI.keep hn) ?_
  clear hK K
  replace HI := HI.keep hn
  clear hn
  refine Drawn.take (i := 15) (v := .bool false) rfl (by kernel_rfl) (by kernel_rfl) (by kernel_rfl) (fun _ _ _ h => h) (by kernel_rfl) (fun W hW => ?_) HI ?_
  · have ⟨⟨e0, e1, e2, e3⟩, q0, q1, q2⟩ := sh W hW
    go_simp <;> (first | omega | (simp; omega))
  refine Drawn.take (i := 16) (v := ?v63) rfl (by kernel_rfl) (by kernel_rfl) (by kernel_rfl) (fun _ _ _ h => h) (by kernel_rfl) (fun W hW => ?_) HI ?_
  rotate_left
  · have ⟨⟨e0, e1, e2, e3⟩, q0, q1, q2⟩ := sh W hW
    go_simp <;> exact rfl
  refine Drawn.done (by kernel_rfl) ?_
  try go_simp
  go_wp2_with fail
  replace HI := HI.drew
  obtain ⟨k1, k2, k3, k4⟩ := fields_lt b hE hE1 hF0 hF
  refine Drawn.enter (Bx w [(w2.heap.size, SO b), (w.heap.size, FO n E F)]) (by kernel_rfl) ?_
  refine Drawn.take (i := 0) (v := ?v64) rfl (by kernel_rfl) (by kernel_rfl) (by kernel_rfl) (fun _ _ _ h => h) (by kernel_rfl) (fun W hW => ?_) HI ?_
  rotate_left
  · have ⟨⟨e0, e1, e2, e3⟩, q0, q1, q2⟩ := sh W hW
    go_simp <;> exact rfl
  refine Drawn.take (i := 1) (v := ?v65) rfl (by kernel_rfl) (by kernel_rfl) (by kernel_rfl) (fun _ _ _ h => h) (by kernel_rfl) (fun W hW => ?_) HI ?_
  rotate_left
  · have ⟨⟨e0, e1, e2, e3⟩, q0, q1, q2⟩ := sh W hW
    go_simp <;> exact rfl
  refine Drawn.take (i := 2) (v := ?v66) rfl (by kernel_rfl) (by kernel_rfl) (by kernel_rfl) (fun _ _ _ h => h) (by kernel_rfl) (fun W hW => ?_) HI ?_
  rotate_left
  · have ⟨⟨e0, e1, e2, e3⟩, q0, q1, q2⟩ := sh W hW
    go_simp <;> exact rfl
  refine Drawn.take (i := 3) (v := .int .u64 E) rfl (by kernel_rfl) (by kernel_rfl) (by kernel_rfl) (fun _ _ _ h => h) (by kernel_rfl) (fun W hW => ?_) HI ?_
  · have ⟨⟨e0, e1, e2, e3⟩, q0, q1, q2⟩ := sh W hW
    go_simp <;> (rw [IntKind.wrap_u64]; have := tp_bd b; omega)
  refine Drawn.take (i := 4) (v := ?v67) rfl (by kernel_rfl) (by kernel_rfl) (by kernel_rfl) (fun _ _ _ h => h) (by kernel_rfl) (fun W hW => ?_) HI ?_
  rotate_left
  · have ⟨⟨e0, e1, e2, e3⟩, q0, q1, q2⟩ := sh W hW
    go_simp <;> exact rfl
  refine Drawn.take (i := 5) (v := ?v68) rfl (by kernel_rfl) (by kernel_rfl) (by kernel_rfl) (fun _ _ _ h => h) (by kernel_rfl) (fun W hW => ?_) HI ?_
  rotate_left
  · have ⟨⟨e0, e1, e2, e3⟩, q0, q1, q2⟩ := sh W hW
    go_simp <;> exact rfl
  refine Drawn.take (i := 6) (v := .int .u64 (E * fr b)) rfl (by kernel_rfl) (by kernel_rfl) (by kernel_rfl) (fun _ _ _ h => h) (by kernel_rfl) (fun W hW => ?_) HI ?_
  · have ⟨⟨e0, e1, e2, e3⟩, q0, q1, q2⟩ := sh W hW
    go_simp <;> (rw [shl_fc, Int.emod_eq_of_lt k4 k3]; rfl)
  refine Drawn.take (i := 7) (v := ?v69) rfl (by kernel_rfl) (by kernel_rfl) (by kernel_rfl) (fun _ _ _ h => h) (by kernel_rfl) (fun W hW => ?_) HI ?_
  rotate_left
  · have ⟨⟨e0, e1, e2, e3⟩, q0, q1, q2⟩ := sh W hW
    go_simp <;> exact rfl
  refine Drawn.take (i := 8) (v := ?v70) rfl (by kernel_rfl) (by kernel_rfl) (by kernel_rfl) (fun _ _ _ h => h) (by kernel_rfl) (fun W hW => ?_) HI ?_
  rotate_left
  · have ⟨⟨e0, e1, e2, e3⟩, q0, q1, q2⟩ := sh W hW
    go_simp <;> exact rfl
  refine Drawn.take (i := 9) (v := .int .u64 (E * fr b + F)) rfl (by kernel_rfl) (by kernel_rfl) (by kernel_rfl) (fun _ _ _ h => h) (by kernel_rfl) (fun W hW => ?_) HI ?_
  · have ⟨⟨e0, e1, e2, e3⟩, q0, q1, q2⟩ := sh W hW
    go_simp <;> (exact or_fr b hE hE1 hF0 hF)
  refine Drawn.take (i := 10) (v := ?v71) rfl (by kernel_rfl) (by kernel_rfl) (by kernel_rfl) (fun _ _ _ h => h) (by kernel_rfl) (fun W hW => ?_) HI ?_
  rotate_left
  · have ⟨⟨e0, e1, e2, e3⟩, q0, q1, q2⟩ := sh W hW
    go_simp <;> exact rfl
  refine Drawn.take (i := 11) (v := ?v72) rfl (by kernel_rfl) (by kernel_rfl) (by kernel_rfl) (fun _ _ _ h => h) (by kernel_rfl) (fun W hW => ?_) HI ?_
  rotate_left
  · have ⟨⟨e0, e1, e2, e3⟩, q0, q1, q2⟩ := sh W hW
    go_simp <;> exact rfl
  refine Drawn.one (j := 12) (by kernel_rfl) rfl (fun K hK => ?_)
  go_simp
  refine (wSigned b (E * fr b + F) n k1 k2 _).mono ?_
  rintro e wn ⟨rfl, hn⟩
  refine hK _ _ (HI.keep hn) ?_
  clear hK K
  replace HI := HI.keep hn
  clear hn
  refine Drawn.take (i := 13) (v := ?v73) rfl (by kernel_rfl) (by kernel_rfl) (by kernel_rfl) (fun _ _ _ h => h) (by kernel_rfl) (fun W hW => ?_) HI ?_
  rotate_left
  · have ⟨⟨e0, e1, e2, e3⟩, q0, q1, q2⟩ := sh W hW
    go_simp <;> exact rfl
  refine Drawn.take (i := 14) (v := ?v74) rfl (by kernel_rfl) (by kernel_rfl) (by kernel_rfl) (fun _ _ _ h => h) (by kernel_rfl) (fun W hW => ?_) HI ?_
  rotate_left
  · have ⟨⟨e0, e1, e2, e3⟩, q0, q1, q2⟩ := sh W hW
    go_simp <;> exact rfl
  refine Drawn.done (by kernel_rfl) ?_
  try go_simp
  clear sh
  go_wp2
  go_ret2
  exact ⟨rfl, HI.bel⟩
theorem wJoin_bad (f : Int) (hf : Bad f) (n : Bool) (E F : Int) (w : World) :
    Calls Tryd.prog 106 #[.int .u8 f, FV n E F] w fun e w' => e = .returned (.tuple #[.int .u64 0, .int .i64 4]) ∧ Below w.heap.size w w' := by
  have B1 := (Bx.nil w).push (FO n E F)
  go_enter Tryd.func106, Tryd.ntmps106
  go_wp2_with fail
  refine (wShapeOf_bad f hf _).mono ?_
  rintro e w2 ⟨rfl, h2⟩
  have B2 := (B1.keep h2).push ZO
  clear h2 B1
  go_wp2
  go_ret2
  exact ⟨rfl, B2.bel⟩
/-- The fields may not be. -/
theorem wJoin_arg (b n : Bool) (E F : Int) (h : ¬ (0 ≤ E ∧ E ≤ tp b ∧ F < fr b)) (w : World) :
    Calls Tryd.prog 106 #[.int .u8 (fm b), FV n E F] w fun e w' => e = .returned (.tuple #[.int .u64 0, .int .i64 2]) ∧ Below w.heap.size w w' := by
  by_cases c1 : 0 ≤ E
  · by_cases c2 : E ≤ tp b
    · exact wJoin_frac b n E F c1 c2 (by omega) w
    · exact wJoin_top b n E F c1 (by omega) w
  · exact wJoin_neg b n E F (by omega) w

end Go.Proofs.YteejaghimppcgaaDoor

namespace Go.Proofs.YteejaghimppcgaaDoor
open Go.RowKit Go.Wd Go.Box
set_option linter.unusedVariables false
set_option maxRecDepth 3000
/-- How many units a finite word is in size, and the unit's exponent. -/
def un (b : Bool) (x : Int) : Int := if fd b x = 0 then fn b x else fr b + fn b x
def ue (b : Bool) (x : Int) : Int := max (fd b x - 1) 0 + lo b
theorem fn_bd (b : Bool) (x : Int) : 0 ≤ fn b x ∧ fn b x < fr b := ⟨Int.emod_nonneg _ (by have := fr_pos b; omega), Int.emod_lt_of_pos _ (fr_pos b)⟩
theorem un_bd (b : Bool) (x : Int) : 0 ≤ un b x ∧ un b x < 9007199254740992 := by
  have h := fn_bd b x
  have hf := fr_le b
  have hp := fr_pos b
  unfold un
  by_cases c : fd b x = 0
  · rw [if_pos c]; omega
  · rw [if_neg c]; omega
theorem lo_bd (b : Bool) : -1074 ≤ lo b ∧ lo b ≤ -149 := by cases b <;> decide
theorem ue_bd (b : Bool) (x : Int) : -1074 ≤ ue b x ∧ ue b x ≤ 2000 := by
  have h := fd_bd b x
  have hl := lo_bd b
  unfold ue
  omega
theorem wIsFinite (b : Bool) (x : Int) (h : Ok b x) (w : World) :
    Calls Tryd.prog 136 #[S b, .int .u64 x] w fun e w' => e = .returned (.bool (decide (sz b x < inf b))) ∧ Below w.heap.size w w' := by
  have B1 := (Bx.nil w).push (SO b)
  go_enter Tryd.func136, Tryd.ntmps136
  go_wp2_with fail
  generalize hw1 : w.alloc (SO b) = w1 at *
  clear hw1
  have HI := B1.drew
  have sh := fun W (hW : Bx w [(w.heap.size, SO b)] W) => shape_cells hW w.heap.size b (.head _)
  refine Drawn.enter (Bx w [(w.heap.size, SO b)]) (by kernel_rfl) ?_
  refine Drawn.take (i := 0) (v := ?v91) rfl (by kernel_rfl) (by kernel_rfl) (by kernel_rfl) (fun _ _ _ h => h) (by kernel_rfl) (fun W hW => ?_) HI ?_
  rotate_left
  · have ⟨e0, e1, e2, e3⟩ := sh W hW
    go_simp <;> exact rfl
  refine Drawn.take (i := 1) (v := ?v92) rfl (by kernel_rfl) (by kernel_rfl) (by kernel_rfl) (fun _ _ _ h => h) (by kernel_rfl) (fun W hW => ?_) HI ?_
  rotate_left
  · have ⟨e0, e1, e2, e3⟩ := sh W hW
    go_simp <;> exact rfl
  refine Drawn.take (i := 3) (v := ?v93) rfl (by kernel_rfl) (by kernel_rfl) (by kernel_rfl) (fun _ _ _ h => h) (by kernel_rfl) (fun W hW => ?_) HI ?_
  rotate_left
  · have ⟨e0, e1, e2, e3⟩ := sh W hW
    go_simp <;> exact rfl
  refine Drawn.one (j := 2) (by kernel_rfl) rfl (fun K hK => ?_)
  go_simp
  refine (wSize b x h _).mono ?_
  rintro e wn ⟨rfl, hn⟩
  refine hK _ _ (HI.keep hn) ?_
  clear hK K
  replace HI := HI.keep hn
  clear hn
  refine Drawn.one (j := 4) (by kernel_rfl) rfl (fun K hK => ?_)
  go_simp
  refine (wInfinite b _).mono ?_
  rintro e wn ⟨rfl, hn⟩
  refine hK _ _ (HI.keep hn) ?_
  clear hK K
  replace HI := HI.keep hn
  clear hn
  refine Drawn.take (i := 5) (v := ?v94) rfl (by kernel_rfl) (by kernel_rfl) (by kernel_rfl) (fun _ _ _ h => h) (by kernel_rfl) (fun W hW => ?_) HI ?_
  rotate_left
  · have ⟨e0, e1, e2, e3⟩ := sh W hW
    go_simp <;> exact rfl
  refine Drawn.take (i := 6) (v := ?v95) rfl (by kernel_rfl) (by kernel_rfl) (by kernel_rfl) (fun _ _ _ h => h) (by kernel_rfl) (fun W hW => ?_) HI ?_
  rotate_left
  · have ⟨e0, e1, e2, e3⟩ := sh W hW
    go_simp <;> exact rfl
  refine Drawn.done (by kernel_rfl) ?_
  try go_simp
  go_wp2
  go_ret
  exact ⟨rfl, HI.bel⟩
theorem wFinite (b : Bool) (x : Int) (h : Ok b x) (hf : sz b x < inf b) (w : World) :
    Calls Tryd.prog 99 #[.int .u8 (fm b), .int .u64 x] w fun e w' => e = .returned (.tuple #[S b, .int .i64 0]) ∧ Below w.heap.size w w' := by
  have B1 := (Bx.nil w).push ZO
  go_enter Tryd.func99, Tryd.ntmps99
  go_wp2_with fail
  refine (wGoodShape b x h _).mono ?_
  rintro e w2 ⟨rfl, h2⟩
  have B2 := (B1.keep h2).push (SO b)
  have hlt : w.heap.size < w2.heap.size := (B1.keep h2).lt (.head _)
  go_wp2_with fail
  refine (wIsFinite b x h _).mono ?_
  rintro e w3 ⟨rfl, h3⟩
  have B3 := B2.keep h3
  obtain ⟨⟨e0, e1, e2, e3⟩, _⟩ := cells4 B3 w2.heap.size _ _ _ _ _ (.head _)
  obtain ⟨⟨f0, f1, f2, f3⟩, r0, r1, r2, r3⟩ := cells4 B3 w.heap.size _ _ _ _ _ (.tail _ (.head _))
  rw [decide_eq_true hf]
  clear h2 h3 B1 B2 hf
  go_wp2
  have B4 := (B3.sub (L' := [(w.heap.size, ZO), (w2.heap.size, SO b)]) (by simp)).fill4 (Nat.le_refl _) (by simp; omega) (.int .i64 (bt b)) (.int .i64 (fc b)) (.int .i64 (tp b)) (.int .i64 (lo b))
  refine bodyPost_ret (results_S2 rfl _ _ w.heap.size _ rfl B4.head rfl) rfl ?_
  exact ⟨rfl, B4.bel⟩
theorem wFinite_no (b : Bool) (x : Int) (h : Ok b x) (hf : inf b ≤ sz b x) (w : World) :
    Calls Tryd.prog 99 #[.int .u8 (fm b), .int .u64 x] w fun e w' => e = .returned (.tuple #[noS, .int .i64 7]) ∧ Below w.heap.size w w' := by
  have B1 := (Bx.nil w).push ZO
  go_enter Tryd.func99, Tryd.ntmps99
  go_wp2_with fail
  refine (wGoodShape b x h _).mono ?_
  rintro e w2 ⟨rfl, h2⟩
  have B2 := (B1.keep h2).push (SO b)
  have hlt : w.heap.size < w2.heap.size := (B1.keep h2).lt (.head _)
  go_wp2_with fail
  refine (wIsFinite b x h _).mono ?_
  rintro e w3 ⟨rfl, h3⟩
  have B3 := B2.keep h3
  obtain ⟨⟨f0, f1, f2, f3⟩, r0, r1, r2, r3⟩ := cells4 B3 w.heap.size _ _ _ _ _ (.tail _ (.head _))
  rw [decide_eq_false (by omega)]
  clear h2 h3 B1 B2 hf
  go_wp2
  have B4 := (B3.sub (L' := [(w.heap.size, ZO), (w2.heap.size, SO b)]) (by simp)).fill4 (Nat.le_refl _) (by simp; omega) (.int .i64 0) (.int .i64 0) (.int .i64 0) (.int .i64 0)
  refine bodyPost_ret (results_S2 rfl _ _ w.heap.size _ rfl B4.head rfl) rfl ?_
  exact ⟨rfl, B4.bel⟩
theorem wFinite_err (f x c : Int) (h : GE f x c) (w : World) :
    Calls Tryd.prog 99 #[.int .u8 f, .int .u64 x] w fun e w' => e = .returned (.tuple #[noS, .int .i64 c]) ∧ Below w.heap.size w w' := by
  have B1 := (Bx.nil w).push ZO
  have hc := h.ne
  go_enter Tryd.func99, Tryd.ntmps99
  go_wp2_with fail
  refine (h.call _).mono ?_
  rintro e w2 ⟨rfl, h2⟩
  have B2 := B1.keep h2
  have hlt : w.heap.size < w2.heap.size := B2.lt (.head _)
  have B4 := (B2.fill4 (Nat.le_refl _) (by simp) (.int .i64 0) (.int .i64 0) (.int .i64 0) (.int .i64 0)).push ZO
  obtain ⟨⟨f0, f1, f2, f3⟩, r0, r1, r2, r3⟩ := cells4 B2 w.heap.size _ _ _ _ _ (.head _)
  clear h2 B1 h
  go_wp2
  refine bodyPost_ret (results_S2 rfl _ _ w.heap.size _ rfl B4.tail.head rfl) rfl ?_
  exact ⟨rfl, B4.bel⟩
/-- The word has no value, for the error c. -/
def VE (f x c : Int) : Prop := GE f x c ∨ (∃ b, f = fm b ∧ Ok b x ∧ inf b ≤ sz b x ∧ c = 7)
theorem VE.ne {f x c : Int} (h : VE f x c) : (c == 0) = false := by
  rcases h with h | ⟨_, _, _, _, rfl⟩
  · exact h.ne
  · rfl
theorem VE.call {f x c : Int} (h : VE f x c) (w : World) :
    Calls Tryd.prog 99 #[.int .u8 f, .int .u64 x] w fun e w' => e = .returned (.tuple #[noS, .int .i64 c]) ∧ Below w.heap.size w w' := by
  rcases h with h | ⟨b, rfl, h, h2, rfl⟩
  · exact wFinite_err f x c h w
  · exact wFinite_no b x h h2 w
theorem or_units (b : Bool) (x : Int) : bits .or .u64 (fr b % 18446744073709551616) (fn b x) = fr b + fn b x := by
  have h := fn_bd b x
  have hp := fr_pos b
  have hl := fr_le b
  rw [Int.emod_eq_of_lt (by omega) (by omega)]
  cases b
  · exact join 23 (P := fr false) (by decide) (by omega) (by decide) h.1 h.2 (by omega)
  · exact join 52 (P := fr true) (by decide) (by omega) (by decide) h.1 h.2 (by omega)
theorem wUnits (b : Bool) (x : Int) (h : Ok b x) (w : World) :
    Calls Tryd.prog 102 #[S b, .int .u64 x] w fun e w' => e = .returned (.int .u64 (un b x)) ∧ Below w.heap.size w w' := by
  have B1 := (Bx.nil w).push (SO b)
  have HA := Hide.mk (and_fr b h.1 (ok_u64 h))
  have HO := Hide.mk (or_units b x)
  go_enter Tryd.func102, Tryd.ntmps102
  go_wp2_with fail
  refine (wFracBits b _).mono ?_
  rintro e w2 ⟨rfl, h2⟩
  have B2 := B1.keep h2
  obtain ⟨e0, e1, e2, e3⟩ := shape_cells B2 w.heap.size b (.head _)
  clear h2 B1
  go_wp2_with fail
  rw [HA.out]
  refine (wField b x h _).mono ?_
  rintro e w3 ⟨rfl, h3⟩
  have B3 := B2.keep h3
  obtain ⟨e0, e1, e2, e3⟩ := shape_cells B3 w.heap.size b (.head _)
  clear h3 B2
  by_cases c : fd b x = 0
  · have HE : Hide (un b x = fn b x) := ⟨by unfold un; rw [if_pos c]⟩
    have d1 : (fd b x == 0) = true := by simp [c]
    clear c
    go_wp2
    go_ret
    exact ⟨by rw [HE.out]; rfl, B3.bel⟩
  · have HE : Hide (un b x = fr b + fn b x) := ⟨by unfold un; rw [if_neg c]⟩
    have d1 : (fd b x == 0) = false := beq_eq_false_iff_ne.2 c
    clear c
    go_wp2_with fail
    rw [shl_fc]
    go_wp2
    go_ret
    exact ⟨by rw [HE.out, ← HO.out]; rfl, B3.bel⟩
theorem wUnitExp (b : Bool) (x : Int) (h : Ok b x) (w : World) :
    Calls Tryd.prog 103 #[S b, .int .u64 x] w fun e w' => e = .returned (.int .i64 (ue b x)) ∧ Below w.heap.size w w' := by
  have B1 := (Bx.nil w).push (SO b)
  have hf := fd_bd b x
  have hl := lo_bd b
  go_enter Tryd.func103, Tryd.ntmps103
  go_wp2_with fail
  generalize hw1 : w.alloc (SO b) = w1 at *
  clear hw1
  have HI := B1.drew
  have sh := fun W (hW : Bx w [(w.heap.size, SO b)] W) => shape_cells hW w.heap.size b (.head _)
  refine Drawn.enter (Bx w [(w.heap.size, SO b)]) (by kernel_rfl) ?_
  refine Drawn.take (i := 0) (v := ?v96) rfl (by kernel_rfl) (by kernel_rfl) (by kernel_rfl) (fun _ _ _ h => h) (by kernel_rfl) (fun W hW => ?_) HI ?_
  rotate_left
  · have ⟨e0, e1, e2, e3⟩ := sh W hW
    go_simp <;> exact rfl
  refine Drawn.take (i := 1) (v := ?v97) rfl (by kernel_rfl) (by kernel_rfl) (by kernel_rfl) (fun _ _ _ h => h) (by kernel_rfl) (fun W hW => ?_) HI ?_
  rotate_left
  · have ⟨e0, e1, e2, e3⟩ := sh W hW
    go_simp <;> exact rfl
  refine Drawn.take (i := 5) (v := ?v98) rfl (by kernel_rfl) (by kernel_rfl) (by kernel_rfl) (fun _ _ _ h => h) (by kernel_rfl) (fun W hW => ?_) HI ?_
  rotate_left
  · have ⟨e0, e1, e2, e3⟩ := sh W hW
    go_simp <;> exact rfl
  refine Drawn.take (i := 6) (v := ?v99) rfl (by kernel_rfl) (by kernel_rfl) (by kernel_rfl) (fun _ _ _ h => h) (by kernel_rfl) (fun W hW => ?_) HI ?_
  rotate_left
  · have ⟨e0, e1, e2, e3⟩ := sh W hW
    go_simp <;> exact rfl
  refine Drawn.one (j := 2) (by kernel_rfl) rfl (fun K hK => ?_)
  go_simp
  refine (wField b x h _).mono ?_
  rintro e wn ⟨rfl, hn⟩
  refine hK _ _ (HI.keep hn) ?_
  clear hK K
  replace HI := HI.keep hn
  clear hn
  refine Drawn.take (i := 3) (v := .int .i64 (fd b x - 1)) rfl (by kernel_rfl) (by kernel_rfl) (by kernel_rfl) (fun _ _ _ h => h) (by kernel_rfl) (fun W hW => ?_) HI ?_
  · have ⟨e0, e1, e2, e3⟩ := sh W hW
    go_simp <;> (exact wrap_ok (by omega) (by omega))
  refine Drawn.take (i := 4) (v := ?v100) rfl (by kernel_rfl) (by kernel_rfl) (by kernel_rfl) (fun _ _ _ h => h) (by kernel_rfl) (fun W hW => ?_) HI ?_
  rotate_left
  · have ⟨e0, e1, e2, e3⟩ := sh W hW
    go_simp <;> exact rfl
  refine Drawn.take (i := 7) (v := .int .i64 (ue b x)) rfl (by kernel_rfl) (by kernel_rfl) (by kernel_rfl) (fun _ _ _ h => h) (by kernel_rfl) (fun W hW => ?_) HI ?_
  · have ⟨e0, e1, e2, e3⟩ := sh W hW
    go_simp <;> (exact wrap_ok (by have := ue_bd b x; unfold ue at this; omega) (by have := ue_bd b x; unfold ue at this; omega))
  refine Drawn.take (i := 8) (v := ?v101) rfl (by kernel_rfl) (by kernel_rfl) (by kernel_rfl) (fun _ _ _ h => h) (by kernel_rfl) (fun W hW => ?_) HI ?_
  rotate_left
  · have ⟨e0, e1, e2, e3⟩ := sh W hW
    go_simp <;> exact rfl
  refine Drawn.done (by kernel_rfl) ?_
  try go_simp
  go_wp2
  go_ret
  exact ⟨rfl, HI.bel⟩
end Go.Proofs.YteejaghimppcgaaDoor

namespace Go.Proofs.YteejaghimppcgaaDoor
open Go.RowKit Go.Wd Go.Box
set_option linter.unusedVariables false
set_option maxRecDepth 3000
abbrev DO (n : Bool) (a : Option Addr) (k c : Nat) (ex : Int) : Obj := .cells #[.bool n, .slice a k c, .int .i64 ex] 36 (0, 0)
theorem Bx.dcell {w W : World} {L : List (Nat × Obj)} (h : Bx w L W) {g : Nat} {a b c : Value} (hm : (g, Obj.cells #[a, b, c] 36 (0, 0)) ∈ L) : DCell W g #[a, b, c] := ⟨h.box _ hm, rfl⟩
set_option maxHeartbeats 2000000 in
theorem wValueR (b : Bool) (x : Int) (h : Ok b x) (hf : sz b x < inf b) (w : World) (hT : Tab w) :
    Calls Tryd.prog 56 #[.int .u8 (fm b), .int .u64 x] w fun e w' => DRes w w' (sv (ng b x) (un b x)) (ue b x) e := by
  have B1 := (Bx.nil w).push (DO false none 0 0 0)
  have hu := un_bd b x
  have hx := ue_bd b x
  go_enter Tryd.func56, Tryd.ntmps56
  go_wp2_with fail
  refine (wFinite b x h hf _).mono ?_
  rintro e w2 ⟨rfl, h2⟩
  have HF := (B1.keep h2).push (SO b)
  have hlt : w.heap.size < w2.heap.size := (B1.keep h2).lt (.head _)
  clear h2 B1 hf
  go_wp2_with fail
  generalize hw3 : w2.alloc (SO b) = w3 at *
  clear hw3
  replace HF := HF.drew
  have HI := HF.sub (L' := [(w2.heap.size, SO b)]) (by simp)
  have sh := fun W (hW : Bx w [(w2.heap.size, SO b)] W) => shape_cells hW w2.heap.size b (.head _)
  refine Drawn.enter (Bx w [(w2.heap.size, SO b)]) (by kernel_rfl) ?_
  refine Drawn.take (i := 0) (v := ?v102) rfl (by kernel_rfl) (by kernel_rfl) (by kernel_rfl) (fun _ _ _ h => h) (by kernel_rfl) (fun W hW => ?_) HI ?_
  rotate_left
  · have ⟨e0, e1, e2, e3⟩ := sh W hW
    go_simp <;> exact rfl
  refine Drawn.take (i := 1) (v := ?v103) rfl (by kernel_rfl) (by kernel_rfl) (by kernel_rfl) (fun _ _ _ h => h) (by kernel_rfl) (fun W hW => ?_) HI ?_
  rotate_left
  · have ⟨e0, e1, e2, e3⟩ := sh W hW
    go_simp <;> exact rfl
  refine Drawn.take (i := 3) (v := ?v104) rfl (by kernel_rfl) (by kernel_rfl) (by kernel_rfl) (fun _ _ _ h => h) (by kernel_rfl) (fun W hW => ?_) HI ?_
  rotate_left
  · have ⟨e0, e1, e2, e3⟩ := sh W hW
    go_simp <;> exact rfl
  refine Drawn.take (i := 4) (v := ?v105) rfl (by kernel_rfl) (by kernel_rfl) (by kernel_rfl) (fun _ _ _ h => h) (by kernel_rfl) (fun W hW => ?_) HI ?_
  rotate_left
  · have ⟨e0, e1, e2, e3⟩ := sh W hW
    go_simp <;> exact rfl
  refine Drawn.take (i := 7) (v := ?v106) rfl (by kernel_rfl) (by kernel_rfl) (by kernel_rfl) (fun _ _ _ h => h) (by kernel_rfl) (fun W hW => ?_) HI ?_
  rotate_left
  · have ⟨e0, e1, e2, e3⟩ := sh W hW
    go_simp <;> exact rfl
  refine Drawn.take (i := 8) (v := ?v107) rfl (by kernel_rfl) (by kernel_rfl) (by kernel_rfl) (fun _ _ _ h => h) (by kernel_rfl) (fun W hW => ?_) HI ?_
  rotate_left
  · have ⟨e0, e1, e2, e3⟩ := sh W hW
    go_simp <;> exact rfl
  refine Drawn.one (j := 2) (by kernel_rfl) rfl (fun K hK => ?_)
  go_simp
  refine (wIsNeg b x h _).mono ?_
  rintro e wn ⟨rfl, hn⟩
  refine hK _ _ (HI.keep hn) ?_
  clear hK K
  replace HI := HI.keep hn
  replace HF := HF.keep hn
  clear hn
  refine Drawn.one (j := 5) (by kernel_rfl) rfl (fun K hK => ?_)
  go_simp
  refine (wUnits b x h _).mono ?_
  rintro e wn ⟨rfl, hn⟩
  refine hK _ _ (HI.keep hn) ?_
  clear hK K
  replace HI := HI.keep hn
  replace HF := HF.keep hn
  clear hn
  refine Drawn.one (j := 6) (by kernel_rfl) rfl (fun K hK => ?_)
  go_simp
  refine (of16 (un b x) hu.1 (by omega) _).mono ?_
  rintro e wn ⟨zs, a, c, rfl, hN, _⟩
  refine hK _ _ (HI.keep hN.bel) ?_
  clear hK K
  replace HI := HI.keep hN.bel
  replace HF := HF.keep hN.bel
  have hl := hN.lie
  have G := Hide.mk hN.good
  clear hN
  refine Drawn.one (j := 9) (by kernel_rfl) rfl (fun K hK => ?_)
  go_simp
  refine (wUnitExp b x h _).mono ?_
  rintro e wm ⟨rfl, hn⟩
  refine hK _ _ (HI.keep hn) ?_
  clear hK K
  replace HI := HI.keep hn
  replace HF := HF.keep hn
  replace hl := hl.below hn (Nat.le_refl _)
  clear hn
  have g := G.out
  refine Drawn.one (j := 10) (by kernel_rfl) rfl (fun K hK => ?_)
  go_simp
  refine (dmake38 (ng b x) a c zs (ue b x) _ ⟨hl, by have := g.len; unfold maxLen; omega, g.can.1⟩ g.may (hT.below HI.bel (Nat.le_refl _)) (by omega) (by omega)).mono ?_
  rintro e wd ⟨n9, a9, k9, c9, x9, code, rfl, hv⟩
  rw [g.val] at hv
  refine hK _ _ (HI.keep hv.bel) ?_
  clear hK K
  have HV := Hide.mk hv
  have HB := Hide.mk HI.bel
  have hsz : w.heap.size < wm.heap.size := HF.lt (.tail _ (.head _))
  replace HI := HI.keep hv.bel
  replace HF := HF.keep hv.bel
  clear hv g G hl
  refine Drawn.take (i := 11) (v := ?v108) rfl (by kernel_rfl) (by kernel_rfl) (by kernel_rfl) (fun _ _ _ h => h) (by kernel_rfl) (fun W hW => ?_) HI ?_
  rotate_left
  · have ⟨e0, e1, e2, e3⟩ := sh W hW
    go_simp <;> exact rfl
  refine Drawn.take (i := 12) (v := ?v109) rfl (by kernel_rfl) (by kernel_rfl) (by kernel_rfl) (fun _ _ _ h => h) (by kernel_rfl) (fun W hW => ?_) HI ?_
  rotate_left
  · have ⟨e0, e1, e2, e3⟩ := sh W hW
    go_simp <;> exact rfl
  obtain ⟨⟨f0, f1, f2⟩, r0, r1, r2⟩ := cells3 HF w.heap.size _ _ _ _ (.tail _ (.head _))
  have HF2 := (HF.sub (L' := [(w.heap.size, DO false none 0 0 0), (w2.heap.size, SO b)]) (by simp)).fill3 (Nat.le_refl _) (by simp; omega) (.bool n9) (.slice a9 k9 c9) (.int .i64 x9)
  refine Drawn.one (j := 13) (by kernel_rfl) rfl (fun K hK => ?_)
  go_simp
  replace HI := HF2.sub (L' := [(w2.heap.size, SO b)]) (by simp)
  refine hK _ _ HI ?_
  clear hK K f0 f1 f2 r0 r1 r2
  refine Drawn.take (i := 14) (v := ?v110) rfl (by kernel_rfl) (by kernel_rfl) (by kernel_rfl) (fun _ _ _ h => h) (by kernel_rfl) (fun W hW => ?_) HI ?_
  rotate_left
  · have ⟨e0, e1, e2, e3⟩ := sh W hW
    go_simp <;> exact rfl
  refine Drawn.done (by kernel_rfl) ?_
  try go_simp
  go_wp2
  refine bodyPost_ret (results_D2 rfl _ _ w.heap.size _ rfl ⟨HF2.head, rfl⟩) rfl ?_
  exact DRes.back HV.out HB.out (Nat.le_refl _) hsz _ _ _
set_option maxHeartbeats 2000000 in
theorem wUnitR (b : Bool) (x : Int) (h : Ok b x) (hf : sz b x < inf b) (w : World) (hT : Tab w) :
    Calls Tryd.prog 60 #[.int .u8 (fm b), .int .u64 x] w fun e w' => DRes w w' (sv false 1) (ue b x) e := by
  have B1 := (Bx.nil w).push (DO false none 0 0 0)
  have hx := ue_bd b x
  go_enter Tryd.func60, Tryd.ntmps60
  go_wp2_with fail
  refine (wFinite b x h hf _).mono ?_
  rintro e w2 ⟨rfl, h2⟩
  have HF := (B1.keep h2).push (SO b)
  have hlt : w.heap.size < w2.heap.size := (B1.keep h2).lt (.head _)
  clear h2 B1 hf
  go_wp2_with fail
  generalize hw3 : w2.alloc (SO b) = w3 at *
  clear hw3
  replace HF := HF.drew
  have HI := HF.sub (L' := [(w2.heap.size, SO b)]) (by simp)
  have sh := fun W (hW : Bx w [(w2.heap.size, SO b)] W) => shape_cells hW w2.heap.size b (.head _)
  refine Drawn.enter (Bx w [(w2.heap.size, SO b)]) (by kernel_rfl) ?_
  refine Drawn.take (i := 1) (v := ?v111) rfl (by kernel_rfl) (by kernel_rfl) (by kernel_rfl) (fun _ _ _ h => h) (by kernel_rfl) (fun W hW => ?_) HI ?_
  rotate_left
  · have ⟨e0, e1, e2, e3⟩ := sh W hW
    go_simp <;> exact rfl
  refine Drawn.take (i := 2) (v := ?v112) rfl (by kernel_rfl) (by kernel_rfl) (by kernel_rfl) (fun _ _ _ h => h) (by kernel_rfl) (fun W hW => ?_) HI ?_
  rotate_left
  · have ⟨e0, e1, e2, e3⟩ := sh W hW
    go_simp <;> exact rfl
  refine Drawn.one (j := 0) (by kernel_rfl) rfl (fun K hK => ?_)
  go_simp
  refine (of16 1 (by decide) (by decide) _).mono ?_
  rintro e wn ⟨zs, a, c, rfl, hN, _⟩
  refine hK _ _ (HI.keep hN.bel) ?_
  clear hK K
  replace HI := HI.keep hN.bel
  replace HF := HF.keep hN.bel
  have hl := hN.lie
  have G := Hide.mk hN.good
  clear hN
  refine Drawn.one (j := 3) (by kernel_rfl) rfl (fun K hK => ?_)
  go_simp
  refine (wUnitExp b x h _).mono ?_
  rintro e wm ⟨rfl, hn⟩
  refine hK _ _ (HI.keep hn) ?_
  clear hK K
  replace HI := HI.keep hn
  replace HF := HF.keep hn
  replace hl := hl.below hn (Nat.le_refl _)
  clear hn
  have g := G.out
  refine Drawn.one (j := 4) (by kernel_rfl) rfl (fun K hK => ?_)
  go_simp
  refine (dmake38 false a c zs (ue b x) _ ⟨hl, by have := g.len; unfold maxLen; omega, g.can.1⟩ g.may (hT.below HI.bel (Nat.le_refl _)) (by omega) (by omega)).mono ?_
  rintro e wd ⟨n9, a9, k9, c9, x9, code, rfl, hv⟩
  rw [g.val] at hv
  refine hK _ _ (HI.keep hv.bel) ?_
  clear hK K
  have HV := Hide.mk hv
  have HB := Hide.mk HI.bel
  have hsz : w.heap.size < wm.heap.size := HF.lt (.tail _ (.head _))
  replace HI := HI.keep hv.bel
  replace HF := HF.keep hv.bel
  clear hv g G hl
  refine Drawn.take (i := 5) (v := ?v113) rfl (by kernel_rfl) (by kernel_rfl) (by kernel_rfl) (fun _ _ _ h => h) (by kernel_rfl) (fun W hW => ?_) HI ?_
  rotate_left
  · have ⟨e0, e1, e2, e3⟩ := sh W hW
    go_simp <;> exact rfl
  refine Drawn.take (i := 6) (v := ?v114) rfl (by kernel_rfl) (by kernel_rfl) (by kernel_rfl) (fun _ _ _ h => h) (by kernel_rfl) (fun W hW => ?_) HI ?_
  rotate_left
  · have ⟨e0, e1, e2, e3⟩ := sh W hW
    go_simp <;> exact rfl
  obtain ⟨⟨f0, f1, f2⟩, r0, r1, r2⟩ := cells3 HF w.heap.size _ _ _ _ (.tail _ (.head _))
  have HF2 := (HF.sub (L' := [(w.heap.size, DO false none 0 0 0), (w2.heap.size, SO b)]) (by simp)).fill3 (Nat.le_refl _) (by simp; omega) (.bool n9) (.slice a9 k9 c9) (.int .i64 x9)
  refine Drawn.one (j := 7) (by kernel_rfl) rfl (fun K hK => ?_)
  go_simp
  replace HI := HF2.sub (L' := [(w2.heap.size, SO b)]) (by simp)
  refine hK _ _ HI ?_
  clear hK K f0 f1 f2 r0 r1 r2
  refine Drawn.take (i := 8) (v := ?v115) rfl (by kernel_rfl) (by kernel_rfl) (by kernel_rfl) (fun _ _ _ h => h) (by kernel_rfl) (fun W hW => ?_) HI ?_
  rotate_left
  · have ⟨e0, e1, e2, e3⟩ := sh W hW
    go_simp <;> exact rfl
  refine Drawn.done (by kernel_rfl) ?_
  try go_simp
  go_wp2
  refine bodyPost_ret (results_D2 rfl _ _ w.heap.size _ rfl ⟨HF2.head, rfl⟩) rfl ?_
  exact DRes.back HV.out HB.out (Nat.le_refl _) hsz _ _ _
theorem wValue_err (f x c : Int) (h : VE f x c) (w : World) :
    Calls Tryd.prog 56 #[.int .u8 f, .int .u64 x] w fun e w' => e = .returned (.tuple #[noD, .int .i64 c]) ∧ Below w.heap.size w w' := by
  have B1 := (Bx.nil w).push (DO false none 0 0 0)
  have hc := h.ne
  go_enter Tryd.func56, Tryd.ntmps56
  go_wp2_with fail
  refine (h.call _).mono ?_
  rintro e w2 ⟨rfl, h2⟩
  have B2 := B1.keep h2
  have hlt : w.heap.size < w2.heap.size := B2.lt (.head _)
  have B4 := (B2.fill3 (Nat.le_refl _) (by simp) (.bool false) (.slice none 0 0) (.int .i64 0)).push ZO
  obtain ⟨⟨f0, f1, f2⟩, r0, r1, r2⟩ := cells3 B2 w.heap.size _ _ _ _ (.head _)
  clear h2 B1 h
  go_wp2
  refine bodyPost_ret (results_D2 rfl _ _ w.heap.size _ rfl ⟨B4.tail.head, rfl⟩) rfl ?_
  exact ⟨rfl, B4.bel⟩
theorem wUnit_err (f x c : Int) (h : VE f x c) (w : World) :
    Calls Tryd.prog 60 #[.int .u8 f, .int .u64 x] w fun e w' => e = .returned (.tuple #[noD, .int .i64 c]) ∧ Below w.heap.size w w' := by
  have B1 := (Bx.nil w).push (DO false none 0 0 0)
  have hc := h.ne
  go_enter Tryd.func60, Tryd.ntmps60
  go_wp2_with fail
  refine (h.call _).mono ?_
  rintro e w2 ⟨rfl, h2⟩
  have B2 := B1.keep h2
  have hlt : w.heap.size < w2.heap.size := B2.lt (.head _)
  have B4 := (B2.fill3 (Nat.le_refl _) (by simp) (.bool false) (.slice none 0 0) (.int .i64 0)).push ZO
  obtain ⟨⟨f0, f1, f2⟩, r0, r1, r2⟩ := cells3 B2 w.heap.size _ _ _ _ (.head _)
  clear h2 B1 h
  go_wp2
  refine bodyPost_ret (results_D2 rfl _ _ w.heap.size _ rfl ⟨B4.tail.head, rfl⟩) rfl ?_
  exact ⟨rfl, B4.bel⟩
/-- The value of a word, in units of 2 to the -MaxExp. -/
def wv (b : Bool) (x : Int) : Int := sv (ng b x) (un b x) * pK (ue b x)
theorem m1h (K : Nat) : K - 1074 ≤ 0 + (K - 1074) := by omega
theorem m2h (K : Nat) : 53 + (K + 2001) ≤ K + 2054 := by omega
theorem m3h (K : Nat) (h : K = 16777216) : K + 2054 ≤ K - 1074 + 131072 ∧ K + 2054 ≤ 2 * K + 0 ∧ 0 ≤ K - 1074 := by omega
theorem db_small {n : Bool} {m e : Int} (h0 : 0 ≤ m) (h1 : m < 9007199254740992) (he0 : -1074 ≤ e) (he1 : e ≤ 2000) : DB (KK - 1074) (KK + 2054) (sv n m * pK e) := by
  have hK := KK_eq
  have d1 : DB 0 53 (sv n m) := by
    have e53 : (2 : Int) ^ 53 = 9007199254740992 := by decide
    refine ⟨by simp, ?_, ?_⟩ <;> rw [e53] <;> cases n <;> simp only [sv_t, sv_f] <;> omega
  have d2 : DB (KK - 1074) (KK + 2001) (pK e) := by
    unfold pK
    have hp := p2pos (e + KK).toNat
    obtain ⟨j, hj⟩ : ∃ j, (e + KK).toNat = KK - 1074 + j := ⟨(e + KK).toNat - (KK - 1074), by omega⟩
    have hm := p2mono (show (e + KK).toNat + 1 ≤ KK + 2001 by omega)
    rw [p2succ] at hm
    refine ⟨?_, by omega, by omega⟩
    rw [hj, Int.pow_add]
    exact Int.mul_emod_right _ _
  exact (DB.mul d1 d2).mono (m1h KK) (m2h KK)
theorem wValue (b : Bool) (x : Int) (h : Ok b x) (hf : sz b x < inf b) (w : World) (hT : Tab w) :
    Calls Tryd.prog 56 #[.int .u8 (fm b), .int .u64 x] w fun e w' => ∃ n zs ex a c, e = .returned (.tuple #[dV n a zs.length c ex, .int .i64 0]) ∧ IsD w w' a c n zs ex (wv b x) := by
  have hu := un_bd b x
  have hx := ue_bd b x
  have hK := KK_eq
  refine (wValueR b x h hf w hT).mono ?_
  intro e w' hr
  obtain ⟨n, a, k, c, ex, code, rfl, hv⟩ := DRes.toK hr (by omega)
  rw [show -(KK : Int) = -(KK : Int) - (0 : Nat) by omega] at hv
  obtain ⟨rfl, zs, v', rfl, h3, h4⟩ := hv.fits (db_small hu.1 hu.2 hx.1 hx.2) (m3h KK KK_eq).1 (m3h KK KK_eq).2.1 (m3h KK KK_eq).2.2
  rw [Int.pow_zero, Int.mul_one] at h3
  subst h3
  exact ⟨n, zs, ex, a, c, rfl, h4⟩
theorem wUnit (b : Bool) (x : Int) (h : Ok b x) (hf : sz b x < inf b) (w : World) (hT : Tab w) :
    Calls Tryd.prog 60 #[.int .u8 (fm b), .int .u64 x] w fun e w' => ∃ n zs ex a c, e = .returned (.tuple #[dV n a zs.length c ex, .int .i64 0]) ∧ IsD w w' a c n zs ex (pK (ue b x)) := by
  have hx := ue_bd b x
  have hK := KK_eq
  refine (wUnitR b x h hf w hT).mono ?_
  intro e w' hr
  obtain ⟨n, a, k, c, ex, code, rfl, hv⟩ := DRes.toK hr (by omega)
  rw [show -(KK : Int) = -(KK : Int) - (0 : Nat) by omega] at hv
  obtain ⟨rfl, zs, v', rfl, h3, h4⟩ := hv.fits (db_small (by decide) (by decide) hx.1 hx.2) (m3h KK KK_eq).1 (m3h KK KK_eq).2.1 (m3h KK KK_eq).2.2
  rw [Int.pow_zero, Int.mul_one, sv_f, Int.one_mul] at h3
  subst h3
  exact ⟨n, zs, ex, a, c, rfl, h4⟩
end Go.Proofs.YteejaghimppcgaaDoor
