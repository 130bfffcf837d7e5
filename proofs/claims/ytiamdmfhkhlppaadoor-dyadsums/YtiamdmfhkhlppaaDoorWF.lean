import Derived.Test.YtiamdmfhkhlppaaDoorWE
namespace Go.Proofs.YtiamdmfhkhlppaaDoor
open Go.RowKit Go.Wd Go.Box
set_option linter.unusedVariables false
set_option maxRecDepth 3000
theorem up_ok (b : Bool) {x : Int} (h : Ok b x) : Ok b (up b x) := by
  have := sg_one b
  obtain ⟨h0, h1⟩ := h
  have hz : sz b x = 0 ∨ sz b x ≠ 0 := by omega
  have hx : sz b x ≠ 0 → x ≠ 0 := by
    intro h e; subst e; exact h (by unfold sz; simp)
  unfold Ok up
  rcases hz with c | c
  · rw [if_pos c]; omega
  · have := hx c
    rw [if_neg c]
    by_cases c2 : sg b ≤ x
    · rw [if_pos c2]; omega
    · rw [if_neg c2]; omega
theorem fl_ok (b : Bool) {x : Int} (h : Ok b x) : Ok b (fl b x) := ok_flip b h
theorem wBelow_inf (b : Bool) (x : Int) (h : Ok b x) (hi : fl b x = inf b) (w : World) :
    Calls Tryd.prog 108 #[S b, .int .u64 x] w fun e w' => e = .returned (.tuple #[.int .u64 0, .int .i64 7]) ∧ Below w.heap.size w w' := by
  have B1 := (Bx.nil w).push (SO b)
  go_enter Tryd.func108, Tryd.ntmps108
  go_wp2_with fail
  generalize hw1 : w.alloc (SO b) = w1 at *
  clear hw1
  have HI := B1.drew
  have sh := fun W (hW : Bx w [(w.heap.size, SO b)] W) => shape_cells hW w.heap.size b (.head _)
  refine Drawn.enter (Bx w [(w.heap.size, SO b)]) (by kernel_rfl) ?_
  refine Drawn.take (i := 0) (v := ?v75) rfl (by kernel_rfl) (by kernel_rfl) (by kernel_rfl) (fun _ _ _ h => h) (by kernel_rfl) (fun W hW => ?_) HI ?_
  rotate_left
  · have ⟨e0, e1, e2, e3⟩ := sh W hW
    go_simp <;> exact rfl
  refine Drawn.take (i := 1) (v := ?v76) rfl (by kernel_rfl) (by kernel_rfl) (by kernel_rfl) (fun _ _ _ h => h) (by kernel_rfl) (fun W hW => ?_) HI ?_
  rotate_left
  · have ⟨e0, e1, e2, e3⟩ := sh W hW
    go_simp <;> exact rfl
  refine Drawn.take (i := 2) (v := ?v77) rfl (by kernel_rfl) (by kernel_rfl) (by kernel_rfl) (fun _ _ _ h => h) (by kernel_rfl) (fun W hW => ?_) HI ?_
  rotate_left
  · have ⟨e0, e1, e2, e3⟩ := sh W hW
    go_simp <;> exact rfl
  refine Drawn.one (j := 3) (by kernel_rfl) rfl (fun K hK => ?_)
  go_simp
  refine (wSignBit b _).mono ?_
  rintro e wn ⟨rfl, hn⟩
  refine hK _ _ (HI.keep hn) ?_
  clear hK K
  replace HI := HI.keep hn
  clear hn
  refine Drawn.take (i := 4) (v := .int .u64 (inf b)) rfl (by kernel_rfl) (by kernel_rfl) (by kernel_rfl) (fun _ _ _ h => h) (by kernel_rfl) (fun W hW => ?_) HI ?_
  · have ⟨e0, e1, e2, e3⟩ := sh W hW
    go_simp <;> (rw [xor_sg b h]; exact hi)
  refine Drawn.one (j := 5) (by kernel_rfl) rfl (fun K hK => ?_)
  go_simp
  refine (wAbove_inf b _).mono ?_
  rintro e wn ⟨rfl, hn⟩
  refine hK _ _ (HI.keep hn) ?_
  clear hK K
  replace HI := HI.keep hn
  clear hn
  refine Drawn.take (i := 6) (v := ?v78) rfl (by kernel_rfl) (by kernel_rfl) (by kernel_rfl) (fun _ _ _ h => h) (by kernel_rfl) (fun W hW => ?_) HI ?_
  rotate_left
  · have ⟨e0, e1, e2, e3⟩ := sh W hW
    go_simp <;> exact rfl
  refine Drawn.take (i := 7) (v := ?v79) rfl (by kernel_rfl) (by kernel_rfl) (by kernel_rfl) (fun _ _ _ h => h) (by kernel_rfl) (fun W hW => ?_) HI ?_
  rotate_left
  · have ⟨e0, e1, e2, e3⟩ := sh W hW
    go_simp <;> exact rfl
  refine Drawn.take (i := 8) (v := ?v80) rfl (by kernel_rfl) (by kernel_rfl) (by kernel_rfl) (fun _ _ _ h => h) (by kernel_rfl) (fun W hW => ?_) HI ?_
  rotate_left
  · have ⟨e0, e1, e2, e3⟩ := sh W hW
    go_simp <;> exact rfl
  refine Drawn.take (i := 9) (v := ?v81) rfl (by kernel_rfl) (by kernel_rfl) (by kernel_rfl) (fun _ _ _ h => h) (by kernel_rfl) (fun W hW => ?_) HI ?_
  rotate_left
  · have ⟨e0, e1, e2, e3⟩ := sh W hW
    go_simp <;> exact rfl
  refine Drawn.take (i := 10) (v := ?v82) rfl (by kernel_rfl) (by kernel_rfl) (by kernel_rfl) (fun _ _ _ h => h) (by kernel_rfl) (fun W hW => ?_) HI ?_
  rotate_left
  · have ⟨e0, e1, e2, e3⟩ := sh W hW
    go_simp <;> exact rfl
  refine Drawn.done (by kernel_rfl) ?_
  try go_simp
  clear sh hi
  go_wp2
  go_ret2
  exact ⟨rfl, HI.bel⟩
theorem wBelow_dn (b : Bool) (x : Int) (h : Ok b x) (hi : fl b x ≠ inf b) (w : World) :
    Calls Tryd.prog 108 #[S b, .int .u64 x] w fun e w' => e = .returned (.tuple #[.int .u64 (fl b (up b (fl b x))), .int .i64 0]) ∧ Below w.heap.size w w' := by
  have B1 := (Bx.nil w).push (SO b)
  have h2 := fl_ok b h
  go_enter Tryd.func108, Tryd.ntmps108
  go_wp2_with fail
  generalize hw1 : w.alloc (SO b) = w1 at *
  clear hw1
  have HI := B1.drew
  have sh := fun W (hW : Bx w [(w.heap.size, SO b)] W) => shape_cells hW w.heap.size b (.head _)
  refine Drawn.enter (Bx w [(w.heap.size, SO b)]) (by kernel_rfl) ?_
  refine Drawn.take (i := 0) (v := ?v83) rfl (by kernel_rfl) (by kernel_rfl) (by kernel_rfl) (fun _ _ _ h => h) (by kernel_rfl) (fun W hW => ?_) HI ?_
  rotate_left
  · have ⟨e0, e1, e2, e3⟩ := sh W hW
    go_simp <;> exact rfl
  refine Drawn.take (i := 1) (v := ?v84) rfl (by kernel_rfl) (by kernel_rfl) (by kernel_rfl) (fun _ _ _ h => h) (by kernel_rfl) (fun W hW => ?_) HI ?_
  rotate_left
  · have ⟨e0, e1, e2, e3⟩ := sh W hW
    go_simp <;> exact rfl
  refine Drawn.take (i := 2) (v := ?v85) rfl (by kernel_rfl) (by kernel_rfl) (by kernel_rfl) (fun _ _ _ h => h) (by kernel_rfl) (fun W hW => ?_) HI ?_
  rotate_left
  · have ⟨e0, e1, e2, e3⟩ := sh W hW
    go_simp <;> exact rfl
  refine Drawn.one (j := 3) (by kernel_rfl) rfl (fun K hK => ?_)
  go_simp
  refine (wSignBit b _).mono ?_
  rintro e wn ⟨rfl, hn⟩
  refine hK _ _ (HI.keep hn) ?_
  clear hK K
  replace HI := HI.keep hn
  clear hn
  refine Drawn.take (i := 4) (v := .int .u64 (fl b x)) rfl (by kernel_rfl) (by kernel_rfl) (by kernel_rfl) (fun _ _ _ h => h) (by kernel_rfl) (fun W hW => ?_) HI ?_
  · have ⟨e0, e1, e2, e3⟩ := sh W hW
    go_simp <;> (exact xor_sg b h)
  refine Drawn.one (j := 5) (by kernel_rfl) rfl (fun K hK => ?_)
  go_simp
  refine (wAbove_up b (fl b x) h2 hi _).mono ?_
  rintro e wn ⟨rfl, hn⟩
  refine hK _ _ (HI.keep hn) ?_
  clear hK K
  replace HI := HI.keep hn
  clear hn
  refine Drawn.take (i := 6) (v := ?v86) rfl (by kernel_rfl) (by kernel_rfl) (by kernel_rfl) (fun _ _ _ h => h) (by kernel_rfl) (fun W hW => ?_) HI ?_
  rotate_left
  · have ⟨e0, e1, e2, e3⟩ := sh W hW
    go_simp <;> exact rfl
  refine Drawn.take (i := 7) (v := ?v87) rfl (by kernel_rfl) (by kernel_rfl) (by kernel_rfl) (fun _ _ _ h => h) (by kernel_rfl) (fun W hW => ?_) HI ?_
  rotate_left
  · have ⟨e0, e1, e2, e3⟩ := sh W hW
    go_simp <;> exact rfl
  refine Drawn.take (i := 8) (v := ?v88) rfl (by kernel_rfl) (by kernel_rfl) (by kernel_rfl) (fun _ _ _ h => h) (by kernel_rfl) (fun W hW => ?_) HI ?_
  rotate_left
  · have ⟨e0, e1, e2, e3⟩ := sh W hW
    go_simp <;> exact rfl
  refine Drawn.take (i := 9) (v := ?v89) rfl (by kernel_rfl) (by kernel_rfl) (by kernel_rfl) (fun _ _ _ h => h) (by kernel_rfl) (fun W hW => ?_) HI ?_
  rotate_left
  · have ⟨e0, e1, e2, e3⟩ := sh W hW
    go_simp <;> exact rfl
  refine Drawn.take (i := 10) (v := ?v90) rfl (by kernel_rfl) (by kernel_rfl) (by kernel_rfl) (fun _ _ _ h => h) (by kernel_rfl) (fun W hW => ?_) HI ?_
  rotate_left
  · have ⟨e0, e1, e2, e3⟩ := sh W hW
    go_simp <;> exact rfl
  refine Drawn.done (by kernel_rfl) ?_
  try go_simp
  obtain ⟨e0, e1, e2, e3⟩ := sh _ HI
  clear sh hi
  have HX := Hide.mk (xor_sg b (up_ok b h2))
  go_wp2_with fail
  refine (wSignBit b _).mono ?_
  rintro e w3 ⟨rfl, h3⟩
  have B3 := HI.keep h3
  clear h3 HI e0 e1 e2 e3
  go_wp2
  go_ret2
  exact ⟨by unfold fl at HX ⊢; rw [← HX.out]; rfl, B3.bel⟩
/-- Up, down: the word and the error. -/
def upx (b : Bool) (x : Int) : Int × Int := if inf b < sz b x then (nan b, 0) else if x = inf b then (0, 7) else (up b x, 0)
def dnx (b : Bool) (x : Int) : Int × Int := if inf b < sz b x then (nan b, 0) else if fl b x = inf b then (0, 7) else (fl b (up b (fl b x)), 0)
theorem wUp (b : Bool) (x : Int) (h : Ok b x) (w : World) :
    Calls Tryd.prog 57 #[.int .u8 (fm b), .int .u64 x] w fun e w' => e = .returned (.tuple #[.int .u64 (upx b x).1, .int .i64 (upx b x).2]) ∧ Below w.heap.size w w' := by
  have H : Calls Tryd.prog 104 #[.int .u8 (fm b), .int .u64 x, .func (Fn.func 105) #[] #[]] w fun e w' => e = .returned (.tuple #[.int .u64 (upx b x).1, .int .i64 (upx b x).2]) ∧ Below w.heap.size w w' := by
    unfold upx
    by_cases c : inf b < sz b x
    · rw [if_pos c]; exact wChanged_nan b x h c _ w
    · rw [if_neg c]
      by_cases c2 : x = inf b
      · rw [if_pos c2]
        refine wChanged_above b x h (by omega) w 0 7 (fun W _ => ?_)
        rw [c2]; exact wAbove_inf b W
      · rw [if_neg c2]
        exact wChanged_above b x h (by omega) w _ 0 (fun W _ => wAbove_up b x h c2 W)
  have HH := Hide.mk H
  clear H
  generalize (upx b x).1 = y at *
  generalize (upx b x).2 = c at *
  go_enter Tryd.func57, Tryd.ntmps57
  go_wp2_with fail
  refine HH.out.mono ?_
  rintro e w2 ⟨rfl, h2⟩
  clear HH
  go_wp2
  go_ret2
  exact ⟨rfl, h2⟩
theorem wUp_err (f x c : Int) (h : GE f x c) (w : World) :
    Calls Tryd.prog 57 #[.int .u8 f, .int .u64 x] w fun e w' => e = .returned (.tuple #[.int .u64 0, .int .i64 c]) ∧ Below w.heap.size w w' := by
  have HH := Hide.mk (wChanged_err f x c h (.func (Fn.func 105) #[] #[]) w)
  go_enter Tryd.func57, Tryd.ntmps57
  go_wp2_with fail
  refine HH.out.mono ?_
  rintro e w2 ⟨rfl, h2⟩
  clear HH h
  go_wp2
  go_ret2
  exact ⟨rfl, h2⟩
theorem wDown (b : Bool) (x : Int) (h : Ok b x) (w : World) :
    Calls Tryd.prog 59 #[.int .u8 (fm b), .int .u64 x] w fun e w' => e = .returned (.tuple #[.int .u64 (dnx b x).1, .int .i64 (dnx b x).2]) ∧ Below w.heap.size w w' := by
  have H : Calls Tryd.prog 104 #[.int .u8 (fm b), .int .u64 x, .func (Fn.func 108) #[] #[]] w fun e w' => e = .returned (.tuple #[.int .u64 (dnx b x).1, .int .i64 (dnx b x).2]) ∧ Below w.heap.size w w' := by
    unfold dnx
    by_cases c : inf b < sz b x
    · rw [if_pos c]; exact wChanged_nan b x h c _ w
    · rw [if_neg c]
      by_cases c2 : fl b x = inf b
      · rw [if_pos c2]
        exact wChanged_below b x h (by omega) w 0 7 (fun W _ => wBelow_inf b x h c2 W)
      · rw [if_neg c2]
        exact wChanged_below b x h (by omega) w _ 0 (fun W _ => wBelow_dn b x h c2 W)
  have HH := Hide.mk H
  clear H
  generalize (dnx b x).1 = y at *
  generalize (dnx b x).2 = c at *
  go_enter Tryd.func59, Tryd.ntmps59
  go_wp2_with fail
  refine HH.out.mono ?_
  rintro e w2 ⟨rfl, h2⟩
  clear HH
  go_wp2
  go_ret2
  exact ⟨rfl, h2⟩
theorem wDown_err (f x c : Int) (h : GE f x c) (w : World) :
    Calls Tryd.prog 59 #[.int .u8 f, .int .u64 x] w fun e w' => e = .returned (.tuple #[.int .u64 0, .int .i64 c]) ∧ Below w.heap.size w w' := by
  have HH := Hide.mk (wChanged_err f x c h (.func (Fn.func 108) #[] #[]) w)
  go_enter Tryd.func59, Tryd.ntmps59
  go_wp2_with fail
  refine HH.out.mono ?_
  rintro e w2 ⟨rfl, h2⟩
  clear HH h
  go_wp2
  go_ret2
  exact ⟨rfl, h2⟩
def cnx (b : Bool) (x : Int) : Int := if inf b < sz b x then nan b else x
def ngx (b : Bool) (x : Int) : Int := if inf b < sz b x then nan b else fl b x
def abx (b : Bool) (x : Int) : Int := if inf b < sz b x then nan b else sz b x
def csx (b : Bool) (x s : Int) : Int := if inf b < sz b x then nan b else sd b (sz b x) (ng b s)
end Go.Proofs.YtiamdmfhkhlppaaDoor
