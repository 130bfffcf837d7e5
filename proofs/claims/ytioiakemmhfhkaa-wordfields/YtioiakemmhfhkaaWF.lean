import Derived.Test.YtioiakemmhfhkaaWE
namespace Go.Proofs.Ytioiakemmhfhkaa
open Go.RowKit Go.Wd Go.Box
set_option linter.unusedVariables false
set_option maxRecDepth 3000
theorem up_ok (b : Bool) {x : Int} (h : Ok b x) : Ok b (up b x) := by
  have := sg_one b
  obtain ⟨h0, h1⟩ := h
  have hz : sz b x = 0 ∨ sz b x ≠ 0 := by omega
  have hx : sz b x ≠ 0 → x ≠ 0 := by
    intro h e; subst e; exact h (by unfold sz; simp)
  unfold Ok up
  rcases hz with c | c
  · rw [if_pos c]; omega
  · have := hx c
    rw [if_neg c]
    by_cases c2 : sg b ≤ x
    · rw [if_pos c2]; omega
    · rw [if_neg c2]; omega
theorem fl_ok (b : Bool) {x : Int} (h : Ok b x) : Ok b (fl b x) := ok_flip b h
theorem wBelow_inf (b : Bool) (x : Int) (h : Ok b x) (hi : fl b x = inf b) (w : World) :
    Calls Try.prog 56 #[S b, .int .u64 x] w fun e w' => e = .returned (.tuple #[.int .u64 0, .int .i64 7]) ∧ Below w.heap.size w w' := by
  have B1 := (Bx.nil w).push (SO b)
  go_enter Try.func56, Try.ntmps56
  go_wp2_with fail
  generalize hw1 : w.alloc (SO b) = w1 at *
  clear hw1
  have HI := B1.drew
  have sh := fun W (hW : Bx w [(w.heap.size, SO b)] W) => shape_cells hW w.heap.size b (.head _)
  refine Drawn.enter (Bx w [(w.heap.size, SO b)]) (by kernel_rfl) ?_
  refine Drawn.take (i := 0) (v := ?v0) rfl (by kernel_rfl) (by kernel_rfl) (by kernel_rfl) (fun _ _ _ h => h) (by kernel_rfl) (fun W hW => ?_) HI ?_
  rotate_left
  · have ⟨e0, e1, e2, e3⟩ := sh W hW
    go_simp <;> exact rfl
  refine Drawn.take (i := 1) (v := ?v1) rfl (by kernel_rfl) (by kernel_rfl) (by kernel_rfl) (fun _ _ _ h => h) (by kernel_rfl) (fun W hW => ?_) HI ?_
  rotate_left
  · have ⟨e0, e1, e2, e3⟩ := sh W hW
    go_simp <;> exact rfl
  refine Drawn.take (i := 2) (v := ?v2) rfl (by kernel_rfl) (by kernel_rfl) (by kernel_rfl) (fun _ _ _ h => h) (by kernel_rfl) (fun W hW => ?_) HI ?_
  rotate_left
  · have ⟨e0, e1, e2, e3⟩ := sh W hW
    go_simp <;> exact rfl
  refine Drawn.one (j := 3) (by kernel_rfl) rfl (fun K hK => ?_)
  go_simp
  refine (wSignBit b _).mono ?_
  rintro e wn ⟨rfl, hn⟩
  refine hK _ _ (HI.keep hn) ?_
  clear hK K
  replace HI := HI.keep hn
  clear hn
  refine Drawn.take (i := 4) (v := .int .u64 (inf b)) rfl (by kernel_rfl) (by kernel_rfl) (by kernel_rfl) (fun _ _ _ h => h) (by kernel_rfl) (fun W hW => ?_) HI ?_
  · have ⟨e0, e1, e2, e3⟩ := sh W hW
    go_simp <;> (rw [xor_sg b h]; exact hi)
  refine Drawn.one (j := 5) (by kernel_rfl) rfl (fun K hK => ?_)
  go_simp
  refine (wAbove_inf b _).mono ?_
  rintro e wn ⟨rfl, hn⟩
  refine hK _ _ (HI.keep hn) ?_
  clear hK K
  replace HI := HI.keep hn
  clear hn
  refine Drawn.take (i := 6) (v := ?v3) rfl (by kernel_rfl) (by kernel_rfl) (by kernel_rfl) (fun _ _ _ h => h) (by kernel_rfl) (fun W hW => ?_) HI ?_
  rotate_left
  · have ⟨e0, e1, e2, e3⟩ := sh W hW
    go_simp <;> exact rfl
  refine Drawn.take (i := 7) (v := ?v4) rfl (by kernel_rfl) (by kernel_rfl) (by kernel_rfl) (fun _ _ _ h => h) (by kernel_rfl) (fun W hW => ?_) HI ?_
  rotate_left
  · have ⟨e0, e1, e2, e3⟩ := sh W hW
    go_simp <;> exact rfl
  refine Drawn.take (i := 8) (v := ?v5) rfl (by kernel_rfl) (by kernel_rfl) (by kernel_rfl) (fun _ _ _ h => h) (by kernel_rfl) (fun W hW => ?_) HI ?_
  rotate_left
  · have ⟨e0, e1, e2, e3⟩ := sh W hW
    go_simp <;> exact rfl
  refine Drawn.take (i := 9) (v := ?v6) rfl (by kernel_rfl) (by kernel_rfl) (by kernel_rfl) (fun _ _ _ h => h) (by kernel_rfl) (fun W hW => ?_) HI ?_
  rotate_left
  · have ⟨e0, e1, e2, e3⟩ := sh W hW
    go_simp <;> exact rfl
  refine Drawn.take (i := 10) (v := ?v7) rfl (by kernel_rfl) (by kernel_rfl) (by kernel_rfl) (fun _ _ _ h => h) (by kernel_rfl) (fun W hW => ?_) HI ?_
  rotate_left
  · have ⟨e0, e1, e2, e3⟩ := sh W hW
    go_simp <;> exact rfl
  refine Drawn.done (by kernel_rfl) ?_
  try go_simp
  clear sh hi
  go_wp2
  go_ret2
  exact ⟨rfl, HI.bel⟩
theorem wBelow_dn (b : Bool) (x : Int) (h : Ok b x) (hi : fl b x ≠ inf b) (w : World) :
    Calls Try.prog 56 #[S b, .int .u64 x] w fun e w' => e = .returned (.tuple #[.int .u64 (fl b (up b (fl b x))), .int .i64 0]) ∧ Below w.heap.size w w' := by
  have B1 := (Bx.nil w).push (SO b)
  have h2 := fl_ok b h
  go_enter Try.func56, Try.ntmps56
  go_wp2_with fail
  generalize hw1 : w.alloc (SO b) = w1 at *
  clear hw1
  have HI := B1.drew
  have sh := fun W (hW : Bx w [(w.heap.size, SO b)] W) => shape_cells hW w.heap.size b (.head _)
  refine Drawn.enter (Bx w [(w.heap.size, SO b)]) (by kernel_rfl) ?_
  refine Drawn.take (i := 0) (v := ?v8) rfl (by kernel_rfl) (by kernel_rfl) (by kernel_rfl) (fun _ _ _ h => h) (by kernel_rfl) (fun W hW => ?_) HI ?_
  rotate_left
  · have ⟨e0, e1, e2, e3⟩ := sh W hW
    go_simp <;> exact rfl
  refine Drawn.take (i := 1) (v := ?v9) rfl (by kernel_rfl) (by kernel_rfl) (by kernel_rfl) (fun _ _ _ h => h) (by kernel_rfl) (fun W hW => ?_) HI ?_
  rotate_left
  · have ⟨e0, e1, e2, e3⟩ := sh W hW
    go_simp <;> exact rfl
  refine Drawn.take (i := 2) (v := ?v10) rfl (by kernel_rfl) (by kernel_rfl) (by kernel_rfl) (fun _ _ _ h => h) (by kernel_rfl) (fun W hW => ?_) HI ?_
  rotate_left
  · have ⟨e0, e1, e2, e3⟩ := sh W hW
    go_simp <;> exact rfl
  refine Drawn.one (j := 3) (by kernel_rfl) rfl (fun K hK => ?_)
  go_simp
  refine (wSignBit b _).mono ?_
  rintro e wn ⟨rfl, hn⟩
  refine hK _ _ (HI.keep hn) ?_
  clear hK K
  replace HI := HI.keep hn
  clear hn
  refine Drawn.take (i := 4) (v := .int .u64 (fl b x)) rfl (by kernel_rfl) (by kernel_rfl) (by kernel_rfl) (fun _ _ _ h => h) (by kernel_rfl) (fun W hW => ?_) HI ?_
  · have ⟨e0, e1, e2, e3⟩ := sh W hW
    go_simp <;> (exact xor_sg b h)
  refine Drawn.one (j := 5) (by kernel_rfl) rfl (fun K hK => ?_)
  go_simp
  refine (wAbove_up b (fl b x) h2 hi _).mono ?_
  rintro e wn ⟨rfl, hn⟩
  refine hK _ _ (HI.keep hn) ?_
  clear hK K
  replace HI := HI.keep hn
  clear hn
  refine Drawn.take (i := 6) (v := ?v11) rfl (by kernel_rfl) (by kernel_rfl) (by kernel_rfl) (fun _ _ _ h => h) (by kernel_rfl) (fun W hW => ?_) HI ?_
  rotate_left
  · have ⟨e0, e1, e2, e3⟩ := sh W hW
    go_simp <;> exact rfl
  refine Drawn.take (i := 7) (v := ?v12) rfl (by kernel_rfl) (by kernel_rfl) (by kernel_rfl) (fun _ _ _ h => h) (by kernel_rfl) (fun W hW => ?_) HI ?_
  rotate_left
  · have ⟨e0, e1, e2, e3⟩ := sh W hW
    go_simp <;> exact rfl
  refine Drawn.take (i := 8) (v := ?v13) rfl (by kernel_rfl) (by kernel_rfl) (by kernel_rfl) (fun _ _ _ h => h) (by kernel_rfl) (fun W hW => ?_) HI ?_
  rotate_left
  · have ⟨e0, e1, e2, e3⟩ := sh W hW
    go_simp <;> exact rfl
  refine Drawn.take (i := 9) (v := ?v14) rfl (by kernel_rfl) (by kernel_rfl) (by kernel_rfl) (fun _ _ _ h => h) (by kernel_rfl) (fun W hW => ?_) HI ?_
  rotate_left
  · have ⟨e0, e1, e2, e3⟩ := sh W hW
    go_simp <;> exact rfl
  refine Drawn.take (i := 10) (v := ?v15) rfl (by kernel_rfl) (by kernel_rfl) (by kernel_rfl) (fun _ _ _ h => h) (by kernel_rfl) (fun W hW => ?_) HI ?_
  rotate_left
  · have ⟨e0, e1, e2, e3⟩ := sh W hW
    go_simp <;> exact rfl
  refine Drawn.done (by kernel_rfl) ?_
  try go_simp
  obtain ⟨e0, e1, e2, e3⟩ := sh _ HI
  clear sh hi
  have HX := Hide.mk (xor_sg b (up_ok b h2))
  go_wp2_with fail
  refine (wSignBit b _).mono ?_
  rintro e w3 ⟨rfl, h3⟩
  have B3 := HI.keep h3
  clear h3 HI e0 e1 e2 e3
  go_wp2
  go_ret2
  exact ⟨by unfold fl at HX ⊢; rw [← HX.out]; rfl, B3.bel⟩
/-- Up, down: the word and the error. -/
def upx (b : Bool) (x : Int) : Int × Int := if inf b < sz b x then (nan b, 0) else if x = inf b then (0, 7) else (up b x, 0)
def dnx (b : Bool) (x : Int) : Int × Int := if inf b < sz b x then (nan b, 0) else if fl b x = inf b then (0, 7) else (fl b (up b (fl b x)), 0)
theorem wUp (b : Bool) (x : Int) (h : Ok b x) (w : World) :
    Calls Try.prog 33 #[.int .u8 (fm b), .int .u64 x] w fun e w' => e = .returned (.tuple #[.int .u64 (upx b x).1, .int .i64 (upx b x).2]) ∧ Below w.heap.size w w' := by
  have H : Calls Try.prog 49 #[.int .u8 (fm b), .int .u64 x, .func (Fn.func 55) #[] #[]] w fun e w' => e = .returned (.tuple #[.int .u64 (upx b x).1, .int .i64 (upx b x).2]) ∧ Below w.heap.size w w' := by
    unfold upx
    by_cases c : inf b < sz b x
    · rw [if_pos c]; exact wChanged_nan b x h c _ w
    · rw [if_neg c]
      by_cases c2 : x = inf b
      · rw [if_pos c2]
        refine wChanged_above b x h (by omega) w 0 7 (fun W _ => ?_)
        rw [c2]; exact wAbove_inf b W
      · rw [if_neg c2]
        exact wChanged_above b x h (by omega) w _ 0 (fun W _ => wAbove_up b x h c2 W)
  have HH := Hide.mk H
  clear H
  generalize (upx b x).1 = y at *
  generalize (upx b x).2 = c at *
  go_enter Try.func33, Try.ntmps33
  go_wp2_with fail
  refine HH.out.mono ?_
  rintro e w2 ⟨rfl, h2⟩
  clear HH
  go_wp2
  go_ret2
  exact ⟨rfl, h2⟩
theorem wUp_err (f x c : Int) (h : GE f x c) (w : World) :
    Calls Try.prog 33 #[.int .u8 f, .int .u64 x] w fun e w' => e = .returned (.tuple #[.int .u64 0, .int .i64 c]) ∧ Below w.heap.size w w' := by
  have HH := Hide.mk (wChanged_err f x c h (.func (Fn.func 55) #[] #[]) w)
  go_enter Try.func33, Try.ntmps33
  go_wp2_with fail
  refine HH.out.mono ?_
  rintro e w2 ⟨rfl, h2⟩
  clear HH h
  go_wp2
  go_ret2
  exact ⟨rfl, h2⟩
theorem wDown (b : Bool) (x : Int) (h : Ok b x) (w : World) :
    Calls Try.prog 34 #[.int .u8 (fm b), .int .u64 x] w fun e w' => e = .returned (.tuple #[.int .u64 (dnx b x).1, .int .i64 (dnx b x).2]) ∧ Below w.heap.size w w' := by
  have H : Calls Try.prog 49 #[.int .u8 (fm b), .int .u64 x, .func (Fn.func 56) #[] #[]] w fun e w' => e = .returned (.tuple #[.int .u64 (dnx b x).1, .int .i64 (dnx b x).2]) ∧ Below w.heap.size w w' := by
    unfold dnx
    by_cases c : inf b < sz b x
    · rw [if_pos c]; exact wChanged_nan b x h c _ w
    · rw [if_neg c]
      by_cases c2 : fl b x = inf b
      · rw [if_pos c2]
        exact wChanged_below b x h (by omega) w 0 7 (fun W _ => wBelow_inf b x h c2 W)
      · rw [if_neg c2]
        exact wChanged_below b x h (by omega) w _ 0 (fun W _ => wBelow_dn b x h c2 W)
  have HH := Hide.mk H
  clear H
  generalize (dnx b x).1 = y at *
  generalize (dnx b x).2 = c at *
  go_enter Try.func34, Try.ntmps34
  go_wp2_with fail
  refine HH.out.mono ?_
  rintro e w2 ⟨rfl, h2⟩
  clear HH
  go_wp2
  go_ret2
  exact ⟨rfl, h2⟩
theorem wDown_err (f x c : Int) (h : GE f x c) (w : World) :
    Calls Try.prog 34 #[.int .u8 f, .int .u64 x] w fun e w' => e = .returned (.tuple #[.int .u64 0, .int .i64 c]) ∧ Below w.heap.size w w' := by
  have HH := Hide.mk (wChanged_err f x c h (.func (Fn.func 56) #[] #[]) w)
  go_enter Try.func34, Try.ntmps34
  go_wp2_with fail
  refine HH.out.mono ?_
  rintro e w2 ⟨rfl, h2⟩
  clear HH h
  go_wp2
  go_ret2
  exact ⟨rfl, h2⟩
def cnx (b : Bool) (x : Int) : Int := if inf b < sz b x then nan b else x
def ngx (b : Bool) (x : Int) : Int := if inf b < sz b x then nan b else fl b x
def abx (b : Bool) (x : Int) : Int := if inf b < sz b x then nan b else sz b x
def csx (b : Bool) (x s : Int) : Int := if inf b < sz b x then nan b else sd b (sz b x) (ng b s)
theorem wSame (b : Bool) (x : Int) (w : World) :
    Calls Try.prog 50 #[S b, .int .u64 x] w fun e w' => e = .returned (.tuple #[.int .u64 x, .int .i64 0]) ∧ Below w.heap.size w w' := by
  go_enter Try.func50, Try.ntmps50
  go_wp2
  go_ret2
  exact ⟨rfl, below_alloc _ _⟩
theorem wTurned (b : Bool) (x : Int) (h : Ok b x) (w : World) :
    Calls Try.prog 51 #[S b, .int .u64 x] w fun e w' => e = .returned (.tuple #[.int .u64 (fl b x), .int .i64 0]) ∧ Below w.heap.size w w' := by
  have B1 := (Bx.nil w).push (SO b)
  have HX := Hide.mk (xor_sg b h)
  go_enter Try.func51, Try.ntmps51
  go_wp2_with fail
  refine (wSignBit b _).mono ?_
  rintro e w3 ⟨rfl, h3⟩
  have B3 := B1.keep h3
  clear h3 B1
  go_wp2
  go_ret2
  exact ⟨by unfold fl; rw [← HX.out]; rfl, B3.bel⟩
theorem wUnsigned (b : Bool) (x : Int) (h : Ok b x) (w : World) :
    Calls Try.prog 52 #[S b, .int .u64 x] w fun e w' => e = .returned (.tuple #[.int .u64 (sz b x), .int .i64 0]) ∧ Below w.heap.size w w' := by
  have B1 := (Bx.nil w).push (SO b)
  go_enter Try.func52, Try.ntmps52
  go_wp2_with fail
  refine (wSize b x h _).mono ?_
  rintro e w3 ⟨rfl, h3⟩
  have B3 := B1.keep h3
  clear h3 B1
  go_wp2
  go_ret2
  exact ⟨rfl, B3.bel⟩
theorem wCopied (b : Bool) (x s : Int) (h : Ok b x) (hs : Ok b s) (g : Nat) (w : World) (hg : w.cell? ⟨g, 0, none⟩ = some (.int .u64 s)) :
    Calls Try.prog 53 #[S b, .int .u64 x, .pointer (some ⟨g, 0, none⟩)] w fun e w' => e = .returned (.tuple #[.int .u64 (sd b (sz b x) (ng b s)), .int .i64 0]) ∧ Below w.heap.size w w' := by
  have B1 := (Bx.nil w).push (SO b)
  have hlt : g < w.heap.size := World.block_lt_of_cell? w _ hg
  have hz := sz_bd b x
  go_enter Try.func53, Try.ntmps53
  go_wp2_with fail
  generalize hw1 : w.alloc (SO b) = w1 at *
  clear hw1
  have HI := B1.drew
  have sh := fun W (hW : Bx w [(w.heap.size, SO b)] W) => And.intro (shape_cells hW w.heap.size b (.head _)) ((hW.bel.cell (p := ⟨g, 0, none⟩) hlt).trans hg)
  refine Drawn.enter (Bx w [(w.heap.size, SO b)]) (by kernel_rfl) ?_
  refine Drawn.take (i := 0) (v := ?v16) rfl (by kernel_rfl) (by kernel_rfl) (by kernel_rfl) (fun _ _ _ h => h) (by kernel_rfl) (fun W hW => ?_) HI ?_
  rotate_left
  · have ⟨⟨e0, e1, e2, e3⟩, q0⟩ := sh W hW
    go_simp <;> exact rfl
  refine Drawn.take (i := 1) (v := ?v17) rfl (by kernel_rfl) (by kernel_rfl) (by kernel_rfl) (fun _ _ _ h => h) (by kernel_rfl) (fun W hW => ?_) HI ?_
  rotate_left
  · have ⟨⟨e0, e1, e2, e3⟩, q0⟩ := sh W hW
    go_simp <;> exact rfl
  refine Drawn.take (i := 2) (v := ?v18) rfl (by kernel_rfl) (by kernel_rfl) (by kernel_rfl) (fun _ _ _ h => h) (by kernel_rfl) (fun W hW => ?_) HI ?_
  rotate_left
  · have ⟨⟨e0, e1, e2, e3⟩, q0⟩ := sh W hW
    go_simp <;> exact rfl
  refine Drawn.take (i := 4) (v := ?v19) rfl (by kernel_rfl) (by kernel_rfl) (by kernel_rfl) (fun _ _ _ h => h) (by kernel_rfl) (fun W hW => ?_) HI ?_
  rotate_left
  · have ⟨⟨e0, e1, e2, e3⟩, q0⟩ := sh W hW
    go_simp <;> exact rfl
  refine Drawn.take (i := 5) (v := ?v20) rfl (by kernel_rfl) (by kernel_rfl) (by kernel_rfl) (fun _ _ _ h => h) (by kernel_rfl) (fun W hW => ?_) HI ?_
  rotate_left
  · have ⟨⟨e0, e1, e2, e3⟩, q0⟩ := sh W hW
    go_simp <;> exact rfl
  refine Drawn.one (j := 3) (by kernel_rfl) rfl (fun K hK => ?_)
  go_simp
  refine (wSize b x h _).mono ?_
  rintro e wn ⟨rfl, hn⟩
  refine hK _ _ (HI.keep hn) ?_
  clear hK K
  replace HI := HI.keep hn
  clear hn
  refine Drawn.one (j := 6) (by kernel_rfl) rfl (fun K hK => ?_)
  go_simp
  refine (wIsNeg b s hs _).mono ?_
  rintro e wn ⟨rfl, hn⟩
  refine hK _ _ (HI.keep hn) ?_
  clear hK K
  replace HI := HI.keep hn
  clear hn
  refine Drawn.one (j := 7) (by kernel_rfl) rfl (fun K hK => ?_)
  go_simp
  refine (wSigned b (sz b x) (ng b s) hz.1 hz.2 _).mono ?_
  rintro e wn ⟨rfl, hn⟩
  refine hK _ _ (HI.keep hn) ?_
  clear hK K
  replace HI := HI.keep hn
  clear hn
  refine Drawn.take (i := 8) (v := ?v21) rfl (by kernel_rfl) (by kernel_rfl) (by kernel_rfl) (fun _ _ _ h => h) (by kernel_rfl) (fun W hW => ?_) HI ?_
  rotate_left
  · have ⟨⟨e0, e1, e2, e3⟩, q0⟩ := sh W hW
    go_simp <;> exact rfl
  refine Drawn.take (i := 9) (v := ?v22) rfl (by kernel_rfl) (by kernel_rfl) (by kernel_rfl) (fun _ _ _ h => h) (by kernel_rfl) (fun W hW => ?_) HI ?_
  rotate_left
  · have ⟨⟨e0, e1, e2, e3⟩, q0⟩ := sh W hW
    go_simp <;> exact rfl
  refine Drawn.done (by kernel_rfl) ?_
  try go_simp
  clear sh
  go_wp2
  go_ret2
  exact ⟨rfl, HI.bel⟩
theorem wCanon (b : Bool) (x : Int) (h : Ok b x) (w : World) :
    Calls Try.prog 28 #[.int .u8 (fm b), .int .u64 x] w fun e w' => e = .returned (.tuple #[.int .u64 (cnx b x), .int .i64 0]) ∧ Below w.heap.size w w' := by
  have H : Calls Try.prog 49 #[.int .u8 (fm b), .int .u64 x, .func (Fn.func 50) #[] #[]] w fun e w' => e = .returned (.tuple #[.int .u64 (cnx b x), .int .i64 0]) ∧ Below w.heap.size w w' := by
    unfold cnx
    by_cases c : inf b < sz b x
    · rw [if_pos c]; exact wChanged_nan b x h c _ w
    · rw [if_neg c]
      exact wChanged_same b x h (by omega) w _ 0 (fun W _ => wSame b x W)
  have HH := Hide.mk H
  clear H
  generalize cnx b x = y at *
  go_enter Try.func28, Try.ntmps28
  go_wp2_with fail
  refine HH.out.mono ?_
  rintro e w2 ⟨rfl, h2⟩
  clear HH
  go_wp2
  go_ret2
  exact ⟨rfl, h2⟩
theorem wCanon_err (f x c : Int) (h : GE f x c) (w : World) :
    Calls Try.prog 28 #[.int .u8 f, .int .u64 x] w fun e w' => e = .returned (.tuple #[.int .u64 0, .int .i64 c]) ∧ Below w.heap.size w w' := by
  have HH := Hide.mk (wChanged_err f x c h (.func (Fn.func 50) #[] #[]) w)
  go_enter Try.func28, Try.ntmps28
  go_wp2_with fail
  refine HH.out.mono ?_
  rintro e w2 ⟨rfl, h2⟩
  clear HH h
  go_wp2
  go_ret2
  exact ⟨rfl, h2⟩
theorem wNeg (b : Bool) (x : Int) (h : Ok b x) (w : World) :
    Calls Try.prog 29 #[.int .u8 (fm b), .int .u64 x] w fun e w' => e = .returned (.tuple #[.int .u64 (ngx b x), .int .i64 0]) ∧ Below w.heap.size w w' := by
  have H : Calls Try.prog 49 #[.int .u8 (fm b), .int .u64 x, .func (Fn.func 51) #[] #[]] w fun e w' => e = .returned (.tuple #[.int .u64 (ngx b x), .int .i64 0]) ∧ Below w.heap.size w w' := by
    unfold ngx
    by_cases c : inf b < sz b x
    · rw [if_pos c]; exact wChanged_nan b x h c _ w
    · rw [if_neg c]
      exact wChanged_turned b x h (by omega) w _ 0 (fun W _ => wTurned b x h W)
  have HH := Hide.mk H
  clear H
  generalize ngx b x = y at *
  go_enter Try.func29, Try.ntmps29
  go_wp2_with fail
  refine HH.out.mono ?_
  rintro e w2 ⟨rfl, h2⟩
  clear HH
  go_wp2
  go_ret2
  exact ⟨rfl, h2⟩
theorem wNeg_err (f x c : Int) (h : GE f x c) (w : World) :
    Calls Try.prog 29 #[.int .u8 f, .int .u64 x] w fun e w' => e = .returned (.tuple #[.int .u64 0, .int .i64 c]) ∧ Below w.heap.size w w' := by
  have HH := Hide.mk (wChanged_err f x c h (.func (Fn.func 51) #[] #[]) w)
  go_enter Try.func29, Try.ntmps29
  go_wp2_with fail
  refine HH.out.mono ?_
  rintro e w2 ⟨rfl, h2⟩
  clear HH h
  go_wp2
  go_ret2
  exact ⟨rfl, h2⟩
theorem wAbs (b : Bool) (x : Int) (h : Ok b x) (w : World) :
    Calls Try.prog 30 #[.int .u8 (fm b), .int .u64 x] w fun e w' => e = .returned (.tuple #[.int .u64 (abx b x), .int .i64 0]) ∧ Below w.heap.size w w' := by
  have H : Calls Try.prog 49 #[.int .u8 (fm b), .int .u64 x, .func (Fn.func 52) #[] #[]] w fun e w' => e = .returned (.tuple #[.int .u64 (abx b x), .int .i64 0]) ∧ Below w.heap.size w w' := by
    unfold abx
    by_cases c : inf b < sz b x
    · rw [if_pos c]; exact wChanged_nan b x h c _ w
    · rw [if_neg c]
      exact wChanged_unsigned b x h (by omega) w _ 0 (fun W _ => wUnsigned b x h W)
  have HH := Hide.mk H
  clear H
  generalize abx b x = y at *
  go_enter Try.func30, Try.ntmps30
  go_wp2_with fail
  refine HH.out.mono ?_
  rintro e w2 ⟨rfl, h2⟩
  clear HH
  go_wp2
  go_ret2
  exact ⟨rfl, h2⟩
theorem wAbs_err (f x c : Int) (h : GE f x c) (w : World) :
    Calls Try.prog 30 #[.int .u8 f, .int .u64 x] w fun e w' => e = .returned (.tuple #[.int .u64 0, .int .i64 c]) ∧ Below w.heap.size w w' := by
  have HH := Hide.mk (wChanged_err f x c h (.func (Fn.func 52) #[] #[]) w)
  go_enter Try.func30, Try.ntmps30
  go_wp2_with fail
  refine HH.out.mono ?_
  rintro e w2 ⟨rfl, h2⟩
  clear HH h
  go_wp2
  go_ret2
  exact ⟨rfl, h2⟩
theorem wCopySign (b : Bool) (x s : Int) (h : Ok b x) (hs : Ok b s) (w : World) :
    Calls Try.prog 31 #[.int .u8 (fm b), .int .u64 x, .int .u64 s] w fun e w' => e = .returned (.tuple #[.int .u64 (csx b x s), .int .i64 0]) ∧ Below w.heap.size w w' := by
  have B1 := (Bx.nil w).push (.cells #[.int .u64 s] 23 (0, 0))
  have H : ∀ W g, W.cell? ⟨g, 0, none⟩ = some (.int .u64 s) → Calls Try.prog 49 #[.int .u8 (fm b), .int .u64 x, .func (Fn.func 53) #[] #[.pointer (some ⟨g, 0, none⟩)]] W fun e w' => e = .returned (.tuple #[.int .u64 (csx b x s), .int .i64 0]) ∧ Below W.heap.size W w' := by
    intro W g hg
    unfold csx
    by_cases c : inf b < sz b x
    · rw [if_pos c]; exact wChanged_nan b x h c _ W
    · rw [if_neg c]
      refine wChanged_CopySignC b x h (by omega) g W _ 0 (fun W2 hW => ?_)
      exact wCopied b x s h hs g W2 ((hW.cell (p := ⟨g, 0, none⟩) (World.block_lt_of_cell? W _ hg)).trans hg)
  have HH := Hide.mk H
  clear H
  generalize csx b x s = y at *
  go_enter Try.func31, Try.ntmps31
  go_wp2_with fail
  refine (wGood b s hs _).mono ?_
  rintro e w2 ⟨rfl, h2⟩
  have B2 := B1.keep h2
  have q0 : w2.cell? ⟨w.heap.size, 0, none⟩ = some (.int .u64 s) := B2.cell w.heap.size _ _ (.head _) 0
  have H3 := Hide.mk (HH.out w2 w.heap.size q0)
  clear h2 B1 HH
  go_wp2_with fail
  refine H3.out.mono ?_
  rintro e w3 ⟨rfl, h3⟩
  have B3 := B2.keep h3
  clear h3 B2 H3 q0
  go_wp2
  go_ret2
  exact ⟨rfl, B3.bel⟩
theorem wCopySign_err (f x s c : Int) (h : GE f s c) (w : World) :
    Calls Try.prog 31 #[.int .u8 f, .int .u64 x, .int .u64 s] w fun e w' => e = .returned (.tuple #[.int .u64 0, .int .i64 c]) ∧ Below w.heap.size w w' := by
  have B1 := (Bx.nil w).push (.cells #[.int .u64 s] 23 (0, 0))
  have hc := h.ne
  go_enter Try.func31, Try.ntmps31
  go_wp2_with fail
  refine (wGood_err f s c h _).mono ?_
  rintro e w2 ⟨rfl, h2⟩
  have B2 := B1.keep h2
  clear h2 B1 h
  go_wp2
  go_ret2
  exact ⟨rfl, B2.bel⟩
theorem wCopySign_err2 (b : Bool) (x s c : Int) (hs : Ok b s) (h : GE (fm b) x c) (w : World) :
    Calls Try.prog 31 #[.int .u8 (fm b), .int .u64 x, .int .u64 s] w fun e w' => e = .returned (.tuple #[.int .u64 0, .int .i64 c]) ∧ Below w.heap.size w w' := by
  have B1 := (Bx.nil w).push (.cells #[.int .u64 s] 23 (0, 0))
  have HH : ∀ W, Hide (Calls Try.prog 49 #[.int .u8 (fm b), .int .u64 x, .func (Fn.func 53) #[] #[.pointer (some ⟨w.heap.size, 0, none⟩)]] W fun e w' => e = .returned (.tuple #[.int .u64 0, .int .i64 c]) ∧ Below W.heap.size W w') := fun W => ⟨wChanged_err _ x c h _ W⟩
  clear h
  go_enter Try.func31, Try.ntmps31
  go_wp2_with fail
  refine (wGood b s hs _).mono ?_
  rintro e w2 ⟨rfl, h2⟩
  have B2 := B1.keep h2
  have H3 := HH w2
  clear h2 B1 HH
  go_wp2_with fail
  refine H3.out.mono ?_
  rintro e w3 ⟨rfl, h3⟩
  have B3 := B2.keep h3
  clear h3 B2 H3
  go_wp2
  go_ret2
  exact ⟨rfl, B3.bel⟩
end Go.Proofs.Ytioiakemmhfhkaa
