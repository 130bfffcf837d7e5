import Derived.Test.YtioiakemmhfhkaaWB
namespace Go.Proofs.Ytioiakemmhfhkaa
open Go.RowKit Go.Wd Go.Box
set_option linter.unusedVariables false
set_option maxRecDepth 3000
theorem wClassM (b : Bool) (x : Int) (h : Ok b x) (w : World) :
    Calls Try.prog 41 #[S b, .int .u64 x] w fun e w' => e = .returned (.int .u8 (cl b x)) ∧ Below w.heap.size w w' := by
  have B1 := (Bx.nil w).push (SO b)
  go_enter Try.func41, Try.ntmps41
  go_wp2_with fail
  refine (wSize b x h _).mono ?_
  rintro e w2 ⟨rfl, h2⟩
  have B2 := B1.keep h2
  obtain ⟨e0, e1, e2, e3⟩ := shape_cells B2 w.heap.size b (.head _)
  clear h2 B1
  by_cases c1 : sz b x = 0
  · have HC : Hide (cl b x = 1) := ⟨by unfold cl; rw [if_pos c1]⟩
    have d1 : (sz b x == 0) = true := by simp [c1]
    clear c1
    go_wp2
    go_ret
    exact ⟨by rw [HC.out]; rfl, B2.bel⟩
  · have d1 : (sz b x == 0) = false := beq_eq_false_iff_ne.2 c1
    go_wp2_with fail
    refine (wFracBits b _).mono ?_
    rintro e w3 ⟨rfl, h3⟩
    have B3 := B2.keep h3
    obtain ⟨e0, e1, e2, e3⟩ := shape_cells B3 w.heap.size b (.head _)
    clear h3 B2
    by_cases c2 : sz b x < fr b
    · have HC : Hide (cl b x = 2) := ⟨by unfold cl; rw [if_neg c1, if_pos c2]⟩
      have d2 : sz b x ≤ fr b - 1 := by omega
      clear c1 c2
      go_wp2
      go_ret
      exact ⟨by rw [HC.out]; rfl, B3.bel⟩
    · have d2 : fr b - 1 < sz b x := by omega
      go_wp2_with fail
      refine (wInfinite b _).mono ?_
      rintro e w4 ⟨rfl, h4⟩
      have B4 := B3.keep h4
      obtain ⟨e0, e1, e2, e3⟩ := shape_cells B4 w.heap.size b (.head _)
      clear h4 B3
      by_cases c3 : sz b x < inf b
      · have HC : Hide (cl b x = 3) := ⟨by unfold cl; rw [if_neg c1, if_neg (show ¬ sz b x < fr b by omega), if_pos c3]⟩
        clear c1 c2
        go_wp2
        go_ret
        exact ⟨by rw [HC.out]; rfl, B4.bel⟩
      · have d3 : inf b ≤ sz b x := by omega
        go_wp2_with fail
        refine (wInfinite b _).mono ?_
        rintro e w5 ⟨rfl, h5⟩
        have B5 := B4.keep h5
        clear h5 B4
        by_cases c4 : sz b x = inf b
        · have HC : Hide (cl b x = 4) := ⟨by unfold cl; rw [if_neg c1, if_neg (show ¬ sz b x < fr b by omega), if_neg (show ¬ sz b x < inf b by omega), if_pos c4]⟩
          have d4 : (sz b x == inf b) = true := by simp [c4]
          clear c1 c2 c3 c4
          go_wp2
          go_ret
          exact ⟨by rw [HC.out]; rfl, B5.bel⟩
        · have HC : Hide (cl b x = 5) := ⟨by unfold cl; rw [if_neg c1, if_neg (show ¬ sz b x < fr b by omega), if_neg (show ¬ sz b x < inf b by omega), if_neg c4]⟩
          have d4 : (sz b x == inf b) = false := beq_eq_false_iff_ne.2 c4
          clear c1 c2 c3 c4
          go_wp2
          go_ret
          exact ⟨by rw [HC.out]; rfl, B5.bel⟩
theorem wClass (b : Bool) (x : Int) (h : Ok b x) (w : World) :
    Calls Try.prog 10 #[.int .u8 (fm b), .int .u64 x] w fun e w' => e = .returned (.tuple #[.int .u8 (cl b x), .int .i64 0]) ∧ Below w.heap.size w w' := by
  go_enter Try.func10, Try.ntmps10
  go_wp2_with fail
  refine (wGoodShape b x h _).mono ?_
  rintro e w2 ⟨rfl, h2⟩
  have B2 := ((Bx.nil w).keep h2).push (SO b)
  clear h2
  go_wp2_with fail
  refine (wClassM b x h _).mono ?_
  rintro e w3 ⟨rfl, h3⟩
  have B3 := B2.keep h3
  clear h3 B2
  go_wp2
  go_ret2
  exact ⟨rfl, B3.bel⟩
theorem wClass_err (f x c : Int) (h : GE f x c) (w : World) :
    Calls Try.prog 10 #[.int .u8 f, .int .u64 x] w fun e w' => e = .returned (.tuple #[.int .u8 0, .int .i64 c]) ∧ Below w.heap.size w w' := by
  have hc := h.ne
  go_enter Try.func10, Try.ntmps10
  go_wp2_with fail
  refine (h.call _).mono ?_
  rintro e w2 ⟨rfl, h2⟩
  have B2 := ((Bx.nil w).keep h2).push ZO
  clear h2 h
  go_wp2
  go_ret2
  exact ⟨rfl, B2.bel⟩
theorem wZero (b n : Bool) (w : World) :
    Calls Try.prog 20 #[.int .u8 (fm b), .bool n] w fun e w' => e = .returned (.tuple #[.int .u64 (sd b 0 n), .int .i64 0]) ∧ Below w.heap.size w w' := by
  go_enter Try.func20, Try.ntmps20
  go_wp2_with fail
  refine (wShapeOf b _).mono ?_
  rintro e w2 ⟨rfl, h2⟩
  have B2 := ((Bx.nil w).keep h2).push (SO b)
  clear h2
  go_wp2_with fail
  refine (wSigned b 0 n (by decide) (sg_pos b) _).mono ?_
  rintro e w3 ⟨rfl, h3⟩
  have B3 := B2.keep h3
  clear h3 B2
  go_wp2
  go_ret2
  exact ⟨rfl, B3.bel⟩
theorem sg_one (b : Bool) : 1 < sg b := by cases b <;> decide
theorem wLeast (b n : Bool) (w : World) :
    Calls Try.prog 23 #[.int .u8 (fm b), .bool n] w fun e w' => e = .returned (.tuple #[.int .u64 (sd b 1 n), .int .i64 0]) ∧ Below w.heap.size w w' := by
  go_enter Try.func23, Try.ntmps23
  go_wp2_with fail
  refine (wShapeOf b _).mono ?_
  rintro e w2 ⟨rfl, h2⟩
  have B2 := ((Bx.nil w).keep h2).push (SO b)
  clear h2
  go_wp2_with fail
  refine (wSigned b 1 n (by decide) (sg_one b) _).mono ?_
  rintro e w3 ⟨rfl, h3⟩
  have B3 := B2.keep h3
  clear h3 B2
  go_wp2
  go_ret2
  exact ⟨rfl, B3.bel⟩
theorem wNoneF (b : Bool) (w : World) :
    Calls Try.prog 24 #[.int .u8 (fm b)] w fun e w' => e = .returned (.tuple #[.int .u64 (nan b), .int .i64 0]) ∧ Below w.heap.size w w' := by
  go_enter Try.func24, Try.ntmps24
  go_wp2_with fail
  refine (wShapeOf b _).mono ?_
  rintro e w2 ⟨rfl, h2⟩
  have B2 := ((Bx.nil w).keep h2).push (SO b)
  clear h2
  go_wp2_with fail
  refine (wNone b _).mono ?_
  rintro e w3 ⟨rfl, h3⟩
  have B3 := B2.keep h3
  clear h3 B2
  go_wp2
  go_ret2
  exact ⟨rfl, B3.bel⟩
theorem inf_bd (b : Bool) : 0 < inf b := by cases b <;> decide
theorem wInf (b n : Bool) (w : World) :
    Calls Try.prog 21 #[.int .u8 (fm b), .bool n] w fun e w' => e = .returned (.tuple #[.int .u64 (sd b (inf b) n), .int .i64 0]) ∧ Below w.heap.size w w' := by
  go_enter Try.func21, Try.ntmps21
  go_wp2_with fail
  refine (wShapeOf b _).mono ?_
  rintro e w2 ⟨rfl, h2⟩
  have B2 := ((Bx.nil w).keep h2).push (SO b)
  clear h2
  go_wp2_with fail
  generalize hw3 : w2.alloc (SO b) = w3 at *
  clear hw3
  have HI := B2.drew
  have sh := fun W (hW : Bx w [(w2.heap.size, SO b)] W) => shape_cells hW w2.heap.size b (.head _)
  refine Drawn.enter (Bx w [(w2.heap.size, SO b)]) (by kernel_rfl) ?_
  refine Drawn.take (i := 0) (v := ?v0) rfl (by kernel_rfl) (by kernel_rfl) (by kernel_rfl) (fun _ _ _ h => h) (by kernel_rfl) (fun W hW => ?_) HI ?_
  rotate_left
  · have ⟨e0, e1, e2, e3⟩ := sh W hW
    go_simp <;> exact rfl
  refine Drawn.take (i := 1) (v := ?v1) rfl (by kernel_rfl) (by kernel_rfl) (by kernel_rfl) (fun _ _ _ h => h) (by kernel_rfl) (fun W hW => ?_) HI ?_
  rotate_left
  · have ⟨e0, e1, e2, e3⟩ := sh W hW
    go_simp <;> exact rfl
  refine Drawn.take (i := 3) (v := ?v2) rfl (by kernel_rfl) (by kernel_rfl) (by kernel_rfl) (fun _ _ _ h => h) (by kernel_rfl) (fun W hW => ?_) HI ?_
  rotate_left
  · have ⟨e0, e1, e2, e3⟩ := sh W hW
    go_simp <;> exact rfl
  refine Drawn.one (j := 2) (by kernel_rfl) rfl (fun K hK => ?_)
  go_simp
  refine (wInfinite b _).mono ?_
  rintro e wn ⟨rfl, hn⟩
  refine hK _ _ (HI.keep hn) ?_
  clear hK K
  replace HI := HI.keep hn
  clear hn
  refine Drawn.one (j := 4) (by kernel_rfl) rfl (fun K hK => ?_)
  go_simp
  refine (wSigned b (inf b) n (Int.le_of_lt (inf_bd b)) (inf_lt b) _).mono ?_
  rintro e wn ⟨rfl, hn⟩
  refine hK _ _ (HI.keep hn) ?_
  clear hK K
  replace HI := HI.keep hn
  clear hn
  refine Drawn.take (i := 5) (v := ?v3) rfl (by kernel_rfl) (by kernel_rfl) (by kernel_rfl) (fun _ _ _ h => h) (by kernel_rfl) (fun W hW => ?_) HI ?_
  rotate_left
  · have ⟨e0, e1, e2, e3⟩ := sh W hW
    go_simp <;> exact rfl
  refine Drawn.take (i := 6) (v := ?v4) rfl (by kernel_rfl) (by kernel_rfl) (by kernel_rfl) (fun _ _ _ h => h) (by kernel_rfl) (fun W hW => ?_) HI ?_
  rotate_left
  · have ⟨e0, e1, e2, e3⟩ := sh W hW
    go_simp <;> exact rfl
  refine Drawn.done (by kernel_rfl) ?_
  try go_simp
  clear sh
  go_wp2
  go_ret2
  exact ⟨rfl, HI.bel⟩
theorem wGreatest (b n : Bool) (w : World) :
    Calls Try.prog 22 #[.int .u8 (fm b), .bool n] w fun e w' => e = .returned (.tuple #[.int .u64 (sd b (inf b - 1) n), .int .i64 0]) ∧ Below w.heap.size w w' := by
  go_enter Try.func22, Try.ntmps22
  go_wp2_with fail
  refine (wShapeOf b _).mono ?_
  rintro e w2 ⟨rfl, h2⟩
  have B2 := ((Bx.nil w).keep h2).push (SO b)
  clear h2
  go_wp2_with fail
  generalize hw3 : w2.alloc (SO b) = w3 at *
  clear hw3
  have HI := B2.drew
  have sh := fun W (hW : Bx w [(w2.heap.size, SO b)] W) => shape_cells hW w2.heap.size b (.head _)
  refine Drawn.enter (Bx w [(w2.heap.size, SO b)]) (by kernel_rfl) ?_
  refine Drawn.take (i := 0) (v := ?v5) rfl (by kernel_rfl) (by kernel_rfl) (by kernel_rfl) (fun _ _ _ h => h) (by kernel_rfl) (fun W hW => ?_) HI ?_
  rotate_left
  · have ⟨e0, e1, e2, e3⟩ := sh W hW
    go_simp <;> exact rfl
  refine Drawn.take (i := 1) (v := ?v6) rfl (by kernel_rfl) (by kernel_rfl) (by kernel_rfl) (fun _ _ _ h => h) (by kernel_rfl) (fun W hW => ?_) HI ?_
  rotate_left
  · have ⟨e0, e1, e2, e3⟩ := sh W hW
    go_simp <;> exact rfl
  refine Drawn.take (i := 4) (v := ?v7) rfl (by kernel_rfl) (by kernel_rfl) (by kernel_rfl) (fun _ _ _ h => h) (by kernel_rfl) (fun W hW => ?_) HI ?_
  rotate_left
  · have ⟨e0, e1, e2, e3⟩ := sh W hW
    go_simp <;> exact rfl
  refine Drawn.one (j := 2) (by kernel_rfl) rfl (fun K hK => ?_)
  go_simp
  refine (wInfinite b _).mono ?_
  rintro e wn ⟨rfl, hn⟩
  refine hK _ _ (HI.keep hn) ?_
  clear hK K
  replace HI := HI.keep hn
  clear hn
  refine Drawn.take (i := 3) (v := .int .u64 (inf b - 1)) rfl (by kernel_rfl) (by kernel_rfl) (by kernel_rfl) (fun _ _ _ h => h) (by kernel_rfl) (fun W hW => ?_) HI ?_
  · have ⟨e0, e1, e2, e3⟩ := sh W hW
    go_simp <;> ((cases b <;> rfl))
  refine Drawn.one (j := 5) (by kernel_rfl) rfl (fun K hK => ?_)
  go_simp
  refine (wSigned b (inf b - 1) n (by have := inf_bd b; omega) (by have := inf_lt b; omega) _).mono ?_
  rintro e wn ⟨rfl, hn⟩
  refine hK _ _ (HI.keep hn) ?_
  clear hK K
  replace HI := HI.keep hn
  clear hn
  refine Drawn.take (i := 6) (v := ?v8) rfl (by kernel_rfl) (by kernel_rfl) (by kernel_rfl) (fun _ _ _ h => h) (by kernel_rfl) (fun W hW => ?_) HI ?_
  rotate_left
  · have ⟨e0, e1, e2, e3⟩ := sh W hW
    go_simp <;> exact rfl
  refine Drawn.take (i := 7) (v := ?v9) rfl (by kernel_rfl) (by kernel_rfl) (by kernel_rfl) (fun _ _ _ h => h) (by kernel_rfl) (fun W hW => ?_) HI ?_
  rotate_left
  · have ⟨e0, e1, e2, e3⟩ := sh W hW
    go_simp <;> exact rfl
  refine Drawn.done (by kernel_rfl) ?_
  try go_simp
  clear sh
  go_wp2
  go_ret2
  exact ⟨rfl, HI.bel⟩
theorem wZero_bad (f : Int) (hf : Bad f) (n : Bool) (w : World) :
    Calls Try.prog 20 #[.int .u8 f, .bool n] w fun e w' => e = .returned (.tuple #[.int .u64 0, .int .i64 4]) ∧ Below w.heap.size w w' := by
  go_enter Try.func20, Try.ntmps20
  go_wp2_with fail
  refine (wShapeOf_bad f hf _).mono ?_
  rintro e w2 ⟨rfl, h2⟩
  have B2 := ((Bx.nil w).keep h2).push ZO
  clear h2
  go_wp2
  go_ret2
  exact ⟨rfl, B2.bel⟩
theorem wInf_bad (f : Int) (hf : Bad f) (n : Bool) (w : World) :
    Calls Try.prog 21 #[.int .u8 f, .bool n] w fun e w' => e = .returned (.tuple #[.int .u64 0, .int .i64 4]) ∧ Below w.heap.size w w' := by
  go_enter Try.func21, Try.ntmps21
  go_wp2_with fail
  refine (wShapeOf_bad f hf _).mono ?_
  rintro e w2 ⟨rfl, h2⟩
  have B2 := ((Bx.nil w).keep h2).push ZO
  clear h2
  go_wp2
  go_ret2
  exact ⟨rfl, B2.bel⟩
theorem wGreatest_bad (f : Int) (hf : Bad f) (n : Bool) (w : World) :
    Calls Try.prog 22 #[.int .u8 f, .bool n] w fun e w' => e = .returned (.tuple #[.int .u64 0, .int .i64 4]) ∧ Below w.heap.size w w' := by
  go_enter Try.func22, Try.ntmps22
  go_wp2_with fail
  refine (wShapeOf_bad f hf _).mono ?_
  rintro e w2 ⟨rfl, h2⟩
  have B2 := ((Bx.nil w).keep h2).push ZO
  clear h2
  go_wp2
  go_ret2
  exact ⟨rfl, B2.bel⟩
theorem wLeast_bad (f : Int) (hf : Bad f) (n : Bool) (w : World) :
    Calls Try.prog 23 #[.int .u8 f, .bool n] w fun e w' => e = .returned (.tuple #[.int .u64 0, .int .i64 4]) ∧ Below w.heap.size w w' := by
  go_enter Try.func23, Try.ntmps23
  go_wp2_with fail
  refine (wShapeOf_bad f hf _).mono ?_
  rintro e w2 ⟨rfl, h2⟩
  have B2 := ((Bx.nil w).keep h2).push ZO
  clear h2
  go_wp2
  go_ret2
  exact ⟨rfl, B2.bel⟩
theorem wNone_bad (f : Int) (hf : Bad f) (n : Bool) (w : World) :
    Calls Try.prog 24 #[.int .u8 f] w fun e w' => e = .returned (.tuple #[.int .u64 0, .int .i64 4]) ∧ Below w.heap.size w w' := by
  go_enter Try.func24, Try.ntmps24
  go_wp2_with fail
  refine (wShapeOf_bad f hf _).mono ?_
  rintro e w2 ⟨rfl, h2⟩
  have B2 := ((Bx.nil w).keep h2).push ZO
  clear h2
  go_wp2
  go_ret2
  exact ⟨rfl, B2.bel⟩
end Go.Proofs.Ytioiakemmhfhkaa
