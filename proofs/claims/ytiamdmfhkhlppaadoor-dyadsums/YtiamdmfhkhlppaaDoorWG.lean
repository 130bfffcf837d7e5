import Derived.Test.YtiamdmfhkhlppaaDoorWF
import Derived.Test.YtiamdmfhkhlppaaDoorWC
namespace Go.Proofs.YtiamdmfhkhlppaaDoor
open Go.RowKit Go.Wd Go.Box
set_option linter.unusedVariables false
set_option maxRecDepth 3000
/-- How many units a finite word is in size, and the unit's exponent. -/
def un (b : Bool) (x : Int) : Int := if fd b x = 0 then fn b x else fr b + fn b x
def ue (b : Bool) (x : Int) : Int := max (fd b x - 1) 0 + lo b
theorem fn_bd (b : Bool) (x : Int) : 0 ≤ fn b x ∧ fn b x < fr b := ⟨Int.emod_nonneg _ (by have := fr_pos b; omega), Int.emod_lt_of_pos _ (fr_pos b)⟩
theorem un_bd (b : Bool) (x : Int) : 0 ≤ un b x ∧ un b x < 9007199254740992 := by
  have h := fn_bd b x
  have hf := fr_le b
  have hp := fr_pos b
  unfold un
  by_cases c : fd b x = 0
  · rw [if_pos c]; omega
  · rw [if_neg c]; omega
theorem lo_bd (b : Bool) : -1074 ≤ lo b ∧ lo b ≤ -149 := by cases b <;> decide
theorem ue_bd (b : Bool) (x : Int) : -1074 ≤ ue b x ∧ ue b x ≤ 2000 := by
  have h := fd_bd b x
  have hl := lo_bd b
  unfold ue
  omega
theorem wIsFinite (b : Bool) (x : Int) (h : Ok b x) (w : World) :
    Calls Tryd.prog 136 #[S b, .int .u64 x] w fun e w' => e = .returned (.bool (decide (sz b x < inf b))) ∧ Below w.heap.size w w' := by
  have B1 := (Bx.nil w).push (SO b)
  go_enter Tryd.func136, Tryd.ntmps136
  go_wp2_with fail
  generalize hw1 : w.alloc (SO b) = w1 at *
  clear hw1
  have HI := B1.drew
  have sh := fun W (hW : Bx w [(w.heap.size, SO b)] W) => shape_cells hW w.heap.size b (.head _)
  refine Drawn.enter (Bx w [(w.heap.size, SO b)]) (by kernel_rfl) ?_
  refine Drawn.take (i := 0) (v := ?v91) rfl (by kernel_rfl) (by kernel_rfl) (by kernel_rfl) (fun _ _ _ h => h) (by kernel_rfl) (fun W hW => ?_) HI ?_
  rotate_left
  · have ⟨e0, e1, e2, e3⟩ := sh W hW
    go_simp <;> exact rfl
  refine Drawn.take (i := 1) (v := ?v92) rfl (by kernel_rfl) (by kernel_rfl) (by kernel_rfl) (fun _ _ _ h => h) (by kernel_rfl) (fun W hW => ?_) HI ?_
  rotate_left
  · have ⟨e0, e1, e2, e3⟩ := sh W hW
    go_simp <;> exact rfl
  refine Drawn.take (i := 3) (v := ?v93) rfl (by kernel_rfl) (by kernel_rfl) (by kernel_rfl) (fun _ _ _ h => h) (by kernel_rfl) (fun W hW => ?_) HI ?_
  rotate_left
  · have ⟨e0, e1, e2, e3⟩ := sh W hW
    go_simp <;> exact rfl
  refine Drawn.one (j := 2) (by kernel_rfl) rfl (fun K hK => ?_)
  go_simp
  refine (wSize b x h _).mono ?_
  rintro e wn ⟨rfl, hn⟩
  refine hK _ _ (HI.keep hn) ?_
  clear hK K
  replace HI := HI.keep hn
  clear hn
  refine Drawn.one (j := 4) (by kernel_rfl) rfl (fun K hK => ?_)
  go_simp
  refine (wInfinite b _).mono ?_
  rintro e wn ⟨rfl, hn⟩
  refine hK _ _ (HI.keep hn) ?_
  clear hK K
  replace HI := HI.keep hn
  clear hn
  refine Drawn.take (i := 5) (v := ?v94) rfl (by kernel_rfl) (by kernel_rfl) (by kernel_rfl) (fun _ _ _ h => h) (by kernel_rfl) (fun W hW => ?_) HI ?_
  rotate_left
  · have ⟨e0, e1, e2, e3⟩ := sh W hW
    go_simp <;> exact rfl
  refine Drawn.take (i := 6) (v := ?v95) rfl (by kernel_rfl) (by kernel_rfl) (by kernel_rfl) (fun _ _ _ h => h) (by kernel_rfl) (fun W hW => ?_) HI ?_
  rotate_left
  · have ⟨e0, e1, e2, e3⟩ := sh W hW
    go_simp <;> exact rfl
  refine Drawn.done (by kernel_rfl) ?_
  try go_simp
  go_wp2
  go_ret
  exact ⟨rfl, HI.bel⟩
theorem wFinite (b : Bool) (x : Int) (h : Ok b x) (hf : sz b x < inf b) (w : World) :
    Calls Tryd.prog 99 #[.int .u8 (fm b), .int .u64 x] w fun e w' => e = .returned (.tuple #[S b, .int .i64 0]) ∧ Below w.heap.size w w' := by
  have B1 := (Bx.nil w).push ZO
  go_enter Tryd.func99, Tryd.ntmps99
  go_wp2_with fail
  refine (wGoodShape b x h _).mono ?_
  rintro e w2 ⟨rfl, h2⟩
  have B2 := (B1.keep h2).push (SO b)
  have hlt : w.heap.size < w2.heap.size := (B1.keep h2).lt (.head _)
  go_wp2_with fail
  refine (wIsFinite b x h _).mono ?_
  rintro e w3 ⟨rfl, h3⟩
  have B3 := B2.keep h3
  obtain ⟨⟨e0, e1, e2, e3⟩, _⟩ := cells4 B3 w2.heap.size _ _ _ _ _ (.head _)
  obtain ⟨⟨f0, f1, f2, f3⟩, r0, r1, r2, r3⟩ := cells4 B3 w.heap.size _ _ _ _ _ (.tail _ (.head _))
  rw [decide_eq_true hf]
  clear h2 h3 B1 B2 hf
  go_wp2
  have B4 := (B3.sub (L' := [(w.heap.size, ZO), (w2.heap.size, SO b)]) (by simp)).fill4 (Nat.le_refl _) (by simp; omega) (.int .i64 (bt b)) (.int .i64 (fc b)) (.int .i64 (tp b)) (.int .i64 (lo b))
  refine bodyPost_ret (results_S2 rfl _ _ w.heap.size _ rfl B4.head rfl) rfl ?_
  exact ⟨rfl, B4.bel⟩
theorem wFinite_no (b : Bool) (x : Int) (h : Ok b x) (hf : inf b ≤ sz b x) (w : World) :
    Calls Tryd.prog 99 #[.int .u8 (fm b), .int .u64 x] w fun e w' => e = .returned (.tuple #[noS, .int .i64 7]) ∧ Below w.heap.size w w' := by
  have B1 := (Bx.nil w).push ZO
  go_enter Tryd.func99, Tryd.ntmps99
  go_wp2_with fail
  refine (wGoodShape b x h _).mono ?_
  rintro e w2 ⟨rfl, h2⟩
  have B2 := (B1.keep h2).push (SO b)
  have hlt : w.heap.size < w2.heap.size := (B1.keep h2).lt (.head _)
  go_wp2_with fail
  refine (wIsFinite b x h _).mono ?_
  rintro e w3 ⟨rfl, h3⟩
  have B3 := B2.keep h3
  obtain ⟨⟨f0, f1, f2, f3⟩, r0, r1, r2, r3⟩ := cells4 B3 w.heap.size _ _ _ _ _ (.tail _ (.head _))
  rw [decide_eq_false (by omega)]
  clear h2 h3 B1 B2 hf
  go_wp2
  have B4 := (B3.sub (L' := [(w.heap.size, ZO), (w2.heap.size, SO b)]) (by simp)).fill4 (Nat.le_refl _) (by simp; omega) (.int .i64 0) (.int .i64 0) (.int .i64 0) (.int .i64 0)
  refine bodyPost_ret (results_S2 rfl _ _ w.heap.size _ rfl B4.head rfl) rfl ?_
  exact ⟨rfl, B4.bel⟩
theorem wFinite_err (f x c : Int) (h : GE f x c) (w : World) :
    Calls Tryd.prog 99 #[.int .u8 f, .int .u64 x] w fun e w' => e = .returned (.tuple #[noS, .int .i64 c]) ∧ Below w.heap.size w w' := by
  have B1 := (Bx.nil w).push ZO
  have hc := h.ne
  go_enter Tryd.func99, Tryd.ntmps99
  go_wp2_with fail
  refine (h.call _).mono ?_
  rintro e w2 ⟨rfl, h2⟩
  have B2 := B1.keep h2
  have hlt : w.heap.size < w2.heap.size := B2.lt (.head _)
  have B4 := (B2.fill4 (Nat.le_refl _) (by simp) (.int .i64 0) (.int .i64 0) (.int .i64 0) (.int .i64 0)).push ZO
  obtain ⟨⟨f0, f1, f2, f3⟩, r0, r1, r2, r3⟩ := cells4 B2 w.heap.size _ _ _ _ _ (.head _)
  clear h2 B1 h
  go_wp2
  refine bodyPost_ret (results_S2 rfl _ _ w.heap.size _ rfl B4.tail.head rfl) rfl ?_
  exact ⟨rfl, B4.bel⟩
/-- The word has no value, for the error c. -/
def VE (f x c : Int) : Prop := GE f x c ∨ (∃ b, f = fm b ∧ Ok b x ∧ inf b ≤ sz b x ∧ c = 7)
theorem VE.ne {f x c : Int} (h : VE f x c) : (c == 0) = false := by
  rcases h with h | ⟨_, _, _, _, rfl⟩
  · exact h.ne
  · rfl
theorem VE.call {f x c : Int} (h : VE f x c) (w : World) :
    Calls Tryd.prog 99 #[.int .u8 f, .int .u64 x] w fun e w' => e = .returned (.tuple #[noS, .int .i64 c]) ∧ Below w.heap.size w w' := by
  rcases h with h | ⟨b, rfl, h, h2, rfl⟩
  · exact wFinite_err f x c h w
  · exact wFinite_no b x h h2 w
theorem or_units (b : Bool) (x : Int) : bits .or .u64 (fr b % 18446744073709551616) (fn b x) = fr b + fn b x := by
  have h := fn_bd b x
  have hp := fr_pos b
  have hl := fr_le b
  rw [Int.emod_eq_of_lt (by omega) (by omega)]
  cases b
  · exact join 23 (P := fr false) (by decide) (by omega) (by decide) h.1 h.2 (by omega)
  · exact join 52 (P := fr true) (by decide) (by omega) (by decide) h.1 h.2 (by omega)
theorem wUnits (b : Bool) (x : Int) (h : Ok b x) (w : World) :
    Calls Tryd.prog 102 #[S b, .int .u64 x] w fun e w' => e = .returned (.int .u64 (un b x)) ∧ Below w.heap.size w w' := by
  have B1 := (Bx.nil w).push (SO b)
  have HA := Hide.mk (and_fr b h.1 (ok_u64 h))
  have HO := Hide.mk (or_units b x)
  go_enter Tryd.func102, Tryd.ntmps102
  go_wp2_with fail
  refine (wFracBits b _).mono ?_
  rintro e w2 ⟨rfl, h2⟩
  have B2 := B1.keep h2
  obtain ⟨e0, e1, e2, e3⟩ := shape_cells B2 w.heap.size b (.head _)
  clear h2 B1
  go_wp2_with fail
  rw [HA.out]
  refine (wField b x h _).mono ?_
  rintro e w3 ⟨rfl, h3⟩
  have B3 := B2.keep h3
  obtain ⟨e0, e1, e2, e3⟩ := shape_cells B3 w.heap.size b (.head _)
  clear h3 B2
  by_cases c : fd b x = 0
  · have HE : Hide (un b x = fn b x) := ⟨by unfold un; rw [if_pos c]⟩
    have d1 : (fd b x == 0) = true := by simp [c]
    clear c
    go_wp2
    go_ret
    exact ⟨by rw [HE.out]; rfl, B3.bel⟩
  · have HE : Hide (un b x = fr b + fn b x) := ⟨by unfold un; rw [if_neg c]⟩
    have d1 : (fd b x == 0) = false := beq_eq_false_iff_ne.2 c
    clear c
    go_wp2_with fail
    rw [shl_fc]
    go_wp2
    go_ret
    exact ⟨by rw [HE.out, ← HO.out]; rfl, B3.bel⟩
theorem wUnitExp (b : Bool) (x : Int) (h : Ok b x) (w : World) :
    Calls Tryd.prog 103 #[S b, .int .u64 x] w fun e w' => e = .returned (.int .i64 (ue b x)) ∧ Below w.heap.size w w' := by
  have B1 := (Bx.nil w).push (SO b)
  have hf := fd_bd b x
  have hl := lo_bd b
  go_enter Tryd.func103, Tryd.ntmps103
  go_wp2_with fail
  generalize hw1 : w.alloc (SO b) = w1 at *
  clear hw1
  have HI := B1.drew
  have sh := fun W (hW : Bx w [(w.heap.size, SO b)] W) => shape_cells hW w.heap.size b (.head _)
  refine Drawn.enter (Bx w [(w.heap.size, SO b)]) (by kernel_rfl) ?_
  refine Drawn.take (i := 0) (v := ?v96) rfl (by kernel_rfl) (by kernel_rfl) (by kernel_rfl) (fun _ _ _ h => h) (by kernel_rfl) (fun W hW => ?_) HI ?_
  rotate_left
  · have ⟨e0, e1, e2, e3⟩ := sh W hW
    go_simp <;> exact rfl
  refine Drawn.take (i := 1) (v := ?v97) rfl (by kernel_rfl) (by kernel_rfl) (by kernel_rfl) (fun _ _ _ h => h) (by kernel_rfl) (fun W hW => ?_) HI ?_
  rotate_left
  · have ⟨e0, e1, e2, e3⟩ := sh W hW
    go_simp <;> exact rfl
  refine Drawn.take (i := 5) (v := ?v98) rfl (by kernel_rfl) (by kernel_rfl) (by kernel_rfl) (fun _ _ _ h => h) (by kernel_rfl) (fun W hW => ?_) HI ?_
  rotate_left
  · have ⟨e0, e1, e2, e3⟩ := sh W hW
    go_simp <;> exact rfl
  refine Drawn.take (i := 6) (v := ?v99) rfl (by kernel_rfl) (by kernel_rfl) (by kernel_rfl) (fun _ _ _ h => h) (by kernel_rfl) (fun W hW => ?_) HI ?_
  rotate_left
  · have ⟨e0, e1, e2, e3⟩ := sh W hW
    go_simp <;> exact rfl
  refine Drawn.one (j := 2) (by kernel_rfl) rfl (fun K hK => ?_)
  go_simp
  refine (wField b x h _).mono ?_
  rintro e wn ⟨rfl, hn⟩
  refine hK _ _ (HI.keep hn) ?_
  clear hK K
  replace HI := HI.keep hn
  clear hn
  refine Drawn.take (i := 3) (v := .int .i64 (fd b x - 1)) rfl (by kernel_rfl) (by kernel_rfl) (by kernel_rfl) (fun _ _ _ h => h) (by kernel_rfl) (fun W hW => ?_) HI ?_
  · have ⟨e0, e1, e2, e3⟩ := sh W hW
    go_simp <;> (exact wrap_ok (by omega) (by omega))
  refine Drawn.take (i := 4) (v := ?v100) rfl (by kernel_rfl) (by kernel_rfl) (by kernel_rfl) (fun _ _ _ h => h) (by kernel_rfl) (fun W hW => ?_) HI ?_
  rotate_left
  · have ⟨e0, e1, e2, e3⟩ := sh W hW
    go_simp <;> exact rfl
  refine Drawn.take (i := 7) (v := .int .i64 (ue b x)) rfl (by kernel_rfl) (by kernel_rfl) (by kernel_rfl) (fun _ _ _ h => h) (by kernel_rfl) (fun W hW => ?_) HI ?_
  · have ⟨e0, e1, e2, e3⟩ := sh W hW
    go_simp <;> (exact wrap_ok (by have := ue_bd b x; unfold ue at this; omega) (by have := ue_bd b x; unfold ue at this; omega))
  refine Drawn.take (i := 8) (v := ?v101) rfl (by kernel_rfl) (by kernel_rfl) (by kernel_rfl) (fun _ _ _ h => h) (by kernel_rfl) (fun W hW => ?_) HI ?_
  rotate_left
  · have ⟨e0, e1, e2, e3⟩ := sh W hW
    go_simp <;> exact rfl
  refine Drawn.done (by kernel_rfl) ?_
  try go_simp
  go_wp2
  go_ret
  exact ⟨rfl, HI.bel⟩
end Go.Proofs.YtiamdmfhkhlppaaDoor
