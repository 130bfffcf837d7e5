import Derived.Test.YtgfpbmjknknflaaRankExtremesPart4
namespace Go.Proofs.Ytgfpbmjknknflaa
open Go.RowKit Go.Wd Go.Box
set_option linter.unusedVariables false
set_option maxRecDepth 3000
theorem inf_bd (b : Bool) : 0 < inf b := by cases b <;> decide
theorem wClassM (b : Bool) (x : Int) (h : Ok b x) (w : World) :
    Calls Try.prog 80 #[S b, .int .u64 x] w fun e w' => e = .returned (.int .u8 (cl b x)) ∧ Below w.heap.size w w' := by
  have B1 := (Bx.nil w).push (SO b)
  go_enter Try.func80, Try.ntmps80
  go_wp2_with fail
  refine (wSize b x h _).mono ?_
  rintro e w2 ⟨rfl, h2⟩
  have B2 := B1.keep h2
  obtain ⟨e0, e1, e2, e3⟩ := shape_cells B2 w.heap.size b (.head _)
  clear h2 B1
  by_cases c1 : sz b x = 0
  · have HC : Hide (cl b x = 1) := ⟨by unfold cl; rw [if_pos c1]⟩
    have d1 : (sz b x == 0) = true := by simp [c1]
    clear c1
    go_wp2
    go_ret
    exact ⟨by rw [HC.out]; rfl, B2.bel⟩
  · have d1 : (sz b x == 0) = false := beq_eq_false_iff_ne.2 c1
    go_wp2_with fail
    refine (wFracBits b _).mono ?_
    rintro e w3 ⟨rfl, h3⟩
    have B3 := B2.keep h3
    obtain ⟨e0, e1, e2, e3⟩ := shape_cells B3 w.heap.size b (.head _)
    clear h3 B2
    by_cases c2 : sz b x < fr b
    · have HC : Hide (cl b x = 2) := ⟨by unfold cl; rw [if_neg c1, if_pos c2]⟩
      have d2 : sz b x ≤ fr b - 1 := by omega
      clear c1 c2
      go_wp2
      go_ret
      exact ⟨by rw [HC.out]; rfl, B3.bel⟩
    · have d2 : fr b - 1 < sz b x := by omega
      go_wp2_with fail
      refine (wInfinite b _).mono ?_
      rintro e w4 ⟨rfl, h4⟩
      have B4 := B3.keep h4
      obtain ⟨e0, e1, e2, e3⟩ := shape_cells B4 w.heap.size b (.head _)
      clear h4 B3
      by_cases c3 : sz b x < inf b
      · have HC : Hide (cl b x = 3) := ⟨by unfold cl; rw [if_neg c1, if_neg (show ¬ sz b x < fr b by omega), if_pos c3]⟩
        clear c1 c2
        go_wp2
        go_ret
        exact ⟨by rw [HC.out]; rfl, B4.bel⟩
      · have d3 : inf b ≤ sz b x := by omega
        go_wp2_with fail
        refine (wInfinite b _).mono ?_
        rintro e w5 ⟨rfl, h5⟩
        have B5 := B4.keep h5
        clear h5 B4
        by_cases c4 : sz b x = inf b
        · have HC : Hide (cl b x = 4) := ⟨by unfold cl; rw [if_neg c1, if_neg (show ¬ sz b x < fr b by omega), if_neg (show ¬ sz b x < inf b by omega), if_pos c4]⟩
          have d4 : (sz b x == inf b) = true := by simp [c4]
          clear c1 c2 c3 c4
          go_wp2
          go_ret
          exact ⟨by rw [HC.out]; rfl, B5.bel⟩
        · have HC : Hide (cl b x = 5) := ⟨by unfold cl; rw [if_neg c1, if_neg (show ¬ sz b x < fr b by omega), if_neg (show ¬ sz b x < inf b by omega), if_neg c4]⟩
          have d4 : (sz b x == inf b) = false := beq_eq_false_iff_ne.2 c4
          clear c1 c2 c3 c4
          go_wp2
          go_ret
          exact ⟨by rw [HC.out]; rfl, B5.bel⟩
theorem wClass (b : Bool) (x : Int) (h : Ok b x) (w : World) :
    Calls Try.prog 62 #[.int .u8 (fm b), .int .u64 x] w fun e w' => e = .returned (.tuple #[.int .u8 (cl b x), .int .i64 0]) ∧ Below w.heap.size w w' := by
  go_enter Try.func62, Try.ntmps62
  go_wp2_with fail
  refine (wGoodShape b x h _).mono ?_
  rintro e w2 ⟨rfl, h2⟩
  have B2 := ((Bx.nil w).keep h2).push (SO b)
  clear h2
  go_wp2_with fail
  refine (wClassM b x h _).mono ?_
  rintro e w3 ⟨rfl, h3⟩
  have B3 := B2.keep h3
  clear h3 B2
  go_wp2
  go_ret2
  exact ⟨rfl, B3.bel⟩
theorem wClass_err (f x c : Int) (h : GE f x c) (w : World) :
    Calls Try.prog 62 #[.int .u8 f, .int .u64 x] w fun e w' => e = .returned (.tuple #[.int .u8 0, .int .i64 c]) ∧ Below w.heap.size w w' := by
  have hc := h.ne
  go_enter Try.func62, Try.ntmps62
  go_wp2_with fail
  refine (h.call _).mono ?_
  rintro e w2 ⟨rfl, h2⟩
  have B2 := ((Bx.nil w).keep h2).push ZO
  clear h2 h
  go_wp2
  go_ret2
  exact ⟨rfl, B2.bel⟩
theorem wNoneF (b : Bool) (w : World) :
    Calls Try.prog 48 #[.int .u8 (fm b)] w fun e w' => e = .returned (.tuple #[.int .u64 (nan b), .int .i64 0]) ∧ Below w.heap.size w w' := by
  go_enter Try.func48, Try.ntmps48
  go_wp2_with fail
  refine (wShapeOf b _).mono ?_
  rintro e w2 ⟨rfl, h2⟩
  have B2 := ((Bx.nil w).keep h2).push (SO b)
  clear h2
  go_wp2_with fail
  refine (wNone b _).mono ?_
  rintro e w3 ⟨rfl, h3⟩
  have B3 := B2.keep h3
  clear h3 B2
  go_wp2
  go_ret2
  exact ⟨rfl, B3.bel⟩
end Go.Proofs.Ytgfpbmjknknflaa

namespace Go.Proofs.Ytgfpbmjknknflaa
open Go.RowKit Go.Wd Go.Box
set_option linter.unusedVariables false
set_option maxRecDepth 3000
theorem wChanged_nan (b : Bool) (x : Int) (h : Ok b x) (hn : inf b < sz b x) (v : Value) (w : World) :
    Calls Try.prog 69 #[.int .u8 (fm b), .int .u64 x, v] w fun e w' => e = .returned (.tuple #[.int .u64 (nan b), .int .i64 0]) ∧ Below w.heap.size w w' := by
  go_enter Try.func69, Try.ntmps69
  go_wp2_with fail
  refine (wGoodShape b x h _).mono ?_
  rintro e w2 ⟨rfl, h2⟩
  have B2 := ((Bx.nil w).keep h2).push (SO b)
  clear h2
  go_wp2_with fail
  refine (wIsNaN b x h _).mono ?_
  rintro e w3 ⟨rfl, h3⟩
  have B3 := B2.keep h3
  obtain ⟨e0, e1, e2, e3⟩ := shape_cells B3 w2.heap.size b (.head _)
  clear h3 B2
  rw [decide_eq_true hn]
  clear hn
  go_wp2_with fail
  refine (wNone b _).mono ?_
  rintro e w4 ⟨rfl, h4⟩
  have B4 := B3.keep h4
  clear h4 B3 e0 e1 e2 e3
  go_wp2
  go_ret2
  exact ⟨rfl, B4.bel⟩
theorem wChanged_unsigned (b : Bool) (x : Int) (h : Ok b x) (hn : sz b x ≤ inf b) (w : World) (y c : Int)
    (H : ∀ W, Below w.heap.size w W → Calls Try.prog 84 #[S b, .int .u64 x] W fun e w' => e = .returned (.tuple #[.int .u64 y, .int .i64 c]) ∧ Below W.heap.size W w') :
    Calls Try.prog 69 #[.int .u8 (fm b), .int .u64 x, .func (Fn.func 84) #[] #[]] w fun e w' => e = .returned (.tuple #[.int .u64 y, .int .i64 c]) ∧ Below w.heap.size w w' := by
  go_enter Try.func69, Try.ntmps69
  go_wp2_with fail
  refine (wGoodShape b x h _).mono ?_
  rintro e w2 ⟨rfl, h2⟩
  have B2 := ((Bx.nil w).keep h2).push (SO b)
  clear h2
  go_wp2_with fail
  refine (wIsNaN b x h _).mono ?_
  rintro e w3 ⟨rfl, h3⟩
  have B3 := B2.keep h3
  obtain ⟨e0, e1, e2, e3⟩ := shape_cells B3 w2.heap.size b (.head _)
  clear h3 B2
  rw [decide_eq_false (by omega)]
  clear hn
  have H3 := Hide.mk (H w3 B3.bel)
  clear H
  go_wp2_with fail
  refine H3.out.mono ?_
  rintro e w4 ⟨rfl, h4⟩
  have B4 := B3.keep h4
  clear h4 B3 e0 e1 e2 e3 H3
  go_wp2
  go_ret2
  exact ⟨rfl, B4.bel⟩
/-- The word with the other sign. -/
def fl (b : Bool) (x : Int) : Int := if sg b ≤ x then x - sg b else x + sg b
/-- One step up of a word that is no NaN, and the error. -/
def upr (b : Bool) (x : Int) : Int × Int := if x = inf b then (0, 7) else (up b x, 0)
end Go.Proofs.Ytgfpbmjknknflaa

namespace Go.Proofs.Ytgfpbmjknknflaa
open Go.RowKit Go.Wd Go.Box
set_option linter.unusedVariables false
set_option maxRecDepth 3000
/-- Up, down: the word and the error. -/
def upx (b : Bool) (x : Int) : Int × Int := if inf b < sz b x then (nan b, 0) else if x = inf b then (0, 7) else (up b x, 0)
def dnx (b : Bool) (x : Int) : Int × Int := if inf b < sz b x then (nan b, 0) else if fl b x = inf b then (0, 7) else (fl b (up b (fl b x)), 0)
def cnx (b : Bool) (x : Int) : Int := if inf b < sz b x then nan b else x
def ngx (b : Bool) (x : Int) : Int := if inf b < sz b x then nan b else fl b x
def abx (b : Bool) (x : Int) : Int := if inf b < sz b x then nan b else sz b x
def csx (b : Bool) (x s : Int) : Int := if inf b < sz b x then nan b else sd b (sz b x) (ng b s)
theorem wUnsigned (b : Bool) (x : Int) (h : Ok b x) (w : World) :
    Calls Try.prog 84 #[S b, .int .u64 x] w fun e w' => e = .returned (.tuple #[.int .u64 (sz b x), .int .i64 0]) ∧ Below w.heap.size w w' := by
  have B1 := (Bx.nil w).push (SO b)
  go_enter Try.func84, Try.ntmps84
  go_wp2_with fail
  refine (wSize b x h _).mono ?_
  rintro e w3 ⟨rfl, h3⟩
  have B3 := B1.keep h3
  clear h3 B1
  go_wp2
  go_ret2
  exact ⟨rfl, B3.bel⟩
theorem wAbs (b : Bool) (x : Int) (h : Ok b x) (w : World) :
    Calls Try.prog 64 #[.int .u8 (fm b), .int .u64 x] w fun e w' => e = .returned (.tuple #[.int .u64 (abx b x), .int .i64 0]) ∧ Below w.heap.size w w' := by
  have H : Calls Try.prog 69 #[.int .u8 (fm b), .int .u64 x, .func (Fn.func 84) #[] #[]] w fun e w' => e = .returned (.tuple #[.int .u64 (abx b x), .int .i64 0]) ∧ Below w.heap.size w w' := by
    unfold abx
    by_cases c : inf b < sz b x
    · rw [if_pos c]; exact wChanged_nan b x h c _ w
    · rw [if_neg c]
      exact wChanged_unsigned b x h (by omega) w _ 0 (fun W _ => wUnsigned b x h W)
  have HH := Hide.mk H
  clear H
  generalize abx b x = y at *
  go_enter Try.func64, Try.ntmps64
  go_wp2_with fail
  refine HH.out.mono ?_
  rintro e w2 ⟨rfl, h2⟩
  clear HH
  go_wp2
  go_ret2
  exact ⟨rfl, h2⟩
end Go.Proofs.Ytgfpbmjknknflaa

namespace Go.Proofs.Ytgfpbmjknknflaa
open Go.RowKit Go.Wd Go.Box
set_option linter.unusedVariables false
set_option maxRecDepth 3000

theorem fields_cells {w W : World} {L : List (Nat × Obj)} (h : Bx w L W) (g : Nat) (n : Bool) (e f : Int) (hm : (g, FO n e f) ∈ L) :
    W.cell? ⟨g, 0, none⟩ = some (.bool n) ∧ W.cell? ⟨g, 1, none⟩ = some (.int .i64 e) ∧ W.cell? ⟨g, 2, none⟩ = some (.int .u64 f) :=
  ⟨h.cell g _ _ hm 0, h.cell g _ _ hm 1, h.cell g _ _ hm 2⟩
theorem tp_bd (b : Bool) : 0 < tp b ∧ tp b ≤ 2047 := by cases b <;> decide
theorem fr_le (b : Bool) : fr b ≤ 4503599627370496 := by cases b <;> decide
theorem fields_lt (b : Bool) {E F : Int} (h0 : 0 ≤ E) (h1 : E ≤ tp b) (h2 : 0 ≤ F) (h3 : F < fr b) : 0 ≤ E * fr b + F ∧ E * fr b + F < sg b ∧ E * fr b < 18446744073709551616 ∧ 0 ≤ E * fr b := by
  cases b <;> simp only [tp, fr, sg] at * <;> omega
end Go.Proofs.Ytgfpbmjknknflaa

namespace Go.Proofs.Ytgfpbmjknknflaa
open Go.RowKit Go.Wd Go.Box
set_option linter.unusedVariables false
set_option maxRecDepth 3000
theorem rFrac (b : Bool) (w : World) :
    Calls Try.prog 61 #[.int .u8 (fm b)] w fun e w' => e = .returned (.int .i64 (fc b)) ∧ Below w.heap.size w w' := by
  cases b
  · rw [show fm false = 1 from rfl]
    go_enter Try.func61, Try.ntmps61
    go_wp2
    go_ret
    exact ⟨rfl, Below.refl _ _⟩
  · rw [show fm true = 2 from rfl]
    go_enter Try.func61, Try.ntmps61
    go_wp2
    go_ret
    exact ⟨rfl, Below.refl _ _⟩
theorem rMost (b : Bool) (w : World) :
    Calls Try.prog 45 #[.int .u8 (fm b)] w fun e w' => e = .returned (.int .i64 (tp b)) ∧ Below w.heap.size w w' := by
  cases b
  · rw [show fm false = 1 from rfl]
    go_enter Try.func45, Try.ntmps45
    go_wp2
    go_ret
    exact ⟨rfl, Below.refl _ _⟩
  · rw [show fm true = 2 from rfl]
    go_enter Try.func45, Try.ntmps45
    go_wp2
    go_ret
    exact ⟨rfl, Below.refl _ _⟩
theorem rSign (b : Bool) (w : World) :
    Calls Try.prog 33 #[.int .u8 (fm b)] w fun e w' => e = .returned (.int .u64 (sg b)) ∧ Below w.heap.size w w' := by
  cases b
  · rw [show fm false = 1 from rfl]
    go_enter Try.func33, Try.ntmps33
    go_wp2
    go_ret
    exact ⟨rfl, Below.refl _ _⟩
  · rw [show fm true = 2 from rfl]
    go_enter Try.func33, Try.ntmps33
    go_wp2
    go_ret
    exact ⟨rfl, Below.refl _ _⟩
theorem rIs (b : Bool) (w : World) :
    Calls Try.prog 28 #[.int .u8 (fm b)] w fun e w' => e = .returned (.bool true) ∧ Below w.heap.size w w' := by
  cases b
  · rw [show fm false = 1 from rfl]
    go_enter Try.func28, Try.ntmps28
    go_wp2
    go_ret
    exact ⟨rfl, Below.refl _ _⟩
  · rw [show fm true = 2 from rfl]
    go_enter Try.func28, Try.ntmps28
    go_wp2
    go_ret
    exact ⟨rfl, Below.refl _ _⟩
theorem rIs_bad (f : Int) (h : Bad f) (w : World) :
    Calls Try.prog 28 #[.int .u8 f] w fun e w' => e = .returned (.bool false) ∧ Below w.heap.size w w' := by
  have h1 : (f == 1) = false := beq_eq_false_iff_ne.2 h.1
  have h2 : (f == 2) = false := beq_eq_false_iff_ne.2 h.2
  go_enter Try.func28, Try.ntmps28
  go_wp2
  go_ret
  exact ⟨rfl, Below.refl _ _⟩
theorem rGood (b : Bool) (x : Int) (h : Ok b x) (w : World) :
    Calls Try.prog 37 #[.int .u8 (fm b), .int .u64 x] w fun e w' => e = .returned (.int .i64 0) ∧ Below w.heap.size w w' := by
  have h0 := h.1
  have h1 := h.2
  cases b
  · rw [show fm false = 1 from rfl]
    have h2 : x < 4294967296 := h1
    go_enter Try.func37, Try.ntmps37
    go_wp2
    go_ret
    exact ⟨rfl, Below.refl _ _⟩
  · rw [show fm true = 2 from rfl]
    go_enter Try.func37, Try.ntmps37
    go_wp2
    go_ret
    exact ⟨rfl, Below.refl _ _⟩
theorem u64_long {b : Bool} {x : Int} (h : 2 * sg b ≤ x) (hx : x < 18446744073709551616) : b = false ∧ 4294967296 ≤ x := by
  cases b <;> simp only [sg] at h
  · exact ⟨rfl, by omega⟩
  · omega
theorem rGood_err (f x c : Int) (h : GE f x c) (hx : x < 18446744073709551616) (w : World) :
    Calls Try.prog 37 #[.int .u8 f, .int .u64 x] w fun e w' => e = .returned (.int .i64 c) ∧ Below w.heap.size w w' := by
  rcases h with ⟨h, rfl⟩ | ⟨b, rfl, h, rfl⟩
  · have h1 : (f == 1) = false := beq_eq_false_iff_ne.2 h.1
    have h2 : (f == 2) = false := beq_eq_false_iff_ne.2 h.2
    go_enter Try.func37, Try.ntmps37
    go_wp2
    go_ret
    exact ⟨rfl, Below.refl _ _⟩
  · obtain ⟨rfl, h3⟩ := u64_long h hx
    rw [show fm false = 1 from rfl]
    go_enter Try.func37, Try.ntmps37
    go_wp2
    go_ret
    exact ⟨rfl, Below.refl _ _⟩
theorem rSplit (b : Bool) (x : Int) (h : Ok b x) (w : World) :
    Calls Try.prog 40 #[.int .u8 (fm b), .int .u64 x] w fun e w' => e = .returned (FV (ng b x) (fd b x) (fn b x)) ∧ Below w.heap.size w w' := by
  have h0 := h.1
  have h1 := h.2
  cases b
  · rw [show fm false = 1 from rfl]
    simp only [sg] at h1
    have B2 := ((Bx.nil w).push (FO (decide (2147483648 ≤ x)) (x % 2147483648 / 8388608) (x % 8388608))).push (FO (decide (2147483648 ≤ x)) (x % 2147483648 / 8388608) (x % 8388608))
    go_enter Try.func40, Try.ntmps40
    go_wp2
    refine bodyPost_ret (results_F1 rfl _ _ w.heap.size _ rfl B2.tail.head rfl) rfl ?_
    exact ⟨rfl, B2.bel⟩
  · rw [show fm true = 2 from rfl]
    simp only [sg] at h1
    have B2 := ((Bx.nil w).push (FO (decide (9223372036854775808 ≤ x)) (x % 9223372036854775808 / 4503599627370496) (x % 4503599627370496))).push (FO (decide (9223372036854775808 ≤ x)) (x % 9223372036854775808 / 4503599627370496) (x % 4503599627370496))
    go_enter Try.func40, Try.ntmps40
    go_wp2
    refine bodyPost_ret (results_F1 rfl _ _ w.heap.size _ rfl B2.tail.head rfl) rfl ?_
    exact ⟨rfl, B2.bel⟩
theorem cl_1 (b : Bool) (x : Int) : sz b x = 0 ↔ fd b x = 0 ∧ fn b x = 0 := by
  cases b <;> simp only [sz, fd, fn, sg, fr] <;> omega
theorem cl_2 (b : Bool) (x : Int) : sz b x < fr b ↔ fd b x = 0 := by
  have := sz_bd b x
  cases b <;> simp only [sz, fd, sg, fr] at * <;> omega
theorem cl_3 (b : Bool) (x : Int) : sz b x < inf b ↔ fd b x < tp b := by
  have := sz_bd b x
  cases b <;> simp only [sz, fd, sg, fr, inf, tp] at * <;> omega
theorem cl_4 (b : Bool) (x : Int) (h : ¬ fd b x < tp b) : sz b x = inf b ↔ fn b x = 0 := by
  have := sz_bd b x
  cases b <;> simp only [sz, fd, fn, sg, fr, inf, tp] at * <;> omega
theorem cl_5 (b : Bool) (x : Int) : cl b x = 5 ↔ inf b < sz b x := by
  have h1 := cl_2 b x
  have := sz_bd b x
  have hi : fr b ≤ inf b := by cases b <;> decide
  have hf := fr_pos b
  unfold cl
  by_cases c1 : sz b x = 0
  · rw [if_pos c1]; omega
  · rw [if_neg c1]
    by_cases c2 : sz b x < fr b
    · rw [if_pos c2]; omega
    · rw [if_neg c2]
      by_cases c3 : sz b x < inf b
      · rw [if_pos c3]; omega
      · rw [if_neg c3]
        by_cases c4 : sz b x = inf b
        · rw [if_pos c4]; omega
        · rw [if_neg c4]; omega
set_option maxHeartbeats 1000000 in
theorem rClass (b : Bool) (x : Int) (h : Ok b x) (w : World) :
    Calls Try.prog 23 #[.int .u8 (fm b), .int .u64 x] w fun e w' => e = .returned (.int .u8 (cl b x)) ∧ Below w.heap.size w w' := by
  have k1 := cl_1 b x
  have k2 := cl_2 b x
  have k3 := cl_3 b x
  have k4 := cl_4 b x
  have HF := Hide.mk (fd_bd b x)
  have HC : Hide (cl b x = if fd b x = 0 ∧ fn b x = 0 then 1 else if fd b x = 0 then 2 else if fd b x < tp b then 3 else if fn b x = 0 then 4 else 5) := ⟨by
    unfold cl
    by_cases c1 : sz b x = 0
    · rw [if_pos c1, if_pos (k1.1 c1)]
    · rw [if_neg c1, if_neg (fun hh => c1 (k1.2 hh))]
      by_cases c2 : sz b x < fr b
      · rw [if_pos c2, if_pos (k2.1 c2)]
      · rw [if_neg c2, if_neg (fun hh => c2 (k2.2 hh))]
        by_cases c3 : sz b x < inf b
        · rw [if_pos c3, if_pos (k3.1 c3)]
        · rw [if_neg c3, if_neg (fun hh => c3 (k3.2 hh))]
          have k5 := k4 (fun hh => c3 (k3.2 hh))
          by_cases c4 : sz b x = inf b
          · rw [if_pos c4, if_pos (k5.1 c4)]
          · rw [if_neg c4, if_neg (fun hh => c4 (k5.2 hh))]⟩
  clear k1 k2 k3 k4
  have HS := Hide.mk (rSplit b x h w)
  clear h
  generalize ng b x = n at *
  generalize fd b x = E at *
  generalize fn b x = F at *
  generalize cl b x = C at *
  go_enter Try.func23, Try.ntmps23
  go_wp2_with fail
  refine HS.out.mono ?_
  rintro e w2 ⟨rfl, h2⟩
  have B2 := ((Bx.nil w).keep h2).push (FO n E F)
  clear h2 HS
  by_cases c1 : E = 0
  · have d1 : (E == 0) = true := by simp [c1]
    by_cases c2 : F = 0
    · have d2 : (F == 0) = true := by simp [c2]
      have HD : Hide (C = 1) := ⟨by rw [HC.out, if_pos ⟨c1, c2⟩]⟩
      clear c1 c2 HC HF
      go_wp2
      go_ret
      exact ⟨by rw [HD.out]; rfl, B2.bel⟩
    · have d2 : (F == 0) = false := beq_eq_false_iff_ne.2 c2
      have HD : Hide (C = 2) := ⟨by rw [HC.out, if_neg (fun hh => c2 hh.2), if_pos c1]⟩
      clear c1 c2 HC HF
      go_wp2
      go_ret
      exact ⟨by rw [HD.out]; rfl, B2.bel⟩
  · have d1 : (E == 0) = false := beq_eq_false_iff_ne.2 c1
    go_wp2_with fail
    generalize hw3 : w2.alloc (FO n E F) = w3 at *
    clear hw3
    have HI := B2.drew
    have sh := fun W (hW : Bx w [(w2.heap.size, FO n E F)] W) => fields_cells hW w2.heap.size n E F (.head _)
    refine Drawn.enter (Bx w [(w2.heap.size, FO n E F)]) (by kernel_rfl) ?_
    refine Drawn.tk (i := 0) (v := ?v27) rfl (fun W hW => ?_) HI ?_
    rotate_left
    · have ⟨q0, q1, q2⟩ := sh W hW
      go_simp <;> exact rfl
    refine Drawn.tk (i := 1) (v := ?v28) rfl (fun W hW => ?_) HI ?_
    rotate_left
    · have ⟨q0, q1, q2⟩ := sh W hW
      go_simp <;> exact rfl
    refine Drawn.tk (i := 2) (v := ?v29) rfl (fun W hW => ?_) HI ?_
    rotate_left
    · have ⟨q0, q1, q2⟩ := sh W hW
      go_simp <;> exact rfl
    refine Drawn.one (j := 3) (by kernel_rfl) rfl (fun K hK => ?_)
    go_simp
    refine (rMost b _).mono ?_
    rintro e wn ⟨rfl, hn⟩
    refine hK _ _ (HI.keep hn) ?_
    clear hK K
    replace HI := HI.keep hn
    clear hn
    by_cases c2 : E < tp b
    · have HD : Hide (C = 3) := ⟨by rw [HC.out, if_neg (fun hh => c1 hh.1), if_neg c1, if_pos c2]⟩
      refine Drawn.tk (i := 4) (v := .bool true) rfl (fun W hW => ?_) HI ?_
      · have ⟨q0, q1, q2⟩ := sh W hW
        go_simp <;> (simp [c2])
      refine Drawn.done (by kernel_rfl) ?_
      try go_simp
      clear sh c1 c2 HC HF
      go_wp2
      go_ret
      exact ⟨by rw [HD.out]; rfl, HI.bel⟩
    · refine Drawn.tk (i := 4) (v := .bool false) rfl (fun W hW => ?_) HI ?_
      · have ⟨q0, q1, q2⟩ := sh W hW
        go_simp <;> (first | omega | (simp; omega))
      refine Drawn.done (by kernel_rfl) ?_
      try go_simp
      obtain ⟨q0, q1, q2⟩ := sh _ HI
      clear sh
      by_cases c3 : F = 0
      · have HD : Hide (C = 4) := ⟨by rw [HC.out, if_neg (fun hh => c1 hh.1), if_neg c1, if_neg c2, if_pos c3]⟩
        have d3 : (F == 0) = true := by simp [c3]
        clear c1 c2 c3 HC HF
        go_wp2
        go_ret
        exact ⟨by rw [HD.out]; rfl, HI.bel⟩
      · have HD : Hide (C = 5) := ⟨by rw [HC.out, if_neg (fun hh => c1 hh.1), if_neg c1, if_neg c2, if_neg c3]⟩
        have d3 : (F == 0) = false := beq_eq_false_iff_ne.2 c3
        clear c1 c2 c3 HC HF
        go_wp2
        go_ret
        exact ⟨by rw [HD.out]; rfl, HI.bel⟩
set_option maxHeartbeats 1000000 in
theorem rJoin (b n : Bool) (E F : Int) (hE : 0 ≤ E) (hE1 : E ≤ tp b) (hF0 : 0 ≤ F) (hF : F < fr b) (w : World) :
    Calls Try.prog 53 #[.int .u8 (fm b), FV n E F] w fun e w' => e = .returned (.int .u64 (sd b (E * fr b + F) n)) ∧ Below w.heap.size w w' := by
  have B1 := (Bx.nil w).push (FO n E F)
  obtain ⟨k1, k2, k3, k4⟩ := fields_lt b hE hE1 hF0 hF
  have hsl := sg_le b
  go_enter Try.func53, Try.ntmps53
  go_wp2_with fail
  generalize hw1 : w.alloc (FO n E F) = w1 at *
  clear hw1
  have HI := B1.drew
  have sh := fun W (hW : Bx w [(w.heap.size, FO n E F)] W) => fields_cells hW w.heap.size n E F (.head _)
  refine Drawn.enter (Bx w [(w.heap.size, FO n E F)]) (by kernel_rfl) ?_
  refine Drawn.tk (i := 0) (v := ?v30) rfl (fun W hW => ?_) HI ?_
  rotate_left
  · have ⟨q0, q1, q2⟩ := sh W hW
    go_simp <;> exact rfl
  refine Drawn.tk (i := 1) (v := ?v31) rfl (fun W hW => ?_) HI ?_
  rotate_left
  · have ⟨q0, q1, q2⟩ := sh W hW
    go_simp <;> exact rfl
  refine Drawn.tk (i := 2) (v := .int .u64 E) rfl (fun W hW => ?_) HI ?_
  · have ⟨q0, q1, q2⟩ := sh W hW
    go_simp <;> (rw [IntKind.wrap_u64]; have := tp_bd b; omega)
  refine Drawn.tk (i := 3) (v := ?v32) rfl (fun W hW => ?_) HI ?_
  rotate_left
  · have ⟨q0, q1, q2⟩ := sh W hW
    go_simp <;> exact rfl
  refine Drawn.tk (i := 6) (v := ?v33) rfl (fun W hW => ?_) HI ?_
  rotate_left
  · have ⟨q0, q1, q2⟩ := sh W hW
    go_simp <;> exact rfl
  refine Drawn.tk (i := 7) (v := ?v34) rfl (fun W hW => ?_) HI ?_
  rotate_left
  · have ⟨q0, q1, q2⟩ := sh W hW
    go_simp <;> exact rfl
  refine Drawn.one (j := 4) (by kernel_rfl) rfl (fun K hK => ?_)
  go_simp
  refine (rFrac b _).mono ?_
  rintro e wn ⟨rfl, hn⟩
  refine hK _ _ (HI.keep hn) ?_
  clear hK K
  replace HI := HI.keep hn
  clear hn
  refine Drawn.tk (i := 5) (v := .int .u64 (E * fr b)) rfl (fun W hW => ?_) HI ?_
  · have ⟨q0, q1, q2⟩ := sh W hW
    go_simp <;> (rw [shl_fc, Int.emod_eq_of_lt k4 k3]; rfl)
  refine Drawn.tk (i := 8) (v := .int .u64 (E * fr b + F)) rfl (fun W hW => ?_) HI ?_
  · have ⟨q0, q1, q2⟩ := sh W hW
    go_simp <;> (rw [IntKind.wrap_u64]; omega)
  refine Drawn.tk (i := 9) (v := ?v35) rfl (fun W hW => ?_) HI ?_
  rotate_left
  · have ⟨q0, q1, q2⟩ := sh W hW
    go_simp <;> exact rfl
  refine Drawn.done (by kernel_rfl) ?_
  try go_simp
  obtain ⟨q0, q1, q2⟩ := sh _ HI
  clear sh
  cases n
  · go_wp2
    go_ret
    exact ⟨rfl, HI.bel⟩
  · go_wp2_with fail
    refine (rSign b _).mono ?_
    rintro e w3 ⟨rfl, h3⟩
    have B3 := HI.keep h3
    have hsum : E * fr b + F + sg b < 18446744073709551616 := by omega
    have hsg := sg_pos b
    clear h3 HI q0 q1 q2 hE hE1 hF0 hF
    go_wp2
    go_ret
    refine ⟨?_, B3.bel⟩
    unfold sd
    rw [if_pos rfl]
    first | rfl | (simp; done)
end Go.Proofs.Ytgfpbmjknknflaa

namespace Go.Proofs.Ytgfpbmjknknflaa
open Go.RowKit Go.Wd Go.Box
set_option linter.unusedVariables false
set_option maxRecDepth 3000
/-- How many units a finite word is in size, and the unit's exponent. -/
def un (b : Bool) (x : Int) : Int := if fd b x = 0 then fn b x else fr b + fn b x
def ue (b : Bool) (x : Int) : Int := max (fd b x - 1) 0 + lo b
theorem fn_bd (b : Bool) (x : Int) : 0 ≤ fn b x ∧ fn b x < fr b := ⟨Int.emod_nonneg _ (by have := fr_pos b; omega), Int.emod_lt_of_pos _ (fr_pos b)⟩
theorem lo_bd (b : Bool) : -1074 ≤ lo b ∧ lo b ≤ -149 := by cases b <;> decide
/-- The word has no value, for the error c. -/
def VE (f x c : Int) : Prop := GE f x c ∨ (∃ b, f = fm b ∧ Ok b x ∧ inf b ≤ sz b x ∧ c = 7)
theorem VE.ne {f x c : Int} (h : VE f x c) : (c == 0) = false := by
  rcases h with h | ⟨_, _, _, _, rfl⟩
  · exact h.ne
  · rfl
end Go.Proofs.Ytgfpbmjknknflaa

namespace Go.Proofs.Ytgfpbmjknknflaa
open Go.RowKit Go.Wd Go.Box
set_option linter.unusedVariables false
set_option maxRecDepth 3000
abbrev DO (n : Bool) (a : Option Addr) (k c : Nat) (ex : Int) : Obj := .cells #[.bool n, .slice a k c, .int .i64 ex] 67 (0, 0)
/-- The value of a word, in units of 2 to the -MaxExp. -/
def wv (b : Bool) (x : Int) : Int := sv (ng b x) (un b x) * pK (ue b x)
end Go.Proofs.Ytgfpbmjknknflaa

namespace Go.Proofs.Ytgfpbmjknknflaa
open Go.RowKit Go.Wd Go.Box
set_option linter.unusedVariables false
set_option maxRecDepth 3000
/-- The exponent of the unit of a number with the top T. -/
def uu (b : Bool) (T : Int) : Int := max (T - fc b - 1) (lo b)
end Go.Proofs.Ytgfpbmjknknflaa

namespace Go.Proofs.Ytgfpbmjknknflaa
open Go.RowKit Go.Wd Go.Box
set_option linter.unusedVariables false
set_option maxRecDepth 3000
end Go.Proofs.Ytgfpbmjknknflaa

namespace Go.Proofs.Ytgfpbmjknknflaa
open Go.RowKit Go.Wd Go.Box
set_option linter.unusedVariables false
set_option maxRecDepth 3000
theorem sz_pos {b : Bool} {x : Int} (h : Ok b x) (hn : ¬ sg b ≤ x) : sz b x = x := Int.emod_eq_of_lt h.1 (by omega)
theorem sz_neg {b : Bool} {x : Int} (h : Ok b x) (hn : sg b ≤ x) : sz b x = x - sg b := by
  have := h.2
  unfold sz
  rw [← Int.sub_emod_right]
  exact Int.emod_eq_of_lt (by omega) (by omega)
/-- What the fields make is taken apart into them. -/
theorem apart {b n : Bool} {E F : Int} (h0 : 0 ≤ E) (h1 : E ≤ tp b) (h2 : 0 ≤ F) (h3 : F < fr b) :
    Ok b (sd b (E * fr b + F) n) ∧ ng b (sd b (E * fr b + F) n) = n ∧ fd b (sd b (E * fr b + F) n) = E ∧ fn b (sd b (E * fr b + F) n) = F := by
  cases b <;> cases n <;> simp only [Ok, sd, ng, fd, fn, tp, fr, sg, if_true, Bool.false_eq_true, if_false, decide_eq_true_eq, decide_eq_false_iff_not] at * <;> omega
end Go.Proofs.Ytgfpbmjknknflaa

namespace Go.Proofs.Ytgfpbmjknknflaa
open Go.RowKit Go.Wd Go.Box
set_option linter.unusedVariables false
set_option maxRecDepth 3000
theorem rInf (b n : Bool) (w : World) :
    Calls Try.prog 31 #[.int .u8 (fm b), .bool n] w fun e w' => e = .returned (.int .u64 (sd b (inf b) n)) ∧ Below w.heap.size w w' := by
  have ht := tp_bd b
  have HJ := fun w => Hide.mk (rJoin b n (tp b) 0 (by omega) (by omega) (by decide) (fr_pos b) w)
  have e1 : tp b * fr b + 0 = inf b := by cases b <;> rfl
  go_enter Try.func31, Try.ntmps31
  go_wp2_with fail
  refine (rMost b _).mono ?_
  rintro e w2 ⟨rfl, h2⟩
  rw [e1] at HJ
  go_wp2_with fail
  refine (HJ _).out.mono ?_
  rintro e w3 ⟨rfl, h3⟩
  have B3 := ((Bx.nil w).keep h2).keep h3
  clear h2 h3 HJ
  go_wp2
  go_ret
  exact ⟨rfl, B3.bel⟩
theorem rNone (b : Bool) (w : World) :
    Calls Try.prog 52 #[.int .u8 (fm b)] w fun e w' => e = .returned (.int .u64 (nan b)) ∧ Below w.heap.size w w' := by
  have ht := tp_bd b
  have hf : 0 ≤ fr b / 2 ∧ fr b / 2 < fr b := by cases b <;> decide
  have HJ := fun w => Hide.mk (rJoin b false (tp b) (fr b / 2) (by omega) (by omega) hf.1 hf.2 w)
  have e1 : sd b (tp b * fr b + fr b / 2) false = nan b := by cases b <;> rfl
  rw [e1] at HJ
  clear e1 hf ht
  cases b
  · rw [show fm false = 1 from rfl, show fr false / 2 = 4194304 from rfl, show tp false = 255 from rfl] at *
    go_enter Try.func52, Try.ntmps52
    go_wp2_with fail
    refine (rMost false _).mono ?_
    rintro e w1 ⟨rfl, h1⟩
    rw [show tp false = 255 from rfl]
    go_wp2_with fail
    refine (rFrac false _).mono ?_
    rintro e w2 ⟨rfl, h2⟩
    rw [show fc false = 23 from rfl]
    go_wp2_with fail
    refine (HJ _).out.mono ?_
    rintro e w3 ⟨rfl, h3⟩
    have B3 := (((Bx.nil w).keep h1).keep h2).keep h3
    clear HJ h1 h2 h3
    go_wp2
    go_ret
    exact ⟨rfl, B3.bel⟩
  · rw [show fm true = 2 from rfl, show fr true / 2 = 2251799813685248 from rfl, show tp true = 2047 from rfl] at *
    go_enter Try.func52, Try.ntmps52
    go_wp2_with fail
    refine (rMost true _).mono ?_
    rintro e w1 ⟨rfl, h1⟩
    rw [show tp true = 2047 from rfl]
    go_wp2_with fail
    refine (rFrac true _).mono ?_
    rintro e w2 ⟨rfl, h2⟩
    rw [show fc true = 52 from rfl]
    go_wp2_with fail
    refine (HJ _).out.mono ?_
    rintro e w3 ⟨rfl, h3⟩
    have B3 := (((Bx.nil w).keep h1).keep h2).keep h3
    clear HJ h1 h2 h3
    go_wp2
    go_ret
    exact ⟨rfl, B3.bel⟩
theorem rCanon (b : Bool) (x : Int) (h : Ok b x) (w : World) :
    Calls Try.prog 30 #[.int .u8 (fm b), .int .u64 x] w fun e w' => e = .returned (.int .u64 (cnx b x)) ∧ Below w.heap.size w w' := by
  have h5 := cl_5 b x
  by_cases c : inf b < sz b x
  · have HE : Hide (cnx b x = nan b) := ⟨by unfold cnx; rw [if_pos c]⟩
    have d1 : (cl b x == 5) = true := by simp [h5.2 c]
    clear c h5
    go_enter Try.func30, Try.ntmps30
    go_wp2_with fail
    refine (rClass b x h _).mono ?_
    rintro e w2 ⟨rfl, h2⟩
    go_wp2_with fail
    refine (rNone b _).mono ?_
    rintro e w3 ⟨rfl, h3⟩
    have B3 := ((Bx.nil w).keep h2).keep h3
    clear h2 h3
    go_wp2
    go_ret
    exact ⟨by rw [HE.out]; rfl, B3.bel⟩
  · have HE : Hide (cnx b x = x) := ⟨by unfold cnx; rw [if_neg c]⟩
    have d1 : (cl b x == 5) = false := beq_eq_false_iff_ne.2 (fun hh => c (h5.1 hh))
    clear c h5
    go_enter Try.func30, Try.ntmps30
    go_wp2_with fail
    refine (rClass b x h _).mono ?_
    rintro e w2 ⟨rfl, h2⟩
    go_wp2
    go_ret
    exact ⟨by rw [HE.out]; rfl, h2⟩
theorem field_neg (n : Bool) (e f : Int) (w : World) : Sem.run Try.prog (Instr.field 70 (.agg #[.bool n, .int .i64 e, .int .u64 f]) 0) w = .ok (.bool n) w := by
  kernel_rfl
end Go.Proofs.Ytgfpbmjknknflaa

namespace Go.Proofs.Ytgfpbmjknknflaa
open Go.RowKit Go.Wd Go.Box
set_option linter.unusedVariables false
set_option maxRecDepth 3000
/-- The one form of s times 2 to the E, however long. -/
def Fm (s E : Int) (n : Bool) (zs : List Int) (ex : Int) : Prop :=
  (s = 0 ∧ n = false ∧ zs = [] ∧ ex = 0) ∨ (s ≠ 0 ∧ ∃ t : Nat, LowBit (s.natAbs : Int) t ∧ n = decide (s < 0) ∧ ex = E + t ∧ Nt.Can zs ∧ Nt.val zs = (s.natAbs : Int) / 2 ^ t)
def RF (w w' : World) (s E : Int) (e : Ending) : Prop :=
  ∃ n zs ex a c, e = .returned (dV n a zs.length c ex) ∧ Fm s E n zs ex ∧ Lie w' a zs ∧ Below w.heap.size w w'
set_option maxHeartbeats 1000000 in
theorem formX1 (n : Bool) (a : Option Addr) (ca : Nat) (za : List Int) (ex : Int) (w : World) (ha : Lie w a za) (qa : Nt.Can za) (hm : za.length ≤ 2500000) (hz : 0 < za.length) {t : Nat} (ht : LowBit (Nt.val za) t) (h0 : -9000000000000000000 ≤ ex) (h1 : ex ≤ 9000000000000000000) :
    Calls Try.prog 58 #[.bool n, .slice a za.length ca, .int .i64 ex] w fun e w' => ∃ zs a' c, e = .returned (dV n a' zs.length c (ex + t)) ∧ Nt.Can zs ∧ Nt.val zs = Nt.val za / 2 ^ t ∧ Lie w' a' zs ∧ Below w.heap.size w w' := by
  have B1 := (Bx.nil w).push (DO false none 0 0 0)
  have l1 := ha.below B1.bel (Nat.le_refl _)
  have HL := Hide.mk (refLow59 a ca za _ l1 qa hz (by omega))
  have Ht := Hide.mk ht
  have hne : ((za.length : Int) == 0) = false := beq_eq_false_iff_ne.2 (by omega)
  clear ha ht
  go_enter Try.func58, Try.ntmps58
  go_wp2_with fail
  refine HL.out.mono ?_
  rintro e w2 ⟨rfl, t2, rfl, ht2, htl⟩
  obtain rfl := ht2.unique Ht.out
  have HD := Hide.mk (refDown46 a ca za _ t2 (by omega) l1 qa hz (by omega))
  clear ht2 HL l1
  go_wp2_with fail
  refine HD.out.mono ?_
  rintro e w3 ⟨zs, a', c, rfl, hO, hC, hV, h3⟩
  have B3 := B1.keep h3
  obtain ⟨a2, c2, he, _, _, hl⟩ := hO.lie
  simp only [Value.slice.injEq, true_and] at he
  obtain ⟨rfl, rfl⟩ := he
  have H := Hide.mk (And.intro hC (And.intro hV hl))
  obtain ⟨⟨f0, f1, f2⟩, r0, r1, r2⟩ := cells3 B3 w.heap.size _ _ _ _ (.head _)
  clear hO hC hV h3 HD hl B1
  generalize decide (Nt.val za % 2 ^ t2 ≠ 0) = q at *
  generalize hu : (t2 : Int) = u at *
  have hu0 : 0 ≤ u := by omega
  have hu1 : u < 100000000 := by omega
  have HU := Hide.mk hu
  clear hu htl
  have B4 := B3.fill3 (Nat.le_refl _) (by simp) (.bool n) (.slice a' zs.length c) (.int .i64 (ex + u))
  go_wp2
  refine bodyPost_ret (results_D1 rfl _ _ w.heap.size _ rfl ⟨B4.head, rfl⟩) rfl ?_
  have L := Live.set3 (g := w.heap.size) ⟨B3.head, rfl⟩ (.bool n) (.slice a' zs.length c) (.int .i64 (ex + u)) (Live.one H.out.2.2)
  exact ⟨zs, a', c, by rw [HU.out], H.out.1, H.out.2.1, L.all (a', zs) (.head _), B4.bel⟩
theorem formZ (n : Bool) (a : Option Addr) (ca : Nat) (ex : Int) (w : World) :
    Calls Try.prog 58 #[.bool n, .slice a 0 ca, .int .i64 ex] w fun e w' => e = .returned noD ∧ Below w.heap.size w w' := by
  go_enter Try.func58, Try.ntmps58
  go_wp2
  refine bodyPost_ret (results_D1 rfl _ _ w.heap.size _ rfl (dcell_new _ _ _ _)) rfl ?_
  exact ⟨rfl, below_alloc _ _⟩
/-- Form answers the one form. -/
theorem formXL (n : Bool) (a : Option Addr) (ca : Nat) (za : List Int) (ex : Int) (w : World) (ha : Lie w a za) (qa : Nt.Can za) (hm : za.length ≤ 2500000) (h0 : -9000000000000000000 ≤ ex) (h1 : ex ≤ 9000000000000000000) :
    Calls Try.prog 58 #[.bool n, .slice a za.length ca, .int .i64 ex] w fun e w' => RF w w' (sv n (Nt.val za)) ex e := by
  have hv0 := (Nt.val_bd qa.1).1
  by_cases hz : 0 < za.length
  · have hp : 0 < Nt.val za := by
      have h2 := can_ge qa hz
      have h3 := Nt.pw_pos (za.length - 1)
      omega
    obtain ⟨t, ht⟩ := low_ex hp
    refine (formX1 n a ca za ex w ha qa hm hz ht h0 h1).mono ?_
    rintro e w' ⟨zs, a', c, rfl, hC, hV, hl, hb⟩
    have habs : ((sv n (Nt.val za)).natAbs : Int) = Nt.val za := by
      cases n
      · rw [sv_f]; omega
      · rw [sv_t]; omega
    refine ⟨n, zs, ex + t, a', c, rfl, .inr ⟨?_, t, by rw [habs]; exact ht, ?_, rfl, hC, by rw [habs]; exact hV⟩, hl, hb⟩
    · cases n
      · rw [sv_f]; omega
      · rw [sv_t]; omega
    · cases n
      · rw [sv_f]; exact (decide_eq_false (by omega)).symm
      · rw [sv_t]; exact (decide_eq_true (by omega)).symm
  · obtain rfl : za = [] := List.length_eq_zero_iff.1 (by omega)
    refine (formZ n a ca ex w).mono ?_
    rintro e w' ⟨rfl, hb⟩
    refine ⟨false, [], 0, none, 0, rfl, .inl ⟨?_, rfl, rfl, rfl⟩, .inl rfl, hb⟩
    rw [Nt.val_nil]
    cases n <;> rfl
end Go.Proofs.Ytgfpbmjknknflaa

namespace Go.Proofs.Ytgfpbmjknknflaa
open Go.RowKit Go.Wd Go.Box
set_option linter.unusedVariables false
set_option maxRecDepth 3000
theorem rNegX (n : Bool) (a : Option Addr) (c k : Nat) (ex : Int) (hk : 0 < k) (w : World) :
    Calls Try.prog 75 #[dV n a k c ex] w fun e w' => e = .returned (dV (!n) a k c ex) ∧ Below w.heap.size w w' := by
  have B1 := ((Bx.nil w).push (DO (!n) a k c ex)).push (DO (!n) a k c ex)
  have hk2 : (0 : Int) < (k : Int) := by omega
  go_enter Try.func75, Try.ntmps75
  go_wp2
  refine bodyPost_ret (results_D1 rfl _ _ (w.heap.size + 1) _ rfl ⟨by simpa using B1.head, rfl⟩) rfl ?_
  exact ⟨rfl, B1.bel⟩
end Go.Proofs.Ytgfpbmjknknflaa

namespace Go.Proofs.Ytgfpbmjknknflaa
open Go.RowKit Go.Wd Go.Box
set_option linter.unusedVariables false
set_option maxRecDepth 3000
theorem len_up {za zs : List Int} {k : Nat} (qa : Nt.Can za) (hk : 32 * za.length + k ≤ 70000000) (hc : Nt.Can zs) (hv : Nt.val zs = Nt.val za * 2 ^ k) : zs.length ≤ 2200000 := by
  have gen : ∀ M : Nat, 32 * za.length + k ≤ 32 * M → zs.length ≤ M := by
    intro M hM
    refine (Nt.can_len hc M).1 ?_
    rw [hv]
    have h1 : Nt.val za < 4294967296 ^ za.length := (Nt.can_len qa za.length).2 (Nat.le_refl _)
    have h0 := (Nt.val_bd qa.1).1
    have hp := p2pos k
    have e0 : (4294967296 : Int) = 2 ^ 32 := rfl
    have h2 : Nt.val za * 2 ^ k < 4294967296 ^ za.length * 2 ^ k := Int.mul_lt_mul_of_pos_right h1 hp
    rw [e0, ← Int.pow_mul, ← Int.pow_add] at h2
    rw [e0, ← Int.pow_mul]
    exact Int.lt_of_lt_of_le h2 (p2mono hM)
  exact gen 2200000 (by omega)
theorem sum_lt88 {x y : Int} (h : x < 4294967296 ^ 2200000) (k : y < 4294967296 ^ 2200000) : x + y < 4294967296 ^ 2200001 := by
  rw [Nt.pw_succ]
  have := Nt.pw_pos 2200000
  generalize (4294967296 : Int) ^ 2200000 = P at *
  omega
theorem refUpA (a : Option Addr) (ca : Nat) (za : List Int) (w : World) (M : Int) (n : Nat) (hM : M = (n : Int)) (hn1 : 32 * za.length + n ≤ 90000000) (ha : Lie w a za) (ra : Nt.Rng za) :
    Calls Try.prog 99 #[.slice a za.length ca, .int .i64 M] w fun e w' => Made w w' (Nt.val za * 2 ^ n) e := by
  subst hM
  exact refUp_long a ca za w n hn1 ha ra
theorem sv_add (n : Bool) (x y : Int) : sv n (x + y) = sv n x + sv n y := by
  cases n
  · rfl
  · simp only [sv_t]; omega
theorem sv_sub (n : Bool) (x y : Int) : sv n (x - y) = sv n x + sv (!n) y := by
  cases n
  · rw [show (!false) = true from rfl]; simp only [sv_t, sv_f]; omega
  · rw [show (!true) = false from rfl]; simp only [sv_t, sv_f]; omega
theorem sv_sub2 (n : Bool) (x y : Int) : sv (!n) (y - x) = sv n x + sv (!n) y := by
  cases n
  · rw [show (!false) = true from rfl]; simp only [sv_t, sv_f]; omega
  · rw [show (!true) = false from rfl]; simp only [sv_t, sv_f]; omega
theorem can_len_le {x y : List Int} (hx : Nt.Can x) (hy : Nt.Can y) (h : Nt.val x ≤ Nt.val y) : x.length ≤ y.length :=
  (Nt.can_len hx y.length).1 (Int.lt_of_le_of_lt h ((Nt.can_len hy y.length).2 (Nat.le_refl _)))
theorem sgn_ge {x y : Int} (h : y ≤ x) : 0 ≤ sgn x y := by
  unfold sgn
  split
  · omega
  · split <;> omega
theorem sgn_less {x y : Int} (h : x < y) : sgn x y < 0 := by
  unfold sgn
  rw [if_pos h]
  decide
set_option maxHeartbeats 2000000 in
theorem addX_lt_same (n : Bool) (a1 a2 : Option Addr) (c1 c2 : Nat) (z1 z2 : List Int) (e1 e2 : Int) (w : World) (l1 : Lie w a1 z1) (l2 : Lie w a2 z2) (q1 : Nt.Can z1) (q2 : Nt.Can z2) (hz1 : 0 < z1.length) (hz2 : 0 < z2.length) (b1 : -60000000 ≤ e1) (b2 : e1 ≤ 60000000) (b3 : -60000000 ≤ e2) (b4 : e2 ≤ 60000000) (k1 k2 : Nat) (hk1 : 32 * z1.length + k1 ≤ 70000000) (hk2 : 32 * z2.length + k2 ≤ 70000000) (ho : e2 < e1) (hh1 : e1 - e2 = k1) (hh2 : e2 - e2 = k2)  :
    Calls Try.prog 74 #[dV n a1 z1.length c1 e1, dV n a2 z2.length c2 e2] w fun e w' => RF w w' (sv n (Nt.val z1 * 2 ^ k1) + sv n (Nt.val z2 * 2 ^ k2)) e2 e := by
  have B1 := (((Bx.nil w).push (DO n a1 z1.length c1 e1)).push (DO n a2 z2.length c2 e2)).push (DO false none 0 0 0)
  have d1 : ((z1.length : Int) == 0) = false := beq_eq_false_iff_ne.2 (by omega)
  have d2 : ((z2.length : Int) == 0) = false := beq_eq_false_iff_ne.2 (by omega)
  have d3 : (n == n) = true := by cases n <;> rfl
  go_enter Try.func74, Try.ntmps74
  go_wp2_with fail
  rw [show ((w.alloc (DO n a1 z1.length c1 e1)).alloc (DO n a2 z2.length c2 e2)).heap.size = w.heap.size + 1 + 1 by simp, show (w.alloc (DO n a1 z1.length c1 e1)).heap.size = w.heap.size + 1 by simp] at B1
  generalize hw1 : ((w.alloc (DO n a1 z1.length c1 e1)).alloc (DO n a2 z2.length c2 e2)).alloc (DO false none 0 0 0) = w1 at *
  clear hw1
  refine (refUpA a1 c1 z1 _ _ k1 (by omega) (by omega) (l1.below B1.bel (Nat.le_refl _)) q1.1).mono ?_
  rintro e w2 ⟨y1, p1, g1, rfl, O1, C1, V1, h2⟩
  have B2 := B1.keep h2
  obtain ⟨x9, x8, he, _, _, m1⟩ := O1.lie
  simp only [Value.slice.injEq, true_and] at he
  obtain ⟨rfl, rfl⟩ := he
  obtain ⟨⟨s0, s1, s2⟩, _⟩ := cells3 B2 (w.heap.size + 1) _ _ _ _ (.tail _ (.head _))
  obtain ⟨⟨r0, r1, r2⟩, _⟩ := cells3 B2 w.heap.size _ _ _ _ (.tail _ (.tail _ (.head _)))
  have Y1 := Hide.mk (len_up q1 hk1 C1 V1)
  have HC1 := Hide.mk (And.intro C1 V1)
  clear O1 h2 B1 C1 V1
  go_wp2_with fail
  refine (refUpA a2 c2 z2 _ _ k2 (by omega) (by omega) (l2.below B2.bel (Nat.le_refl _)) q2.1).mono ?_
  rintro e w3 ⟨y2, p2, g2, rfl, O2, C2, V2, h3⟩
  have HF := B2.keep h3
  replace m1 := m1.below h3 (Nat.le_refl _)
  obtain ⟨x9, x8, he, _, _, m2⟩ := O2.lie
  simp only [Value.slice.injEq, true_and] at he
  obtain ⟨rfl, rfl⟩ := he
  have Y2 := Hide.mk (len_up q2 hk2 C2 V2)
  have HC2 := Hide.mk (And.intro C2 V2)
  clear O2 h3 B2 C2 V2 s0 s1 s2 r0 r1 r2
  obtain ⟨⟨s0, s1, s2⟩, _⟩ := cells3 HF (w.heap.size + 1) _ _ _ _ (.tail _ (.head _))
  obtain ⟨⟨r0, r1, r2⟩, _⟩ := cells3 HF w.heap.size _ _ _ _ (.tail _ (.tail _ (.head _)))
  go_wp2_with fail
  replace HF := HF.drew
  replace m1 := m1.below (Below.refl _ _).drew (Nat.le_refl _)
  replace m2 := m2.below (Below.refl _ _).drew (Nat.le_refl _)
  have HI := HF.sub (L' := [(w.heap.size + 1, DO n a2 z2.length c2 e2), (w.heap.size, DO n a1 z1.length c1 e1)]) (by simp)
  have sh := fun W (hW : Bx w [(w.heap.size + 1, DO n a2 z2.length c2 e2), (w.heap.size, DO n a1 z1.length c1 e1)] W) => (cells3 hW w.heap.size _ _ _ _ (.tail _ (.head _))).1
  refine Drawn.enter (Bx w [(w.heap.size + 1, DO n a2 z2.length c2 e2), (w.heap.size, DO n a1 z1.length c1 e1)]) (by kernel_rfl) ?_
  refine Drawn.tk (i := 0) (v := ?v49) rfl (fun W hW => ?_) HI ?_
  rotate_left
  · have ⟨q0, q3, q4⟩ := sh W hW
    go_simp <;> exact rfl
  refine Drawn.tk (i := 1) (v := ?v50) rfl (fun W hW => ?_) HI ?_
  rotate_left
  · have ⟨q0, q3, q4⟩ := sh W hW
    go_simp <;> exact rfl
  refine Drawn.tk (i := 2) (v := ?v51) rfl (fun W hW => ?_) HI ?_
  rotate_left
  · have ⟨q0, q3, q4⟩ := sh W hW
    go_simp <;> exact rfl
  refine Drawn.tk (i := 3) (v := ?v52) rfl (fun W hW => ?_) HI ?_
  rotate_left
  · have ⟨q0, q3, q4⟩ := sh W hW
    go_simp <;> exact rfl
  refine Drawn.tk (i := 5) (v := ?v53) rfl (fun W hW => ?_) HI ?_
  rotate_left
  · have ⟨q0, q3, q4⟩ := sh W hW
    go_simp <;> exact rfl
  refine Drawn.one (j := 4) (by kernel_rfl) rfl (fun K hK => ?_)
  go_simp
  refine (refAdd23 _ _ _ _ y1 y2 _ m1 m2 HC1.out.1.1 HC2.out.1.1 (by have := Y1.out; omega) (by have := Y2.out; omega)).mono ?_
  rintro e w5 ⟨y5, p5, g5, rfl, O5, C5, V5, h5⟩
  refine hK _ _ (HI.keep h5) ?_
  clear hK K
  replace HI := HI.keep h5
  replace HF := HF.keep h5
  obtain ⟨x9, x8, he, _, _, m5⟩ := O5.lie
  simp only [Value.slice.injEq, true_and] at he
  obtain ⟨rfl, rfl⟩ := he
  have hlen5 : y5.length ≤ 2500000 := by have v1 := (Nt.can_len HC1.out.1 2200000).2 Y1.out; have v2 := (Nt.can_len HC2.out.1 2200000).2 Y2.out; exact Nat.le_trans ((Nt.can_len C5 2200001).1 (by rw [V5]; exact sum_lt88 v1 v2)) (by omega)
  clear O5 h5
  refine Drawn.one (j := 6) (by kernel_rfl) rfl (fun K hK => ?_)
  go_simp
  refine (formXL n _ _ y5 e2 _ m5 C5 hlen5 (by omega) (by omega)).mono ?_
  rintro e w6 ⟨n6, z6, x6, a6, c6, rfl, F6, l6, h6⟩
  refine hK _ _ (HI.keep h6) ?_
  clear hK K
  replace HI := HI.keep h6
  replace HF := HF.keep h6
  have H6 := Hide.mk (And.intro F6 l6)
  rw [V5, HC1.out.2, HC2.out.2, sv_add] at H6
  clear F6 l6 h6 V5 C5 hlen5 m5 m1 m2
  obtain ⟨⟨f0, f1, f2⟩, r0, r1, r2⟩ := cells3 HF (w.heap.size + 1 + 1) _ _ _ _ (.head _)
  have HF2 := HF.fill3 (by omega) (by simp; omega) (.bool n6) (.slice a6 z6.length c6) (.int .i64 x6)
  refine Drawn.one (j := 7) (by kernel_rfl) rfl (fun K hK => ?_)
  go_simp
  replace HI := HF2.sub (L' := [(w.heap.size + 1, DO n a2 z2.length c2 e2), (w.heap.size, DO n a1 z1.length c1 e1)]) (by simp)
  refine hK _ _ HI ?_
  clear hK K f0 f1 f2 r0 r1 r2
  refine Drawn.done (by kernel_rfl) ?_
  try go_simp
  go_wp2
  refine bodyPost_ret (results_D1 rfl _ _ (w.heap.size + 1 + 1) _ rfl ⟨HF2.head, rfl⟩) rfl ?_
  have L := Live.set3 (g := w.heap.size + 1 + 1) ⟨HF.head, rfl⟩ (.bool n6) (.slice a6 z6.length c6) (.int .i64 x6) (Live.one H6.out.2)
  exact ⟨n6, z6, x6, a6, c6, rfl, H6.out.1, L.all (a6, z6) (.head _), HF2.bel⟩
set_option maxHeartbeats 2000000 in
theorem addX_lt_ge (n : Bool) (a1 a2 : Option Addr) (c1 c2 : Nat) (z1 z2 : List Int) (e1 e2 : Int) (w : World) (l1 : Lie w a1 z1) (l2 : Lie w a2 z2) (q1 : Nt.Can z1) (q2 : Nt.Can z2) (hz1 : 0 < z1.length) (hz2 : 0 < z2.length) (b1 : -60000000 ≤ e1) (b2 : e1 ≤ 60000000) (b3 : -60000000 ≤ e2) (b4 : e2 ≤ 60000000) (k1 k2 : Nat) (hk1 : 32 * z1.length + k1 ≤ 70000000) (hk2 : 32 * z2.length + k2 ≤ 70000000) (ho : e2 < e1) (hh1 : e1 - e2 = k1) (hh2 : e2 - e2 = k2) (hv : Nt.val z2 * 2 ^ k2 ≤ Nt.val z1 * 2 ^ k1) :
    Calls Try.prog 74 #[dV n a1 z1.length c1 e1, dV (!n) a2 z2.length c2 e2] w fun e w' => RF w w' (sv n (Nt.val z1 * 2 ^ k1) + sv (!n) (Nt.val z2 * 2 ^ k2)) e2 e := by
  have B1 := (((Bx.nil w).push (DO n a1 z1.length c1 e1)).push (DO (!n) a2 z2.length c2 e2)).push (DO false none 0 0 0)
  have d1 : ((z1.length : Int) == 0) = false := beq_eq_false_iff_ne.2 (by omega)
  have d2 : ((z2.length : Int) == 0) = false := beq_eq_false_iff_ne.2 (by omega)
  have d3 : (n == (!n)) = false := by cases n <;> rfl
  go_enter Try.func74, Try.ntmps74
  go_wp2_with fail
  rw [show ((w.alloc (DO n a1 z1.length c1 e1)).alloc (DO (!n) a2 z2.length c2 e2)).heap.size = w.heap.size + 1 + 1 by simp, show (w.alloc (DO n a1 z1.length c1 e1)).heap.size = w.heap.size + 1 by simp] at B1
  generalize hw1 : ((w.alloc (DO n a1 z1.length c1 e1)).alloc (DO (!n) a2 z2.length c2 e2)).alloc (DO false none 0 0 0) = w1 at *
  clear hw1
  refine (refUpA a1 c1 z1 _ _ k1 (by omega) (by omega) (l1.below B1.bel (Nat.le_refl _)) q1.1).mono ?_
  rintro e w2 ⟨y1, p1, g1, rfl, O1, C1, V1, h2⟩
  have B2 := B1.keep h2
  obtain ⟨x9, x8, he, _, _, m1⟩ := O1.lie
  simp only [Value.slice.injEq, true_and] at he
  obtain ⟨rfl, rfl⟩ := he
  obtain ⟨⟨s0, s1, s2⟩, _⟩ := cells3 B2 (w.heap.size + 1) _ _ _ _ (.tail _ (.head _))
  obtain ⟨⟨r0, r1, r2⟩, _⟩ := cells3 B2 w.heap.size _ _ _ _ (.tail _ (.tail _ (.head _)))
  have Y1 := Hide.mk (len_up q1 hk1 C1 V1)
  have HC1 := Hide.mk (And.intro C1 V1)
  clear O1 h2 B1 C1 V1
  go_wp2_with fail
  refine (refUpA a2 c2 z2 _ _ k2 (by omega) (by omega) (l2.below B2.bel (Nat.le_refl _)) q2.1).mono ?_
  rintro e w3 ⟨y2, p2, g2, rfl, O2, C2, V2, h3⟩
  have HF := B2.keep h3
  replace m1 := m1.below h3 (Nat.le_refl _)
  obtain ⟨x9, x8, he, _, _, m2⟩ := O2.lie
  simp only [Value.slice.injEq, true_and] at he
  obtain ⟨rfl, rfl⟩ := he
  have Y2 := Hide.mk (len_up q2 hk2 C2 V2)
  have HC2 := Hide.mk (And.intro C2 V2)
  clear O2 h3 B2 C2 V2 s0 s1 s2 r0 r1 r2
  obtain ⟨⟨s0, s1, s2⟩, _⟩ := cells3 HF (w.heap.size + 1) _ _ _ _ (.tail _ (.head _))
  obtain ⟨⟨r0, r1, r2⟩, _⟩ := cells3 HF w.heap.size _ _ _ _ (.tail _ (.tail _ (.head _)))
  go_wp2_with fail
  have hsg := sgn_ge (x := Nt.val y1) (y := Nt.val y2) (by rw [HC1.out.2, HC2.out.2]; exact hv)
  refine (refCmp22 _ _ _ _ y1 y2 _ m1 m2 HC1.out.1 HC2.out.1 (by have := Y1.out; unfold maxLen; omega)).mono ?_
  rintro e w4 ⟨rfl, h4⟩
  replace HF := HF.keep h4
  replace m1 := m1.below h4 (Nat.le_refl _)
  replace m2 := m2.below h4 (Nat.le_refl _)
  clear h4 s0 s1 s2 r0 r1 r2
  generalize sgn (Nt.val y1) (Nt.val y2) = sg0 at *
  go_wp2_with fail
  replace HF := HF.drew
  replace m1 := m1.below (Below.refl _ _).drew (Nat.le_refl _)
  replace m2 := m2.below (Below.refl _ _).drew (Nat.le_refl _)
  have HI := HF.sub (L' := [(w.heap.size + 1, DO (!n) a2 z2.length c2 e2), (w.heap.size, DO n a1 z1.length c1 e1)]) (by simp)
  have sh := fun W (hW : Bx w [(w.heap.size + 1, DO (!n) a2 z2.length c2 e2), (w.heap.size, DO n a1 z1.length c1 e1)] W) => (cells3 hW w.heap.size _ _ _ _ (.tail _ (.head _))).1
  refine Drawn.enter (Bx w [(w.heap.size + 1, DO (!n) a2 z2.length c2 e2), (w.heap.size, DO n a1 z1.length c1 e1)]) (by kernel_rfl) ?_
  refine Drawn.tk (i := 0) (v := ?v54) rfl (fun W hW => ?_) HI ?_
  rotate_left
  · have ⟨q0, q3, q4⟩ := sh W hW
    go_simp <;> exact rfl
  refine Drawn.tk (i := 1) (v := ?v55) rfl (fun W hW => ?_) HI ?_
  rotate_left
  · have ⟨q0, q3, q4⟩ := sh W hW
    go_simp <;> exact rfl
  refine Drawn.tk (i := 2) (v := ?v56) rfl (fun W hW => ?_) HI ?_
  rotate_left
  · have ⟨q0, q3, q4⟩ := sh W hW
    go_simp <;> exact rfl
  refine Drawn.tk (i := 3) (v := ?v57) rfl (fun W hW => ?_) HI ?_
  rotate_left
  · have ⟨q0, q3, q4⟩ := sh W hW
    go_simp <;> exact rfl
  refine Drawn.tk (i := 5) (v := ?v58) rfl (fun W hW => ?_) HI ?_
  rotate_left
  · have ⟨q0, q3, q4⟩ := sh W hW
    go_simp <;> exact rfl
  refine Drawn.one (j := 4) (by kernel_rfl) rfl (fun K hK => ?_)
  go_simp
  refine (refSub24 _ _ _ _ y1 y2 _ m1 m2 HC1.out.1.1 HC2.out.1.1 (by have := Y1.out; omega) (can_len_le HC2.out.1 HC1.out.1 (by rw [HC1.out.2, HC2.out.2]; exact hv)) (by rw [HC1.out.2, HC2.out.2]; exact hv)).mono ?_
  rintro e w5 ⟨y5, p5, g5, rfl, O5, C5, V5, h5⟩
  refine hK _ _ (HI.keep h5) ?_
  clear hK K
  replace HI := HI.keep h5
  replace HF := HF.keep h5
  obtain ⟨x9, x8, he, _, _, m5⟩ := O5.lie
  simp only [Value.slice.injEq, true_and] at he
  obtain ⟨rfl, rfl⟩ := he
  have hlen5 : y5.length ≤ 2500000 := by exact Nat.le_trans (can_len_le C5 HC1.out.1 (by rw [V5]; have := (Nt.val_bd HC2.out.1.1).1; omega)) (Nat.le_trans Y1.out (by omega))
  clear O5 h5
  refine Drawn.one (j := 6) (by kernel_rfl) rfl (fun K hK => ?_)
  go_simp
  refine (formXL n _ _ y5 e2 _ m5 C5 hlen5 (by omega) (by omega)).mono ?_
  rintro e w6 ⟨n6, z6, x6, a6, c6, rfl, F6, l6, h6⟩
  refine hK _ _ (HI.keep h6) ?_
  clear hK K
  replace HI := HI.keep h6
  replace HF := HF.keep h6
  have H6 := Hide.mk (And.intro F6 l6)
  rw [V5, HC1.out.2, HC2.out.2, sv_sub] at H6
  clear F6 l6 h6 V5 C5 hlen5 m5 m1 m2
  obtain ⟨⟨f0, f1, f2⟩, r0, r1, r2⟩ := cells3 HF (w.heap.size + 1 + 1) _ _ _ _ (.head _)
  have HF2 := HF.fill3 (by omega) (by simp; omega) (.bool n6) (.slice a6 z6.length c6) (.int .i64 x6)
  refine Drawn.one (j := 7) (by kernel_rfl) rfl (fun K hK => ?_)
  go_simp
  replace HI := HF2.sub (L' := [(w.heap.size + 1, DO (!n) a2 z2.length c2 e2), (w.heap.size, DO n a1 z1.length c1 e1)]) (by simp)
  refine hK _ _ HI ?_
  clear hK K f0 f1 f2 r0 r1 r2
  refine Drawn.done (by kernel_rfl) ?_
  try go_simp
  go_wp2
  refine bodyPost_ret (results_D1 rfl _ _ (w.heap.size + 1 + 1) _ rfl ⟨HF2.head, rfl⟩) rfl ?_
  have L := Live.set3 (g := w.heap.size + 1 + 1) ⟨HF.head, rfl⟩ (.bool n6) (.slice a6 z6.length c6) (.int .i64 x6) (Live.one H6.out.2)
  exact ⟨n6, z6, x6, a6, c6, rfl, H6.out.1, L.all (a6, z6) (.head _), HF2.bel⟩
set_option maxHeartbeats 2000000 in
theorem addX_lt_lt (n : Bool) (a1 a2 : Option Addr) (c1 c2 : Nat) (z1 z2 : List Int) (e1 e2 : Int) (w : World) (l1 : Lie w a1 z1) (l2 : Lie w a2 z2) (q1 : Nt.Can z1) (q2 : Nt.Can z2) (hz1 : 0 < z1.length) (hz2 : 0 < z2.length) (b1 : -60000000 ≤ e1) (b2 : e1 ≤ 60000000) (b3 : -60000000 ≤ e2) (b4 : e2 ≤ 60000000) (k1 k2 : Nat) (hk1 : 32 * z1.length + k1 ≤ 70000000) (hk2 : 32 * z2.length + k2 ≤ 70000000) (ho : e2 < e1) (hh1 : e1 - e2 = k1) (hh2 : e2 - e2 = k2) (hv : Nt.val z1 * 2 ^ k1 < Nt.val z2 * 2 ^ k2) :
    Calls Try.prog 74 #[dV n a1 z1.length c1 e1, dV (!n) a2 z2.length c2 e2] w fun e w' => RF w w' (sv n (Nt.val z1 * 2 ^ k1) + sv (!n) (Nt.val z2 * 2 ^ k2)) e2 e := by
  have B1 := (((Bx.nil w).push (DO n a1 z1.length c1 e1)).push (DO (!n) a2 z2.length c2 e2)).push (DO false none 0 0 0)
  have d1 : ((z1.length : Int) == 0) = false := beq_eq_false_iff_ne.2 (by omega)
  have d2 : ((z2.length : Int) == 0) = false := beq_eq_false_iff_ne.2 (by omega)
  have d3 : (n == (!n)) = false := by cases n <;> rfl
  go_enter Try.func74, Try.ntmps74
  go_wp2_with fail
  rw [show ((w.alloc (DO n a1 z1.length c1 e1)).alloc (DO (!n) a2 z2.length c2 e2)).heap.size = w.heap.size + 1 + 1 by simp, show (w.alloc (DO n a1 z1.length c1 e1)).heap.size = w.heap.size + 1 by simp] at B1
  generalize hw1 : ((w.alloc (DO n a1 z1.length c1 e1)).alloc (DO (!n) a2 z2.length c2 e2)).alloc (DO false none 0 0 0) = w1 at *
  clear hw1
  refine (refUpA a1 c1 z1 _ _ k1 (by omega) (by omega) (l1.below B1.bel (Nat.le_refl _)) q1.1).mono ?_
  rintro e w2 ⟨y1, p1, g1, rfl, O1, C1, V1, h2⟩
  have B2 := B1.keep h2
  obtain ⟨x9, x8, he, _, _, m1⟩ := O1.lie
  simp only [Value.slice.injEq, true_and] at he
  obtain ⟨rfl, rfl⟩ := he
  obtain ⟨⟨s0, s1, s2⟩, _⟩ := cells3 B2 (w.heap.size + 1) _ _ _ _ (.tail _ (.head _))
  obtain ⟨⟨r0, r1, r2⟩, _⟩ := cells3 B2 w.heap.size _ _ _ _ (.tail _ (.tail _ (.head _)))
  have Y1 := Hide.mk (len_up q1 hk1 C1 V1)
  have HC1 := Hide.mk (And.intro C1 V1)
  clear O1 h2 B1 C1 V1
  go_wp2_with fail
  refine (refUpA a2 c2 z2 _ _ k2 (by omega) (by omega) (l2.below B2.bel (Nat.le_refl _)) q2.1).mono ?_
  rintro e w3 ⟨y2, p2, g2, rfl, O2, C2, V2, h3⟩
  have HF := B2.keep h3
  replace m1 := m1.below h3 (Nat.le_refl _)
  obtain ⟨x9, x8, he, _, _, m2⟩ := O2.lie
  simp only [Value.slice.injEq, true_and] at he
  obtain ⟨rfl, rfl⟩ := he
  have Y2 := Hide.mk (len_up q2 hk2 C2 V2)
  have HC2 := Hide.mk (And.intro C2 V2)
  clear O2 h3 B2 C2 V2 s0 s1 s2 r0 r1 r2
  obtain ⟨⟨s0, s1, s2⟩, _⟩ := cells3 HF (w.heap.size + 1) _ _ _ _ (.tail _ (.head _))
  obtain ⟨⟨r0, r1, r2⟩, _⟩ := cells3 HF w.heap.size _ _ _ _ (.tail _ (.tail _ (.head _)))
  go_wp2_with fail
  have hsg := sgn_less (x := Nt.val y1) (y := Nt.val y2) (by rw [HC1.out.2, HC2.out.2]; exact hv)
  refine (refCmp22 _ _ _ _ y1 y2 _ m1 m2 HC1.out.1 HC2.out.1 (by have := Y1.out; unfold maxLen; omega)).mono ?_
  rintro e w4 ⟨rfl, h4⟩
  replace HF := HF.keep h4
  replace m1 := m1.below h4 (Nat.le_refl _)
  replace m2 := m2.below h4 (Nat.le_refl _)
  clear h4 s0 s1 s2 r0 r1 r2
  generalize sgn (Nt.val y1) (Nt.val y2) = sg0 at *
  go_wp2_with fail
  replace HF := HF.drew
  replace m1 := m1.below (Below.refl _ _).drew (Nat.le_refl _)
  replace m2 := m2.below (Below.refl _ _).drew (Nat.le_refl _)
  have HI := HF.sub (L' := [(w.heap.size + 1, DO (!n) a2 z2.length c2 e2), (w.heap.size, DO n a1 z1.length c1 e1)]) (by simp)
  have sh := fun W (hW : Bx w [(w.heap.size + 1, DO (!n) a2 z2.length c2 e2), (w.heap.size, DO n a1 z1.length c1 e1)] W) => (cells3 hW (w.heap.size + 1) _ _ _ _ (.head _)).1
  refine Drawn.enter (Bx w [(w.heap.size + 1, DO (!n) a2 z2.length c2 e2), (w.heap.size, DO n a1 z1.length c1 e1)]) (by kernel_rfl) ?_
  refine Drawn.tk (i := 0) (v := ?v59) rfl (fun W hW => ?_) HI ?_
  rotate_left
  · have ⟨q0, q3, q4⟩ := sh W hW
    go_simp <;> exact rfl
  refine Drawn.tk (i := 1) (v := ?v60) rfl (fun W hW => ?_) HI ?_
  rotate_left
  · have ⟨q0, q3, q4⟩ := sh W hW
    go_simp <;> exact rfl
  refine Drawn.tk (i := 2) (v := ?v61) rfl (fun W hW => ?_) HI ?_
  rotate_left
  · have ⟨q0, q3, q4⟩ := sh W hW
    go_simp <;> exact rfl
  refine Drawn.tk (i := 3) (v := ?v62) rfl (fun W hW => ?_) HI ?_
  rotate_left
  · have ⟨q0, q3, q4⟩ := sh W hW
    go_simp <;> exact rfl
  refine Drawn.tk (i := 5) (v := ?v63) rfl (fun W hW => ?_) HI ?_
  rotate_left
  · have ⟨q0, q3, q4⟩ := sh W hW
    go_simp <;> exact rfl
  refine Drawn.one (j := 4) (by kernel_rfl) rfl (fun K hK => ?_)
  go_simp
  refine (refSub24 _ _ _ _ y2 y1 _ m2 m1 HC2.out.1.1 HC1.out.1.1 (by have := Y2.out; omega) (can_len_le HC1.out.1 HC2.out.1 (by rw [HC1.out.2, HC2.out.2]; exact Int.le_of_lt hv)) (by rw [HC1.out.2, HC2.out.2]; exact Int.le_of_lt hv)).mono ?_
  rintro e w5 ⟨y5, p5, g5, rfl, O5, C5, V5, h5⟩
  refine hK _ _ (HI.keep h5) ?_
  clear hK K
  replace HI := HI.keep h5
  replace HF := HF.keep h5
  obtain ⟨x9, x8, he, _, _, m5⟩ := O5.lie
  simp only [Value.slice.injEq, true_and] at he
  obtain ⟨rfl, rfl⟩ := he
  have hlen5 : y5.length ≤ 2500000 := by exact Nat.le_trans (can_len_le C5 HC2.out.1 (by rw [V5]; have := (Nt.val_bd HC1.out.1.1).1; omega)) (Nat.le_trans Y2.out (by omega))
  clear O5 h5
  refine Drawn.one (j := 6) (by kernel_rfl) rfl (fun K hK => ?_)
  go_simp
  refine (formXL (!n) _ _ y5 e2 _ m5 C5 hlen5 (by omega) (by omega)).mono ?_
  rintro e w6 ⟨n6, z6, x6, a6, c6, rfl, F6, l6, h6⟩
  refine hK _ _ (HI.keep h6) ?_
  clear hK K
  replace HI := HI.keep h6
  replace HF := HF.keep h6
  have H6 := Hide.mk (And.intro F6 l6)
  rw [V5, HC1.out.2, HC2.out.2, sv_sub2] at H6
  clear F6 l6 h6 V5 C5 hlen5 m5 m1 m2
  obtain ⟨⟨f0, f1, f2⟩, r0, r1, r2⟩ := cells3 HF (w.heap.size + 1 + 1) _ _ _ _ (.head _)
  have HF2 := HF.fill3 (by omega) (by simp; omega) (.bool n6) (.slice a6 z6.length c6) (.int .i64 x6)
  refine Drawn.one (j := 7) (by kernel_rfl) rfl (fun K hK => ?_)
  go_simp
  replace HI := HF2.sub (L' := [(w.heap.size + 1, DO (!n) a2 z2.length c2 e2), (w.heap.size, DO n a1 z1.length c1 e1)]) (by simp)
  refine hK _ _ HI ?_
  clear hK K f0 f1 f2 r0 r1 r2
  refine Drawn.done (by kernel_rfl) ?_
  try go_simp
  go_wp2
  refine bodyPost_ret (results_D1 rfl _ _ (w.heap.size + 1 + 1) _ rfl ⟨HF2.head, rfl⟩) rfl ?_
  have L := Live.set3 (g := w.heap.size + 1 + 1) ⟨HF.head, rfl⟩ (.bool n6) (.slice a6 z6.length c6) (.int .i64 x6) (Live.one H6.out.2)
  exact ⟨n6, z6, x6, a6, c6, rfl, H6.out.1, L.all (a6, z6) (.head _), HF2.bel⟩
end Go.Proofs.Ytgfpbmjknknflaa
