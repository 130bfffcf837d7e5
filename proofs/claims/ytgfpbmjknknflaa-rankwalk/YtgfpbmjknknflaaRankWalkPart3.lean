import Derived.Test.YtgfpbmjknknflaaRankWalkPart2
namespace Go.Proofs.Ytgfpbmjknknflaa
open Go.RowKit Go.Wd Go.Box
set_option linter.unusedVariables false
set_option maxRecDepth 3000
abbrev DO (n : Bool) (a : Option Addr) (k c : Nat) (ex : Int) : Obj := .cells #[.bool n, .slice a k c, .int .i64 ex] 67 (0, 0)
/-- The value of a word, in units of 2 to the -MaxExp. -/
def wv (b : Bool) (x : Int) : Int := sv (ng b x) (un b x) * pK (ue b x)
end Go.Proofs.Ytgfpbmjknknflaa

namespace Go.Proofs.Ytgfpbmjknknflaa
open Go.RowKit Go.Wd Go.Box
set_option linter.unusedVariables false
set_option maxRecDepth 3000
/-- The exponent of the unit of a number with the top T. -/
def uu (b : Bool) (T : Int) : Int := max (T - fc b - 1) (lo b)
end Go.Proofs.Ytgfpbmjknknflaa

namespace Go.Proofs.Ytgfpbmjknknflaa
open Go.RowKit Go.Wd Go.Box
set_option linter.unusedVariables false
set_option maxRecDepth 3000
end Go.Proofs.Ytgfpbmjknknflaa

namespace Go.Proofs.Ytgfpbmjknknflaa
open Go.RowKit Go.Wd Go.Box
set_option linter.unusedVariables false
set_option maxRecDepth 3000
theorem sz_pos {b : Bool} {x : Int} (h : Ok b x) (hn : ¬ sg b ≤ x) : sz b x = x := Int.emod_eq_of_lt h.1 (by omega)
theorem sz_neg {b : Bool} {x : Int} (h : Ok b x) (hn : sg b ≤ x) : sz b x = x - sg b := by
  have := h.2
  unfold sz
  rw [← Int.sub_emod_right]
  exact Int.emod_eq_of_lt (by omega) (by omega)
/-- What the fields make is taken apart into them. -/
theorem apart {b n : Bool} {E F : Int} (h0 : 0 ≤ E) (h1 : E ≤ tp b) (h2 : 0 ≤ F) (h3 : F < fr b) :
    Ok b (sd b (E * fr b + F) n) ∧ ng b (sd b (E * fr b + F) n) = n ∧ fd b (sd b (E * fr b + F) n) = E ∧ fn b (sd b (E * fr b + F) n) = F := by
  cases b <;> cases n <;> simp only [Ok, sd, ng, fd, fn, tp, fr, sg, if_true, Bool.false_eq_true, if_false, decide_eq_true_eq, decide_eq_false_iff_not] at * <;> omega
end Go.Proofs.Ytgfpbmjknknflaa

namespace Go.Proofs.Ytgfpbmjknknflaa
open Go.RowKit Go.Wd Go.Box
set_option linter.unusedVariables false
set_option maxRecDepth 3000
theorem rInf (b n : Bool) (w : World) :
    Calls Try.prog 31 #[.int .u8 (fm b), .bool n] w fun e w' => e = .returned (.int .u64 (sd b (inf b) n)) ∧ Below w.heap.size w w' := by
  have ht := tp_bd b
  have HJ := fun w => Hide.mk (rJoin b n (tp b) 0 (by omega) (by omega) (by decide) (fr_pos b) w)
  have e1 : tp b * fr b + 0 = inf b := by cases b <;> rfl
  go_enter Try.func31, Try.ntmps31
  go_wp2_with fail
  refine (rMost b _).mono ?_
  rintro e w2 ⟨rfl, h2⟩
  rw [e1] at HJ
  go_wp2_with fail
  refine (HJ _).out.mono ?_
  rintro e w3 ⟨rfl, h3⟩
  have B3 := ((Bx.nil w).keep h2).keep h3
  clear h2 h3 HJ
  go_wp2
  go_ret
  exact ⟨rfl, B3.bel⟩
theorem rNone (b : Bool) (w : World) :
    Calls Try.prog 52 #[.int .u8 (fm b)] w fun e w' => e = .returned (.int .u64 (nan b)) ∧ Below w.heap.size w w' := by
  have ht := tp_bd b
  have hf : 0 ≤ fr b / 2 ∧ fr b / 2 < fr b := by cases b <;> decide
  have HJ := fun w => Hide.mk (rJoin b false (tp b) (fr b / 2) (by omega) (by omega) hf.1 hf.2 w)
  have e1 : sd b (tp b * fr b + fr b / 2) false = nan b := by cases b <;> rfl
  rw [e1] at HJ
  clear e1 hf ht
  cases b
  · rw [show fm false = 1 from rfl, show fr false / 2 = 4194304 from rfl, show tp false = 255 from rfl] at *
    go_enter Try.func52, Try.ntmps52
    go_wp2_with fail
    refine (rMost false _).mono ?_
    rintro e w1 ⟨rfl, h1⟩
    rw [show tp false = 255 from rfl]
    go_wp2_with fail
    refine (rFrac false _).mono ?_
    rintro e w2 ⟨rfl, h2⟩
    rw [show fc false = 23 from rfl]
    go_wp2_with fail
    refine (HJ _).out.mono ?_
    rintro e w3 ⟨rfl, h3⟩
    have B3 := (((Bx.nil w).keep h1).keep h2).keep h3
    clear HJ h1 h2 h3
    go_wp2
    go_ret
    exact ⟨rfl, B3.bel⟩
  · rw [show fm true = 2 from rfl, show fr true / 2 = 2251799813685248 from rfl, show tp true = 2047 from rfl] at *
    go_enter Try.func52, Try.ntmps52
    go_wp2_with fail
    refine (rMost true _).mono ?_
    rintro e w1 ⟨rfl, h1⟩
    rw [show tp true = 2047 from rfl]
    go_wp2_with fail
    refine (rFrac true _).mono ?_
    rintro e w2 ⟨rfl, h2⟩
    rw [show fc true = 52 from rfl]
    go_wp2_with fail
    refine (HJ _).out.mono ?_
    rintro e w3 ⟨rfl, h3⟩
    have B3 := (((Bx.nil w).keep h1).keep h2).keep h3
    clear HJ h1 h2 h3
    go_wp2
    go_ret
    exact ⟨rfl, B3.bel⟩
theorem field_neg (n : Bool) (e f : Int) (w : World) : Sem.run Try.prog (Instr.field 70 (.agg #[.bool n, .int .i64 e, .int .u64 f]) 0) w = .ok (.bool n) w := by
  kernel_rfl
/-- Where the reference's steps end. -/
theorem cl_cases (b : Bool) (x : Int) : (cl b x = 1 ↔ sz b x = 0) ∧ (cl b x = 4 ↔ sz b x = inf b) := by
  have hi : fr b ≤ inf b := by cases b <;> decide
  have hf := fr_pos b
  unfold cl
  by_cases c1 : sz b x = 0
  · rw [if_pos c1]; omega
  · rw [if_neg c1]
    by_cases c2 : sz b x < fr b
    · rw [if_pos c2]; omega
    · rw [if_neg c2]
      by_cases c3 : sz b x < inf b
      · rw [if_pos c3]; omega
      · rw [if_neg c3]
        by_cases c4 : sz b x = inf b
        · rw [if_pos c4]; omega
        · rw [if_neg c4]; omega
theorem is_inf {b : Bool} {x : Int} (h : Ok b x) : x = inf b ↔ (sz b x = inf b ∧ ng b x = false) := by
  have hl := inf_lt b
  unfold ng
  by_cases c : sg b ≤ x
  · rw [sz_neg h c, decide_eq_true c]
    constructor
    · intro e; omega
    · intro e; exact absurd e.2 (by simp)
  · rw [sz_pos h c, decide_eq_false c]; simp
/-- The reference's step up. -/
theorem rUp (b : Bool) (x : Int) (h : Ok b x) (w : World) :
    Calls Try.prog 32 #[.int .u8 (fm b), .int .u64 x] w fun e w' => e = .returned (.tuple #[.int .u64 (upx b x).1, .bool (decide ((upx b x).2 = 0))]) ∧ Below w.heap.size w w' := by
  have h5 := cl_5 b x
  obtain ⟨h1, h4⟩ := cl_cases b x
  have hin := is_inf h
  have hp := sg_pos b
  have hsl := sg_le b
  have k0 := h.1
  have k1 := h.2
  have HC := fun w => Hide.mk (rClass b x h w)
  have HS := fun w => Hide.mk (rSplit b x h w)
  by_cases c5 : inf b < sz b x
  · have HE : Hide (upx b x = (nan b, 0)) := ⟨by unfold upx; rw [if_pos c5]⟩
    have d1 : (cl b x == 5) = true := by simp [h5.2 c5]
    clear c5 h5 h1 h4 hin
    rw [HE.out]
    go_enter Try.func32, Try.ntmps32
    go_wp2_with fail
    refine (HC _).out.mono ?_
    rintro e w2 ⟨rfl, h2⟩
    go_wp2_with fail
    refine (HS _).out.mono ?_
    rintro e w3 ⟨rfl, h3⟩
    delta FV
    go_wp2_with fail
    rw [field_neg]
    go_wp2_with fail
    refine (rNone b _).mono ?_
    rintro e w4 ⟨rfl, h4⟩
    have B4 := (((Bx.nil w).keep h2).keep h3).keep h4
    clear h2 h3 h4 HC HS
    go_wp2
    go_ret2
    exact ⟨by simp, B4.bel⟩
  · have d1 : (cl b x == 5) = false := beq_eq_false_iff_ne.2 (fun hh => c5 (h5.1 hh))
    by_cases c4 : x = inf b
    · have HE : Hide (upx b x = (0, 7)) := ⟨by unfold upx; rw [if_neg c5, if_pos c4]⟩
      obtain ⟨i1, i2⟩ := hin.1 c4
      have d2 : (cl b x == 4) = true := by simp [h4.2 i1]
      clear c5 h5 h1 h4 hin c4 i1
      rw [HE.out]
      rw [i2] at HS
      go_enter Try.func32, Try.ntmps32
      go_wp2_with fail
      refine (HC _).out.mono ?_
      rintro e w2 ⟨rfl, h2⟩
      go_wp2_with fail
      refine (HS _).out.mono ?_
      rintro e w3 ⟨rfl, h3⟩
      delta FV
      go_wp2_with fail
      rw [field_neg]
      have B3 := ((Bx.nil w).keep h2).keep h3
      clear h2 h3 HC HS
      go_wp2
      go_ret2
      exact ⟨by simp, B3.bel⟩
    · have hE : upx b x = (up b x, 0) := by unfold upx; rw [if_neg c5, if_neg c4]
      have hq : ∀ q, ng b x = q → ((cl b x == 4) && !q) = false := by
        intro q hq
        cases q
        · have : cl b x ≠ 4 := fun hh => c4 (hin.2 ⟨h4.1 hh, hq⟩)
          simp [this]
        · simp
      by_cases c1 : sz b x = 0
      · have HE : Hide (upx b x = (1, 0)) := ⟨by rw [hE]; unfold up; rw [if_pos c1]⟩
        have d3 : (cl b x == 1) = true := by simp [h1.2 c1]
        have d2 : (cl b x == 4) = false := by simp [h1.2 c1]
        clear hE hq c5 h5 h1 h4 hin c4 c1
        rw [HE.out]
        go_enter Try.func32, Try.ntmps32
        go_wp2_with fail
        refine (HC _).out.mono ?_
        rintro e w2 ⟨rfl, h2⟩
        go_wp2_with fail
        refine (HS _).out.mono ?_
        rintro e w3 ⟨rfl, h3⟩
        delta FV
        go_wp2_with fail
        rw [field_neg]
        have B3 := ((Bx.nil w).keep h2).keep h3
        clear h2 h3 HC HS
        go_wp2
        go_ret2
        exact ⟨by simp, B3.bel⟩
      · have d3 : (cl b x == 1) = false := beq_eq_false_iff_ne.2 (fun hh => c1 (h1.1 hh))
        by_cases c2 : sg b ≤ x
        · have HE : Hide (upx b x = (x - 1, 0)) := ⟨by rw [hE]; unfold up; rw [if_neg c1, if_pos c2]⟩
          have hn : ng b x = true := decide_eq_true c2
          rw [hn] at HS
          clear hE hq c5 h5 h1 h4 hin c4 c1 hn
          rw [HE.out]
          by_cases d2 : (cl b x == 4) = true
          · go_enter Try.func32, Try.ntmps32
            go_wp2_with fail
            refine (HC _).out.mono ?_
            rintro e w2 ⟨rfl, h2⟩
            go_wp2_with fail
            refine (HS _).out.mono ?_
            rintro e w3 ⟨rfl, h3⟩
            delta FV
            go_wp2_with fail
            rw [field_neg]
            have B3 := ((Bx.nil w).keep h2).keep h3
            clear h2 h3 HC HS
            go_wp2
            go_ret2
            exact ⟨by simp, B3.bel⟩
          · have d2' : (cl b x == 4) = false := by simpa using d2
            clear d2
            go_enter Try.func32, Try.ntmps32
            go_wp2_with fail
            refine (HC _).out.mono ?_
            rintro e w2 ⟨rfl, h2⟩
            go_wp2_with fail
            refine (HS _).out.mono ?_
            rintro e w3 ⟨rfl, h3⟩
            delta FV
            go_wp2_with fail
            rw [field_neg]
            have B3 := ((Bx.nil w).keep h2).keep h3
            clear h2 h3 HC HS
            go_wp2
            go_ret2
            exact ⟨by simp, B3.bel⟩
        · have HE : Hide (upx b x = (x + 1, 0)) := ⟨by rw [hE]; unfold up; rw [if_neg c1, if_neg c2]⟩
          have hn : ng b x = false := decide_eq_false c2
          have d2 : (cl b x == 4) = false := by simpa using hq false hn
          have c3 : x < sg b := by omega
          rw [hn] at HS
          clear hE hq c5 h5 h1 h4 hin c4 c1 hn c2
          rw [HE.out]
          go_enter Try.func32, Try.ntmps32
          go_wp2_with fail
          refine (HC _).out.mono ?_
          rintro e w2 ⟨rfl, h2⟩
          go_wp2_with fail
          refine (HS _).out.mono ?_
          rintro e w3 ⟨rfl, h3⟩
          delta FV
          go_wp2_with fail
          rw [field_neg]
          have B3 := ((Bx.nil w).keep h2).keep h3
          clear h2 h3 HC HS
          go_wp2
          go_ret2
          exact ⟨by simp, B3.bel⟩
end Go.Proofs.Ytgfpbmjknknflaa

namespace Go.Proofs.Ytgfpbmjknknflaa
open Go.RowKit Go.Wd Go.Box
set_option linter.unusedVariables false
set_option maxRecDepth 3000
/-- The one form of s times 2 to the E, however long. -/
def Fm (s E : Int) (n : Bool) (zs : List Int) (ex : Int) : Prop :=
  (s = 0 ∧ n = false ∧ zs = [] ∧ ex = 0) ∨ (s ≠ 0 ∧ ∃ t : Nat, LowBit (s.natAbs : Int) t ∧ n = decide (s < 0) ∧ ex = E + t ∧ Nt.Can zs ∧ Nt.val zs = (s.natAbs : Int) / 2 ^ t)
def RF (w w' : World) (s E : Int) (e : Ending) : Prop :=
  ∃ n zs ex a c, e = .returned (dV n a zs.length c ex) ∧ Fm s E n zs ex ∧ Lie w' a zs ∧ Below w.heap.size w w'
end Go.Proofs.Ytgfpbmjknknflaa

namespace Go.Proofs.Ytgfpbmjknknflaa
open Go.RowKit Go.Wd Go.Box
set_option linter.unusedVariables false
set_option maxRecDepth 3000
end Go.Proofs.Ytgfpbmjknknflaa

namespace Go.Proofs.Ytgfpbmjknknflaa
open Go.RowKit Go.Wd Go.Box
set_option linter.unusedVariables false
set_option maxRecDepth 3000
end Go.Proofs.Ytgfpbmjknknflaa

namespace Go.Proofs.Ytgfpbmjknknflaa
open Go.RowKit Go.Wd Go.Box
set_option linter.unusedVariables false
set_option maxRecDepth 3000
end Go.Proofs.Ytgfpbmjknknflaa

namespace Go.Proofs.Ytgfpbmjknknflaa
open Go.RowKit Go.Wd Go.Box
set_option linter.unusedVariables false
set_option maxRecDepth 3000
end Go.Proofs.Ytgfpbmjknknflaa

namespace Go.Proofs.Ytgfpbmjknknflaa
open Go.RowKit Go.Wd Go.Box
set_option linter.unusedVariables false
set_option maxRecDepth 3000
/-- A call's answer for the exact number s times 2 to the E, as it lies in w. -/
def Ans (w : World) (s E : Int) (n : Bool) (a : Option Addr) (k c : Nat) (ex code : Int) : Prop :=
  (s = 0 ∧ n = false ∧ a = none ∧ k = 0 ∧ c = 0 ∧ ex = 0 ∧ code = 0) ∨ (s ≠ 0 ∧ ∃ t : Nat, LowBit (s.natAbs : Int) t ∧
    ((-16777216 ≤ E + t ∧ E + t ≤ 16777216 ∧ n = decide (s < 0) ∧ ex = E + t ∧ code = 0 ∧ ∃ zs, k = zs.length ∧ Good zs ((s.natAbs : Int) / 2 ^ t) ∧ Lie w a zs) ∨
     (4294967296 ^ 4096 ≤ (s.natAbs : Int) / 2 ^ t ∧ n = false ∧ a = none ∧ k = 0 ∧ c = 0 ∧ ex = 0 ∧ code = 3) ∨
     ((s.natAbs : Int) / 2 ^ t < 4294967296 ^ 4096 ∧ (E + t < -16777216 ∨ 16777216 < E + t) ∧ n = false ∧ a = none ∧ k = 0 ∧ c = 0 ∧ ex = 0 ∧ code = 20)))
theorem Ans.below {w w' : World} {s E : Int} {n : Bool} {a : Option Addr} {k c : Nat} {ex code : Int} (h : Ans w s E n a k c ex code) (hb : Below w.heap.size w w') : Ans w' s E n a k c ex code := by
  rcases h with h | ⟨h0, t, ht, h⟩
  · exact .inl h
  · refine .inr ⟨h0, t, ht, ?_⟩
    rcases h with ⟨j1, j2, j3, j4, j5, zs, j6, j7, j8⟩ | h | h
    · exact .inl ⟨j1, j2, j3, j4, j5, zs, j6, j7, j8.below hb (Nat.le_refl _)⟩
    · exact .inr (.inl h)
    · exact .inr (.inr h)
end Go.Proofs.Ytgfpbmjknknflaa

namespace Go.Proofs.Ytgfpbmjknknflaa
open Go.RowKit Go.Wd Go.Box
set_option linter.unusedVariables false
set_option maxRecDepth 3000
theorem RF.set {w W : World} {s E : Int} {n6 : Bool} {z6 : List Int} {x6 : Int} {a6 : Option Addr} {c6 g : Nat} (F : Fm s E n6 z6 x6) (l6 : Lie W a6 z6) (hg : W.heap[g]? = some (DO false none 0 0 0)) (hb : Below w.heap.size w W) (hle : w.heap.size ≤ g) :
    RF w (((W.setCell ⟨g, 0, none⟩ (.bool n6)).setCell ⟨g, 1, none⟩ (.slice a6 z6.length c6)).setCell ⟨g, 2, none⟩ (.int .i64 x6)) s E (.returned (dV n6 a6 z6.length c6 x6)) := by
  have L := Live.set3 (g := g) ⟨hg, rfl⟩ (.bool n6) (.slice a6 z6.length c6) (.int .i64 x6) (Live.one l6)
  exact ⟨n6, z6, x6, a6, c6, rfl, F, L.all (a6, z6) (.head _), ((hb.setCell (p := ⟨g, 0, none⟩) hle _).setCell (p := ⟨g, 1, none⟩) hle _).setCell (p := ⟨g, 2, none⟩) hle _⟩
end Go.Proofs.Ytgfpbmjknknflaa

namespace Go.Proofs.Ytgfpbmjknknflaa
open Go.RowKit Go.Wd Go.Box
set_option linter.unusedVariables false
set_option maxRecDepth 3000
end Go.Proofs.Ytgfpbmjknknflaa

namespace Go.Proofs.Ytgfpbmjknknflaa
open Go.RowKit Go.Wd Go.Box
set_option linter.unusedVariables false
set_option maxRecDepth 3000
/-- The sign of a number, as Sign tells it. -/
def SgnOf (n : Bool) (k : Nat) (s : Int) : Prop := (k = 0 ∧ s = 0) ∨ (0 < k ∧ n = false ∧ s = 1) ∨ (0 < k ∧ n = true ∧ s = -1)
end Go.Proofs.Ytgfpbmjknknflaa

namespace Go.Proofs.Ytgfpbmjknknflaa
open Go.RowKit Go.Wd Go.Box
set_option linter.unusedVariables false
set_option maxRecDepth 3000
end Go.Proofs.Ytgfpbmjknknflaa

namespace Go.Proofs.Ytgfpbmjknknflaa
open Go.RowKit Go.Wd Go.Box
set_option linter.unusedVariables false
set_option maxRecDepth 3000
theorem sgn_is1 {x y : Int} (h : x < y) : sgn x y = -1 := by unfold sgn; rw [if_pos h]
theorem sgn_is2 {x y : Int} (h : y < x) : sgn x y = 1 := by unfold sgn; rw [if_neg (by omega), if_pos h]
theorem sgn_is0 {x y : Int} (h : x = y) : sgn x y = 0 := by unfold sgn; rw [if_neg (by omega), if_neg (by omega)]
end Go.Proofs.Ytgfpbmjknknflaa

namespace Go.Proofs.Ytgfpbmjknknflaa
open Go.RowKit Go.Wd Go.Box
set_option linter.unusedVariables false
set_option maxRecDepth 3000
/-- Units, unit and value of a size. -/
def us (b : Bool) (s : Int) : Int := if s / fr b = 0 then s % fr b else fr b + s % fr b
def es (b : Bool) (s : Int) : Int := max (s / fr b - 1) 0 + lo b
def vz (b : Bool) (s : Int) : Int := us b s * pK (es b s)
end Go.Proofs.Ytgfpbmjknknflaa

namespace Go.Proofs.Ytgfpbmjknknflaa
open Go.RowKit Go.Wd Go.Box
set_option linter.unusedVariables false
set_option maxRecDepth 3000
/-- What is true of a step up between finite words. -/
structure NextUp (b : Bool) (x : Int) : Prop where
  ok : Ok b (up b x)
  rise : wv b (up b x) = wv b x + pK (ue b x) ∨ wv b (up b x) = wv b x + pK (ue b (up b x))
  none : ∀ z, Ok b z → wv b z ≤ wv b x ∨ wv b (up b x) ≤ wv b z
  fin : fl b (up b x) ≠ inf b
  back : wv b (fl b (up b (fl b (up b x)))) = wv b x
  okb : Ok b (fl b (up b (fl b (up b x))))
  finb : sz b (fl b (up b (fl b (up b x)))) < inf b
end Go.Proofs.Ytgfpbmjknknflaa

namespace Go.Proofs.Ytgfpbmjknknflaa
open Go.RowKit Go.Wd Go.Box
set_option linter.unusedVariables false
set_option maxRecDepth 3000
/-- Where a word stands: the box and the value. -/
abbrev KO (x : Int) (n g : Bool) (p : Int) : Obj := .cells #[.int .u64 x, .bool n, .bool g, .int .i64 p] 58 (0, 0)
abbrev KV (x : Int) (n g : Bool) (p : Int) : Value := .agg #[.int .u64 x, .bool n, .bool g, .int .i64 p]
theorem Try.sizeStand : (Try.prog.info? 58).map (·.size) = some 4 := by kernel_rfl
theorem results_K2 {fn : Func} {p u : Tmp} (h : fn.results = #[.cell p 58, .tmp u]) (tmps : Array Value) (w : World) (g : Nat) (cs : Array Value) (hp : tmps.getD p undef = .pointer (some ⟨g, 0, none⟩)) (hg : w.heap[g]? = some (.cells cs 58 (0, 0))) (hs : cs.size = 4) :
    (results fn tmps).run Try.prog w = .ok (.tuple #[.agg cs, tmps.getD u undef]) w := by
  rw [results_cell_tmp h, hp]
  simp [asAddr, run_loadVar_row w g 58 58 cs (0, 0) _ hg Try.underlying58 rfl (by rw [Try.sizeStand, hs])]
/-- The place of a word. -/
def pl (b : Bool) (x : Int) : Int := sv (ng b x) (sz b x)
theorem pl_bd (b : Bool) (x : Int) : -9223372036854775808 < pl b x ∧ pl b x < 9223372036854775808 := by
  have h := sz_bd b x
  have h2 : sg b ≤ 9223372036854775808 := by cases b <;> decide
  unfold pl
  cases ng b x <;> simp only [sv_f, sv_t] <;> omega
/-- What standOf tells. -/
def stV (b : Bool) (x : Int) : Value := if inf b < sz b x then KV (nan b) true false 0 else KV x false (ng b x) (pl b x)
theorem wStandOf_nan (b : Bool) (x : Int) (h : Ok b x) (hc : inf b < sz b x) (w : World) :
    Calls Try.prog 43 #[.int .u8 (fm b), .int .u64 x] w fun e w' => e = .returned (.tuple #[KV (nan b) true false 0, .int .i64 0]) ∧ Below w.heap.size w w' := by
  have d1 : (cl b x == 5) = true := by simp [(cl_5 b x).2 hc]
  have B1 := (Bx.nil w).push (KO 0 false false 0)
  go_enter Try.func43, Try.ntmps43
  go_wp2_with fail
  refine (wClass b x h _).mono ?_
  rintro e w2 ⟨rfl, h2⟩
  have B2 := B1.keep h2
  clear h2 B1
  go_wp2_with fail
  refine (wNoneF b _).mono ?_
  rintro e w3 ⟨rfl, h3⟩
  have B3 := B2.keep h3
  obtain ⟨⟨f0, f1, f2, f3⟩, r0, r1, r2, r3⟩ := cells4 B3 w.heap.size _ _ _ _ _ (.head _)
  clear h3 B2
  go_wp2
  have B4 := B3.fill4 (Nat.le_refl _) (by simp) (.int .u64 (nan b)) (.bool true) (.bool false) (.int .i64 0)
  refine bodyPost_ret (results_K2 rfl _ _ w.heap.size _ rfl B4.head rfl) rfl ?_
  exact ⟨rfl, B4.bel⟩
theorem wStandOf_num (b : Bool) (x : Int) (h : Ok b x) (hc : ¬ inf b < sz b x) (n : Bool) (hn : ng b x = n) (p : Int) (hp : pl b x = p) (w : World) :
    Calls Try.prog 43 #[.int .u8 (fm b), .int .u64 x] w fun e w' => e = .returned (.tuple #[KV x false n p, .int .i64 0]) ∧ Below w.heap.size w w' := by
  have d1 : (cl b x == 5) = false := beq_eq_false_iff_ne.2 (fun q => hc ((cl_5 b x).1 q))
  have HS := fun W => Hide.mk (wSplit b x h W)
  have HA := fun W => Hide.mk (wAbs b x h W)
  rw [hn] at HS
  rw [show abx b x = sz b x by unfold abx; rw [if_neg hc]] at HA
  have hs1 := sz_bd b x
  have hs2 : sg b ≤ 9223372036854775808 := by cases b <;> decide
  have hw : IntKind.i64.wrap (sz b x) = sz b x := by rw [IntKind.wrap_i64]; omega
  have hw2 : IntKind.i64.wrap (-(sz b x)) = -(sz b x) := by rw [IntKind.wrap_i64]; omega
  have hpl : Hide (sv n (sz b x) = p) := ⟨by rw [← hp, ← hn]; rfl⟩
  clear hp hn hs1 hs2
  have B1 := (Bx.nil w).push (KO 0 false false 0)
  cases n
  · go_enter Try.func43, Try.ntmps43
    go_wp2_with fail
    refine (wClass b x h _).mono ?_
    rintro e w2 ⟨rfl, h2⟩
    have B2 := B1.keep h2
    clear h2 B1
    go_wp2_with fail
    refine (HS _).out.mono ?_
    rintro e w3 ⟨rfl, h3⟩
    have B3 := (B2.keep h3).push (.cells #[.bool false, .int .i64 (fd b x), .int .u64 (fn b x)] 70 (0, 0))
    have o7 : w.heap.size < w3.heap.size := (B2.keep h3).lt (p := (w.heap.size, KO 0 false false 0)) (by simp)
    clear h3 B2
    go_wp2_with fail
    refine (HA _).out.mono ?_
    rintro e w4 ⟨rfl, h4⟩
    have B4 := B3.keep h4
    obtain ⟨⟨f0, f1, f2, f3⟩, r0, r1, r2, r3⟩ := cells4 B4 w.heap.size _ _ _ _ _ (.tail _ (.head _))
    obtain ⟨⟨t0, t1, t2⟩, _⟩ := cells3 B4 w3.heap.size _ _ _ _ (.head _)
    clear h4 B3
    go_wp2
    have B5 := (B4.sub (L' := [(w.heap.size, KO 0 false false 0)]) (by simp)).fill4 (Nat.le_refl _) (by simp) (.int .u64 x) (.bool false) (.bool false) (.int .i64 (sz b x))
    refine bodyPost_ret (results_K2 rfl _ _ w.heap.size _ rfl B5.head rfl) rfl ?_
    exact ⟨by rw [← hpl.out]; rfl, B5.bel⟩
  · go_enter Try.func43, Try.ntmps43
    go_wp2_with fail
    refine (wClass b x h _).mono ?_
    rintro e w2 ⟨rfl, h2⟩
    have B2 := B1.keep h2
    clear h2 B1
    go_wp2_with fail
    refine (HS _).out.mono ?_
    rintro e w3 ⟨rfl, h3⟩
    have B3 := (B2.keep h3).push (.cells #[.bool true, .int .i64 (fd b x), .int .u64 (fn b x)] 70 (0, 0))
    have o7 : w.heap.size < w3.heap.size := (B2.keep h3).lt (p := (w.heap.size, KO 0 false false 0)) (by simp)
    clear h3 B2
    go_wp2_with fail
    refine (HA _).out.mono ?_
    rintro e w4 ⟨rfl, h4⟩
    have B4 := B3.keep h4
    obtain ⟨⟨f0, f1, f2, f3⟩, r0, r1, r2, r3⟩ := cells4 B4 w.heap.size _ _ _ _ _ (.tail _ (.head _))
    obtain ⟨⟨t0, t1, t2⟩, _⟩ := cells3 B4 w3.heap.size _ _ _ _ (.head _)
    clear h4 B3
    go_wp2
    have B5 := (B4.sub (L' := [(w.heap.size, KO 0 false false 0)]) (by simp)).fill4 (Nat.le_refl _) (by simp) (.int .u64 x) (.bool false) (.bool true) (.int .i64 (-(sz b x)))
    refine bodyPost_ret (results_K2 rfl _ _ w.heap.size _ rfl B5.head rfl) rfl ?_
    exact ⟨by rw [← hpl.out]; rfl, B5.bel⟩
theorem wStandOf (b : Bool) (x : Int) (h : Ok b x) (w : World) :
    Calls Try.prog 43 #[.int .u8 (fm b), .int .u64 x] w fun e w' => e = .returned (.tuple #[stV b x, .int .i64 0]) ∧ Below w.heap.size w w' := by
  unfold stV
  by_cases c : inf b < sz b x
  · rw [if_pos c]; exact wStandOf_nan b x h c w
  · rw [if_neg c]; exact wStandOf_num b x h c _ rfl _ rfl w
end Go.Proofs.Ytgfpbmjknknflaa

namespace Go.Proofs.Ytgfpbmjknknflaa
open Go.RowKit Go.Wd Go.Box
set_option linter.unusedVariables false
set_option maxRecDepth 3000
theorem results_K3 {fn : Func} {p q u : Tmp} (h : fn.results = #[.cell p 58, .cell q 58, .tmp u]) (tmps : Array Value) (w : World) (g k : Nat) (cs ds : Array Value) (hp : tmps.getD p undef = .pointer (some ⟨g, 0, none⟩)) (hq : tmps.getD q undef = .pointer (some ⟨k, 0, none⟩)) (hg : w.heap[g]? = some (.cells cs 58 (0, 0))) (hk : w.heap[k]? = some (.cells ds 58 (0, 0))) (hs : cs.size = 4) (ht : ds.size = 4) :
    (results fn tmps).run Try.prog w = .ok (.tuple #[.agg cs, .agg ds, tmps.getD u undef]) w := by
  have e : (results fn tmps).run Try.prog w = ((asAddr (tmps.getD p undef)).run Try.prog w).andThen fun a w₁ => ((loadVar 58 a).run Try.prog w₁).andThen fun v w₂ => ((asAddr (tmps.getD q undef)).run Try.prog w₂).andThen fun a' w₃ => ((loadVar 58 a').run Try.prog w₃).andThen fun v' w₄ => .ok (.tuple #[v, v', tmps.getD u undef]) w₄ := by
    simp only [results, h]
    simp [Sem.run_bind, Result.andThen]
  rw [e, hp, hq]
  simp [asAddr, Result.andThen, run_loadVar_row w g 58 58 cs (0, 0) _ hg Try.underlying58 rfl (by rw [Try.sizeStand, hs]), run_loadVar_row w k 58 58 ds (0, 0) _ hk Try.underlying58 rfl (by rw [Try.sizeStand, ht])]
theorem wStandsOf_ok (b : Bool) (x y : Int) (hx : Ok b x) (hy : Ok b y) (w : World) {u1 u2 : Int} {n1 n2 g1 g2 : Bool} {p1 p2 : Int} (e1 : stV b x = KV u1 n1 g1 p1) (e2 : stV b y = KV u2 n2 g2 p2) :
    Calls Try.prog 34 #[.int .u8 (fm b), .int .u64 x, .int .u64 y] w fun e w' => e = .returned (.tuple #[KV u1 n1 g1 p1, KV u2 n2 g2 p2, .int .i64 0]) ∧ Below w.heap.size w w' := by
  have H1 := fun W => Hide.mk (wStandOf b x hx W)
  have H2 := fun W => Hide.mk (wStandOf b y hy W)
  rw [e1] at H1
  rw [e2] at H2
  clear e1 e2
  have B1 := ((Bx.nil w).push (KO 0 false false 0)).push (KO 0 false false 0)
  rw [show (w.alloc (KO 0 false false 0)).heap.size = w.heap.size + 1 by simp] at B1
  go_enter Try.func34, Try.ntmps34
  go_wp2_with fail
  refine (H1 _).out.mono ?_
  rintro e w2 ⟨rfl, h2⟩
  have B2 := (B1.keep h2).sub (L' := [(w.heap.size, KO 0 false false 0), (w.heap.size + 1, KO 0 false false 0)]) (by simp)
  obtain ⟨⟨f0, f1, f2, f3⟩, r0, r1, r2, r3⟩ := cells4 B2 w.heap.size _ _ _ _ _ (.head _)
  replace B2 := (B2.fill4 (Nat.le_refl _) (by simp) (.int .u64 u1) (.bool n1) (.bool g1) (.int .i64 p1))
  clear h2 B1 H1
  go_wp2_with fail
  clear f0 f1 f2 f3 r0 r1 r2 r3
  refine (H2 _).out.mono ?_
  rintro e w3 ⟨rfl, h3⟩
  have B3 := (B2.keep h3).sub (L' := [(w.heap.size + 1, KO 0 false false 0), (w.heap.size, KO u1 n1 g1 p1)]) (by simp)
  clear h3 B2 H2
  obtain ⟨⟨f0, f1, f2, f3⟩, r0, r1, r2, r3⟩ := cells4 B3 (w.heap.size + 1) _ _ _ _ _ (.head _)
  replace B3 := (B3.fill4 (by omega) (by simp) (.int .u64 u2) (.bool n2) (.bool g2) (.int .i64 p2))
  go_wp2_with fail
  clear f0 f1 f2 f3 r0 r1 r2 r3
  generalize (((w3.setCell ⟨w.heap.size + 1, 0, none⟩ (.int .u64 u2)).setCell ⟨w.heap.size + 1, 1, none⟩ (.bool n2)).setCell ⟨w.heap.size + 1, 2, none⟩ (.bool g2)).setCell ⟨w.heap.size + 1, 3, none⟩ (.int .i64 p2) = W4 at *
  have HI := B3.drew
  clear B3
  have sh := fun W (hW : Bx w [(w.heap.size + 1, KO u2 n2 g2 p2), (w.heap.size, KO u1 n1 g1 p1)] W) => And.intro (cells4 hW (w.heap.size + 1) _ _ _ _ _ (.head _)).1 (cells4 hW w.heap.size _ _ _ _ _ (.tail _ (.head _))).1
  refine Drawn.enter (Bx w [(w.heap.size + 1, KO u2 n2 g2 p2), (w.heap.size, KO u1 n1 g1 p1)]) (by kernel_rfl) ?_
  refine Drawn.tk (i := 0) (v := ?v0) rfl (fun W hW => ?_) HI ?_
  rotate_left
  · have ⟨⟨t0, t1, t2, t3⟩, f0, f1, f2, f3⟩ := sh W hW
    go_simp <;> exact rfl
  refine Drawn.tk (i := 1) (v := ?v1) rfl (fun W hW => ?_) HI ?_
  rotate_left
  · have ⟨⟨t0, t1, t2, t3⟩, f0, f1, f2, f3⟩ := sh W hW
    go_simp <;> exact rfl
  generalize W4.drew = W5 at *
  obtain ⟨⟨f0, f1, f2, f3⟩, r0, r1, r2, r3⟩ := cells4 HI w.heap.size _ _ _ _ _ (.tail _ (.head _))
  replace HI := (HI.sub (L' := [(w.heap.size, KO u1 n1 g1 p1), (w.heap.size + 1, KO u2 n2 g2 p2)]) (by simp)).fill4 (Nat.le_refl _) (by simp) (.int .u64 u1) (.bool n1) (.bool g1) (.int .i64 p1)
  refine Drawn.one (j := 2) (by kernel_rfl) rfl (fun K hK => ?_)
  go_simp
  refine hK _ _ (HI.sub (by simp)) ?_
  clear hK K f0 f1 f2 f3 r0 r1 r2 r3
  replace HI := HI.sub (L' := [(w.heap.size + 1, KO u2 n2 g2 p2), (w.heap.size, KO u1 n1 g1 p1)]) (by simp)
  obtain ⟨⟨f0, f1, f2, f3⟩, r0, r1, r2, r3⟩ := cells4 HI (w.heap.size + 1) _ _ _ _ _ (.head _)
  replace HI := HI.fill4 (by omega) (by simp) (.int .u64 u2) (.bool n2) (.bool g2) (.int .i64 p2)
  refine Drawn.one (j := 3) (by kernel_rfl) rfl (fun K hK => ?_)
  go_simp
  refine hK _ _ (HI.sub (by simp)) ?_
  clear hK K f0 f1 f2 f3 r0 r1 r2 r3
  refine Drawn.tk (i := 4) (v := ?v2) rfl (fun W hW => ?_) HI ?_
  rotate_left
  · have ⟨⟨t0, t1, t2, t3⟩, f0, f1, f2, f3⟩ := sh W hW
    go_simp <;> exact rfl
  refine Drawn.done (by kernel_rfl) ?_
  try go_simp
  go_wp2
  refine bodyPost_ret (results_K3 rfl _ _ w.heap.size (w.heap.size + 1) _ _ rfl rfl HI.tail.head HI.head rfl rfl) rfl ?_
  exact ⟨rfl, HI.bel⟩
end Go.Proofs.Ytgfpbmjknknflaa

namespace Go.Proofs.Ytgfpbmjknknflaa
open Go.RowKit Go.Wd Go.Box
set_option linter.unusedVariables false
set_option maxRecDepth 3000
/-- How two words stand by their values. -/
def co (b : Bool) (x y : Int) : Int := if inf b < sz b x ∨ inf b < sz b y then 4 else if pl b x < pl b y then 1 else if pl b y < pl b x then 3 else 2
/-- A word's height in the total order. -/
def ht (b : Bool) (x : Int) : Int := if inf b < sz b x then 9223372036854775807 else if ng b x = true then pl b x - 1 else pl b x
theorem wHeight (u : Int) (n g : Bool) (p : Int) (h1 : -9223372036854775808 < p) (h2 : p < 9223372036854775808) (w : World) :
    Calls Try.prog 36 #[KV u n g p] w fun e w' => e = .returned (.int .i64 (if n = true then 9223372036854775807 else if g = true then p - 1 else p)) ∧ Below w.heap.size w w' := by
  have B1 := (Bx.nil w).push (KO u n g p)
  obtain ⟨⟨f0, f1, f2, f3⟩, _⟩ := cells4 B1 w.heap.size _ _ _ _ _ (.head _)
  have hw : IntKind.i64.wrap (p - 1) = p - 1 := by rw [IntKind.wrap_i64]; omega
  cases n
  · cases g
    · go_enter Try.func36, Try.ntmps36
      go_wp2
      go_ret
      exact ⟨by simp, B1.bel⟩
    · go_enter Try.func36, Try.ntmps36
      go_wp2
      go_ret
      exact ⟨by simp, B1.bel⟩
  · go_enter Try.func36, Try.ntmps36
    go_wp2
    go_ret
    exact ⟨by simp, B1.bel⟩
theorem cmp64 (x y : Int) (w : World) : Calls Try.prog 35 #[.int .i64 x, .int .i64 y] w fun e w' => e = .returned (.int .i64 (sgn x y)) ∧ Below w.heap.size w w' := by
  by_cases c : x < y
  · rw [sgn_is1 c]
    go_enter Try.func35, Try.ntmps35
    go_wp2
    go_ret
    exact ⟨by simp, Below.refl _ _⟩
  · by_cases d : y < x
    · rw [sgn_is2 d]
      go_enter Try.func35, Try.ntmps35
      go_wp2
      go_ret
      exact ⟨by simp, Below.refl _ _⟩
    · rw [sgn_is0 (show x = y by omega)]
      go_enter Try.func35, Try.ntmps35
      go_wp2
      go_ret
      exact ⟨by simp, Below.refl _ _⟩
end Go.Proofs.Ytgfpbmjknknflaa

namespace Go.Proofs.Ytgfpbmjknknflaa
open Go.RowKit Go.Wd Go.Box
set_option linter.unusedVariables false
set_option maxRecDepth 3000
theorem stV_cases (b : Bool) (x : Int) : (inf b < sz b x ∧ stV b x = KV (nan b) true false 0 ∧ ht b x = 9223372036854775807) ∨ (¬ inf b < sz b x ∧ stV b x = KV x false (ng b x) (pl b x) ∧ ht b x = if ng b x = true then pl b x - 1 else pl b x) := by
  unfold stV ht
  by_cases c : inf b < sz b x
  · exact .inl ⟨c, by rw [if_pos c], by rw [if_pos c]⟩
  · exact .inr ⟨c, by rw [if_neg c], by rw [if_neg c]⟩
theorem wCmp_n1 (b : Bool) (x y : Int) (hx : Ok b x) (hy : Ok b y) (c : inf b < sz b x) {u2 : Int} {n2 g2 : Bool} {p2 : Int} (e2 : stV b y = KV u2 n2 g2 p2) (w : World) :
    Calls Try.prog 11 #[.int .u8 (fm b), .int .u64 x, .int .u64 y] w fun e w' => e = .returned (.tuple #[.int .u8 4, .int .i64 0]) ∧ Below w.heap.size w w' := by
  have HS := fun W => Hide.mk (wStandsOf_ok b x y hx hy W (show stV b x = KV (nan b) true false 0 by unfold stV; rw [if_pos c]) e2)
  go_enter Try.func11, Try.ntmps11
  go_wp2_with fail
  refine (HS _).out.mono ?_
  rintro e w2 ⟨rfl, h2⟩
  have BX := (((Bx.nil w).keep h2).push (KO (nan b) true false 0)).push (KO u2 n2 g2 p2)
  rw [show (w2.alloc (KO (nan b) true false 0)).heap.size = w2.heap.size + 1 by simp] at BX
  obtain ⟨⟨f0, f1, f2, f3⟩, _⟩ := cells4 BX w2.heap.size _ _ _ _ _ (.tail _ (.head _))
  obtain ⟨⟨t0, t1, t2, t3⟩, _⟩ := cells4 BX (w2.heap.size + 1) _ _ _ _ _ (.head _)
  clear h2 HS
  clear hx hy
  go_wp2
  go_ret2
  exact ⟨rfl, BX.bel⟩
theorem wCmp_n2 (b : Bool) (x y : Int) (hx : Ok b x) (hy : Ok b y) (d : ¬ inf b < sz b x) (c : inf b < sz b y) (w : World) :
    Calls Try.prog 11 #[.int .u8 (fm b), .int .u64 x, .int .u64 y] w fun e w' => e = .returned (.tuple #[.int .u8 4, .int .i64 0]) ∧ Below w.heap.size w w' := by
  have HS := fun W => Hide.mk (wStandsOf_ok b x y hx hy W (show stV b x = KV x false (ng b x) (pl b x) by unfold stV; rw [if_neg d]) (show stV b y = KV (nan b) true false 0 by unfold stV; rw [if_pos c]))
  go_enter Try.func11, Try.ntmps11
  go_wp2_with fail
  refine (HS _).out.mono ?_
  rintro e w2 ⟨rfl, h2⟩
  have BX := (((Bx.nil w).keep h2).push (KO x false (ng b x) (pl b x))).push (KO (nan b) true false 0)
  rw [show (w2.alloc (KO x false (ng b x) (pl b x))).heap.size = w2.heap.size + 1 by simp] at BX
  obtain ⟨⟨f0, f1, f2, f3⟩, _⟩ := cells4 BX w2.heap.size _ _ _ _ _ (.tail _ (.head _))
  obtain ⟨⟨t0, t1, t2, t3⟩, _⟩ := cells4 BX (w2.heap.size + 1) _ _ _ _ _ (.head _)
  clear h2 HS
  clear hx hy
  go_wp2
  go_ret2
  exact ⟨rfl, BX.bel⟩
theorem wCmp_lt (b : Bool) (x y : Int) (hx : Ok b x) (hy : Ok b y) (c : ¬ inf b < sz b x) (d : ¬ inf b < sz b y) (h : pl b x < pl b y) (w : World) :
    Calls Try.prog 11 #[.int .u8 (fm b), .int .u64 x, .int .u64 y] w fun e w' => e = .returned (.tuple #[.int .u8 1, .int .i64 0]) ∧ Below w.heap.size w w' := by
  have HS := fun W => Hide.mk (wStandsOf_ok b x y hx hy W (show stV b x = KV x false (ng b x) (pl b x) by unfold stV; rw [if_neg c]) (show stV b y = KV y false (ng b y) (pl b y) by unfold stV; rw [if_neg d]))
  go_enter Try.func11, Try.ntmps11
  go_wp2_with fail
  refine (HS _).out.mono ?_
  rintro e w2 ⟨rfl, h2⟩
  have BX := (((Bx.nil w).keep h2).push (KO x false (ng b x) (pl b x))).push (KO y false (ng b y) (pl b y))
  rw [show (w2.alloc (KO x false (ng b x) (pl b x))).heap.size = w2.heap.size + 1 by simp] at BX
  obtain ⟨⟨f0, f1, f2, f3⟩, _⟩ := cells4 BX w2.heap.size _ _ _ _ _ (.tail _ (.head _))
  obtain ⟨⟨t0, t1, t2, t3⟩, _⟩ := cells4 BX (w2.heap.size + 1) _ _ _ _ _ (.head _)
  clear h2 HS
  clear hx hy
  go_wp2
  go_ret2
  exact ⟨rfl, BX.bel⟩
theorem wCmp_gt (b : Bool) (x y : Int) (hx : Ok b x) (hy : Ok b y) (c : ¬ inf b < sz b x) (d : ¬ inf b < sz b y) (h : pl b y < pl b x) (w : World) :
    Calls Try.prog 11 #[.int .u8 (fm b), .int .u64 x, .int .u64 y] w fun e w' => e = .returned (.tuple #[.int .u8 3, .int .i64 0]) ∧ Below w.heap.size w w' := by
  have HS := fun W => Hide.mk (wStandsOf_ok b x y hx hy W (show stV b x = KV x false (ng b x) (pl b x) by unfold stV; rw [if_neg c]) (show stV b y = KV y false (ng b y) (pl b y) by unfold stV; rw [if_neg d]))
  have h0 : ¬ pl b x < pl b y := by omega
  go_enter Try.func11, Try.ntmps11
  go_wp2_with fail
  refine (HS _).out.mono ?_
  rintro e w2 ⟨rfl, h2⟩
  have BX := (((Bx.nil w).keep h2).push (KO x false (ng b x) (pl b x))).push (KO y false (ng b y) (pl b y))
  rw [show (w2.alloc (KO x false (ng b x) (pl b x))).heap.size = w2.heap.size + 1 by simp] at BX
  obtain ⟨⟨f0, f1, f2, f3⟩, _⟩ := cells4 BX w2.heap.size _ _ _ _ _ (.tail _ (.head _))
  obtain ⟨⟨t0, t1, t2, t3⟩, _⟩ := cells4 BX (w2.heap.size + 1) _ _ _ _ _ (.head _)
  clear h2 HS
  clear hx hy
  go_wp2
  go_ret2
  exact ⟨rfl, BX.bel⟩
theorem wCmp_eq (b : Bool) (x y : Int) (hx : Ok b x) (hy : Ok b y) (c : ¬ inf b < sz b x) (d : ¬ inf b < sz b y) (h : pl b x = pl b y) (w : World) :
    Calls Try.prog 11 #[.int .u8 (fm b), .int .u64 x, .int .u64 y] w fun e w' => e = .returned (.tuple #[.int .u8 2, .int .i64 0]) ∧ Below w.heap.size w w' := by
  have HS := fun W => Hide.mk (wStandsOf_ok b x y hx hy W (show stV b x = KV x false (ng b x) (pl b x) by unfold stV; rw [if_neg c]) (show stV b y = KV y false (ng b y) (pl b y) by unfold stV; rw [if_neg d]))
  have h0 : ¬ pl b x < pl b y := by omega
  have h1 : ¬ pl b y < pl b x := by omega
  clear h
  go_enter Try.func11, Try.ntmps11
  go_wp2_with fail
  refine (HS _).out.mono ?_
  rintro e w2 ⟨rfl, h2⟩
  have BX := (((Bx.nil w).keep h2).push (KO x false (ng b x) (pl b x))).push (KO y false (ng b y) (pl b y))
  rw [show (w2.alloc (KO x false (ng b x) (pl b x))).heap.size = w2.heap.size + 1 by simp] at BX
  obtain ⟨⟨f0, f1, f2, f3⟩, _⟩ := cells4 BX w2.heap.size _ _ _ _ _ (.tail _ (.head _))
  obtain ⟨⟨t0, t1, t2, t3⟩, _⟩ := cells4 BX (w2.heap.size + 1) _ _ _ _ _ (.head _)
  clear h2 HS
  clear hx hy
  go_wp2
  go_ret2
  exact ⟨rfl, BX.bel⟩
theorem wCmp (b : Bool) (x y : Int) (hx : Ok b x) (hy : Ok b y) (w : World) :
    Calls Try.prog 11 #[.int .u8 (fm b), .int .u64 x, .int .u64 y] w fun e w' => e = .returned (.tuple #[.int .u8 (co b x y), .int .i64 0]) ∧ Below w.heap.size w w' := by
  unfold co
  by_cases c : inf b < sz b x
  · rw [if_pos (.inl c)]
    rcases stV_cases b y with ⟨_, h, _⟩ | ⟨_, h, _⟩ <;> exact wCmp_n1 b x y hx hy c h w
  · by_cases d : inf b < sz b y
    · rw [if_pos (.inr d)]; exact wCmp_n2 b x y hx hy c d w
    · rw [if_neg (by simp [c, d])]
      by_cases h : pl b x < pl b y
      · rw [if_pos h]; exact wCmp_lt b x y hx hy c d h w
      · rw [if_neg h]
        by_cases k : pl b y < pl b x
        · rw [if_pos k]; exact wCmp_gt b x y hx hy c d k w
        · rw [if_neg k]; exact wCmp_eq b x y hx hy c d (by omega) w
theorem wTotal0 (b : Bool) (x y : Int) (hx : Ok b x) (hy : Ok b y) {u1 u2 : Int} {n1 n2 g1 g2 : Bool} {p1 p2 : Int} (e1 : stV b x = KV u1 n1 g1 p1) (e2 : stV b y = KV u2 n2 g2 p2) (a1 a2 : Int) (K1 : ∀ W, Calls Try.prog 36 #[KV u1 n1 g1 p1] W fun e w' => e = .returned (.int .i64 a1) ∧ Below W.heap.size W w') (K2 : ∀ W, Calls Try.prog 36 #[KV u2 n2 g2 p2] W fun e w' => e = .returned (.int .i64 a2) ∧ Below W.heap.size W w') (w : World) :
    Calls Try.prog 12 #[.int .u8 (fm b), .int .u64 x, .int .u64 y] w fun e w' => e = .returned (.tuple #[.int .i64 (sgn a1 a2), .int .i64 0]) ∧ Below w.heap.size w w' := by
  have HS := fun W => Hide.mk (wStandsOf_ok b x y hx hy W e1 e2)
  clear e1 e2
  go_enter Try.func12, Try.ntmps12
  go_wp2_with fail
  refine (HS _).out.mono ?_
  rintro e w2 ⟨rfl, h2⟩
  have BX := (((Bx.nil w).keep h2).push (KO u1 n1 g1 p1)).push (KO u2 n2 g2 p2)
  rw [show (w2.alloc (KO u1 n1 g1 p1)).heap.size = w2.heap.size + 1 by simp] at BX
  obtain ⟨⟨f0, f1, f2, f3⟩, _⟩ := cells4 BX w2.heap.size _ _ _ _ _ (.tail _ (.head _))
  obtain ⟨⟨t0, t1, t2, t3⟩, _⟩ := cells4 BX (w2.heap.size + 1) _ _ _ _ _ (.head _)
  clear h2 HS
  have H1 := fun W => Hide.mk (K1 W)
  have H2 := fun W => Hide.mk (K2 W)
  clear K1 K2
  go_wp2_with fail
  clear f0 f1 f2 f3 t0 t1 t2 t3
  generalize w2.heap.size + 1 = kb at *
  generalize w2.heap.size = ka at *
  generalize (w2.alloc (KO u1 n1 g1 p1)).alloc (KO u2 n2 g2 p2) = W1 at *
  have HI := BX.drew
  clear BX
  have sh := fun W (hW : Bx w [(kb, KO u2 n2 g2 p2), (ka, KO u1 n1 g1 p1)] W) => And.intro (cells4 hW kb _ _ _ _ _ (.head _)).1 (cells4 hW ka _ _ _ _ _ (.tail _ (.head _))).1
  refine Drawn.enter (Bx w [(kb, KO u2 n2 g2 p2), (ka, KO u1 n1 g1 p1)]) (by kernel_rfl) ?_
  refine Drawn.tk (i := 0) (v := ?v3) rfl (fun W hW => ?_) HI ?_
  rotate_left
  · have ⟨⟨t0, t1, t2, t3⟩, f0, f1, f2, f3⟩ := sh W hW
    go_simp <;> exact rfl
  refine Drawn.tk (i := 2) (v := ?v4) rfl (fun W hW => ?_) HI ?_
  rotate_left
  · have ⟨⟨t0, t1, t2, t3⟩, f0, f1, f2, f3⟩ := sh W hW
    go_simp <;> exact rfl
  refine Drawn.one (j := 1) (by kernel_rfl) rfl (fun K hK => ?_)
  go_simp
  refine ((H1 _).out).mono ?_
  rintro e wn ⟨rfl, hn⟩
  refine hK _ _ (HI.keep hn) ?_
  clear hK K
  replace HI := HI.keep hn
  clear hn
  refine Drawn.one (j := 3) (by kernel_rfl) rfl (fun K hK => ?_)
  go_simp
  refine ((H2 _).out).mono ?_
  rintro e wn ⟨rfl, hn⟩
  refine hK _ _ (HI.keep hn) ?_
  clear hK K
  replace HI := HI.keep hn
  clear hn
  refine Drawn.one (j := 4) (by kernel_rfl) rfl (fun K hK => ?_)
  go_simp
  refine (cmp64 a1 a2 _).mono ?_
  rintro e wn ⟨rfl, hn⟩
  refine hK _ _ (HI.keep hn) ?_
  clear hK K
  replace HI := HI.keep hn
  clear hn
  refine Drawn.tk (i := 5) (v := ?v5) rfl (fun W hW => ?_) HI ?_
  rotate_left
  · have ⟨⟨t0, t1, t2, t3⟩, f0, f1, f2, f3⟩ := sh W hW
    go_simp <;> exact rfl
  refine Drawn.tk (i := 6) (v := ?v6) rfl (fun W hW => ?_) HI ?_
  rotate_left
  · have ⟨⟨t0, t1, t2, t3⟩, f0, f1, f2, f3⟩ := sh W hW
    go_simp <;> exact rfl
  refine Drawn.done (by kernel_rfl) ?_
  try go_simp
  go_wp2
  go_ret2
  exact ⟨rfl, HI.bel⟩
theorem wTotal (b : Bool) (x y : Int) (hx : Ok b x) (hy : Ok b y) (w : World) :
    Calls Try.prog 12 #[.int .u8 (fm b), .int .u64 x, .int .u64 y] w fun e w' => e = .returned (.tuple #[.int .i64 (sgn (ht b x) (ht b y)), .int .i64 0]) ∧ Below w.heap.size w w' := by
  have hpx := pl_bd b x
  have hpy := pl_bd b y
  have hX : ∃ u n g p, stV b x = KV u n g p ∧ ∀ W, Calls Try.prog 36 #[KV u n g p] W fun e w' => e = .returned (.int .i64 (ht b x)) ∧ Below W.heap.size W w' := by
    rcases stV_cases b x with ⟨_, h, k⟩ | ⟨_, h, k⟩
    · exact ⟨_, _, _, _, h, fun W => by have := wHeight (nan b) true false 0 (by decide) (by decide) W; rw [k]; exact this⟩
    · exact ⟨_, _, _, _, h, fun W => by have := wHeight x false (ng b x) (pl b x) hpx.1 hpx.2 W; rw [k]; exact this⟩
  have hY : ∃ u n g p, stV b y = KV u n g p ∧ ∀ W, Calls Try.prog 36 #[KV u n g p] W fun e w' => e = .returned (.int .i64 (ht b y)) ∧ Below W.heap.size W w' := by
    rcases stV_cases b y with ⟨_, h, k⟩ | ⟨_, h, k⟩
    · exact ⟨_, _, _, _, h, fun W => by have := wHeight (nan b) true false 0 (by decide) (by decide) W; rw [k]; exact this⟩
    · exact ⟨_, _, _, _, h, fun W => by have := wHeight y false (ng b y) (pl b y) hpy.1 hpy.2 W; rw [k]; exact this⟩
  obtain ⟨u1, n1, g1, p1, e1, K1⟩ := hX
  obtain ⟨u2, n2, g2, p2, e2, K2⟩ := hY
  exact wTotal0 b x y hx hy e1 e2 _ _ K1 K2 w
end Go.Proofs.Ytgfpbmjknknflaa

namespace Go.Proofs.Ytgfpbmjknknflaa
open Go.RowKit Go.Wd Go.Box
set_option linter.unusedVariables false
set_option maxRecDepth 3000
/-- Finite numbers are below two to that. -/
def wd (b : Bool) : Int := match b with | true => 1024 | false => 128
end Go.Proofs.Ytgfpbmjknknflaa

namespace Go.Proofs.Ytgfpbmjknknflaa
open Go.RowKit Go.Wd Go.Box
set_option linter.unusedVariables false
set_option maxRecDepth 3000
end Go.Proofs.Ytgfpbmjknknflaa

namespace Go.Proofs.Ytgfpbmjknknflaa
open Go.RowKit Go.Wd Go.Box
set_option linter.unusedVariables false
set_option maxRecDepth 3000
end Go.Proofs.Ytgfpbmjknknflaa

namespace Go.Proofs.Ytgfpbmjknknflaa
open Go.RowKit Go.Wd Go.Box
set_option linter.unusedVariables false
set_option maxRecDepth 3000
end Go.Proofs.Ytgfpbmjknknflaa

namespace Go.Proofs.Ytgfpbmjknknflaa
open Go.RowKit Go.Wd Go.Box
set_option linter.unusedVariables false
set_option maxRecDepth 3000
theorem u_cell {w W : World} {g : Nat} {cs : Array Value} {t : TypeId} (h : w.heap[g]? = some (.cells cs t (0, 0))) (hb : Below w.heap.size w W) (j : Nat) : W.cell? ⟨g, j, none⟩ = cs[j]? :=
  cell_of_row W g j cs t (0, 0) ((hb.block g (Array.getElem?_eq_some_iff.1 h).1).trans h)
theorem rOpens1_1 (b : Bool) (x : Int)  (hbad : 2 * sg b ≤ x) (hlt : x < 18446744073709551616) (w : World) (g : Nat) (hg : w.heap[g]? = some (.cells #[.int .u64 x] 23 (0, 0))) :
    Calls Try.prog 13 #[.int .u8 (fm b), .slice (some ⟨g, 0, none⟩) 1 1] w fun e w' => e = .returned (.int .i64 6) ∧ Below w.heap.size w w' := by
  have HG := fun W hb j => u_cell hg (W := W) hb j
  clear hg
  have BX := Bx.nil w
  go_enter Try.func13, Try.ntmps13
  go_wp2_with fail
  refine (rIs b _).mono ?_
  rintro e v1 ⟨rfl, hk⟩
  replace BX := BX.keep hk
  clear hk
  have s0 : World.cell? _ ⟨g, 0, none⟩ = some (.int .u64 x) := HG _ BX.bel 0
  go_wp2_with fail
  refine wp_loop_rounds 2 ?_
  rw [rounds_succ]
  go_wp2_with fail
  clear s0
  refine (rGood_err (fm b) x 6 (.inr ⟨b, rfl, hbad, rfl⟩) hlt _).mono ?_
  rintro e v2 ⟨rfl, hk⟩
  replace BX := BX.keep hk
  clear hk
  have s0 : World.cell? _ ⟨g, 0, none⟩ = some (.int .u64 x) := HG _ BX.bel 0
  go_wp2
  go_ret
  exact ⟨by first | rfl | simp, BX.bel⟩
theorem rOpens1_ok (b : Bool) (x : Int) (hx : Ok b x) (w : World) (g : Nat) (hg : w.heap[g]? = some (.cells #[.int .u64 x] 23 (0, 0))) :
    Calls Try.prog 13 #[.int .u8 (fm b), .slice (some ⟨g, 0, none⟩) 1 1] w fun e w' => e = .returned (.int .i64 0) ∧ Below w.heap.size w w' := by
  have HG := fun W hb j => u_cell hg (W := W) hb j
  clear hg
  have BX := Bx.nil w
  go_enter Try.func13, Try.ntmps13
  go_wp2_with fail
  refine (rIs b _).mono ?_
  rintro e v3 ⟨rfl, hk⟩
  replace BX := BX.keep hk
  clear hk
  have s0 : World.cell? _ ⟨g, 0, none⟩ = some (.int .u64 x) := HG _ BX.bel 0
  go_wp2_with fail
  refine wp_loop_rounds 2 ?_
  rw [rounds_succ]
  go_wp2_with fail
  clear s0
  refine (rGood b x hx _).mono ?_
  rintro e v4 ⟨rfl, hk⟩
  replace BX := BX.keep hk
  clear hk
  have s0 : World.cell? _ ⟨g, 0, none⟩ = some (.int .u64 x) := HG _ BX.bel 0
  go_wp2_with fail
  rw [rounds_succ]
  go_wp2
  go_ret
  exact ⟨by first | rfl | simp, BX.bel⟩
theorem rOpens_bad (f : Int) (hf : Bad f) (sl : Value) (w : World) :
    Calls Try.prog 13 #[.int .u8 f, sl] w fun e w' => e = .returned (.int .i64 4) ∧ Below w.heap.size w w' := by
  have BX := Bx.nil w
  go_enter Try.func13, Try.ntmps13
  go_wp2_with fail
  refine (rIs_bad f hf _).mono ?_
  rintro e v26 ⟨rfl, hk⟩
  replace BX := BX.keep hk
  clear hk
  go_wp2
  go_ret
  exact ⟨by first | rfl | simp, BX.bel⟩
theorem wApart (p q : Int) (h1 : -9223372036854775808 < p) (h2 : p < 9223372036854775808) (h3 : -9223372036854775808 < q) (h4 : q < 9223372036854775808) (w : World) :
    Calls Try.prog 42 #[.int .i64 p, .int .i64 q] w fun e w' => e = .returned (.int .u64 (max p q - min p q)) ∧ Below w.heap.size w w' := by
  have e1 : IntKind.u64.wrap (IntKind.u64.wrap (max p q) - IntKind.u64.wrap (min p q)) = max p q - min p q := by
    rw [IntKind.wrap_u64, IntKind.wrap_u64, IntKind.wrap_u64]; omega
  go_enter Try.func42, Try.ntmps42
  go_wp2
  go_ret
  exact ⟨rfl, Below.refl _ _⟩
end Go.Proofs.Ytgfpbmjknknflaa

namespace Go.Proofs.Ytgfpbmjknknflaa
open Go.RowKit Go.Wd Go.Box
set_option linter.unusedVariables false
set_option maxRecDepth 3000
theorem wSteps_ok (b : Bool) (x y : Int) (hx : Ok b x) (hy : Ok b y) (c : ¬ inf b < sz b x) (d : ¬ inf b < sz b y) (w : World) :
    Calls Try.prog 21 #[.int .u8 (fm b), .int .u64 x, .int .u64 y] w fun e w' => e = .returned (.tuple #[.int .u64 (max (pl b x) (pl b y) - min (pl b x) (pl b y)), .int .i64 0]) ∧ Below w.heap.size w w' := by
  have HS := fun W => Hide.mk (wStandsOf_ok b x y hx hy W (show stV b x = KV x false (ng b x) (pl b x) by unfold stV; rw [if_neg c]) (show stV b y = KV y false (ng b y) (pl b y) by unfold stV; rw [if_neg d]))
  have b1 := pl_bd b x
  have b2 := pl_bd b y
  have HA := fun W => Hide.mk (wApart (pl b x) (pl b y) b1.1 b1.2 b2.1 b2.2 W)
  clear b1 b2
  go_enter Try.func21, Try.ntmps21
  go_wp2_with fail
  refine (HS _).out.mono ?_
  rintro e w2 ⟨rfl, h2⟩
  have BX := (((Bx.nil w).keep h2).push (KO x false (ng b x) (pl b x))).push (KO y false (ng b y) (pl b y))
  rw [show (w2.alloc (KO x false (ng b x) (pl b x))).heap.size = w2.heap.size + 1 by simp] at BX
  obtain ⟨⟨f0, f1, f2, f3⟩, _⟩ := cells4 BX w2.heap.size _ _ _ _ _ (.tail _ (.head _))
  obtain ⟨⟨t0, t1, t2, t3⟩, _⟩ := cells4 BX (w2.heap.size + 1) _ _ _ _ _ (.head _)
  clear h2 HS
  clear hx hy
  go_wp2_with fail
  refine (HA _).out.mono ?_
  rintro e w3 ⟨rfl, h3⟩
  replace BX := BX.keep h3
  go_wp2
  go_ret2
  exact ⟨rfl, BX.bel⟩
theorem lKnown7 (w : World) : Calls Try.prog 14 #[] w fun e w' => e = .returned (.bool true) ∧ Below w.heap.size w w' := by
  have o1 : Ok false 2147483648 := by unfold Ok; decide
  have o2 : Ok false 0 := by unfold Ok; decide
  have o3 : Ok false 2147483649 := by unfold Ok; decide
  have o4 : Ok false 1 := by unfold Ok; decide
  have HC : ∀ W, Hide (Calls Try.prog 11 #[.int .u8 1, .int .u64 2147483648, .int .u64 0] W fun e w' => e = .returned (.tuple #[.int .u8 2, .int .i64 0]) ∧ Below W.heap.size W w') := fun W => ⟨by
    have := wCmp false 2147483648 0 o1 o2 W
    rw [show co false 2147483648 0 = 2 by decide] at this
    exact this⟩
  have HT : ∀ W, Hide (Calls Try.prog 12 #[.int .u8 1, .int .u64 2147483648, .int .u64 0] W fun e w' => e = .returned (.tuple #[.int .i64 (-1), .int .i64 0]) ∧ Below W.heap.size W w') := fun W => ⟨by
    have := wTotal false 2147483648 0 o1 o2 W
    rw [show sgn (ht false 2147483648) (ht false 0) = -1 by decide] at this
    exact this⟩
  have HS : ∀ W, Hide (Calls Try.prog 21 #[.int .u8 1, .int .u64 2147483649, .int .u64 1] W fun e w' => e = .returned (.tuple #[.int .u64 2, .int .i64 0]) ∧ Below W.heap.size W w') := fun W => ⟨by
    have := wSteps_ok false 2147483649 1 o3 o4 (by decide) (by decide) W
    rw [show max (pl false 2147483649) (pl false 1) - min (pl false 2147483649) (pl false 1) = 2 by decide] at this
    exact this⟩
  clear o1 o2 o3 o4
  have BX := Bx.nil w
  go_enter Try.func14, Try.ntmps14
  go_wp2_with fail
  refine (HC _).out.mono ?_
  rintro e w2 ⟨rfl, hk⟩
  replace BX := BX.keep hk
  clear hk
  go_wp2_with fail
  refine (HT _).out.mono ?_
  rintro e w3 ⟨rfl, hk⟩
  replace BX := BX.keep hk
  clear hk
  go_wp2_with fail
  refine (HS _).out.mono ?_
  rintro e w4 ⟨rfl, hk⟩
  replace BX := BX.keep hk
  clear hk
  go_wp2
  go_ret
  exact ⟨rfl, BX.bel⟩
end Go.Proofs.Ytgfpbmjknknflaa

namespace Go.Proofs.Ytgfpbmjknknflaa
open Go.RowKit Go.Wd Go.Box
set_option linter.unusedVariables false
set_option maxRecDepth 3000
theorem inf_max (b : Bool) : inf b < 9223372036854775807 := by cases b <;> decide
/-- The word of a place. -/
def wpl (b : Bool) (p : Int) : Int := if p < 0 then -p + sg b else p
theorem wWordAt_neg (b : Bool) (p : Int) (h : p < 0) (h1 : -inf b ≤ p) (w : World) :
    Calls Try.prog 66 #[.int .u8 (fm b), .int .i64 p] w fun e w' => e = .returned (.tuple #[.int .u64 (wpl b p), .int .i64 0]) ∧ Below w.heap.size w w' := by
  have hi := inf_max b
  have hl := inf_lt b
  have e1 : IntKind.i64.wrap (-p) = -p := by rw [IntKind.wrap_i64]; omega
  have e2 : IntKind.u64.wrap (-p) = -p := by rw [IntKind.wrap_u64]; omega
  have ok : Ok b (-p) := ⟨by omega, by omega⟩
  have hs : sz b (-p) = -p := sz_pos ok (by omega)
  have hn : ngx b (-p) = -p + sg b := by
    unfold ngx fl
    rw [hs, if_neg (by omega), if_neg (by omega)]
  have HN := fun W => Hide.mk (wNeg b (-p) ok W)
  rw [hn] at HN
  have hw : Hide (wpl b p = -p + sg b) := ⟨by unfold wpl; rw [if_pos h]⟩
  rw [hw.out]
  clear hi hl h1 ok hs hn hw
  have BX := Bx.nil w
  go_enter Try.func66, Try.ntmps66
  go_wp2_with fail
  refine ((HN _).out).mono ?_
  rintro e v1 ⟨rfl, hk⟩
  replace BX := BX.keep hk
  clear hk
  go_wp2
  go_ret2
  exact ⟨by first | rfl | simp, BX.bel⟩
theorem wWordAt_pos (b : Bool) (p : Int) (h : ¬ p < 0) (h1 : p ≤ inf b) (w : World) :
    Calls Try.prog 66 #[.int .u8 (fm b), .int .i64 p] w fun e w' => e = .returned (.tuple #[.int .u64 (wpl b p), .int .i64 0]) ∧ Below w.heap.size w w' := by
  have hi := inf_max b
  have e2 : IntKind.u64.wrap p = p := by rw [IntKind.wrap_u64]; omega
  have hw : Hide (wpl b p = p) := ⟨by unfold wpl; rw [if_neg h]⟩
  rw [hw.out]
  clear hi h1 hw
  have BX := Bx.nil w
  go_enter Try.func66, Try.ntmps66
  go_wp2
  go_ret2
  exact ⟨by first | rfl | simp, BX.bel⟩
theorem wWordAt (b : Bool) (p : Int) (h1 : -inf b ≤ p) (h2 : p ≤ inf b) (w : World) :
    Calls Try.prog 66 #[.int .u8 (fm b), .int .i64 p] w fun e w' => e = .returned (.tuple #[.int .u64 (wpl b p), .int .i64 0]) ∧ Below w.heap.size w w' := by
  by_cases h : p < 0
  · exact wWordAt_neg b p h h1 w
  · exact wWordAt_pos b p h h2 w
theorem wFrom_pok (b : Bool) (p n : Int) (h1 : -inf b ≤ p) (h2 : p ≤ inf b) (n1 : -9223372036854775808 ≤ n) (n2 : n < 9223372036854775808) (hn : 0 < n) (hn0 : ¬ n < 0) (hr : ¬ (inf b - p) < n) (w : World) :
    Calls Try.prog 44 #[.int .u8 (fm b), .int .i64 p, .int .i64 n] w fun e w' => e = .returned (.tuple #[.int .u64 (wpl b (p + n)), .int .i64 0]) ∧ Below w.heap.size w w' := by
  have hi := inf_max b
  have hib := inf_bd b
  have HI := fun W => Hide.mk (wInf b false W)
  rw [show sd b (inf b) false = inf b from rfl] at HI
  have e1 : IntKind.i64.wrap (inf b) = inf b := by rw [IntKind.wrap_i64]; omega
  have e2 : IntKind.u64.wrap n = n := by rw [IntKind.wrap_u64]; omega
  have HA := fun W => Hide.mk (wApart p (inf b) (by omega) (by omega) (by omega) (by omega) W)
  rw [show max p (inf b) - min p (inf b) = (inf b - p) by omega] at HA
  have e3 : IntKind.i64.wrap (p + n) = p + n := by rw [IntKind.wrap_i64]; omega
  have HW := fun W => Hide.mk (wWordAt b (p + n) (by omega) (by omega) W)
  clear hi hib h1 h2 n1 n2
  have BX := Bx.nil w
  go_enter Try.func44, Try.ntmps44
  go_wp2_with fail
  refine ((HI _).out).mono ?_
  rintro e v4 ⟨rfl, hk⟩
  replace BX := BX.keep hk
  clear hk
  go_wp2_with fail
  refine ((HA _).out).mono ?_
  rintro e v5 ⟨rfl, hk⟩
  replace BX := BX.keep hk
  clear hk
  go_wp2_with fail
  refine ((HW _).out).mono ?_
  rintro e v6 ⟨rfl, hk⟩
  replace BX := BX.keep hk
  clear hk
  go_wp2
  go_ret2
  exact ⟨by first | rfl | simp, BX.bel⟩
theorem wFrom_nok (b : Bool) (p n : Int) (h1 : -inf b ≤ p) (h2 : p ≤ inf b) (n1 : -9223372036854775808 ≤ n) (n2 : n < 9223372036854775808) (hn : n < 0) (hr : ¬ (p + inf b) < (-n)) (w : World) :
    Calls Try.prog 44 #[.int .u8 (fm b), .int .i64 p, .int .i64 n] w fun e w' => e = .returned (.tuple #[.int .u64 (wpl b (p + n)), .int .i64 0]) ∧ Below w.heap.size w w' := by
  have hi := inf_max b
  have hib := inf_bd b
  have HI := fun W => Hide.mk (wInf b false W)
  rw [show sd b (inf b) false = inf b from rfl] at HI
  have e1 : IntKind.i64.wrap (inf b) = inf b := by rw [IntKind.wrap_i64]; omega
  have e2 : IntKind.u64.wrap (-(IntKind.u64.wrap n)) = -n := by rw [IntKind.wrap_u64, IntKind.wrap_u64]; omega
  have e4 : IntKind.i64.wrap (-(inf b)) = -(inf b) := by rw [IntKind.wrap_i64]; omega
  have HA := fun W => Hide.mk (wApart p (-(inf b)) (by omega) (by omega) (by omega) (by omega) W)
  rw [show max p (-(inf b)) - min p (-(inf b)) = (p + inf b) by omega] at HA
  have e3 : IntKind.i64.wrap (p + n) = p + n := by rw [IntKind.wrap_i64]; omega
  have HW := fun W => Hide.mk (wWordAt b (p + n) (by omega) (by omega) W)
  clear hi hib h1 h2 n1 n2
  have BX := Bx.nil w
  go_enter Try.func44, Try.ntmps44
  go_wp2_with fail
  refine ((HI _).out).mono ?_
  rintro e v9 ⟨rfl, hk⟩
  replace BX := BX.keep hk
  clear hk
  go_wp2_with fail
  refine ((HA _).out).mono ?_
  rintro e v10 ⟨rfl, hk⟩
  replace BX := BX.keep hk
  clear hk
  go_wp2_with fail
  refine ((HW _).out).mono ?_
  rintro e v11 ⟨rfl, hk⟩
  replace BX := BX.keep hk
  clear hk
  go_wp2
  go_ret2
  exact ⟨by first | rfl | simp, BX.bel⟩
/-- Where a walk of n places ends, or that it ends nowhere. -/
def mvd (b : Bool) (p n : Int) : Prop := -inf b ≤ p + n ∧ p + n ≤ inf b
theorem wFrom_ok (b : Bool) (p n : Int) (h1 : -inf b ≤ p) (h2 : p ≤ inf b) (n1 : -9223372036854775808 ≤ n) (n2 : n < 9223372036854775808) (n0 : n ≠ 0) (h : mvd b p n) (w : World) :
    Calls Try.prog 44 #[.int .u8 (fm b), .int .i64 p, .int .i64 n] w fun e w' => e = .returned (.tuple #[.int .u64 (wpl b (p + n)), .int .i64 0]) ∧ Below w.heap.size w w' := by
  unfold mvd at h
  by_cases c : n < 0
  · exact wFrom_nok b p n h1 h2 n1 n2 c (by omega) w
  · exact wFrom_pok b p n h1 h2 n1 n2 (by omega) c (by omega) w
theorem wMove_0 (b : Bool) (x n : Int) (hx : Ok b x) (c : ¬ inf b < sz b x) (n0 : n = 0) (w : World) :
    Calls Try.prog 22 #[.int .u8 (fm b), .int .u64 x, .int .i64 n] w fun e w' => e = .returned (.tuple #[.int .u64 x, .int .i64 0]) ∧ Below w.heap.size w w' := by
  subst n0
  have HS := fun W => Hide.mk (wStandOf b x hx W)
  rw [show stV b x = KV x false (ng b x) (pl b x) by unfold stV; rw [if_neg c]] at HS
  go_enter Try.func22, Try.ntmps22
  go_wp2_with fail
  refine (HS _).out.mono ?_
  rintro e w2 ⟨rfl, h2⟩
  have BX := ((Bx.nil w).keep h2).push (KO x false (ng b x) (pl b x))
  obtain ⟨⟨f0, f1, f2, f3⟩, _⟩ := cells4 BX w2.heap.size _ _ _ _ _ (.head _)
  clear h2 HS
  go_wp2
  go_ret2
  exact ⟨by first | rfl | simp, BX.bel⟩
theorem wMove_n (b : Bool) (x n : Int) (hx : Ok b x) (c : ¬ inf b < sz b x) (n0 : (n == 0) = false) (v e0 : Int) (KF : ∀ W, Calls Try.prog 44 #[.int .u8 (fm b), .int .i64 (pl b x), .int .i64 n] W fun e w' => e = .returned (.tuple #[.int .u64 v, .int .i64 e0]) ∧ Below W.heap.size W w') (w : World) :
    Calls Try.prog 22 #[.int .u8 (fm b), .int .u64 x, .int .i64 n] w fun e w' => e = .returned (.tuple #[.int .u64 v, .int .i64 e0]) ∧ Below w.heap.size w w' := by
  have HF := fun W => Hide.mk (KF W)
  clear KF
  have HS := fun W => Hide.mk (wStandOf b x hx W)
  rw [show stV b x = KV x false (ng b x) (pl b x) by unfold stV; rw [if_neg c]] at HS
  go_enter Try.func22, Try.ntmps22
  go_wp2_with fail
  refine (HS _).out.mono ?_
  rintro e w2 ⟨rfl, h2⟩
  have BX := ((Bx.nil w).keep h2).push (KO x false (ng b x) (pl b x))
  obtain ⟨⟨f0, f1, f2, f3⟩, _⟩ := cells4 BX w2.heap.size _ _ _ _ _ (.head _)
  clear h2 HS
  go_wp2_with fail
  refine ((HF _).out).mono ?_
  rintro e v12 ⟨rfl, hk⟩
  replace BX := BX.keep hk
  clear hk
  go_wp2
  go_ret2
  exact ⟨by first | rfl | simp, BX.bel⟩
theorem pl_inf {b : Bool} {x : Int} (c : ¬ inf b < sz b x) : -inf b ≤ pl b x ∧ pl b x ≤ inf b := by
  have h := (sz_bd b x).1
  unfold pl
  cases ng b x <;> simp only [sv_f, sv_t] <;> omega
theorem wMove_ok (b : Bool) (x n : Int) (hx : Ok b x) (c : ¬ inf b < sz b x) (n1 : -9223372036854775808 ≤ n) (n2 : n < 9223372036854775808) (n0 : n ≠ 0) (h : mvd b (pl b x) n) (w : World) :
    Calls Try.prog 22 #[.int .u8 (fm b), .int .u64 x, .int .i64 n] w fun e w' => e = .returned (.tuple #[.int .u64 (wpl b (pl b x + n)), .int .i64 0]) ∧ Below w.heap.size w w' :=
  wMove_n b x n hx c (beq_eq_false_iff_ne.2 n0) _ _ (fun W => wFrom_ok b (pl b x) n (pl_inf c).1 (pl_inf c).2 n1 n2 n0 h W) w
end Go.Proofs.Ytgfpbmjknknflaa

namespace Go.Proofs.Ytgfpbmjknknflaa
open Go.RowKit Go.Wd Go.Box
set_option linter.unusedVariables false
set_option maxRecDepth 3000
theorem fm_badK (f : Int) : (∃ b, f = fm b) ∨ Bad f := by
  by_cases h1 : f = 1
  · exact .inl ⟨false, h1⟩
  · by_cases h2 : f = 2
    · exact .inl ⟨true, h2⟩
    · exact .inr ⟨h1, h2⟩
/-- The one of both that is told. -/
def ex (b : Bool) (en x y : Int) : Int := if inf b < sz b x then cnx b y else if inf b < sz b y then x else if sgn (ht b x) (ht b y) = en then x else y
end Go.Proofs.Ytgfpbmjknknflaa

namespace Go.Proofs.Ytgfpbmjknknflaa
open Go.RowKit Go.Wd Go.Box
set_option linter.unusedVariables false
set_option maxRecDepth 3000
end Go.Proofs.Ytgfpbmjknknflaa

namespace Go.Proofs.Ytgfpbmjknknflaa
open Go.RowKit Go.Wd Go.Box
set_option linter.unusedVariables false
set_option maxRecDepth 3000
end Go.Proofs.Ytgfpbmjknknflaa

namespace Go.Proofs.Ytgfpbmjknknflaa
open Go.RowKit Go.Wd Go.Box
set_option linter.unusedVariables false
set_option maxRecDepth 3000
end Go.Proofs.Ytgfpbmjknknflaa

namespace Go.Proofs.Ytgfpbmjknknflaa
open Go.RowKit Go.Wd Go.Box
set_option linter.unusedVariables false
set_option maxRecDepth 3000
end Go.Proofs.Ytgfpbmjknknflaa
