import Derived.Test.YtioiakemmhfhkaaWR
namespace Go.Proofs.Ytioiakemmhfhkaa
open Go.RowKit Go.Wd Go.Box
set_option linter.unusedVariables false
set_option maxRecDepth 3000
theorem lIs (x : Int) (w : World) :
    Calls Try.prog 16 #[.int .u64 x, .int .i64 0, .int .u64 x, .int .i64 0] w fun e w' => e = .returned (.bool true) ∧ Below w.heap.size w w' := by
  have h : (x == x) = true := by simp
  go_enter Try.func16, Try.ntmps16
  go_wp2
  go_ret
  exact ⟨rfl, Below.refl _ _⟩
theorem lIs_err (c y : Int) (h : (c == 0) = false) (w : World) :
    Calls Try.prog 16 #[.int .u64 0, .int .i64 c, .int .u64 y, .int .i64 c] w fun e w' => e = .returned (.bool true) ∧ Below w.heap.size w w' := by
  have h2 : (c == c) = true := by simp
  go_enter Try.func16, Try.ntmps16
  go_wp2
  go_ret
  exact ⟨rfl, Below.refl _ _⟩
set_option maxHeartbeats 1000000 in
theorem lKnown (w : World) :
    Calls Try.prog 17 #[] w fun e w' => e = .returned (.bool true) ∧ Below w.heap.size w w' := by
  have HJ := fun w => Hide.mk (wJoin false false 127 0 (by decide) (by decide) (by decide) (by decide) w)
  have HS := fun w => Hide.mk (wSplit true 13832806255468478465 (by unfold Ok; decide) w)
  go_enter Try.func17, Try.ntmps17
  go_wp2_with fail
  refine (HJ _).out.mono ?_
  rintro e w2 ⟨rfl, h2⟩
  rw [show sd false (127 * fr false + 0) false = 1065353216 from rfl]
  go_wp2_with fail
  refine (HS _).out.mono ?_
  rintro e w3 ⟨rfl, h3⟩
  rw [show ng true 13832806255468478465 = true from rfl, show fd true 13832806255468478465 = 1023 from rfl, show fn true 13832806255468478465 = 2251799813685249 from rfl]
  have B3 := (((Bx.nil w).keep h2).keep h3).push (FO true 1023 2251799813685249)
  clear HJ HS h2 h3
  go_wp2
  go_ret
  exact ⟨rfl, B3.bel⟩
theorem rSigned (b : Bool) (x : Int) (n : Bool) (h : Ok b x) (w : World) :
    Calls Try.prog 26 #[.int .u8 (fm b), .int .u64 x, .bool n] w fun e w' => e = .returned (.int .u64 (sd b (sz b x) n)) ∧ Below w.heap.size w w' := by
  have hz := sz_bd b x
  have hl := sg_le b
  have hp := sg_pos b
  have h0 := h.1
  go_enter Try.func26, Try.ntmps26
  go_wp2_with fail
  refine (rSign b _).mono ?_
  rintro e w2 ⟨rfl, h2⟩
  have hne : (sg b == 0) = false := beq_eq_false_iff_ne.2 (by omega)
  have B2 := (Bx.nil w).keep h2
  clear h2
  have HZ : Hide (x % sg b = sz b x) := ⟨rfl⟩
  cases n
  · go_wp2
    go_ret
    exact ⟨by first | rfl | trace_state, B2.bel⟩
  · go_wp2_with fail
    refine (rSign b _).mono ?_
    rintro e w3 ⟨rfl, h3⟩
    have B3 := B2.keep h3
    clear h3 B2
    have hz1 : 0 ≤ x % sg b := hz.1
    have hz2 : x % sg b < sg b := hz.2
    go_wp2
    go_ret
    refine ⟨?_, B3.bel⟩
    unfold sd
    rw [if_pos rfl]
    first | rfl | trace_state
theorem rInf (b n : Bool) (w : World) :
    Calls Try.prog 25 #[.int .u8 (fm b), .bool n] w fun e w' => e = .returned (.int .u64 (sd b (inf b) n)) ∧ Below w.heap.size w w' := by
  have ht := tp_bd b
  have HJ := fun w => Hide.mk (rJoin b n (tp b) 0 (by omega) (by omega) (by decide) (fr_pos b) w)
  have e1 : tp b * fr b + 0 = inf b := by cases b <;> rfl
  go_enter Try.func25, Try.ntmps25
  go_wp2_with fail
  refine (rMost b _).mono ?_
  rintro e w2 ⟨rfl, h2⟩
  rw [e1] at HJ
  go_wp2_with fail
  refine (HJ _).out.mono ?_
  rintro e w3 ⟨rfl, h3⟩
  have B3 := ((Bx.nil w).keep h2).keep h3
  clear h2 h3 HJ
  go_wp2
  go_ret
  exact ⟨rfl, B3.bel⟩
theorem rNone (b : Bool) (w : World) :
    Calls Try.prog 27 #[.int .u8 (fm b)] w fun e w' => e = .returned (.int .u64 (nan b)) ∧ Below w.heap.size w w' := by
  have ht := tp_bd b
  have hf : 0 ≤ fr b / 2 ∧ fr b / 2 < fr b := by cases b <;> decide
  have HJ := fun w => Hide.mk (rJoin b false (tp b) (fr b / 2) (by omega) (by omega) hf.1 hf.2 w)
  have e1 : sd b (tp b * fr b + fr b / 2) false = nan b := by cases b <;> rfl
  rw [e1] at HJ
  clear e1 hf ht
  cases b
  · rw [show fm false = 1 from rfl, show fr false / 2 = 4194304 from rfl, show tp false = 255 from rfl] at *
    go_enter Try.func27, Try.ntmps27
    go_wp2_with fail
    refine (rMost false _).mono ?_
    rintro e w1 ⟨rfl, h1⟩
    rw [show tp false = 255 from rfl]
    go_wp2_with fail
    refine (rFrac false _).mono ?_
    rintro e w2 ⟨rfl, h2⟩
    rw [show fc false = 23 from rfl]
    go_wp2_with fail
    refine (HJ _).out.mono ?_
    rintro e w3 ⟨rfl, h3⟩
    have B3 := (((Bx.nil w).keep h1).keep h2).keep h3
    clear HJ h1 h2 h3
    go_wp2
    go_ret
    exact ⟨rfl, B3.bel⟩
  · rw [show fm true = 2 from rfl, show fr true / 2 = 2251799813685248 from rfl, show tp true = 2047 from rfl] at *
    go_enter Try.func27, Try.ntmps27
    go_wp2_with fail
    refine (rMost true _).mono ?_
    rintro e w1 ⟨rfl, h1⟩
    rw [show tp true = 2047 from rfl]
    go_wp2_with fail
    refine (rFrac true _).mono ?_
    rintro e w2 ⟨rfl, h2⟩
    rw [show fc true = 52 from rfl]
    go_wp2_with fail
    refine (HJ _).out.mono ?_
    rintro e w3 ⟨rfl, h3⟩
    have B3 := (((Bx.nil w).keep h1).keep h2).keep h3
    clear HJ h1 h2 h3
    go_wp2
    go_ret
    exact ⟨rfl, B3.bel⟩
theorem rCanon (b : Bool) (x : Int) (h : Ok b x) (w : World) :
    Calls Try.prog 32 #[.int .u8 (fm b), .int .u64 x] w fun e w' => e = .returned (.int .u64 (cnx b x)) ∧ Below w.heap.size w w' := by
  have h5 := cl_5 b x
  by_cases c : inf b < sz b x
  · have HE : Hide (cnx b x = nan b) := ⟨by unfold cnx; rw [if_pos c]⟩
    have d1 : (cl b x == 5) = true := by simp [h5.2 c]
    clear c h5
    go_enter Try.func32, Try.ntmps32
    go_wp2_with fail
    refine (rClass b x h _).mono ?_
    rintro e w2 ⟨rfl, h2⟩
    go_wp2_with fail
    refine (rNone b _).mono ?_
    rintro e w3 ⟨rfl, h3⟩
    have B3 := ((Bx.nil w).keep h2).keep h3
    clear h2 h3
    go_wp2
    go_ret
    exact ⟨by rw [HE.out]; rfl, B3.bel⟩
  · have HE : Hide (cnx b x = x) := ⟨by unfold cnx; rw [if_neg c]⟩
    have d1 : (cl b x == 5) = false := beq_eq_false_iff_ne.2 (fun hh => c (h5.1 hh))
    clear c h5
    go_enter Try.func32, Try.ntmps32
    go_wp2_with fail
    refine (rClass b x h _).mono ?_
    rintro e w2 ⟨rfl, h2⟩
    go_wp2
    go_ret
    exact ⟨by rw [HE.out]; rfl, h2⟩
theorem field_neg (n : Bool) (e f : Int) (w : World) : Sem.run Try.prog (Instr.field 25 (.agg #[.bool n, .int .i64 e, .int .u64 f]) 0) w = .ok (.bool n) w := by
  kernel_rfl
/-- Where the reference's steps end. -/
theorem cl_cases (b : Bool) (x : Int) : (cl b x = 1 ↔ sz b x = 0) ∧ (cl b x = 4 ↔ sz b x = inf b) := by
  have hi : fr b ≤ inf b := by cases b <;> decide
  have hf := fr_pos b
  unfold cl
  by_cases c1 : sz b x = 0
  · rw [if_pos c1]; omega
  · rw [if_neg c1]
    by_cases c2 : sz b x < fr b
    · rw [if_pos c2]; omega
    · rw [if_neg c2]
      by_cases c3 : sz b x < inf b
      · rw [if_pos c3]; omega
      · rw [if_neg c3]
        by_cases c4 : sz b x = inf b
        · rw [if_pos c4]; omega
        · rw [if_neg c4]; omega
theorem sz_pos {b : Bool} {x : Int} (h : Ok b x) (hn : ¬ sg b ≤ x) : sz b x = x := Int.emod_eq_of_lt h.1 (by omega)
theorem sz_neg {b : Bool} {x : Int} (h : Ok b x) (hn : sg b ≤ x) : sz b x = x - sg b := by
  have := h.2
  unfold sz
  rw [← Int.sub_emod_right]
  exact Int.emod_eq_of_lt (by omega) (by omega)
theorem is_inf {b : Bool} {x : Int} (h : Ok b x) : x = inf b ↔ (sz b x = inf b ∧ ng b x = false) := by
  have hl := inf_lt b
  unfold ng
  by_cases c : sg b ≤ x
  · rw [sz_neg h c, decide_eq_true c]
    constructor
    · intro e; omega
    · intro e; exact absurd e.2 (by simp)
  · rw [sz_pos h c, decide_eq_false c]; simp
/-- The reference's step up. -/
theorem rUp (b : Bool) (x : Int) (h : Ok b x) (w : World) :
    Calls Try.prog 35 #[.int .u8 (fm b), .int .u64 x] w fun e w' => e = .returned (.tuple #[.int .u64 (upx b x).1, .bool (decide ((upx b x).2 = 0))]) ∧ Below w.heap.size w w' := by
  have h5 := cl_5 b x
  obtain ⟨h1, h4⟩ := cl_cases b x
  have hin := is_inf h
  have hp := sg_pos b
  have hsl := sg_le b
  have k0 := h.1
  have k1 := h.2
  have HC := fun w => Hide.mk (rClass b x h w)
  have HS := fun w => Hide.mk (rSplit b x h w)
  by_cases c5 : inf b < sz b x
  · have HE : Hide (upx b x = (nan b, 0)) := ⟨by unfold upx; rw [if_pos c5]⟩
    have d1 : (cl b x == 5) = true := by simp [h5.2 c5]
    clear c5 h5 h1 h4 hin
    rw [HE.out]
    go_enter Try.func35, Try.ntmps35
    go_wp2_with fail
    refine (HC _).out.mono ?_
    rintro e w2 ⟨rfl, h2⟩
    go_wp2_with fail
    refine (HS _).out.mono ?_
    rintro e w3 ⟨rfl, h3⟩
    delta FV
    go_wp2_with fail
    rw [field_neg]
    go_wp2_with fail
    refine (rNone b _).mono ?_
    rintro e w4 ⟨rfl, h4⟩
    have B4 := (((Bx.nil w).keep h2).keep h3).keep h4
    clear h2 h3 h4 HC HS
    go_wp2
    go_ret2
    exact ⟨by simp, B4.bel⟩
  · have d1 : (cl b x == 5) = false := beq_eq_false_iff_ne.2 (fun hh => c5 (h5.1 hh))
    by_cases c4 : x = inf b
    · have HE : Hide (upx b x = (0, 7)) := ⟨by unfold upx; rw [if_neg c5, if_pos c4]⟩
      obtain ⟨i1, i2⟩ := hin.1 c4
      have d2 : (cl b x == 4) = true := by simp [h4.2 i1]
      clear c5 h5 h1 h4 hin c4 i1
      rw [HE.out]
      rw [i2] at HS
      go_enter Try.func35, Try.ntmps35
      go_wp2_with fail
      refine (HC _).out.mono ?_
      rintro e w2 ⟨rfl, h2⟩
      go_wp2_with fail
      refine (HS _).out.mono ?_
      rintro e w3 ⟨rfl, h3⟩
      delta FV
      go_wp2_with fail
      rw [field_neg]
      have B3 := ((Bx.nil w).keep h2).keep h3
      clear h2 h3 HC HS
      go_wp2
      go_ret2
      exact ⟨by simp, B3.bel⟩
    · have hE : upx b x = (up b x, 0) := by unfold upx; rw [if_neg c5, if_neg c4]
      have hq : ∀ q, ng b x = q → ((cl b x == 4) && !q) = false := by
        intro q hq
        cases q
        · have : cl b x ≠ 4 := fun hh => c4 (hin.2 ⟨h4.1 hh, hq⟩)
          simp [this]
        · simp
      by_cases c1 : sz b x = 0
      · have HE : Hide (upx b x = (1, 0)) := ⟨by rw [hE]; unfold up; rw [if_pos c1]⟩
        have d3 : (cl b x == 1) = true := by simp [h1.2 c1]
        have d2 : (cl b x == 4) = false := by simp [h1.2 c1]
        clear hE hq c5 h5 h1 h4 hin c4 c1
        rw [HE.out]
        go_enter Try.func35, Try.ntmps35
        go_wp2_with fail
        refine (HC _).out.mono ?_
        rintro e w2 ⟨rfl, h2⟩
        go_wp2_with fail
        refine (HS _).out.mono ?_
        rintro e w3 ⟨rfl, h3⟩
        delta FV
        go_wp2_with fail
        rw [field_neg]
        have B3 := ((Bx.nil w).keep h2).keep h3
        clear h2 h3 HC HS
        go_wp2
        go_ret2
        exact ⟨by simp, B3.bel⟩
      · have d3 : (cl b x == 1) = false := beq_eq_false_iff_ne.2 (fun hh => c1 (h1.1 hh))
        by_cases c2 : sg b ≤ x
        · have HE : Hide (upx b x = (x - 1, 0)) := ⟨by rw [hE]; unfold up; rw [if_neg c1, if_pos c2]⟩
          have hn : ng b x = true := decide_eq_true c2
          rw [hn] at HS
          clear hE hq c5 h5 h1 h4 hin c4 c1 hn
          rw [HE.out]
          by_cases d2 : (cl b x == 4) = true
          · go_enter Try.func35, Try.ntmps35
            go_wp2_with fail
            refine (HC _).out.mono ?_
            rintro e w2 ⟨rfl, h2⟩
            go_wp2_with fail
            refine (HS _).out.mono ?_
            rintro e w3 ⟨rfl, h3⟩
            delta FV
            go_wp2_with fail
            rw [field_neg]
            have B3 := ((Bx.nil w).keep h2).keep h3
            clear h2 h3 HC HS
            go_wp2
            go_ret2
            exact ⟨by simp, B3.bel⟩
          · have d2' : (cl b x == 4) = false := by simpa using d2
            clear d2
            go_enter Try.func35, Try.ntmps35
            go_wp2_with fail
            refine (HC _).out.mono ?_
            rintro e w2 ⟨rfl, h2⟩
            go_wp2_with fail
            refine (HS _).out.mono ?_
            rintro e w3 ⟨rfl, h3⟩
            delta FV
            go_wp2_with fail
            rw [field_neg]
            have B3 := ((Bx.nil w).keep h2).keep h3
            clear h2 h3 HC HS
            go_wp2
            go_ret2
            exact ⟨by simp, B3.bel⟩
        · have HE : Hide (upx b x = (x + 1, 0)) := ⟨by rw [hE]; unfold up; rw [if_neg c1, if_neg c2]⟩
          have hn : ng b x = false := decide_eq_false c2
          have d2 : (cl b x == 4) = false := by simpa using hq false hn
          have c3 : x < sg b := by omega
          rw [hn] at HS
          clear hE hq c5 h5 h1 h4 hin c4 c1 hn c2
          rw [HE.out]
          go_enter Try.func35, Try.ntmps35
          go_wp2_with fail
          refine (HC _).out.mono ?_
          rintro e w2 ⟨rfl, h2⟩
          go_wp2_with fail
          refine (HS _).out.mono ?_
          rintro e w3 ⟨rfl, h3⟩
          delta FV
          go_wp2_with fail
          rw [field_neg]
          have B3 := ((Bx.nil w).keep h2).keep h3
          clear h2 h3 HC HS
          go_wp2
          go_ret2
          exact ⟨by simp, B3.bel⟩
end Go.Proofs.Ytioiakemmhfhkaa
