import Derived.Test.YtgfpbmjknknflaaRankStepsPart3
namespace Go.Proofs.Ytgfpbmjknknflaa
open Go.RowKit Go.Wd Go.Box
set_option linter.unusedVariables false
set_option maxRecDepth 3000
theorem rPlace_false (b : Bool) (x : Int) (hx : Ok b x) (hn : ng b x = false) (w : World) :
    Calls Try.prog 46 #[.int .u8 (fm b), .int .u64 x] w fun e w' => e = .returned (.int .i64 (sz b x)) ∧ Below w.heap.size w w' := by
  have HS := fun W => Hide.mk (rSplit b x hx W)
  rw [hn] at HS
  have hs1 := sz_bd b x
  have hs2 : sg b ≤ 9223372036854775808 := by cases b <;> decide
  have e1 : IntKind.i64.wrap (sz b x) = sz b x := by rw [IntKind.wrap_i64]; omega
  have e2 : IntKind.i64.wrap (-(sz b x)) = -(sz b x) := by rw [IntKind.wrap_i64]; omega
  have hR : x.tmod (sg b) = sz b x := by rw [Int.tmod_eq_emod_of_nonneg hx.1]; rfl
  have hsg : 0 < sg b := sg_pos b
  have hsg0 : (sg b == 0) = false := beq_eq_false_iff_ne.2 (by omega)
  clear hs1 hs2
  have BX := Bx.nil w
  go_enter Try.func46, Try.ntmps46
  go_wp2_with fail
  refine (rSign b _).mono ?_
  rintro e v1 ⟨rfl, hk⟩
  replace BX := BX.keep hk
  clear hk
  go_wp2_with fail
  refine ((HS _).out).mono ?_
  rintro e v2 ⟨rfl, hk⟩
  replace BX := BX.keep hk
  clear hk
  delta FV
  go_wp2_with fail
  rw [field_neg]
  go_wp2
  go_ret
  exact ⟨by first | rfl | simp, BX.bel⟩
theorem rPlace_true (b : Bool) (x : Int) (hx : Ok b x) (hn : ng b x = true) (w : World) :
    Calls Try.prog 46 #[.int .u8 (fm b), .int .u64 x] w fun e w' => e = .returned (.int .i64 (-(sz b x))) ∧ Below w.heap.size w w' := by
  have HS := fun W => Hide.mk (rSplit b x hx W)
  rw [hn] at HS
  have hs1 := sz_bd b x
  have hs2 : sg b ≤ 9223372036854775808 := by cases b <;> decide
  have e1 : IntKind.i64.wrap (sz b x) = sz b x := by rw [IntKind.wrap_i64]; omega
  have e2 : IntKind.i64.wrap (-(sz b x)) = -(sz b x) := by rw [IntKind.wrap_i64]; omega
  have hR : x.tmod (sg b) = sz b x := by rw [Int.tmod_eq_emod_of_nonneg hx.1]; rfl
  have hsg : 0 < sg b := sg_pos b
  have hsg0 : (sg b == 0) = false := beq_eq_false_iff_ne.2 (by omega)
  clear hs1 hs2
  have BX := Bx.nil w
  go_enter Try.func46, Try.ntmps46
  go_wp2_with fail
  refine (rSign b _).mono ?_
  rintro e v3 ⟨rfl, hk⟩
  replace BX := BX.keep hk
  clear hk
  go_wp2_with fail
  refine ((HS _).out).mono ?_
  rintro e v4 ⟨rfl, hk⟩
  replace BX := BX.keep hk
  clear hk
  delta FV
  go_wp2_with fail
  rw [field_neg]
  go_wp2
  go_ret
  exact ⟨by first | rfl | simp, BX.bel⟩
theorem rPlace (b : Bool) (x : Int) (hx : Ok b x) (w : World) :
    Calls Try.prog 46 #[.int .u8 (fm b), .int .u64 x] w fun e w' => e = .returned (.int .i64 (pl b x)) ∧ Below w.heap.size w w' := by
  unfold pl
  cases hn : ng b x
  · exact rPlace_false b x hx hn w
  · exact rPlace_true b x hx hn w
theorem rSteps_lt (b : Bool) (x y : Int) (hx : Ok b x) (hy : Ok b y) (h : pl b x < pl b y) (w : World) :
    Calls Try.prog 25 #[.int .u8 (fm b), .int .u64 x, .int .u64 y] w fun e w' => e = .returned (.int .u64 (pl b y - pl b x)) ∧ Below w.heap.size w w' := by
  have b1 := pl_bd b x
  have b2 := pl_bd b y
  have e1 : IntKind.u64.wrap (IntKind.i64.wrap (pl b y - pl b x)) = pl b y - pl b x := by rw [IntKind.wrap_u64, IntKind.wrap_i64]; omega
  have e2 : IntKind.u64.wrap (wrap64 (pl b y - pl b x)) = pl b y - pl b x := by rw [IntKind.wrap_u64]; unfold wrap64; omega
  clear b1 b2
  have BX := Bx.nil w
  go_enter Try.func25, Try.ntmps25
  go_wp2_with fail
  refine (rPlace b x hx _).mono ?_
  rintro e v5 ⟨rfl, hk⟩
  replace BX := BX.keep hk
  clear hk
  go_wp2_with fail
  refine (rPlace b y hy _).mono ?_
  rintro e v6 ⟨rfl, hk⟩
  replace BX := BX.keep hk
  clear hk
  go_wp2
  go_ret
  exact ⟨by first | rfl | simp, BX.bel⟩
theorem rSteps_ge (b : Bool) (x y : Int) (hx : Ok b x) (hy : Ok b y) (h : ¬ pl b x < pl b y) (w : World) :
    Calls Try.prog 25 #[.int .u8 (fm b), .int .u64 x, .int .u64 y] w fun e w' => e = .returned (.int .u64 (pl b x - pl b y)) ∧ Below w.heap.size w w' := by
  have b1 := pl_bd b x
  have b2 := pl_bd b y
  have e1 : IntKind.u64.wrap (IntKind.i64.wrap (pl b x - pl b y)) = pl b x - pl b y := by rw [IntKind.wrap_u64, IntKind.wrap_i64]; omega
  have e2 : IntKind.u64.wrap (wrap64 (pl b x - pl b y)) = pl b x - pl b y := by rw [IntKind.wrap_u64]; unfold wrap64; omega
  clear b1 b2
  have BX := Bx.nil w
  go_enter Try.func25, Try.ntmps25
  go_wp2_with fail
  refine (rPlace b x hx _).mono ?_
  rintro e v7 ⟨rfl, hk⟩
  replace BX := BX.keep hk
  clear hk
  go_wp2_with fail
  refine (rPlace b y hy _).mono ?_
  rintro e v8 ⟨rfl, hk⟩
  replace BX := BX.keep hk
  clear hk
  go_wp2
  go_ret
  exact ⟨by first | rfl | simp, BX.bel⟩
theorem rSteps (b : Bool) (x y : Int) (hx : Ok b x) (hy : Ok b y) (w : World) :
    Calls Try.prog 25 #[.int .u8 (fm b), .int .u64 x, .int .u64 y] w fun e w' => e = .returned (.int .u64 (max (pl b x) (pl b y) - min (pl b x) (pl b y))) ∧ Below w.heap.size w w' := by
  by_cases h : pl b x < pl b y
  · rw [show max (pl b x) (pl b y) - min (pl b x) (pl b y) = pl b y - pl b x by omega]
    exact rSteps_lt b x y hx hy h w
  · rw [show max (pl b x) (pl b y) - min (pl b x) (pl b y) = pl b x - pl b y by omega]
    exact rSteps_ge b x y hx hy h w
theorem rMove_0 (b : Bool) (x n : Int) (n0 : n = 0) (w : World) :
    Calls Try.prog 24 #[.int .u8 (fm b), .int .u64 x, .int .i64 n] w fun e w' => e = .returned (.tuple #[.int .u64 x, .bool true]) ∧ Below w.heap.size w w' := by
  subst n0
  have BX := Bx.nil w
  go_enter Try.func24, Try.ntmps24
  go_wp2
  go_ret2
  exact ⟨by first | rfl | simp, BX.bel⟩
theorem rMove_pno (b : Bool) (x n : Int) (hx : Ok b x) (h1 : -inf b ≤ pl b x) (h2 : pl b x ≤ inf b) (n1 : -9223372036854775808 ≤ n) (n2 : n < 9223372036854775808) (n0 : (n == 0) = false) (hn : 0 < n) (hn0 : ¬ n < 0) (hr : inf b - n < pl b x) (w : World) :
    Calls Try.prog 24 #[.int .u8 (fm b), .int .u64 x, .int .i64 n] w fun e w' => e = .returned (.tuple #[.int .u64 0, .bool false]) ∧ Below w.heap.size w w' := by
  have hi := inf_max b
  have hl := inf_lt b
  have hib := inf_bd b
  have HI := fun W => Hide.mk (rInf b false W)
  rw [show sd b (inf b) false = inf b from rfl] at HI
  have HP := fun W => Hide.mk (rPlace b x hx W)
  have e1 : IntKind.i64.wrap (inf b) = inf b := by rw [IntKind.wrap_i64]; omega
  have e4 : IntKind.i64.wrap (-(inf b)) = -(inf b) := by rw [IntKind.wrap_i64]; omega
  have e5 : IntKind.i64.wrap (inf b - n) = inf b - n := by rw [IntKind.wrap_i64]; omega
  clear hi hl hib h1 h2 n1 n2
  have BX := Bx.nil w
  go_enter Try.func24, Try.ntmps24
  go_wp2_with fail
  refine ((HI _).out).mono ?_
  rintro e v9 ⟨rfl, hk⟩
  replace BX := BX.keep hk
  clear hk
  go_wp2_with fail
  refine ((HP _).out).mono ?_
  rintro e v10 ⟨rfl, hk⟩
  replace BX := BX.keep hk
  clear hk
  go_wp2
  go_ret2
  exact ⟨by first | rfl | simp, BX.bel⟩
theorem rMove_pneg (b : Bool) (x n : Int) (hx : Ok b x) (h1 : -inf b ≤ pl b x) (h2 : pl b x ≤ inf b) (n1 : -9223372036854775808 ≤ n) (n2 : n < 9223372036854775808) (n0 : (n == 0) = false) (hn : 0 < n) (hn0 : ¬ n < 0) (hr : ¬ inf b - n < pl b x) (hq : pl b x + n < 0) (w : World) :
    Calls Try.prog 24 #[.int .u8 (fm b), .int .u64 x, .int .i64 n] w fun e w' => e = .returned (.tuple #[.int .u64 (wpl b (pl b x + n)), .bool true]) ∧ Below w.heap.size w w' := by
  have hi := inf_max b
  have hl := inf_lt b
  have hib := inf_bd b
  have HI := fun W => Hide.mk (rInf b false W)
  rw [show sd b (inf b) false = inf b from rfl] at HI
  have HP := fun W => Hide.mk (rPlace b x hx W)
  have e1 : IntKind.i64.wrap (inf b) = inf b := by rw [IntKind.wrap_i64]; omega
  have e4 : IntKind.i64.wrap (-(inf b)) = -(inf b) := by rw [IntKind.wrap_i64]; omega
  have e5 : IntKind.i64.wrap (inf b - n) = inf b - n := by rw [IntKind.wrap_i64]; omega
  have e6 : IntKind.i64.wrap (pl b x + n) = pl b x + n := by rw [IntKind.wrap_i64]; omega
  have e7 : IntKind.i64.wrap (-(pl b x + n)) = -(pl b x + n) := by rw [IntKind.wrap_i64]; omega
  have e8 : IntKind.u64.wrap (-(pl b x + n)) = -(pl b x + n) := by rw [IntKind.wrap_u64]; omega
  have ok : Ok b (-(pl b x + n)) := ⟨by omega, by omega⟩
  have HS := fun W => Hide.mk (rSigned b (-(pl b x + n)) true ok W)
  rw [sz_pos ok (by omega), show sd b (-(pl b x + n)) true = wpl b (pl b x + n) by unfold sd wpl; rw [if_pos rfl, if_pos hq]] at HS
  generalize wpl b (pl b x + n) = R at *
  clear hi hl hib h1 h2 n1 n2 ok
  generalize hgp : pl b x + n = P at *
  have BX := Bx.nil w
  go_enter Try.func24, Try.ntmps24
  go_wp2_with fail
  refine ((HI _).out).mono ?_
  rintro e v11 ⟨rfl, hk⟩
  replace BX := BX.keep hk
  clear hk
  go_wp2_with fail
  refine ((HP _).out).mono ?_
  rintro e v12 ⟨rfl, hk⟩
  replace BX := BX.keep hk
  clear hk
  go_wp2_with fail
  refine ((HS _).out).mono ?_
  rintro e v13 ⟨rfl, hk⟩
  replace BX := BX.keep hk
  clear hk
  go_wp2
  go_ret2
  exact ⟨by first | rfl | simp, BX.bel⟩
theorem rMove_ppos (b : Bool) (x n : Int) (hx : Ok b x) (h1 : -inf b ≤ pl b x) (h2 : pl b x ≤ inf b) (n1 : -9223372036854775808 ≤ n) (n2 : n < 9223372036854775808) (n0 : (n == 0) = false) (hn : 0 < n) (hn0 : ¬ n < 0) (hr : ¬ inf b - n < pl b x) (hq : ¬ pl b x + n < 0) (w : World) :
    Calls Try.prog 24 #[.int .u8 (fm b), .int .u64 x, .int .i64 n] w fun e w' => e = .returned (.tuple #[.int .u64 (wpl b (pl b x + n)), .bool true]) ∧ Below w.heap.size w w' := by
  have hi := inf_max b
  have hl := inf_lt b
  have hib := inf_bd b
  have HI := fun W => Hide.mk (rInf b false W)
  rw [show sd b (inf b) false = inf b from rfl] at HI
  have HP := fun W => Hide.mk (rPlace b x hx W)
  have e1 : IntKind.i64.wrap (inf b) = inf b := by rw [IntKind.wrap_i64]; omega
  have e4 : IntKind.i64.wrap (-(inf b)) = -(inf b) := by rw [IntKind.wrap_i64]; omega
  have e5 : IntKind.i64.wrap (inf b - n) = inf b - n := by rw [IntKind.wrap_i64]; omega
  have e6 : IntKind.i64.wrap (pl b x + n) = pl b x + n := by rw [IntKind.wrap_i64]; omega
  have e7 : IntKind.u64.wrap (pl b x + n) = pl b x + n := by rw [IntKind.wrap_u64]; omega
  have hw : Hide (wpl b (pl b x + n) = pl b x + n) := ⟨by unfold wpl; rw [if_neg hq]⟩
  rw [hw.out]
  clear hi hl hib h1 h2 n1 n2 hw
  generalize hgp : pl b x + n = P at *
  have BX := Bx.nil w
  go_enter Try.func24, Try.ntmps24
  go_wp2_with fail
  refine ((HI _).out).mono ?_
  rintro e v14 ⟨rfl, hk⟩
  replace BX := BX.keep hk
  clear hk
  go_wp2_with fail
  refine ((HP _).out).mono ?_
  rintro e v15 ⟨rfl, hk⟩
  replace BX := BX.keep hk
  clear hk
  go_wp2
  go_ret2
  exact ⟨by first | rfl | simp, BX.bel⟩
theorem rMove_nno (b : Bool) (x n : Int) (hx : Ok b x) (h1 : -inf b ≤ pl b x) (h2 : pl b x ≤ inf b) (n1 : -9223372036854775808 ≤ n) (n2 : n < 9223372036854775808) (n0 : (n == 0) = false) (hn : n < 0) (hn0 : ¬ 0 < n) (hr : pl b x < -(inf b) - n) (w : World) :
    Calls Try.prog 24 #[.int .u8 (fm b), .int .u64 x, .int .i64 n] w fun e w' => e = .returned (.tuple #[.int .u64 0, .bool false]) ∧ Below w.heap.size w w' := by
  have hi := inf_max b
  have hl := inf_lt b
  have hib := inf_bd b
  have HI := fun W => Hide.mk (rInf b false W)
  rw [show sd b (inf b) false = inf b from rfl] at HI
  have HP := fun W => Hide.mk (rPlace b x hx W)
  have e1 : IntKind.i64.wrap (inf b) = inf b := by rw [IntKind.wrap_i64]; omega
  have e4 : IntKind.i64.wrap (-(inf b)) = -(inf b) := by rw [IntKind.wrap_i64]; omega
  have e5 : IntKind.i64.wrap (-(inf b) - n) = -(inf b) - n := by rw [IntKind.wrap_i64]; omega
  clear hi hl hib h1 h2 n1 n2
  have BX := Bx.nil w
  go_enter Try.func24, Try.ntmps24
  go_wp2_with fail
  refine ((HI _).out).mono ?_
  rintro e v16 ⟨rfl, hk⟩
  replace BX := BX.keep hk
  clear hk
  go_wp2_with fail
  refine ((HP _).out).mono ?_
  rintro e v17 ⟨rfl, hk⟩
  replace BX := BX.keep hk
  clear hk
  go_wp2
  go_ret2
  exact ⟨by first | rfl | simp, BX.bel⟩
theorem rMove_nneg (b : Bool) (x n : Int) (hx : Ok b x) (h1 : -inf b ≤ pl b x) (h2 : pl b x ≤ inf b) (n1 : -9223372036854775808 ≤ n) (n2 : n < 9223372036854775808) (n0 : (n == 0) = false) (hn : n < 0) (hn0 : ¬ 0 < n) (hr : ¬ pl b x < -(inf b) - n) (hq : pl b x + n < 0) (w : World) :
    Calls Try.prog 24 #[.int .u8 (fm b), .int .u64 x, .int .i64 n] w fun e w' => e = .returned (.tuple #[.int .u64 (wpl b (pl b x + n)), .bool true]) ∧ Below w.heap.size w w' := by
  have hi := inf_max b
  have hl := inf_lt b
  have hib := inf_bd b
  have HI := fun W => Hide.mk (rInf b false W)
  rw [show sd b (inf b) false = inf b from rfl] at HI
  have HP := fun W => Hide.mk (rPlace b x hx W)
  have e1 : IntKind.i64.wrap (inf b) = inf b := by rw [IntKind.wrap_i64]; omega
  have e4 : IntKind.i64.wrap (-(inf b)) = -(inf b) := by rw [IntKind.wrap_i64]; omega
  have e5 : IntKind.i64.wrap (-(inf b) - n) = -(inf b) - n := by rw [IntKind.wrap_i64]; omega
  have e6 : IntKind.i64.wrap (pl b x + n) = pl b x + n := by rw [IntKind.wrap_i64]; omega
  have e7 : IntKind.i64.wrap (-(pl b x + n)) = -(pl b x + n) := by rw [IntKind.wrap_i64]; omega
  have e8 : IntKind.u64.wrap (-(pl b x + n)) = -(pl b x + n) := by rw [IntKind.wrap_u64]; omega
  have ok : Ok b (-(pl b x + n)) := ⟨by omega, by omega⟩
  have HS := fun W => Hide.mk (rSigned b (-(pl b x + n)) true ok W)
  rw [sz_pos ok (by omega), show sd b (-(pl b x + n)) true = wpl b (pl b x + n) by unfold sd wpl; rw [if_pos rfl, if_pos hq]] at HS
  generalize wpl b (pl b x + n) = R at *
  clear hi hl hib h1 h2 n1 n2 ok
  generalize hgp : pl b x + n = P at *
  have BX := Bx.nil w
  go_enter Try.func24, Try.ntmps24
  go_wp2_with fail
  refine ((HI _).out).mono ?_
  rintro e v18 ⟨rfl, hk⟩
  replace BX := BX.keep hk
  clear hk
  go_wp2_with fail
  refine ((HP _).out).mono ?_
  rintro e v19 ⟨rfl, hk⟩
  replace BX := BX.keep hk
  clear hk
  go_wp2_with fail
  refine ((HS _).out).mono ?_
  rintro e v20 ⟨rfl, hk⟩
  replace BX := BX.keep hk
  clear hk
  go_wp2
  go_ret2
  exact ⟨by first | rfl | simp, BX.bel⟩
theorem rMove_npos (b : Bool) (x n : Int) (hx : Ok b x) (h1 : -inf b ≤ pl b x) (h2 : pl b x ≤ inf b) (n1 : -9223372036854775808 ≤ n) (n2 : n < 9223372036854775808) (n0 : (n == 0) = false) (hn : n < 0) (hn0 : ¬ 0 < n) (hr : ¬ pl b x < -(inf b) - n) (hq : ¬ pl b x + n < 0) (w : World) :
    Calls Try.prog 24 #[.int .u8 (fm b), .int .u64 x, .int .i64 n] w fun e w' => e = .returned (.tuple #[.int .u64 (wpl b (pl b x + n)), .bool true]) ∧ Below w.heap.size w w' := by
  have hi := inf_max b
  have hl := inf_lt b
  have hib := inf_bd b
  have HI := fun W => Hide.mk (rInf b false W)
  rw [show sd b (inf b) false = inf b from rfl] at HI
  have HP := fun W => Hide.mk (rPlace b x hx W)
  have e1 : IntKind.i64.wrap (inf b) = inf b := by rw [IntKind.wrap_i64]; omega
  have e4 : IntKind.i64.wrap (-(inf b)) = -(inf b) := by rw [IntKind.wrap_i64]; omega
  have e5 : IntKind.i64.wrap (-(inf b) - n) = -(inf b) - n := by rw [IntKind.wrap_i64]; omega
  have e6 : IntKind.i64.wrap (pl b x + n) = pl b x + n := by rw [IntKind.wrap_i64]; omega
  have e7 : IntKind.u64.wrap (pl b x + n) = pl b x + n := by rw [IntKind.wrap_u64]; omega
  have hw : Hide (wpl b (pl b x + n) = pl b x + n) := ⟨by unfold wpl; rw [if_neg hq]⟩
  rw [hw.out]
  clear hi hl hib h1 h2 n1 n2 hw
  generalize hgp : pl b x + n = P at *
  have BX := Bx.nil w
  go_enter Try.func24, Try.ntmps24
  go_wp2_with fail
  refine ((HI _).out).mono ?_
  rintro e v21 ⟨rfl, hk⟩
  replace BX := BX.keep hk
  clear hk
  go_wp2_with fail
  refine ((HP _).out).mono ?_
  rintro e v22 ⟨rfl, hk⟩
  replace BX := BX.keep hk
  clear hk
  go_wp2
  go_ret2
  exact ⟨by first | rfl | simp, BX.bel⟩
theorem rMove_ok (b : Bool) (x n : Int) (hx : Ok b x) (c : ¬ inf b < sz b x) (n1 : -9223372036854775808 ≤ n) (n2 : n < 9223372036854775808) (n0 : n ≠ 0) (h : mvd b (pl b x) n) (w : World) :
    Calls Try.prog 24 #[.int .u8 (fm b), .int .u64 x, .int .i64 n] w fun e w' => e = .returned (.tuple #[.int .u64 (wpl b (pl b x + n)), .bool true]) ∧ Below w.heap.size w w' := by
  obtain ⟨h1, h2⟩ := pl_inf c
  have k0 : (n == 0) = false := beq_eq_false_iff_ne.2 n0
  unfold mvd at h
  by_cases d : n < 0
  · by_cases q : pl b x + n < 0
    · exact rMove_nneg b x n hx h1 h2 n1 n2 k0 d (by omega) (by omega) q w
    · exact rMove_npos b x n hx h1 h2 n1 n2 k0 d (by omega) (by omega) q w
  · by_cases q : pl b x + n < 0
    · exact rMove_pneg b x n hx h1 h2 n1 n2 k0 (by omega) d (by omega) q w
    · exact rMove_ppos b x n hx h1 h2 n1 n2 k0 (by omega) d (by omega) q w
theorem rMove_no (b : Bool) (x n : Int) (hx : Ok b x) (c : ¬ inf b < sz b x) (n1 : -9223372036854775808 ≤ n) (n2 : n < 9223372036854775808) (n0 : n ≠ 0) (h : ¬ mvd b (pl b x) n) (w : World) :
    Calls Try.prog 24 #[.int .u8 (fm b), .int .u64 x, .int .i64 n] w fun e w' => e = .returned (.tuple #[.int .u64 0, .bool false]) ∧ Below w.heap.size w w' := by
  obtain ⟨h1, h2⟩ := pl_inf c
  have k0 : (n == 0) = false := beq_eq_false_iff_ne.2 n0
  unfold mvd at h
  by_cases d : n < 0
  · exact rMove_nno b x n hx h1 h2 n1 n2 k0 d (by omega) (by omega) w
  · exact rMove_pno b x n hx h1 h2 n1 n2 k0 (by omega) d (by omega) w
end Go.Proofs.Ytgfpbmjknknflaa

namespace Go.Proofs.Ytgfpbmjknknflaa
open Go.RowKit Go.Wd Go.Box
set_option linter.unusedVariables false
set_option maxRecDepth 3000
set_option maxHeartbeats 4000000 in
theorem rk_err (f x y n c : Int) (hc : (c == 0) = false) (K1 : ∀ W, Calls Try.prog 21 #[.int .u8 f, .int .u64 x, .int .u64 y] W fun e w' => e = .returned (.tuple #[.int .u64 0, .int .i64 c]) ∧ Below W.heap.size W w') (K2 : ∀ W, Calls Try.prog 22 #[.int .u8 f, .int .u64 x, .int .i64 n] W fun e w' => e = .returned (.tuple #[.int .u64 0, .int .i64 c]) ∧ Below W.heap.size W w') (KO1 : ∀ W g, W.heap[g]? = some (.cells #[.int .u64 x] 23 (0, 0)) → Calls Try.prog 13 #[.int .u8 f, .slice (some ⟨g, 0, none⟩) 1 1] W fun e w' => e = .returned (.int .i64 c) ∧ Below W.heap.size W w') (w : World) :
    Calls Try.prog 5 #[.int .u8 f, .int .u64 x, .int .u64 y, .int .i64 n] w fun e w' => e = .returned (.bool true) ∧ Below w.heap.size w w' := by
  have H1 := fun W => Hide.mk (K1 W)
  have H2 := fun W => Hide.mk (K2 W)
  have HO1 := fun W g h => Hide.mk (KO1 W g h)
  clear K1 K2 KO1
  have hcc : (c == c) = true := by simp
  have hc2 : (c != 0) = true := by simp only [bne, hc, Bool.not_false]
  have BX := Bx.nil w
  go_enter Try.func5, Try.ntmps5
  go_wp2_with fail
  refine ((H1 _).out).mono ?_
  rintro e v23 ⟨rfl, hk⟩
  replace BX := BX.keep hk
  clear hk
  go_wp2_with fail
  refine ((H2 _).out).mono ?_
  rintro e v24 ⟨rfl, hk⟩
  replace BX := BX.keep hk
  clear hk
  go_wp2_with fail
  replace BX := BX.push (.cells #[.int .u64 x] 23 (0, 0))
  refine (HO1 _ _ BX.head).out.mono ?_
  rintro e wo1 ⟨rfl, hk⟩
  replace BX := BX.keep hk
  clear hk
  go_wp2_with fail
  refine (lKnown7 _).mono ?_
  rintro e v25 ⟨rfl, hk⟩
  replace BX := BX.keep hk
  clear hk
  go_wp2
  go_ret
  exact ⟨by first | rfl | simp, BX.bel⟩
set_option maxHeartbeats 4000000 in
theorem rk_nan_err (f x y n c cx : Int) (hc : (c == 0) = false) (K1 : ∀ W, Calls Try.prog 21 #[.int .u8 f, .int .u64 x, .int .u64 y] W fun e w' => e = .returned (.tuple #[.int .u64 0, .int .i64 c]) ∧ Below W.heap.size W w') (K2 : ∀ W, Calls Try.prog 22 #[.int .u8 f, .int .u64 x, .int .i64 n] W fun e w' => e = .returned (.tuple #[.int .u64 0, .int .i64 7]) ∧ Below W.heap.size W w') (KO1 : ∀ W g, W.heap[g]? = some (.cells #[.int .u64 x] 23 (0, 0)) → Calls Try.prog 13 #[.int .u8 f, .slice (some ⟨g, 0, none⟩) 1 1] W fun e w' => e = .returned (.int .i64 0) ∧ Below W.heap.size W w') (Cx : ∀ W, Calls Try.prog 23 #[.int .u8 f, .int .u64 x] W fun e w' => e = .returned (.int .u8 cx) ∧ Below W.heap.size W w') (hx : (cx == 5) = true) (KO2 : ∀ W g, W.heap[g]? = some (.cells #[.int .u64 x, .int .u64 y] 23 (0, 0)) → Calls Try.prog 13 #[.int .u8 f, .slice (some ⟨g, 0, none⟩) 2 2] W fun e w' => e = .returned (.int .i64 c) ∧ Below W.heap.size W w') (w : World) :
    Calls Try.prog 5 #[.int .u8 f, .int .u64 x, .int .u64 y, .int .i64 n] w fun e w' => e = .returned (.bool true) ∧ Below w.heap.size w w' := by
  have H1 := fun W => Hide.mk (K1 W)
  have H2 := fun W => Hide.mk (K2 W)
  have Dx := fun W => Hide.mk (Cx W)
  have HO1 := fun W g h => Hide.mk (KO1 W g h)
  have HO2 := fun W g h => Hide.mk (KO2 W g h)
  clear K1 K2 Cx KO1 KO2
  have hcc : (c == c) = true := by simp
  have hc2 : (c != 0) = true := by simp only [bne, hc, Bool.not_false]
  have BX := Bx.nil w
  go_enter Try.func5, Try.ntmps5
  go_wp2_with fail
  refine ((H1 _).out).mono ?_
  rintro e v26 ⟨rfl, hk⟩
  replace BX := BX.keep hk
  clear hk
  go_wp2_with fail
  refine ((H2 _).out).mono ?_
  rintro e v27 ⟨rfl, hk⟩
  replace BX := BX.keep hk
  clear hk
  go_wp2_with fail
  replace BX := BX.push (.cells #[.int .u64 x] 23 (0, 0))
  refine (HO1 _ _ BX.head).out.mono ?_
  rintro e wo1 ⟨rfl, hk⟩
  replace BX := BX.keep hk
  clear hk
  go_wp2_with fail
  refine ((Dx _).out).mono ?_
  rintro e v28 ⟨rfl, hk⟩
  replace BX := BX.keep hk
  clear hk
  go_wp2_with fail
  replace BX := BX.push (.cells #[.int .u64 x, .int .u64 y] 23 (0, 0))
  refine (HO2 _ _ BX.head).out.mono ?_
  rintro e wo2 ⟨rfl, hk⟩
  replace BX := BX.keep hk
  clear hk
  go_wp2_with fail
  refine (lKnown7 _).mono ?_
  rintro e v29 ⟨rfl, hk⟩
  replace BX := BX.keep hk
  clear hk
  go_wp2
  go_ret
  exact ⟨by first | rfl | simp, BX.bel⟩
set_option maxHeartbeats 4000000 in
theorem rk_nan_ok (f x y n cx : Int) (K1 : ∀ W, Calls Try.prog 21 #[.int .u8 f, .int .u64 x, .int .u64 y] W fun e w' => e = .returned (.tuple #[.int .u64 0, .int .i64 7]) ∧ Below W.heap.size W w') (K2 : ∀ W, Calls Try.prog 22 #[.int .u8 f, .int .u64 x, .int .i64 n] W fun e w' => e = .returned (.tuple #[.int .u64 0, .int .i64 7]) ∧ Below W.heap.size W w') (KO1 : ∀ W g, W.heap[g]? = some (.cells #[.int .u64 x] 23 (0, 0)) → Calls Try.prog 13 #[.int .u8 f, .slice (some ⟨g, 0, none⟩) 1 1] W fun e w' => e = .returned (.int .i64 0) ∧ Below W.heap.size W w') (Cx : ∀ W, Calls Try.prog 23 #[.int .u8 f, .int .u64 x] W fun e w' => e = .returned (.int .u8 cx) ∧ Below W.heap.size W w') (hx : (cx == 5) = true) (KO2 : ∀ W g, W.heap[g]? = some (.cells #[.int .u64 x, .int .u64 y] 23 (0, 0)) → Calls Try.prog 13 #[.int .u8 f, .slice (some ⟨g, 0, none⟩) 2 2] W fun e w' => e = .returned (.int .i64 0) ∧ Below W.heap.size W w') (w : World) :
    Calls Try.prog 5 #[.int .u8 f, .int .u64 x, .int .u64 y, .int .i64 n] w fun e w' => e = .returned (.bool true) ∧ Below w.heap.size w w' := by
  have H1 := fun W => Hide.mk (K1 W)
  have H2 := fun W => Hide.mk (K2 W)
  have Dx := fun W => Hide.mk (Cx W)
  have HO1 := fun W g h => Hide.mk (KO1 W g h)
  have HO2 := fun W g h => Hide.mk (KO2 W g h)
  clear K1 K2 Cx KO1 KO2
  have BX := Bx.nil w
  go_enter Try.func5, Try.ntmps5
  go_wp2_with fail
  refine ((H1 _).out).mono ?_
  rintro e v30 ⟨rfl, hk⟩
  replace BX := BX.keep hk
  clear hk
  go_wp2_with fail
  refine ((H2 _).out).mono ?_
  rintro e v31 ⟨rfl, hk⟩
  replace BX := BX.keep hk
  clear hk
  go_wp2_with fail
  replace BX := BX.push (.cells #[.int .u64 x] 23 (0, 0))
  refine (HO1 _ _ BX.head).out.mono ?_
  rintro e wo1 ⟨rfl, hk⟩
  replace BX := BX.keep hk
  clear hk
  go_wp2_with fail
  refine ((Dx _).out).mono ?_
  rintro e v32 ⟨rfl, hk⟩
  replace BX := BX.keep hk
  clear hk
  go_wp2_with fail
  replace BX := BX.push (.cells #[.int .u64 x, .int .u64 y] 23 (0, 0))
  refine (HO2 _ _ BX.head).out.mono ?_
  rintro e wo2 ⟨rfl, hk⟩
  replace BX := BX.keep hk
  clear hk
  go_wp2_with fail
  refine (lKnown7 _).mono ?_
  rintro e v33 ⟨rfl, hk⟩
  replace BX := BX.keep hk
  clear hk
  go_wp2
  go_ret
  exact ⟨by first | rfl | simp, BX.bel⟩
set_option maxHeartbeats 4000000 in
theorem rk_no_err (f x y n c cx : Int) (hc : (c == 0) = false) (K1 : ∀ W, Calls Try.prog 21 #[.int .u8 f, .int .u64 x, .int .u64 y] W fun e w' => e = .returned (.tuple #[.int .u64 0, .int .i64 c]) ∧ Below W.heap.size W w') (K2 : ∀ W, Calls Try.prog 22 #[.int .u8 f, .int .u64 x, .int .i64 n] W fun e w' => e = .returned (.tuple #[.int .u64 0, .int .i64 20]) ∧ Below W.heap.size W w') (KO1 : ∀ W g, W.heap[g]? = some (.cells #[.int .u64 x] 23 (0, 0)) → Calls Try.prog 13 #[.int .u8 f, .slice (some ⟨g, 0, none⟩) 1 1] W fun e w' => e = .returned (.int .i64 0) ∧ Below W.heap.size W w') (Cx : ∀ W, Calls Try.prog 23 #[.int .u8 f, .int .u64 x] W fun e w' => e = .returned (.int .u8 cx) ∧ Below W.heap.size W w') (hx : (cx == 5) = false) (K3 : ∀ W, Calls Try.prog 24 #[.int .u8 f, .int .u64 x, .int .i64 n] W fun e w' => e = .returned (.tuple #[.int .u64 0, .bool false]) ∧ Below W.heap.size W w') (KO2 : ∀ W g, W.heap[g]? = some (.cells #[.int .u64 x, .int .u64 y] 23 (0, 0)) → Calls Try.prog 13 #[.int .u8 f, .slice (some ⟨g, 0, none⟩) 2 2] W fun e w' => e = .returned (.int .i64 c) ∧ Below W.heap.size W w') (w : World) :
    Calls Try.prog 5 #[.int .u8 f, .int .u64 x, .int .u64 y, .int .i64 n] w fun e w' => e = .returned (.bool true) ∧ Below w.heap.size w w' := by
  have H1 := fun W => Hide.mk (K1 W)
  have H2 := fun W => Hide.mk (K2 W)
  have H3 := fun W => Hide.mk (K3 W)
  have Dx := fun W => Hide.mk (Cx W)
  have HO1 := fun W g h => Hide.mk (KO1 W g h)
  have HO2 := fun W g h => Hide.mk (KO2 W g h)
  clear K1 K2 K3 Cx KO1 KO2
  have hcc : (c == c) = true := by simp
  have hc2 : (c != 0) = true := by simp only [bne, hc, Bool.not_false]
  have BX := Bx.nil w
  go_enter Try.func5, Try.ntmps5
  go_wp2_with fail
  refine ((H1 _).out).mono ?_
  rintro e v34 ⟨rfl, hk⟩
  replace BX := BX.keep hk
  clear hk
  go_wp2_with fail
  refine ((H2 _).out).mono ?_
  rintro e v35 ⟨rfl, hk⟩
  replace BX := BX.keep hk
  clear hk
  go_wp2_with fail
  replace BX := BX.push (.cells #[.int .u64 x] 23 (0, 0))
  refine (HO1 _ _ BX.head).out.mono ?_
  rintro e wo1 ⟨rfl, hk⟩
  replace BX := BX.keep hk
  clear hk
  go_wp2_with fail
  refine ((Dx _).out).mono ?_
  rintro e v36 ⟨rfl, hk⟩
  replace BX := BX.keep hk
  clear hk
  go_wp2_with fail
  refine ((H3 _).out).mono ?_
  rintro e v37 ⟨rfl, hk⟩
  replace BX := BX.keep hk
  clear hk
  go_wp2_with fail
  replace BX := BX.push (.cells #[.int .u64 x, .int .u64 y] 23 (0, 0))
  refine (HO2 _ _ BX.head).out.mono ?_
  rintro e wo2 ⟨rfl, hk⟩
  replace BX := BX.keep hk
  clear hk
  go_wp2_with fail
  refine (lKnown7 _).mono ?_
  rintro e v38 ⟨rfl, hk⟩
  replace BX := BX.keep hk
  clear hk
  go_wp2
  go_ret
  exact ⟨by first | rfl | simp, BX.bel⟩
set_option maxHeartbeats 4000000 in
theorem rk_no_nan (f x y n cx cy : Int) (K1 : ∀ W, Calls Try.prog 21 #[.int .u8 f, .int .u64 x, .int .u64 y] W fun e w' => e = .returned (.tuple #[.int .u64 0, .int .i64 7]) ∧ Below W.heap.size W w') (K2 : ∀ W, Calls Try.prog 22 #[.int .u8 f, .int .u64 x, .int .i64 n] W fun e w' => e = .returned (.tuple #[.int .u64 0, .int .i64 20]) ∧ Below W.heap.size W w') (KO1 : ∀ W g, W.heap[g]? = some (.cells #[.int .u64 x] 23 (0, 0)) → Calls Try.prog 13 #[.int .u8 f, .slice (some ⟨g, 0, none⟩) 1 1] W fun e w' => e = .returned (.int .i64 0) ∧ Below W.heap.size W w') (Cx : ∀ W, Calls Try.prog 23 #[.int .u8 f, .int .u64 x] W fun e w' => e = .returned (.int .u8 cx) ∧ Below W.heap.size W w') (hx : (cx == 5) = false) (K3 : ∀ W, Calls Try.prog 24 #[.int .u8 f, .int .u64 x, .int .i64 n] W fun e w' => e = .returned (.tuple #[.int .u64 0, .bool false]) ∧ Below W.heap.size W w') (KO2 : ∀ W g, W.heap[g]? = some (.cells #[.int .u64 x, .int .u64 y] 23 (0, 0)) → Calls Try.prog 13 #[.int .u8 f, .slice (some ⟨g, 0, none⟩) 2 2] W fun e w' => e = .returned (.int .i64 0) ∧ Below W.heap.size W w') (Cy : ∀ W, Calls Try.prog 23 #[.int .u8 f, .int .u64 y] W fun e w' => e = .returned (.int .u8 cy) ∧ Below W.heap.size W w') (hy : (cy == 5) = true) (w : World) :
    Calls Try.prog 5 #[.int .u8 f, .int .u64 x, .int .u64 y, .int .i64 n] w fun e w' => e = .returned (.bool true) ∧ Below w.heap.size w w' := by
  have H1 := fun W => Hide.mk (K1 W)
  have H2 := fun W => Hide.mk (K2 W)
  have H3 := fun W => Hide.mk (K3 W)
  have Dx := fun W => Hide.mk (Cx W)
  have Dy := fun W => Hide.mk (Cy W)
  have HO1 := fun W g h => Hide.mk (KO1 W g h)
  have HO2 := fun W g h => Hide.mk (KO2 W g h)
  clear K1 K2 K3 Cx Cy KO1 KO2
  have BX := Bx.nil w
  go_enter Try.func5, Try.ntmps5
  go_wp2_with fail
  refine ((H1 _).out).mono ?_
  rintro e v39 ⟨rfl, hk⟩
  replace BX := BX.keep hk
  clear hk
  go_wp2_with fail
  refine ((H2 _).out).mono ?_
  rintro e v40 ⟨rfl, hk⟩
  replace BX := BX.keep hk
  clear hk
  go_wp2_with fail
  replace BX := BX.push (.cells #[.int .u64 x] 23 (0, 0))
  refine (HO1 _ _ BX.head).out.mono ?_
  rintro e wo1 ⟨rfl, hk⟩
  replace BX := BX.keep hk
  clear hk
  go_wp2_with fail
  refine ((Dx _).out).mono ?_
  rintro e v41 ⟨rfl, hk⟩
  replace BX := BX.keep hk
  clear hk
  go_wp2_with fail
  refine ((H3 _).out).mono ?_
  rintro e v42 ⟨rfl, hk⟩
  replace BX := BX.keep hk
  clear hk
  go_wp2_with fail
  replace BX := BX.push (.cells #[.int .u64 x, .int .u64 y] 23 (0, 0))
  refine (HO2 _ _ BX.head).out.mono ?_
  rintro e wo2 ⟨rfl, hk⟩
  replace BX := BX.keep hk
  clear hk
  go_wp2_with fail
  refine ((Dy _).out).mono ?_
  rintro e v43 ⟨rfl, hk⟩
  replace BX := BX.keep hk
  clear hk
  go_wp2_with fail
  refine (lKnown7 _).mono ?_
  rintro e v44 ⟨rfl, hk⟩
  replace BX := BX.keep hk
  clear hk
  go_wp2
  go_ret
  exact ⟨by first | rfl | simp, BX.bel⟩
set_option maxHeartbeats 4000000 in
theorem rk_no_ok (f x y n cx cy s : Int) (K1 : ∀ W, Calls Try.prog 21 #[.int .u8 f, .int .u64 x, .int .u64 y] W fun e w' => e = .returned (.tuple #[.int .u64 s, .int .i64 0]) ∧ Below W.heap.size W w') (K2 : ∀ W, Calls Try.prog 22 #[.int .u8 f, .int .u64 x, .int .i64 n] W fun e w' => e = .returned (.tuple #[.int .u64 0, .int .i64 20]) ∧ Below W.heap.size W w') (KO1 : ∀ W g, W.heap[g]? = some (.cells #[.int .u64 x] 23 (0, 0)) → Calls Try.prog 13 #[.int .u8 f, .slice (some ⟨g, 0, none⟩) 1 1] W fun e w' => e = .returned (.int .i64 0) ∧ Below W.heap.size W w') (Cx : ∀ W, Calls Try.prog 23 #[.int .u8 f, .int .u64 x] W fun e w' => e = .returned (.int .u8 cx) ∧ Below W.heap.size W w') (hx : (cx == 5) = false) (K3 : ∀ W, Calls Try.prog 24 #[.int .u8 f, .int .u64 x, .int .i64 n] W fun e w' => e = .returned (.tuple #[.int .u64 0, .bool false]) ∧ Below W.heap.size W w') (KO2 : ∀ W g, W.heap[g]? = some (.cells #[.int .u64 x, .int .u64 y] 23 (0, 0)) → Calls Try.prog 13 #[.int .u8 f, .slice (some ⟨g, 0, none⟩) 2 2] W fun e w' => e = .returned (.int .i64 0) ∧ Below W.heap.size W w') (Cy : ∀ W, Calls Try.prog 23 #[.int .u8 f, .int .u64 y] W fun e w' => e = .returned (.int .u8 cy) ∧ Below W.heap.size W w') (hy : (cy == 5) = false) (K4 : ∀ W, Calls Try.prog 25 #[.int .u8 f, .int .u64 x, .int .u64 y] W fun e w' => e = .returned (.int .u64 s) ∧ Below W.heap.size W w') (w : World) :
    Calls Try.prog 5 #[.int .u8 f, .int .u64 x, .int .u64 y, .int .i64 n] w fun e w' => e = .returned (.bool true) ∧ Below w.heap.size w w' := by
  have H1 := fun W => Hide.mk (K1 W)
  have H2 := fun W => Hide.mk (K2 W)
  have H3 := fun W => Hide.mk (K3 W)
  have H4 := fun W => Hide.mk (K4 W)
  have Dx := fun W => Hide.mk (Cx W)
  have Dy := fun W => Hide.mk (Cy W)
  have HO1 := fun W g h => Hide.mk (KO1 W g h)
  have HO2 := fun W g h => Hide.mk (KO2 W g h)
  clear K1 K2 K3 K4 Cx Cy KO1 KO2
  have hss : (s == s) = true := by simp
  have BX := Bx.nil w
  go_enter Try.func5, Try.ntmps5
  go_wp2_with fail
  refine ((H1 _).out).mono ?_
  rintro e v45 ⟨rfl, hk⟩
  replace BX := BX.keep hk
  clear hk
  go_wp2_with fail
  refine ((H2 _).out).mono ?_
  rintro e v46 ⟨rfl, hk⟩
  replace BX := BX.keep hk
  clear hk
  go_wp2_with fail
  replace BX := BX.push (.cells #[.int .u64 x] 23 (0, 0))
  refine (HO1 _ _ BX.head).out.mono ?_
  rintro e wo1 ⟨rfl, hk⟩
  replace BX := BX.keep hk
  clear hk
  go_wp2_with fail
  refine ((Dx _).out).mono ?_
  rintro e v47 ⟨rfl, hk⟩
  replace BX := BX.keep hk
  clear hk
  go_wp2_with fail
  refine ((H3 _).out).mono ?_
  rintro e v48 ⟨rfl, hk⟩
  replace BX := BX.keep hk
  clear hk
  go_wp2_with fail
  replace BX := BX.push (.cells #[.int .u64 x, .int .u64 y] 23 (0, 0))
  refine (HO2 _ _ BX.head).out.mono ?_
  rintro e wo2 ⟨rfl, hk⟩
  replace BX := BX.keep hk
  clear hk
  go_wp2_with fail
  refine ((Dy _).out).mono ?_
  rintro e v49 ⟨rfl, hk⟩
  replace BX := BX.keep hk
  clear hk
  go_wp2_with fail
  refine ((H4 _).out).mono ?_
  rintro e v50 ⟨rfl, hk⟩
  replace BX := BX.keep hk
  clear hk
  go_wp2_with fail
  refine (lKnown7 _).mono ?_
  rintro e v51 ⟨rfl, hk⟩
  replace BX := BX.keep hk
  clear hk
  go_wp2
  go_ret
  exact ⟨by first | rfl | simp, BX.bel⟩
set_option maxHeartbeats 4000000 in
theorem rk_ok_err (f x y n c cx v : Int) (hc : (c == 0) = false) (K1 : ∀ W, Calls Try.prog 21 #[.int .u8 f, .int .u64 x, .int .u64 y] W fun e w' => e = .returned (.tuple #[.int .u64 0, .int .i64 c]) ∧ Below W.heap.size W w') (K2 : ∀ W, Calls Try.prog 22 #[.int .u8 f, .int .u64 x, .int .i64 n] W fun e w' => e = .returned (.tuple #[.int .u64 v, .int .i64 0]) ∧ Below W.heap.size W w') (KO1 : ∀ W g, W.heap[g]? = some (.cells #[.int .u64 x] 23 (0, 0)) → Calls Try.prog 13 #[.int .u8 f, .slice (some ⟨g, 0, none⟩) 1 1] W fun e w' => e = .returned (.int .i64 0) ∧ Below W.heap.size W w') (Cx : ∀ W, Calls Try.prog 23 #[.int .u8 f, .int .u64 x] W fun e w' => e = .returned (.int .u8 cx) ∧ Below W.heap.size W w') (hx : (cx == 5) = false) (K3 : ∀ W, Calls Try.prog 24 #[.int .u8 f, .int .u64 x, .int .i64 n] W fun e w' => e = .returned (.tuple #[.int .u64 v, .bool true]) ∧ Below W.heap.size W w') (KO2 : ∀ W g, W.heap[g]? = some (.cells #[.int .u64 x, .int .u64 y] 23 (0, 0)) → Calls Try.prog 13 #[.int .u8 f, .slice (some ⟨g, 0, none⟩) 2 2] W fun e w' => e = .returned (.int .i64 c) ∧ Below W.heap.size W w') (w : World) :
    Calls Try.prog 5 #[.int .u8 f, .int .u64 x, .int .u64 y, .int .i64 n] w fun e w' => e = .returned (.bool true) ∧ Below w.heap.size w w' := by
  have H1 := fun W => Hide.mk (K1 W)
  have H2 := fun W => Hide.mk (K2 W)
  have H3 := fun W => Hide.mk (K3 W)
  have Dx := fun W => Hide.mk (Cx W)
  have HO1 := fun W g h => Hide.mk (KO1 W g h)
  have HO2 := fun W g h => Hide.mk (KO2 W g h)
  clear K1 K2 K3 Cx KO1 KO2
  have hcc : (c == c) = true := by simp
  have hc2 : (c != 0) = true := by simp only [bne, hc, Bool.not_false]
  have hvv : (v != v) = false := by simp
  have BX := Bx.nil w
  go_enter Try.func5, Try.ntmps5
  go_wp2_with fail
  refine ((H1 _).out).mono ?_
  rintro e v52 ⟨rfl, hk⟩
  replace BX := BX.keep hk
  clear hk
  go_wp2_with fail
  refine ((H2 _).out).mono ?_
  rintro e v53 ⟨rfl, hk⟩
  replace BX := BX.keep hk
  clear hk
  go_wp2_with fail
  replace BX := BX.push (.cells #[.int .u64 x] 23 (0, 0))
  refine (HO1 _ _ BX.head).out.mono ?_
  rintro e wo1 ⟨rfl, hk⟩
  replace BX := BX.keep hk
  clear hk
  go_wp2_with fail
  refine ((Dx _).out).mono ?_
  rintro e v54 ⟨rfl, hk⟩
  replace BX := BX.keep hk
  clear hk
  go_wp2_with fail
  refine ((H3 _).out).mono ?_
  rintro e v55 ⟨rfl, hk⟩
  replace BX := BX.keep hk
  clear hk
  go_wp2_with fail
  replace BX := BX.push (.cells #[.int .u64 x, .int .u64 y] 23 (0, 0))
  refine (HO2 _ _ BX.head).out.mono ?_
  rintro e wo2 ⟨rfl, hk⟩
  replace BX := BX.keep hk
  clear hk
  go_wp2_with fail
  refine (lKnown7 _).mono ?_
  rintro e v56 ⟨rfl, hk⟩
  replace BX := BX.keep hk
  clear hk
  go_wp2
  go_ret
  exact ⟨by first | rfl | simp, BX.bel⟩
set_option maxHeartbeats 4000000 in
theorem rk_ok_nan (f x y n cx cy v : Int) (K1 : ∀ W, Calls Try.prog 21 #[.int .u8 f, .int .u64 x, .int .u64 y] W fun e w' => e = .returned (.tuple #[.int .u64 0, .int .i64 7]) ∧ Below W.heap.size W w') (K2 : ∀ W, Calls Try.prog 22 #[.int .u8 f, .int .u64 x, .int .i64 n] W fun e w' => e = .returned (.tuple #[.int .u64 v, .int .i64 0]) ∧ Below W.heap.size W w') (KO1 : ∀ W g, W.heap[g]? = some (.cells #[.int .u64 x] 23 (0, 0)) → Calls Try.prog 13 #[.int .u8 f, .slice (some ⟨g, 0, none⟩) 1 1] W fun e w' => e = .returned (.int .i64 0) ∧ Below W.heap.size W w') (Cx : ∀ W, Calls Try.prog 23 #[.int .u8 f, .int .u64 x] W fun e w' => e = .returned (.int .u8 cx) ∧ Below W.heap.size W w') (hx : (cx == 5) = false) (K3 : ∀ W, Calls Try.prog 24 #[.int .u8 f, .int .u64 x, .int .i64 n] W fun e w' => e = .returned (.tuple #[.int .u64 v, .bool true]) ∧ Below W.heap.size W w') (KO2 : ∀ W g, W.heap[g]? = some (.cells #[.int .u64 x, .int .u64 y] 23 (0, 0)) → Calls Try.prog 13 #[.int .u8 f, .slice (some ⟨g, 0, none⟩) 2 2] W fun e w' => e = .returned (.int .i64 0) ∧ Below W.heap.size W w') (Cy : ∀ W, Calls Try.prog 23 #[.int .u8 f, .int .u64 y] W fun e w' => e = .returned (.int .u8 cy) ∧ Below W.heap.size W w') (hy : (cy == 5) = true) (w : World) :
    Calls Try.prog 5 #[.int .u8 f, .int .u64 x, .int .u64 y, .int .i64 n] w fun e w' => e = .returned (.bool true) ∧ Below w.heap.size w w' := by
  have H1 := fun W => Hide.mk (K1 W)
  have H2 := fun W => Hide.mk (K2 W)
  have H3 := fun W => Hide.mk (K3 W)
  have Dx := fun W => Hide.mk (Cx W)
  have Dy := fun W => Hide.mk (Cy W)
  have HO1 := fun W g h => Hide.mk (KO1 W g h)
  have HO2 := fun W g h => Hide.mk (KO2 W g h)
  clear K1 K2 K3 Cx Cy KO1 KO2
  have hvv : (v != v) = false := by simp
  have BX := Bx.nil w
  go_enter Try.func5, Try.ntmps5
  go_wp2_with fail
  refine ((H1 _).out).mono ?_
  rintro e v57 ⟨rfl, hk⟩
  replace BX := BX.keep hk
  clear hk
  go_wp2_with fail
  refine ((H2 _).out).mono ?_
  rintro e v58 ⟨rfl, hk⟩
  replace BX := BX.keep hk
  clear hk
  go_wp2_with fail
  replace BX := BX.push (.cells #[.int .u64 x] 23 (0, 0))
  refine (HO1 _ _ BX.head).out.mono ?_
  rintro e wo1 ⟨rfl, hk⟩
  replace BX := BX.keep hk
  clear hk
  go_wp2_with fail
  refine ((Dx _).out).mono ?_
  rintro e v59 ⟨rfl, hk⟩
  replace BX := BX.keep hk
  clear hk
  go_wp2_with fail
  refine ((H3 _).out).mono ?_
  rintro e v60 ⟨rfl, hk⟩
  replace BX := BX.keep hk
  clear hk
  go_wp2_with fail
  replace BX := BX.push (.cells #[.int .u64 x, .int .u64 y] 23 (0, 0))
  refine (HO2 _ _ BX.head).out.mono ?_
  rintro e wo2 ⟨rfl, hk⟩
  replace BX := BX.keep hk
  clear hk
  go_wp2_with fail
  refine ((Dy _).out).mono ?_
  rintro e v61 ⟨rfl, hk⟩
  replace BX := BX.keep hk
  clear hk
  go_wp2_with fail
  refine (lKnown7 _).mono ?_
  rintro e v62 ⟨rfl, hk⟩
  replace BX := BX.keep hk
  clear hk
  go_wp2
  go_ret
  exact ⟨by first | rfl | simp, BX.bel⟩
set_option maxHeartbeats 4000000 in
theorem rk_ok_ok (f x y n cx cy s v : Int) (K1 : ∀ W, Calls Try.prog 21 #[.int .u8 f, .int .u64 x, .int .u64 y] W fun e w' => e = .returned (.tuple #[.int .u64 s, .int .i64 0]) ∧ Below W.heap.size W w') (K2 : ∀ W, Calls Try.prog 22 #[.int .u8 f, .int .u64 x, .int .i64 n] W fun e w' => e = .returned (.tuple #[.int .u64 v, .int .i64 0]) ∧ Below W.heap.size W w') (KO1 : ∀ W g, W.heap[g]? = some (.cells #[.int .u64 x] 23 (0, 0)) → Calls Try.prog 13 #[.int .u8 f, .slice (some ⟨g, 0, none⟩) 1 1] W fun e w' => e = .returned (.int .i64 0) ∧ Below W.heap.size W w') (Cx : ∀ W, Calls Try.prog 23 #[.int .u8 f, .int .u64 x] W fun e w' => e = .returned (.int .u8 cx) ∧ Below W.heap.size W w') (hx : (cx == 5) = false) (K3 : ∀ W, Calls Try.prog 24 #[.int .u8 f, .int .u64 x, .int .i64 n] W fun e w' => e = .returned (.tuple #[.int .u64 v, .bool true]) ∧ Below W.heap.size W w') (KO2 : ∀ W g, W.heap[g]? = some (.cells #[.int .u64 x, .int .u64 y] 23 (0, 0)) → Calls Try.prog 13 #[.int .u8 f, .slice (some ⟨g, 0, none⟩) 2 2] W fun e w' => e = .returned (.int .i64 0) ∧ Below W.heap.size W w') (Cy : ∀ W, Calls Try.prog 23 #[.int .u8 f, .int .u64 y] W fun e w' => e = .returned (.int .u8 cy) ∧ Below W.heap.size W w') (hy : (cy == 5) = false) (K4 : ∀ W, Calls Try.prog 25 #[.int .u8 f, .int .u64 x, .int .u64 y] W fun e w' => e = .returned (.int .u64 s) ∧ Below W.heap.size W w') (w : World) :
    Calls Try.prog 5 #[.int .u8 f, .int .u64 x, .int .u64 y, .int .i64 n] w fun e w' => e = .returned (.bool true) ∧ Below w.heap.size w w' := by
  have H1 := fun W => Hide.mk (K1 W)
  have H2 := fun W => Hide.mk (K2 W)
  have H3 := fun W => Hide.mk (K3 W)
  have H4 := fun W => Hide.mk (K4 W)
  have Dx := fun W => Hide.mk (Cx W)
  have Dy := fun W => Hide.mk (Cy W)
  have HO1 := fun W g h => Hide.mk (KO1 W g h)
  have HO2 := fun W g h => Hide.mk (KO2 W g h)
  clear K1 K2 K3 K4 Cx Cy KO1 KO2
  have hvv : (v != v) = false := by simp
  have hss : (s == s) = true := by simp
  have BX := Bx.nil w
  go_enter Try.func5, Try.ntmps5
  go_wp2_with fail
  refine ((H1 _).out).mono ?_
  rintro e v63 ⟨rfl, hk⟩
  replace BX := BX.keep hk
  clear hk
  go_wp2_with fail
  refine ((H2 _).out).mono ?_
  rintro e v64 ⟨rfl, hk⟩
  replace BX := BX.keep hk
  clear hk
  go_wp2_with fail
  replace BX := BX.push (.cells #[.int .u64 x] 23 (0, 0))
  refine (HO1 _ _ BX.head).out.mono ?_
  rintro e wo1 ⟨rfl, hk⟩
  replace BX := BX.keep hk
  clear hk
  go_wp2_with fail
  refine ((Dx _).out).mono ?_
  rintro e v65 ⟨rfl, hk⟩
  replace BX := BX.keep hk
  clear hk
  go_wp2_with fail
  refine ((H3 _).out).mono ?_
  rintro e v66 ⟨rfl, hk⟩
  replace BX := BX.keep hk
  clear hk
  go_wp2_with fail
  replace BX := BX.push (.cells #[.int .u64 x, .int .u64 y] 23 (0, 0))
  refine (HO2 _ _ BX.head).out.mono ?_
  rintro e wo2 ⟨rfl, hk⟩
  replace BX := BX.keep hk
  clear hk
  go_wp2_with fail
  refine ((Dy _).out).mono ?_
  rintro e v67 ⟨rfl, hk⟩
  replace BX := BX.keep hk
  clear hk
  go_wp2_with fail
  refine ((H4 _).out).mono ?_
  rintro e v68 ⟨rfl, hk⟩
  replace BX := BX.keep hk
  clear hk
  go_wp2_with fail
  refine (lKnown7 _).mono ?_
  rintro e v69 ⟨rfl, hk⟩
  replace BX := BX.keep hk
  clear hk
  go_wp2
  go_ret
  exact ⟨by first | rfl | simp, BX.bel⟩
/-- RankSteps, whatever it is called with. -/
theorem rk_any (f x y n : Int) (w : World) (x0 : 0 ≤ x) (x1 : x < 18446744073709551616) (y0 : 0 ≤ y) (y1 : y < 18446744073709551616) (n1 : -9223372036854775808 ≤ n) (n2 : n < 9223372036854775808) :
    Calls Try.prog 5 #[.int .u8 f, .int .u64 x, .int .u64 y, .int .i64 n] w fun e w' => e = .returned (.bool true) ∧ Below w.heap.size w w' := by
  rcases fm_badK f with ⟨b, rfl⟩ | hf
  · by_cases hx : Ok b x
    · have KO1 := fun W g h => rOpens1_ok b x hx W g h
      have Cx := fun W => rClass b x hx W
      have n5 : ∀ v, ¬ inf b < sz b v → (cl b v == 5) = false := fun v h => beq_eq_false_iff_ne.2 (fun q => h ((cl_5 b v).1 q))
      have t5 : ∀ v, inf b < sz b v → (cl b v == 5) = true := fun v h => by simp [(cl_5 b v).2 h]
      by_cases hy : Ok b y
      · have KO2 := fun W g h => rOpens2_ok b x y hx hy W g h
        have Cy := fun W => rClass b y hy W
        by_cases c : inf b < sz b x
        · refine rk_nan_ok (fm b) x y n _ (fun W => ?_) (fun W => wMove_nan b x n hx c W) KO1 Cx (t5 x c) KO2 w
          rcases stV_cases b y with ⟨_, h, _⟩ | ⟨_, h, _⟩ <;> exact wSteps_n1 b x y hx hy c h W
        · have key : ∀ {v : Int}, (∀ W, Calls Try.prog 22 #[.int .u8 (fm b), .int .u64 x, .int .i64 n] W fun e w' => e = .returned (.tuple #[.int .u64 v, .int .i64 0]) ∧ Below W.heap.size W w') → (∀ W, Calls Try.prog 24 #[.int .u8 (fm b), .int .u64 x, .int .i64 n] W fun e w' => e = .returned (.tuple #[.int .u64 v, .bool true]) ∧ Below W.heap.size W w') →
              Calls Try.prog 5 #[.int .u8 (fm b), .int .u64 x, .int .u64 y, .int .i64 n] w fun e w' => e = .returned (.bool true) ∧ Below w.heap.size w w' := by
            intro v M1 M2
            by_cases d : inf b < sz b y
            · exact rk_ok_nan (fm b) x y n _ _ v (fun W => wSteps_n2 b x y hx hy c d W) M1 KO1 Cx (n5 x c) M2 KO2 Cy (t5 y d) w
            · exact rk_ok_ok (fm b) x y n _ _ _ v (fun W => wSteps_ok b x y hx hy c d W) M1 KO1 Cx (n5 x c) M2 KO2 Cy (n5 y d) (fun W => rSteps b x y hx hy W) w
          by_cases n0 : n = 0
          · exact key (fun W => wMove_0 b x n hx c n0 W) (fun W => rMove_0 b x n n0 W)
          · by_cases h : mvd b (pl b x) n
            · exact key (fun W => wMove_ok b x n hx c n1 n2 n0 h W) (fun W => rMove_ok b x n hx c n1 n2 n0 h W)
            · have M1 := fun W => wMove_no b x n hx c n1 n2 n0 h W
              have M2 := fun W => rMove_no b x n hx c n1 n2 n0 h W
              by_cases d : inf b < sz b y
              · exact rk_no_nan (fm b) x y n _ _ (fun W => wSteps_n2 b x y hx hy c d W) M1 KO1 Cx (n5 x c) M2 KO2 Cy (t5 y d) w
              · exact rk_no_ok (fm b) x y n _ _ _ (fun W => wSteps_ok b x y hx hy c d W) M1 KO1 Cx (n5 x c) M2 KO2 Cy (n5 y d) (fun W => rSteps b x y hx hy W) w
      · have q : 2 * sg b ≤ y := by unfold Ok at hy; omega
        have g : GE (fm b) y 6 := .inr ⟨b, rfl, q, rfl⟩
        have KO2 := fun W k h => rOpens2_2 b x y hx q y1 W k h
        have S := fun W => wSteps_err2 b x y 6 hx g W
        by_cases c : inf b < sz b x
        · exact rk_nan_err (fm b) x y n 6 _ rfl S (fun W => wMove_nan b x n hx c W) KO1 Cx (t5 x c) KO2 w
        · by_cases n0 : n = 0
          · exact rk_ok_err (fm b) x y n 6 _ _ rfl S (fun W => wMove_0 b x n hx c n0 W) KO1 Cx (n5 x c) (fun W => rMove_0 b x n n0 W) KO2 w
          · by_cases h : mvd b (pl b x) n
            · exact rk_ok_err (fm b) x y n 6 _ _ rfl S (fun W => wMove_ok b x n hx c n1 n2 n0 h W) KO1 Cx (n5 x c) (fun W => rMove_ok b x n hx c n1 n2 n0 h W) KO2 w
            · exact rk_no_err (fm b) x y n 6 _ rfl S (fun W => wMove_no b x n hx c n1 n2 n0 h W) KO1 Cx (n5 x c) (fun W => rMove_no b x n hx c n1 n2 n0 h W) KO2 w
    · have q : 2 * sg b ≤ x := by unfold Ok at hx; omega
      have g : GE (fm b) x 6 := .inr ⟨b, rfl, q, rfl⟩
      exact rk_err (fm b) x y n 6 rfl (fun W => wSteps_err1 _ x y 6 g W) (fun W => wMove_err _ x n 6 g W) (fun W k h => rOpens1_1 b x q x1 W k h) w
  · have g : GE f x 4 := .inl ⟨hf, rfl⟩
    exact rk_err f x y n 4 rfl (fun W => wSteps_err1 f x y 4 g W) (fun W => wMove_err f x n 4 g W) (fun W k h => rOpens_bad f hf _ W) w
end Go.Proofs.Ytgfpbmjknknflaa
