import Derived.Test.YtioiakemmhfhkaaWL
namespace Go.Proofs.Ytioiakemmhfhkaa
open Go.RowKit Go.Wd Go.Box
set_option linter.unusedVariables false
set_option maxRecDepth 3000
theorem nx_nan {b : Bool} {x : Int} (c : inf b < sz b x) (s : Int) : cnx b x = nan b ∧ ngx b x = nan b ∧ abx b x = nan b ∧ csx b x s = nan b := by
  unfold cnx ngx abx csx
  rw [if_pos c]; exact ⟨rfl, by rw [if_pos c], by rw [if_pos c], by rw [if_pos c]⟩
theorem nx_not {b : Bool} {x : Int} (c : ¬ inf b < sz b x) (s : Int) : cnx b x = x ∧ ngx b x = fl b x ∧ abx b x = sz b x ∧ csx b x s = sd b (sz b x) (ng b s) := by
  unfold cnx ngx abx csx
  rw [if_neg c]; exact ⟨rfl, by rw [if_neg c], by rw [if_neg c], by rw [if_neg c]⟩
theorem sd_ok {b : Bool} {x : Int} (n : Bool) : Ok b (sd b (sz b x) n) := by
  have := sz_bd b x
  have := sg_pos b
  unfold Ok sd
  cases n <;> simp <;> omega
theorem sz_sd {b : Bool} {x : Int} (n : Bool) : sz b (sd b (sz b x) n) = sz b x := by
  have h := sz_bd b x
  have hp := sg_pos b
  cases n
  · exact Int.emod_eq_of_lt h.1 h.2
  · show (sz b x + sg b) % sg b = _
    rw [Int.add_emod_right]
    exact Int.emod_eq_of_lt h.1 h.2
theorem sz_ok {b : Bool} {x : Int} : Ok b (sz b x) := by
  have := sz_bd b x
  have := sg_pos b
  exact ⟨by omega, by omega⟩
set_option maxHeartbeats 1000000 in
theorem signs_bad (f x s c : Int) (h : GE f x c) (hx : x < 18446744073709551616) (HCS : ∀ w, Calls Try.prog 31 #[.int .u8 f, .int .u64 x, .int .u64 s] w fun e w' => e = .returned (.tuple #[.int .u64 0, .int .i64 c]) ∧ Below w.heap.size w w') (w : World) :
    Calls Try.prog 5 #[.int .u8 f, .int .u64 x, .int .u64 s] w fun e w' => e = .returned (.bool true) ∧ Below w.heap.size w w' := by
  have HB := Below.refl w.heap.size w
  have hc := h.ne
  have HC := fun w => Hide.mk (HCS w)
  clear HCS
  go_enter Try.func5, Try.ntmps5
  go_wp2_with fail
  refine (rGood_err f x c h hx _).mono ?_
  rintro e u1 ⟨rfl, k1⟩
  replace HB := below_then HB k1
  clear k1
  go_wp2_with fail
  refine (wCanon_err f x c h _).mono ?_
  rintro e u2 ⟨rfl, k2⟩
  replace HB := below_then HB k2
  clear k2
  go_wp2_with fail
  refine (wNeg_err f x c h _).mono ?_
  rintro e u3 ⟨rfl, k3⟩
  replace HB := below_then HB k3
  clear k3
  go_wp2_with fail
  refine (wAbs_err f x c h _).mono ?_
  rintro e u4 ⟨rfl, k4⟩
  replace HB := below_then HB k4
  clear k4
  go_wp2_with fail
  refine ((HC _).out).mono ?_
  rintro e u5 ⟨rfl, k5⟩
  replace HB := below_then HB k5
  clear k5
  clear h HC
  go_wp2_with fail
  refine (lIs_err c 0 hc _).mono ?_
  rintro e u6 ⟨rfl, k6⟩
  replace HB := below_then HB k6
  clear k6
  go_wp2_with fail
  refine (lIs_err c 0 hc _).mono ?_
  rintro e u7 ⟨rfl, k7⟩
  replace HB := below_then HB k7
  clear k7
  go_wp2_with fail
  refine (lIs_err c 0 hc _).mono ?_
  rintro e u8 ⟨rfl, k8⟩
  replace HB := below_then HB k8
  clear k8
  go_wp2_with fail
  refine (lIs_err c 0 hc _).mono ?_
  rintro e u9 ⟨rfl, k9⟩
  replace HB := below_then HB k9
  clear k9
  go_wp2_with fail
  refine (lKnown _).mono ?_
  rintro e u10 ⟨rfl, k10⟩
  replace HB := below_then HB k10
  clear k10
  go_wp2
  go_ret
  exact ⟨rfl, HB⟩
set_option maxHeartbeats 1000000 in
theorem signs_nan1 (b : Bool) (x s : Int) (h : Ok b x) (hc : inf b < sz b x) (hs : Ok b s) (HCS : ∀ w, Calls Try.prog 31 #[.int .u8 (fm b), .int .u64 x, .int .u64 s] w fun e w' => e = .returned (.tuple #[.int .u64 (csx b x s), .int .i64 0]) ∧ Below w.heap.size w w') (w : World) :
    Calls Try.prog 5 #[.int .u8 (fm b), .int .u64 x, .int .u64 s] w fun e w' => e = .returned (.bool true) ∧ Below w.heap.size w w' := by
  have HB := Below.refl w.heap.size w
  have W1 := fun w => Hide.mk (wCanon b x h w)
  have W2 := fun w => Hide.mk (wNeg b x h w)
  have W3 := fun w => Hide.mk (wAbs b x h w)
  have W4 := fun w => Hide.mk (HCS w)
  have R1 := fun w => Hide.mk (rCanon b x h w)
  clear HCS
  obtain ⟨n1, n2, n3, n4⟩ := nx_nan hc s
  have d1 : (cl b x == 5) = true := by simp [(cl_5 b x).2 hc]
  rw [n1] at W1 R1
  rw [n2] at W2
  rw [n3] at W3
  rw [n4] at W4
  clear n1 n2 n3 n4 hc
  go_enter Try.func5, Try.ntmps5
  go_wp2_with fail
  refine (rGood b x h _).mono ?_
  rintro e u11 ⟨rfl, k11⟩
  replace HB := below_then HB k11
  clear k11
  go_wp2_with fail
  refine ((W1 _).out).mono ?_
  rintro e u12 ⟨rfl, k12⟩
  replace HB := below_then HB k12
  clear k12
  go_wp2_with fail
  refine ((W2 _).out).mono ?_
  rintro e u13 ⟨rfl, k13⟩
  replace HB := below_then HB k13
  clear k13
  go_wp2_with fail
  refine ((W3 _).out).mono ?_
  rintro e u14 ⟨rfl, k14⟩
  replace HB := below_then HB k14
  clear k14
  go_wp2_with fail
  refine ((W4 _).out).mono ?_
  rintro e u15 ⟨rfl, k15⟩
  replace HB := below_then HB k15
  clear k15
  go_wp2_with fail
  refine (rClass b x h _).mono ?_
  rintro e u16 ⟨rfl, k16⟩
  replace HB := below_then HB k16
  clear k16
  go_wp2_with fail
  refine (rNone b _).mono ?_
  rintro e u17 ⟨rfl, k17⟩
  replace HB := below_then HB k17
  clear k17
  go_wp2_with fail
  refine (rNone b _).mono ?_
  rintro e u18 ⟨rfl, k18⟩
  replace HB := below_then HB k18
  clear k18
  go_wp2_with fail
  refine (rNone b _).mono ?_
  rintro e u19 ⟨rfl, k19⟩
  replace HB := below_then HB k19
  clear k19
  go_wp2_with fail
  refine ((R1 _).out).mono ?_
  rintro e u20 ⟨rfl, k20⟩
  replace HB := below_then HB k20
  clear k20
  go_wp2_with fail
  refine (lIs _ _).mono ?_
  rintro e u21 ⟨rfl, k21⟩
  replace HB := below_then HB k21
  clear k21
  go_wp2_with fail
  refine (lIs _ _).mono ?_
  rintro e u22 ⟨rfl, k22⟩
  replace HB := below_then HB k22
  clear k22
  go_wp2_with fail
  refine (lIs _ _).mono ?_
  rintro e u23 ⟨rfl, k23⟩
  replace HB := below_then HB k23
  clear k23
  go_wp2_with fail
  refine (rGood b s hs _).mono ?_
  rintro e u24 ⟨rfl, k24⟩
  replace HB := below_then HB k24
  clear k24
  go_wp2_with fail
  refine (rClass b x h _).mono ?_
  rintro e u25 ⟨rfl, k25⟩
  replace HB := below_then HB k25
  clear k25
  go_wp2_with fail
  refine (lIs _ _).mono ?_
  rintro e u26 ⟨rfl, k26⟩
  replace HB := below_then HB k26
  clear k26
  go_wp2_with fail
  refine (lKnown _).mono ?_
  rintro e u27 ⟨rfl, k27⟩
  replace HB := below_then HB k27
  clear k27
  go_wp2
  go_ret
  exact ⟨rfl, HB⟩
set_option maxHeartbeats 1000000 in
theorem signs_not1 (b : Bool) (x s : Int) (h : Ok b x) (hc : sz b x ≤ inf b) (hs : Ok b s) (HCS : ∀ w, Calls Try.prog 31 #[.int .u8 (fm b), .int .u64 x, .int .u64 s] w fun e w' => e = .returned (.tuple #[.int .u64 (csx b x s), .int .i64 0]) ∧ Below w.heap.size w w') (w : World) :
    Calls Try.prog 5 #[.int .u8 (fm b), .int .u64 x, .int .u64 s] w fun e w' => e = .returned (.bool true) ∧ Below w.heap.size w w' := by
  have HB := Below.refl w.heap.size w
  have W1 := fun w => Hide.mk (wCanon b x h w)
  have W2 := fun w => Hide.mk (wNeg b x h w)
  have W3 := fun w => Hide.mk (wAbs b x h w)
  have W4 := fun w => Hide.mk (HCS w)
  have R1 := fun w => Hide.mk (rCanon b x h w)
  clear HCS
  obtain ⟨n1, n2, n3, n4⟩ := nx_not (b := b) (x := x) (by omega) s
  have d1 : (cl b x == 5) = false := beq_eq_false_iff_ne.2 (fun hh => by have := (cl_5 b x).1 hh; omega)
  have HFL := Hide.mk (sd_fl h)
  rw [n1] at W1 R1
  rw [n2] at W2
  rw [n3] at W3
  rw [n4] at W4
  clear n1 n2 n3 n4 hc
  go_enter Try.func5, Try.ntmps5
  go_wp2_with fail
  refine (rGood b x h _).mono ?_
  rintro e u28 ⟨rfl, k28⟩
  replace HB := below_then HB k28
  clear k28
  go_wp2_with fail
  refine ((W1 _).out).mono ?_
  rintro e u29 ⟨rfl, k29⟩
  replace HB := below_then HB k29
  clear k29
  go_wp2_with fail
  refine ((W2 _).out).mono ?_
  rintro e u30 ⟨rfl, k30⟩
  replace HB := below_then HB k30
  clear k30
  go_wp2_with fail
  refine ((W3 _).out).mono ?_
  rintro e u31 ⟨rfl, k31⟩
  replace HB := below_then HB k31
  clear k31
  go_wp2_with fail
  refine ((W4 _).out).mono ?_
  rintro e u32 ⟨rfl, k32⟩
  replace HB := below_then HB k32
  clear k32
  go_wp2_with fail
  refine (rClass b x h _).mono ?_
  rintro e u33 ⟨rfl, k33⟩
  replace HB := below_then HB k33
  clear k33
  go_wp2_with fail
  refine (rSplit b x h _).mono ?_
  rintro e u34 ⟨rfl, k34⟩
  replace HB := below_then HB k34
  clear k34
  delta FV
  go_wp2_with fail
  rw [field_neg]
  go_wp2_with fail
  refine (rSigned b x (!ng b x) h _).mono ?_
  rintro e u35 ⟨rfl, k35⟩
  replace HB := below_then HB k35
  clear k35
  rw [HFL.out]
  go_wp2_with fail
  refine (rSigned b x false h _).mono ?_
  rintro e u36 ⟨rfl, k36⟩
  replace HB := below_then HB k36
  clear k36
  rw [show sd b (sz b x) false = sz b x from rfl]
  go_wp2_with fail
  refine ((R1 _).out).mono ?_
  rintro e u37 ⟨rfl, k37⟩
  replace HB := below_then HB k37
  clear k37
  go_wp2_with fail
  refine (lIs _ _).mono ?_
  rintro e u38 ⟨rfl, k38⟩
  replace HB := below_then HB k38
  clear k38
  go_wp2_with fail
  refine (lIs _ _).mono ?_
  rintro e u39 ⟨rfl, k39⟩
  replace HB := below_then HB k39
  clear k39
  go_wp2_with fail
  refine (lIs _ _).mono ?_
  rintro e u40 ⟨rfl, k40⟩
  replace HB := below_then HB k40
  clear k40
  go_wp2_with fail
  refine (rGood b s hs _).mono ?_
  rintro e u41 ⟨rfl, k41⟩
  replace HB := below_then HB k41
  clear k41
  go_wp2_with fail
  refine (rClass b x h _).mono ?_
  rintro e u42 ⟨rfl, k42⟩
  replace HB := below_then HB k42
  clear k42
  go_wp2_with fail
  refine (rSplit b s hs _).mono ?_
  rintro e u43 ⟨rfl, k43⟩
  replace HB := below_then HB k43
  clear k43
  delta FV
  go_wp2_with fail
  rw [field_neg]
  go_wp2_with fail
  refine (rSigned b x (ng b s) h _).mono ?_
  rintro e u44 ⟨rfl, k44⟩
  replace HB := below_then HB k44
  clear k44
  go_wp2_with fail
  refine (lIs _ _).mono ?_
  rintro e u45 ⟨rfl, k45⟩
  replace HB := below_then HB k45
  clear k45
  go_wp2_with fail
  refine (lKnown _).mono ?_
  rintro e u46 ⟨rfl, k46⟩
  replace HB := below_then HB k46
  clear k46
  go_wp2
  go_ret
  exact ⟨rfl, HB⟩
set_option maxHeartbeats 1000000 in
theorem signs_nan0 (b : Bool) (x s : Int) (h : Ok b x) (hc : inf b < sz b x) (hs : GE (fm b) s 6) (hsx : s < 18446744073709551616) (HCS : ∀ w, Calls Try.prog 31 #[.int .u8 (fm b), .int .u64 x, .int .u64 s] w fun e w' => e = .returned (.tuple #[.int .u64 (0), .int .i64 6]) ∧ Below w.heap.size w w') (w : World) :
    Calls Try.prog 5 #[.int .u8 (fm b), .int .u64 x, .int .u64 s] w fun e w' => e = .returned (.bool true) ∧ Below w.heap.size w w' := by
  have HB := Below.refl w.heap.size w
  have W1 := fun w => Hide.mk (wCanon b x h w)
  have W2 := fun w => Hide.mk (wNeg b x h w)
  have W3 := fun w => Hide.mk (wAbs b x h w)
  have W4 := fun w => Hide.mk (HCS w)
  have R1 := fun w => Hide.mk (rCanon b x h w)
  clear HCS
  obtain ⟨n1, n2, n3, n4⟩ := nx_nan hc s
  have d1 : (cl b x == 5) = true := by simp [(cl_5 b x).2 hc]
  rw [n1] at W1 R1
  rw [n2] at W2
  rw [n3] at W3
  clear n1 n2 n3 n4 hc
  go_enter Try.func5, Try.ntmps5
  go_wp2_with fail
  refine (rGood b x h _).mono ?_
  rintro e u47 ⟨rfl, k47⟩
  replace HB := below_then HB k47
  clear k47
  go_wp2_with fail
  refine ((W1 _).out).mono ?_
  rintro e u48 ⟨rfl, k48⟩
  replace HB := below_then HB k48
  clear k48
  go_wp2_with fail
  refine ((W2 _).out).mono ?_
  rintro e u49 ⟨rfl, k49⟩
  replace HB := below_then HB k49
  clear k49
  go_wp2_with fail
  refine ((W3 _).out).mono ?_
  rintro e u50 ⟨rfl, k50⟩
  replace HB := below_then HB k50
  clear k50
  go_wp2_with fail
  refine ((W4 _).out).mono ?_
  rintro e u51 ⟨rfl, k51⟩
  replace HB := below_then HB k51
  clear k51
  go_wp2_with fail
  refine (rClass b x h _).mono ?_
  rintro e u52 ⟨rfl, k52⟩
  replace HB := below_then HB k52
  clear k52
  go_wp2_with fail
  refine (rNone b _).mono ?_
  rintro e u53 ⟨rfl, k53⟩
  replace HB := below_then HB k53
  clear k53
  go_wp2_with fail
  refine (rNone b _).mono ?_
  rintro e u54 ⟨rfl, k54⟩
  replace HB := below_then HB k54
  clear k54
  go_wp2_with fail
  refine (rNone b _).mono ?_
  rintro e u55 ⟨rfl, k55⟩
  replace HB := below_then HB k55
  clear k55
  go_wp2_with fail
  refine ((R1 _).out).mono ?_
  rintro e u56 ⟨rfl, k56⟩
  replace HB := below_then HB k56
  clear k56
  go_wp2_with fail
  refine (lIs _ _).mono ?_
  rintro e u57 ⟨rfl, k57⟩
  replace HB := below_then HB k57
  clear k57
  go_wp2_with fail
  refine (lIs _ _).mono ?_
  rintro e u58 ⟨rfl, k58⟩
  replace HB := below_then HB k58
  clear k58
  go_wp2_with fail
  refine (lIs _ _).mono ?_
  rintro e u59 ⟨rfl, k59⟩
  replace HB := below_then HB k59
  clear k59
  go_wp2_with fail
  refine (rGood_err (fm b) s 6 hs hsx _).mono ?_
  rintro e u60 ⟨rfl, k60⟩
  replace HB := below_then HB k60
  clear k60
  clear hs
  go_wp2_with fail
  refine (lIs_err 6 _ rfl _).mono ?_
  rintro e u61 ⟨rfl, k61⟩
  replace HB := below_then HB k61
  clear k61
  go_wp2_with fail
  refine (lKnown _).mono ?_
  rintro e u62 ⟨rfl, k62⟩
  replace HB := below_then HB k62
  clear k62
  go_wp2
  go_ret
  exact ⟨rfl, HB⟩
set_option maxHeartbeats 1000000 in
theorem signs_not0 (b : Bool) (x s : Int) (h : Ok b x) (hc : sz b x ≤ inf b) (hs : GE (fm b) s 6) (hsx : s < 18446744073709551616) (HCS : ∀ w, Calls Try.prog 31 #[.int .u8 (fm b), .int .u64 x, .int .u64 s] w fun e w' => e = .returned (.tuple #[.int .u64 (0), .int .i64 6]) ∧ Below w.heap.size w w') (w : World) :
    Calls Try.prog 5 #[.int .u8 (fm b), .int .u64 x, .int .u64 s] w fun e w' => e = .returned (.bool true) ∧ Below w.heap.size w w' := by
  have HB := Below.refl w.heap.size w
  have W1 := fun w => Hide.mk (wCanon b x h w)
  have W2 := fun w => Hide.mk (wNeg b x h w)
  have W3 := fun w => Hide.mk (wAbs b x h w)
  have W4 := fun w => Hide.mk (HCS w)
  have R1 := fun w => Hide.mk (rCanon b x h w)
  clear HCS
  obtain ⟨n1, n2, n3, n4⟩ := nx_not (b := b) (x := x) (by omega) s
  have d1 : (cl b x == 5) = false := beq_eq_false_iff_ne.2 (fun hh => by have := (cl_5 b x).1 hh; omega)
  have HFL := Hide.mk (sd_fl h)
  rw [n1] at W1 R1
  rw [n2] at W2
  rw [n3] at W3
  clear n1 n2 n3 n4 hc
  go_enter Try.func5, Try.ntmps5
  go_wp2_with fail
  refine (rGood b x h _).mono ?_
  rintro e u63 ⟨rfl, k63⟩
  replace HB := below_then HB k63
  clear k63
  go_wp2_with fail
  refine ((W1 _).out).mono ?_
  rintro e u64 ⟨rfl, k64⟩
  replace HB := below_then HB k64
  clear k64
  go_wp2_with fail
  refine ((W2 _).out).mono ?_
  rintro e u65 ⟨rfl, k65⟩
  replace HB := below_then HB k65
  clear k65
  go_wp2_with fail
  refine ((W3 _).out).mono ?_
  rintro e u66 ⟨rfl, k66⟩
  replace HB := below_then HB k66
  clear k66
  go_wp2_with fail
  refine ((W4 _).out).mono ?_
  rintro e u67 ⟨rfl, k67⟩
  replace HB := below_then HB k67
  clear k67
  go_wp2_with fail
  refine (rClass b x h _).mono ?_
  rintro e u68 ⟨rfl, k68⟩
  replace HB := below_then HB k68
  clear k68
  go_wp2_with fail
  refine (rSplit b x h _).mono ?_
  rintro e u69 ⟨rfl, k69⟩
  replace HB := below_then HB k69
  clear k69
  delta FV
  go_wp2_with fail
  rw [field_neg]
  go_wp2_with fail
  refine (rSigned b x (!ng b x) h _).mono ?_
  rintro e u70 ⟨rfl, k70⟩
  replace HB := below_then HB k70
  clear k70
  rw [HFL.out]
  go_wp2_with fail
  refine (rSigned b x false h _).mono ?_
  rintro e u71 ⟨rfl, k71⟩
  replace HB := below_then HB k71
  clear k71
  rw [show sd b (sz b x) false = sz b x from rfl]
  go_wp2_with fail
  refine ((R1 _).out).mono ?_
  rintro e u72 ⟨rfl, k72⟩
  replace HB := below_then HB k72
  clear k72
  go_wp2_with fail
  refine (lIs _ _).mono ?_
  rintro e u73 ⟨rfl, k73⟩
  replace HB := below_then HB k73
  clear k73
  go_wp2_with fail
  refine (lIs _ _).mono ?_
  rintro e u74 ⟨rfl, k74⟩
  replace HB := below_then HB k74
  clear k74
  go_wp2_with fail
  refine (lIs _ _).mono ?_
  rintro e u75 ⟨rfl, k75⟩
  replace HB := below_then HB k75
  clear k75
  go_wp2_with fail
  refine (rGood_err (fm b) s 6 hs hsx _).mono ?_
  rintro e u76 ⟨rfl, k76⟩
  replace HB := below_then HB k76
  clear k76
  clear hs
  go_wp2_with fail
  refine (lIs_err 6 _ rfl _).mono ?_
  rintro e u77 ⟨rfl, k77⟩
  replace HB := below_then HB k77
  clear k77
  go_wp2_with fail
  refine (lKnown _).mono ?_
  rintro e u78 ⟨rfl, k78⟩
  replace HB := below_then HB k78
  clear k78
  go_wp2
  go_ret
  exact ⟨rfl, HB⟩
theorem GE.c_of {b : Bool} {x c : Int} (h : GE (fm b) x c) : c = 6 := by
  rcases h with ⟨h, _⟩ | ⟨_, _, _, h⟩
  · cases b
    · exact absurd rfl h.1
    · exact absurd rfl h.2
  · exact h
theorem signs_any (f x s : Int) (hx0 : 0 ≤ x) (hx : x < 18446744073709551616) (hs0 : 0 ≤ s) (hs : s < 18446744073709551616) (w : World) :
    Calls Try.prog 5 #[.int .u8 f, .int .u64 x, .int .u64 s] w fun e w' => e = .returned (.bool true) ∧ Below w.heap.size w w' := by
  by_cases hf : Bad f
  · exact signs_bad f x s 4 (.inl ⟨hf, rfl⟩) hx (fun w => wCopySign_err f x s 4 (.inl ⟨hf, rfl⟩) w) w
  · obtain ⟨b, rfl⟩ : ∃ b, f = fm b := by
      by_cases h1 : f = 1
      · exact ⟨false, h1⟩
      · by_cases h2 : f = 2
        · exact ⟨true, h2⟩
        · exact absurd ⟨h1, h2⟩ hf
    have key : ∀ y : Int, 0 ≤ y → y < 18446744073709551616 → GE (fm b) y 6 ∨ Ok b y := by
      intro y hy0 hy
      by_cases c : y < 2 * sg b
      · exact .inr ⟨hy0, c⟩
      · exact .inl (.inr ⟨b, rfl, by omega, rfl⟩)
    rcases key x hx0 hx with ex | h <;> rcases key s hs0 hs with es | k
    · exact signs_bad (fm b) x s 6 ex hx (fun w => wCopySign_err (fm b) x s 6 es w) w
    · exact signs_bad (fm b) x s 6 ex hx (fun w => wCopySign_err2 b x s 6 k ex w) w
    · by_cases c : inf b < sz b x
      · exact signs_nan0 b x s h c es hs (fun w => wCopySign_err (fm b) x s 6 es w) w
      · exact signs_not0 b x s h (by omega) es hs (fun w => wCopySign_err (fm b) x s 6 es w) w
    · by_cases c : inf b < sz b x
      · exact signs_nan1 b x s h c k (fun w => wCopySign b x s h k w) w
      · exact signs_not1 b x s h (by omega) k (fun w => wCopySign b x s h k w) w
set_option maxHeartbeats 1000000 in
theorem twice_x4 (f x s : Int) (h : GE f x 4) (w : World) :
    Calls Try.prog 7 #[.int .u8 f, .int .u64 x, .int .u64 s] w fun e w' => e = .returned (.bool true) ∧ Below w.heap.size w w' := by
  have HB := Below.refl w.heap.size w
  go_enter Try.func7, Try.ntmps7
  go_wp2_with fail
  refine (wGood_err f x 4 h _).mono ?_
  rintro e u79 ⟨rfl, k79⟩
  replace HB := below_then HB k79
  clear k79
  clear h
  go_wp2_with fail
  refine (lKnown _).mono ?_
  rintro e u80 ⟨rfl, k80⟩
  replace HB := below_then HB k80
  clear k80
  go_wp2
  go_ret
  exact ⟨rfl, HB⟩
set_option maxHeartbeats 1000000 in
theorem twice_x6 (f x s : Int) (h : GE f x 6) (w : World) :
    Calls Try.prog 7 #[.int .u8 f, .int .u64 x, .int .u64 s] w fun e w' => e = .returned (.bool true) ∧ Below w.heap.size w w' := by
  have HB := Below.refl w.heap.size w
  go_enter Try.func7, Try.ntmps7
  go_wp2_with fail
  refine (wGood_err f x 6 h _).mono ?_
  rintro e u81 ⟨rfl, k81⟩
  replace HB := below_then HB k81
  clear k81
  clear h
  go_wp2_with fail
  refine (lKnown _).mono ?_
  rintro e u82 ⟨rfl, k82⟩
  replace HB := below_then HB k82
  clear k82
  go_wp2
  go_ret
  exact ⟨rfl, HB⟩
set_option maxHeartbeats 1000000 in
theorem twice_s (b : Bool) (x s c : Int) (h : Ok b x) (hs : GE (fm b) s c) (w : World) :
    Calls Try.prog 7 #[.int .u8 (fm b), .int .u64 x, .int .u64 s] w fun e w' => e = .returned (.bool true) ∧ Below w.heap.size w w' := by
  have HB := Below.refl w.heap.size w
  have hc := hs.ne
  go_enter Try.func7, Try.ntmps7
  go_wp2_with fail
  refine (wGood b x h _).mono ?_
  rintro e u83 ⟨rfl, k83⟩
  replace HB := below_then HB k83
  clear k83
  go_wp2_with fail
  refine (wGood_err (fm b) s c hs _).mono ?_
  rintro e u84 ⟨rfl, k84⟩
  replace HB := below_then HB k84
  clear k84
  clear hs
  go_wp2_with fail
  refine (lKnown _).mono ?_
  rintro e u85 ⟨rfl, k85⟩
  replace HB := below_then HB k85
  clear k85
  go_wp2
  go_ret
  exact ⟨rfl, HB⟩
theorem tw {b : Bool} {x s : Int} (h : Ok b x) : Ok b (ngx b x) ∧ Ok b (csx b x s) ∧ ngx b (ngx b x) = cnx b x ∧ abx b (ngx b x) = abx b x ∧ csx b (csx b x s) x = cnx b x := by
  by_cases c : inf b < sz b x
  · obtain ⟨n1, n2, n3, n4⟩ := nx_nan c s
    obtain ⟨m1, m2, m3, m4⟩ := nx_nan (nan_nan b) x
    rw [n2, n4, n1, n3]
    exact ⟨ok_nan b, ok_nan b, m2, m3, m4⟩
  · obtain ⟨n1, n2, n3, n4⟩ := nx_not c s
    have c2 : ¬ inf b < sz b (fl b x) := by rw [sz_fl h]; exact c
    have c3 : ¬ inf b < sz b (sd b (sz b x) (ng b s)) := by rw [sz_sd]; exact c
    obtain ⟨m1, m2, m3, m4⟩ := nx_not c2 x
    obtain ⟨p1, p2, p3, p4⟩ := nx_not c3 x
    rw [n2, n4, n1, n3, m2, m3, p4, sz_sd, sz_fl h, fl_fl h]
    exact ⟨fl_ok b h, sd_ok _, rfl, rfl, sd_same h⟩
set_option maxHeartbeats 1000000 in
theorem twice_ok (b : Bool) (x s : Int) (h : Ok b x) (hs : Ok b s) (w : World) :
    Calls Try.prog 7 #[.int .u8 (fm b), .int .u64 x, .int .u64 s] w fun e w' => e = .returned (.bool true) ∧ Below w.heap.size w w' := by
  have HB := Below.refl w.heap.size w
  obtain ⟨t1, t2, t3, t4, t5⟩ := tw (s := s) h
  have T1 := Hide.mk t1
  have T2 := Hide.mk t2
  have d1 : (cnx b x == cnx b x) = true := by simp
  have d2 : (abx b x == abx b x) = true := by simp
  have E2 := fun w => Hide.mk (wNeg b (ngx b x) t1 w)
  have E4 := fun w => Hide.mk (wAbs b (ngx b x) t1 w)
  have E7 := fun w => Hide.mk (wCopySign b (csx b x s) x t2 h w)
  rw [t3] at E2
  rw [t4] at E4
  rw [t5] at E7
  clear t1 t2 t3 t4 t5
  go_enter Try.func7, Try.ntmps7
  go_wp2_with fail
  refine (wGood b x h _).mono ?_
  rintro e u86 ⟨rfl, k86⟩
  replace HB := below_then HB k86
  clear k86
  go_wp2_with fail
  refine (wGood b s hs _).mono ?_
  rintro e u87 ⟨rfl, k87⟩
  replace HB := below_then HB k87
  clear k87
  go_wp2_with fail
  refine (wNeg b x h _).mono ?_
  rintro e u88 ⟨rfl, k88⟩
  replace HB := below_then HB k88
  clear k88
  go_wp2_with fail
  refine ((E2 _).out).mono ?_
  rintro e u89 ⟨rfl, k89⟩
  replace HB := below_then HB k89
  clear k89
  go_wp2_with fail
  refine (wCanon b x h _).mono ?_
  rintro e u90 ⟨rfl, k90⟩
  replace HB := below_then HB k90
  clear k90
  go_wp2_with fail
  refine ((E4 _).out).mono ?_
  rintro e u91 ⟨rfl, k91⟩
  replace HB := below_then HB k91
  clear k91
  go_wp2_with fail
  refine (wAbs b x h _).mono ?_
  rintro e u92 ⟨rfl, k92⟩
  replace HB := below_then HB k92
  clear k92
  go_wp2_with fail
  refine (wCopySign b x s h hs _).mono ?_
  rintro e u93 ⟨rfl, k93⟩
  replace HB := below_then HB k93
  clear k93
  go_wp2_with fail
  refine ((E7 _).out).mono ?_
  rintro e u94 ⟨rfl, k94⟩
  replace HB := below_then HB k94
  clear k94
  go_wp2_with fail
  refine (lKnown _).mono ?_
  rintro e u95 ⟨rfl, k95⟩
  replace HB := below_then HB k95
  clear k95
  go_wp2
  go_ret
  exact ⟨rfl, HB⟩
theorem twice_any (f x s : Int) (hx0 : 0 ≤ x) (hx : x < 18446744073709551616) (hs0 : 0 ≤ s) (hs : s < 18446744073709551616) (w : World) :
    Calls Try.prog 7 #[.int .u8 f, .int .u64 x, .int .u64 s] w fun e w' => e = .returned (.bool true) ∧ Below w.heap.size w w' := by
  rcases word_cases (f := f) hx0 hx with ⟨c, h⟩ | ⟨b, rfl, h⟩
  · have hc : c = 4 ∨ c = 6 := by rcases h with ⟨_, h⟩ | ⟨_, _, _, h⟩
                                  · exact .inl h
                                  · exact .inr h
    rcases hc with rfl | rfl
    · exact twice_x4 f x s h w
    · exact twice_x6 f x s h w
  · by_cases c : s < 2 * sg b
    · exact twice_ok b x s h ⟨hs0, c⟩ w
    · exact twice_s b x s 6 h (.inr ⟨b, rfl, by omega, rfl⟩) w
set_option maxHeartbeats 2000000 in
theorem fields_bad (f x : Int) (n : Bool) (E F : Int) (hf : Bad f) (hx : x < 18446744073709551616) (w : World) :
    Calls Try.prog 3 #[.int .u8 f, .int .u64 x, FV n E F] w fun e w' => e = .returned (.bool true) ∧ Below w.heap.size w w' := by
  have BX := (Bx.nil w).push (FO n E F)
  go_enter Try.func3, Try.ntmps3
  go_wp2_with fail
  refine (rGood_err f x 4 (.inl ⟨hf, rfl⟩) hx _).mono ?_
  rintro e u100 ⟨rfl, k100⟩
  replace BX := BX.keep k100
  have ⟨q0, q1, q2⟩ := fields_cells BX w.heap.size n E F (.head _)
  clear k100
  go_wp2_with fail
  refine (wSplit_err f x 4 (.inl ⟨hf, rfl⟩) _).mono ?_
  rintro e u101 ⟨rfl, k101⟩
  replace BX := BX.keep k101
  have ⟨q0, q1, q2⟩ := fields_cells BX w.heap.size n E F (.head _)
  clear k101
  have hlt : w.heap.size < u101.heap.size := BX.lt (.head _)
  replace BX := BX.push (FO false 0 0)
  go_wp2_with fail
  generalize hwb : u101.alloc (FO false 0 0) = wb at *
  clear hwb
  refine (wClass_err f x 4 (.inl ⟨hf, rfl⟩) _).mono ?_
  rintro e u102 ⟨rfl, k102⟩
  replace BX := BX.keep k102
  clear k102
  go_wp2_with fail
  refine (wGood_err f x 4 (.inl ⟨hf, rfl⟩) _).mono ?_
  rintro e u103 ⟨rfl, k103⟩
  replace BX := BX.keep k103
  have ⟨q0, q1, q2⟩ := fields_cells BX w.heap.size n E F (.tail _ (.head _))
  clear k103
  have ⟨p0, p1, p2⟩ := fields_cells BX u101.heap.size false 0 0 (.head _)
  go_wp2_with fail
  refine (wJoin_bad f hf n E F _).mono ?_
  rintro e u96 ⟨rfl, k96⟩
  replace BX := BX.keep k96
  have ⟨q0, q1, q2⟩ := fields_cells BX w.heap.size n E F (.tail _ (.head _))
  clear k96
  go_wp2_with fail
  refine (rIs_bad f hf _).mono ?_
  rintro e u97 ⟨rfl, k97⟩
  replace BX := BX.keep k97
  have ⟨q0, q1, q2⟩ := fields_cells BX w.heap.size n E F (.tail _ (.head _))
  clear k97
  go_wp2_with fail
  refine (lIs_err 4 0 rfl _).mono ?_
  rintro e u98 ⟨rfl, k98⟩
  replace BX := BX.keep k98
  have ⟨q0, q1, q2⟩ := fields_cells BX w.heap.size n E F (.tail _ (.head _))
  clear k98
  go_wp2_with fail
  refine (lKnown _).mono ?_
  rintro e u99 ⟨rfl, k99⟩
  replace BX := BX.keep k99
  have ⟨q0, q1, q2⟩ := fields_cells BX w.heap.size n E F (.tail _ (.head _))
  clear k99
  go_wp2
  go_ret
  exact ⟨rfl, BX.bel⟩
set_option maxHeartbeats 2000000 in
theorem fields_long1 (b : Bool) (x : Int) (n : Bool) (E F : Int) (hl : GE (fm b) x 6) (hx : x < 18446744073709551616) (hE : 0 ≤ E) (hE1 : E ≤ tp b) (hF0 : 0 ≤ F) (hF : F < fr b) (w : World) :
    Calls Try.prog 3 #[.int .u8 (fm b), .int .u64 x, FV n E F] w fun e w' => e = .returned (.bool true) ∧ Below w.heap.size w w' := by
  have BX := (Bx.nil w).push (FO n E F)
  go_enter Try.func3, Try.ntmps3
  go_wp2_with fail
  refine (rGood_err (fm b) x 6 hl hx _).mono ?_
  rintro e u110 ⟨rfl, k110⟩
  replace BX := BX.keep k110
  have ⟨q0, q1, q2⟩ := fields_cells BX w.heap.size n E F (.head _)
  clear k110
  go_wp2_with fail
  refine (wSplit_err (fm b) x 6 hl _).mono ?_
  rintro e u111 ⟨rfl, k111⟩
  replace BX := BX.keep k111
  have ⟨q0, q1, q2⟩ := fields_cells BX w.heap.size n E F (.head _)
  clear k111
  have hlt : w.heap.size < u111.heap.size := BX.lt (.head _)
  replace BX := BX.push (FO false 0 0)
  go_wp2_with fail
  generalize hwb : u111.alloc (FO false 0 0) = wb at *
  clear hwb
  refine (wClass_err (fm b) x 6 hl _).mono ?_
  rintro e u112 ⟨rfl, k112⟩
  replace BX := BX.keep k112
  clear k112
  go_wp2_with fail
  refine (wGood_err (fm b) x 6 hl _).mono ?_
  rintro e u113 ⟨rfl, k113⟩
  replace BX := BX.keep k113
  have ⟨q0, q1, q2⟩ := fields_cells BX w.heap.size n E F (.tail _ (.head _))
  clear k113
  have ⟨p0, p1, p2⟩ := fields_cells BX u111.heap.size false 0 0 (.head _)
  clear hl
  go_wp2_with fail
  refine (wJoin b n E F hE hE1 hF0 hF _).mono ?_
  rintro e u104 ⟨rfl, k104⟩
  replace BX := BX.keep k104
  have ⟨q0, q1, q2⟩ := fields_cells BX w.heap.size n E F (.tail _ (.head _))
  clear k104
  go_wp2_with fail
  refine (rIs b _).mono ?_
  rintro e u105 ⟨rfl, k105⟩
  replace BX := BX.keep k105
  have ⟨q0, q1, q2⟩ := fields_cells BX w.heap.size n E F (.tail _ (.head _))
  clear k105
  go_wp2_with fail
  refine (rFits b n E F hE hE1 hF0 hF _).mono ?_
  rintro e u106 ⟨rfl, k106⟩
  replace BX := BX.keep k106
  have ⟨q0, q1, q2⟩ := fields_cells BX w.heap.size n E F (.tail _ (.head _))
  clear k106
  go_wp2_with fail
  refine (rJoin b n E F hE hE1 hF0 hF _).mono ?_
  rintro e u107 ⟨rfl, k107⟩
  replace BX := BX.keep k107
  have ⟨q0, q1, q2⟩ := fields_cells BX w.heap.size n E F (.tail _ (.head _))
  clear k107
  go_wp2_with fail
  refine (lIs _ _).mono ?_
  rintro e u108 ⟨rfl, k108⟩
  replace BX := BX.keep k108
  have ⟨q0, q1, q2⟩ := fields_cells BX w.heap.size n E F (.tail _ (.head _))
  clear k108
  go_wp2_with fail
  refine (lKnown _).mono ?_
  rintro e u109 ⟨rfl, k109⟩
  replace BX := BX.keep k109
  have ⟨q0, q1, q2⟩ := fields_cells BX w.heap.size n E F (.tail _ (.head _))
  clear k109
  go_wp2
  go_ret
  exact ⟨rfl, BX.bel⟩
set_option maxHeartbeats 2000000 in
theorem fields_long0 (b : Bool) (x : Int) (n : Bool) (E F : Int) (hl : GE (fm b) x 6) (hx : x < 18446744073709551616) (hE : ¬ (0 ≤ E ∧ E ≤ tp b ∧ F < fr b)) (w : World) :
    Calls Try.prog 3 #[.int .u8 (fm b), .int .u64 x, FV n E F] w fun e w' => e = .returned (.bool true) ∧ Below w.heap.size w w' := by
  have BX := (Bx.nil w).push (FO n E F)
  go_enter Try.func3, Try.ntmps3
  go_wp2_with fail
  refine (rGood_err (fm b) x 6 hl hx _).mono ?_
  rintro e u119 ⟨rfl, k119⟩
  replace BX := BX.keep k119
  have ⟨q0, q1, q2⟩ := fields_cells BX w.heap.size n E F (.head _)
  clear k119
  go_wp2_with fail
  refine (wSplit_err (fm b) x 6 hl _).mono ?_
  rintro e u120 ⟨rfl, k120⟩
  replace BX := BX.keep k120
  have ⟨q0, q1, q2⟩ := fields_cells BX w.heap.size n E F (.head _)
  clear k120
  have hlt : w.heap.size < u120.heap.size := BX.lt (.head _)
  replace BX := BX.push (FO false 0 0)
  go_wp2_with fail
  generalize hwb : u120.alloc (FO false 0 0) = wb at *
  clear hwb
  refine (wClass_err (fm b) x 6 hl _).mono ?_
  rintro e u121 ⟨rfl, k121⟩
  replace BX := BX.keep k121
  clear k121
  go_wp2_with fail
  refine (wGood_err (fm b) x 6 hl _).mono ?_
  rintro e u122 ⟨rfl, k122⟩
  replace BX := BX.keep k122
  have ⟨q0, q1, q2⟩ := fields_cells BX w.heap.size n E F (.tail _ (.head _))
  clear k122
  have ⟨p0, p1, p2⟩ := fields_cells BX u120.heap.size false 0 0 (.head _)
  clear hl
  go_wp2_with fail
  refine (wJoin_arg b n E F hE _).mono ?_
  rintro e u114 ⟨rfl, k114⟩
  replace BX := BX.keep k114
  have ⟨q0, q1, q2⟩ := fields_cells BX w.heap.size n E F (.tail _ (.head _))
  clear k114
  go_wp2_with fail
  refine (rIs b _).mono ?_
  rintro e u115 ⟨rfl, k115⟩
  replace BX := BX.keep k115
  have ⟨q0, q1, q2⟩ := fields_cells BX w.heap.size n E F (.tail _ (.head _))
  clear k115
  go_wp2_with fail
  refine (rFits_arg b n E F hE _).mono ?_
  rintro e u116 ⟨rfl, k116⟩
  replace BX := BX.keep k116
  have ⟨q0, q1, q2⟩ := fields_cells BX w.heap.size n E F (.tail _ (.head _))
  clear k116
  go_wp2_with fail
  refine (lIs_err 2 0 rfl _).mono ?_
  rintro e u117 ⟨rfl, k117⟩
  replace BX := BX.keep k117
  have ⟨q0, q1, q2⟩ := fields_cells BX w.heap.size n E F (.tail _ (.head _))
  clear k117
  go_wp2_with fail
  refine (lKnown _).mono ?_
  rintro e u118 ⟨rfl, k118⟩
  replace BX := BX.keep k118
  have ⟨q0, q1, q2⟩ := fields_cells BX w.heap.size n E F (.tail _ (.head _))
  clear k118
  go_wp2
  go_ret
  exact ⟨rfl, BX.bel⟩
set_option maxHeartbeats 2000000 in
theorem fields_ok1 (b : Bool) (x : Int) (n : Bool) (E F : Int) (h : Ok b x) (hE : 0 ≤ E) (hE1 : E ≤ tp b) (hF0 : 0 ≤ F) (hF : F < fr b) (w : World) :
    Calls Try.prog 3 #[.int .u8 (fm b), .int .u64 x, FV n E F] w fun e w' => e = .returned (.bool true) ∧ Below w.heap.size w w' := by
  have BX := (Bx.nil w).push (FO n E F)
  go_enter Try.func3, Try.ntmps3
  go_wp2_with fail
  refine (rGood b x h _).mono ?_
  rintro e u123 ⟨rfl, k123⟩
  replace BX := BX.keep k123
  have ⟨q0, q1, q2⟩ := fields_cells BX w.heap.size n E F (.head _)
  clear k123
  go_wp2_with fail
  refine (wSplit b x h _).mono ?_
  rintro e u124 ⟨rfl, k124⟩
  replace BX := BX.keep k124
  have ⟨q0, q1, q2⟩ := fields_cells BX w.heap.size n E F (.head _)
  clear k124
  have hlt : w.heap.size < u124.heap.size := BX.lt (.head _)
  replace BX := BX.push (FO (ng b x) (fd b x) (fn b x))
  go_wp2_with fail
  generalize hwb : u124.alloc (FO (ng b x) (fd b x) (fn b x)) = wb at *
  clear hwb
  refine (wClass b x h _).mono ?_
  rintro e u125 ⟨rfl, k125⟩
  replace BX := BX.keep k125
  clear k125
  go_wp2_with fail
  refine (wGood b x h _).mono ?_
  rintro e u126 ⟨rfl, k126⟩
  replace BX := BX.keep k126
  have ⟨q0, q1, q2⟩ := fields_cells BX w.heap.size n E F (.tail _ (.head _))
  clear k126
  go_wp2_with fail
  clear q0 q1 q2
  have HI := BX.drew
  have sh := fun W (hW : Bx w [(u124.heap.size, FO (ng b x) (fd b x) (fn b x)), (w.heap.size, FO n E F)] W) => fields_cells hW u124.heap.size (ng b x) (fd b x) (fn b x) (.head _)
  refine Drawn.enter (Bx w [(u124.heap.size, FO (ng b x) (fd b x) (fn b x)), (w.heap.size, FO n E F)]) (by kernel_rfl) ?_
  refine Drawn.take (i := 0) (v := ?v0) rfl (by kernel_rfl) (by kernel_rfl) (by kernel_rfl) (fun _ _ _ h => h) (by kernel_rfl) (fun W hW => ?_) HI ?_
  rotate_left
  · have ⟨p0, p1, p2⟩ := sh W hW
    go_simp <;> exact rfl
  refine Drawn.take (i := 1) (v := ?v1) rfl (by kernel_rfl) (by kernel_rfl) (by kernel_rfl) (fun _ _ _ h => h) (by kernel_rfl) (fun W hW => ?_) HI ?_
  rotate_left
  · have ⟨p0, p1, p2⟩ := sh W hW
    go_simp <;> exact rfl
  refine Drawn.take (i := 2) (v := ?v2) rfl (by kernel_rfl) (by kernel_rfl) (by kernel_rfl) (fun _ _ _ h => h) (by kernel_rfl) (fun W hW => ?_) HI ?_
  rotate_left
  · have ⟨p0, p1, p2⟩ := sh W hW
    go_simp <;> exact rfl
  refine Drawn.one (j := 3) (by kernel_rfl) rfl (fun K hK => ?_)
  go_simp
  refine (rSplit b x h _).mono ?_
  rintro e wn ⟨rfl, hn⟩
  refine hK _ _ (HI.keep hn) ?_
  clear hK K
  replace HI := HI.keep hn
  clear hn
  refine Drawn.take (i := 4) (v := .bool false) rfl (by kernel_rfl) (by kernel_rfl) (by kernel_rfl) (fun _ _ _ h => h) (by kernel_rfl) (fun W hW => ?_) HI ?_
  · have ⟨p0, p1, p2⟩ := sh W hW
    go_simp <;> (simp)
  refine Drawn.take (i := 5) (v := ?v3) rfl (by kernel_rfl) (by kernel_rfl) (by kernel_rfl) (fun _ _ _ h => h) (by kernel_rfl) (fun W hW => ?_) HI ?_
  rotate_left
  · have ⟨p0, p1, p2⟩ := sh W hW
    go_simp <;> exact rfl
  refine Drawn.take (i := 6) (v := ?v4) rfl (by kernel_rfl) (by kernel_rfl) (by kernel_rfl) (fun _ _ _ h => h) (by kernel_rfl) (fun W hW => ?_) HI ?_
  rotate_left
  · have ⟨p0, p1, p2⟩ := sh W hW
    go_simp <;> exact rfl
  refine Drawn.take (i := 7) (v := ?v5) rfl (by kernel_rfl) (by kernel_rfl) (by kernel_rfl) (fun _ _ _ h => h) (by kernel_rfl) (fun W hW => ?_) HI ?_
  rotate_left
  · have ⟨p0, p1, p2⟩ := sh W hW
    go_simp <;> exact rfl
  refine Drawn.take (i := 8) (v := ?v6) rfl (by kernel_rfl) (by kernel_rfl) (by kernel_rfl) (fun _ _ _ h => h) (by kernel_rfl) (fun W hW => ?_) HI ?_
  rotate_left
  · have ⟨p0, p1, p2⟩ := sh W hW
    go_simp <;> exact rfl
  refine Drawn.one (j := 9) (by kernel_rfl) rfl (fun K hK => ?_)
  go_simp
  refine (rClass b x h _).mono ?_
  rintro e wn ⟨rfl, hn⟩
  refine hK _ _ (HI.keep hn) ?_
  clear hK K
  replace HI := HI.keep hn
  clear hn
  refine Drawn.take (i := 10) (v := .bool false) rfl (by kernel_rfl) (by kernel_rfl) (by kernel_rfl) (fun _ _ _ h => h) (by kernel_rfl) (fun W hW => ?_) HI ?_
  · have ⟨p0, p1, p2⟩ := sh W hW
    go_simp <;> (simp)
  refine Drawn.take (i := 11) (v := ?v7) rfl (by kernel_rfl) (by kernel_rfl) (by kernel_rfl) (fun _ _ _ h => h) (by kernel_rfl) (fun W hW => ?_) HI ?_
  rotate_left
  · have ⟨p0, p1, p2⟩ := sh W hW
    go_simp <;> exact rfl
  refine Drawn.done (by kernel_rfl) ?_
  try go_simp
  replace BX := HI
  clear HI sh
  have ⟨q0, q1, q2⟩ := fields_cells BX w.heap.size n E F (.tail _ (.head _))
  go_wp2_with fail
  refine (wJoin b n E F hE hE1 hF0 hF _).mono ?_
  rintro e u127 ⟨rfl, k127⟩
  replace BX := BX.keep k127
  have ⟨q0, q1, q2⟩ := fields_cells BX w.heap.size n E F (.tail _ (.head _))
  clear k127
  go_wp2_with fail
  refine (rIs b _).mono ?_
  rintro e u128 ⟨rfl, k128⟩
  replace BX := BX.keep k128
  have ⟨q0, q1, q2⟩ := fields_cells BX w.heap.size n E F (.tail _ (.head _))
  clear k128
  go_wp2_with fail
  refine (rFits b n E F hE hE1 hF0 hF _).mono ?_
  rintro e u129 ⟨rfl, k129⟩
  replace BX := BX.keep k129
  have ⟨q0, q1, q2⟩ := fields_cells BX w.heap.size n E F (.tail _ (.head _))
  clear k129
  go_wp2_with fail
  refine (rJoin b n E F hE hE1 hF0 hF _).mono ?_
  rintro e u130 ⟨rfl, k130⟩
  replace BX := BX.keep k130
  have ⟨q0, q1, q2⟩ := fields_cells BX w.heap.size n E F (.tail _ (.head _))
  clear k130
  go_wp2_with fail
  refine (lIs _ _).mono ?_
  rintro e u131 ⟨rfl, k131⟩
  replace BX := BX.keep k131
  have ⟨q0, q1, q2⟩ := fields_cells BX w.heap.size n E F (.tail _ (.head _))
  clear k131
  go_wp2_with fail
  refine (lKnown _).mono ?_
  rintro e u132 ⟨rfl, k132⟩
  replace BX := BX.keep k132
  have ⟨q0, q1, q2⟩ := fields_cells BX w.heap.size n E F (.tail _ (.head _))
  clear k132
  go_wp2
  go_ret
  exact ⟨rfl, BX.bel⟩
set_option maxHeartbeats 2000000 in
theorem fields_ok0 (b : Bool) (x : Int) (n : Bool) (E F : Int) (h : Ok b x) (hE : ¬ (0 ≤ E ∧ E ≤ tp b ∧ F < fr b)) (w : World) :
    Calls Try.prog 3 #[.int .u8 (fm b), .int .u64 x, FV n E F] w fun e w' => e = .returned (.bool true) ∧ Below w.heap.size w w' := by
  have BX := (Bx.nil w).push (FO n E F)
  go_enter Try.func3, Try.ntmps3
  go_wp2_with fail
  refine (rGood b x h _).mono ?_
  rintro e u133 ⟨rfl, k133⟩
  replace BX := BX.keep k133
  have ⟨q0, q1, q2⟩ := fields_cells BX w.heap.size n E F (.head _)
  clear k133
  go_wp2_with fail
  refine (wSplit b x h _).mono ?_
  rintro e u134 ⟨rfl, k134⟩
  replace BX := BX.keep k134
  have ⟨q0, q1, q2⟩ := fields_cells BX w.heap.size n E F (.head _)
  clear k134
  have hlt : w.heap.size < u134.heap.size := BX.lt (.head _)
  replace BX := BX.push (FO (ng b x) (fd b x) (fn b x))
  go_wp2_with fail
  generalize hwb : u134.alloc (FO (ng b x) (fd b x) (fn b x)) = wb at *
  clear hwb
  refine (wClass b x h _).mono ?_
  rintro e u135 ⟨rfl, k135⟩
  replace BX := BX.keep k135
  clear k135
  go_wp2_with fail
  refine (wGood b x h _).mono ?_
  rintro e u136 ⟨rfl, k136⟩
  replace BX := BX.keep k136
  have ⟨q0, q1, q2⟩ := fields_cells BX w.heap.size n E F (.tail _ (.head _))
  clear k136
  go_wp2_with fail
  clear q0 q1 q2
  have HI := BX.drew
  have sh := fun W (hW : Bx w [(u134.heap.size, FO (ng b x) (fd b x) (fn b x)), (w.heap.size, FO n E F)] W) => fields_cells hW u134.heap.size (ng b x) (fd b x) (fn b x) (.head _)
  refine Drawn.enter (Bx w [(u134.heap.size, FO (ng b x) (fd b x) (fn b x)), (w.heap.size, FO n E F)]) (by kernel_rfl) ?_
  refine Drawn.take (i := 0) (v := ?v8) rfl (by kernel_rfl) (by kernel_rfl) (by kernel_rfl) (fun _ _ _ h => h) (by kernel_rfl) (fun W hW => ?_) HI ?_
  rotate_left
  · have ⟨p0, p1, p2⟩ := sh W hW
    go_simp <;> exact rfl
  refine Drawn.take (i := 1) (v := ?v9) rfl (by kernel_rfl) (by kernel_rfl) (by kernel_rfl) (fun _ _ _ h => h) (by kernel_rfl) (fun W hW => ?_) HI ?_
  rotate_left
  · have ⟨p0, p1, p2⟩ := sh W hW
    go_simp <;> exact rfl
  refine Drawn.take (i := 2) (v := ?v10) rfl (by kernel_rfl) (by kernel_rfl) (by kernel_rfl) (fun _ _ _ h => h) (by kernel_rfl) (fun W hW => ?_) HI ?_
  rotate_left
  · have ⟨p0, p1, p2⟩ := sh W hW
    go_simp <;> exact rfl
  refine Drawn.one (j := 3) (by kernel_rfl) rfl (fun K hK => ?_)
  go_simp
  refine (rSplit b x h _).mono ?_
  rintro e wn ⟨rfl, hn⟩
  refine hK _ _ (HI.keep hn) ?_
  clear hK K
  replace HI := HI.keep hn
  clear hn
  refine Drawn.take (i := 4) (v := .bool false) rfl (by kernel_rfl) (by kernel_rfl) (by kernel_rfl) (fun _ _ _ h => h) (by kernel_rfl) (fun W hW => ?_) HI ?_
  · have ⟨p0, p1, p2⟩ := sh W hW
    go_simp <;> (simp)
  refine Drawn.take (i := 5) (v := ?v11) rfl (by kernel_rfl) (by kernel_rfl) (by kernel_rfl) (fun _ _ _ h => h) (by kernel_rfl) (fun W hW => ?_) HI ?_
  rotate_left
  · have ⟨p0, p1, p2⟩ := sh W hW
    go_simp <;> exact rfl
  refine Drawn.take (i := 6) (v := ?v12) rfl (by kernel_rfl) (by kernel_rfl) (by kernel_rfl) (fun _ _ _ h => h) (by kernel_rfl) (fun W hW => ?_) HI ?_
  rotate_left
  · have ⟨p0, p1, p2⟩ := sh W hW
    go_simp <;> exact rfl
  refine Drawn.take (i := 7) (v := ?v13) rfl (by kernel_rfl) (by kernel_rfl) (by kernel_rfl) (fun _ _ _ h => h) (by kernel_rfl) (fun W hW => ?_) HI ?_
  rotate_left
  · have ⟨p0, p1, p2⟩ := sh W hW
    go_simp <;> exact rfl
  refine Drawn.take (i := 8) (v := ?v14) rfl (by kernel_rfl) (by kernel_rfl) (by kernel_rfl) (fun _ _ _ h => h) (by kernel_rfl) (fun W hW => ?_) HI ?_
  rotate_left
  · have ⟨p0, p1, p2⟩ := sh W hW
    go_simp <;> exact rfl
  refine Drawn.one (j := 9) (by kernel_rfl) rfl (fun K hK => ?_)
  go_simp
  refine (rClass b x h _).mono ?_
  rintro e wn ⟨rfl, hn⟩
  refine hK _ _ (HI.keep hn) ?_
  clear hK K
  replace HI := HI.keep hn
  clear hn
  refine Drawn.take (i := 10) (v := .bool false) rfl (by kernel_rfl) (by kernel_rfl) (by kernel_rfl) (fun _ _ _ h => h) (by kernel_rfl) (fun W hW => ?_) HI ?_
  · have ⟨p0, p1, p2⟩ := sh W hW
    go_simp <;> (simp)
  refine Drawn.take (i := 11) (v := ?v15) rfl (by kernel_rfl) (by kernel_rfl) (by kernel_rfl) (fun _ _ _ h => h) (by kernel_rfl) (fun W hW => ?_) HI ?_
  rotate_left
  · have ⟨p0, p1, p2⟩ := sh W hW
    go_simp <;> exact rfl
  refine Drawn.done (by kernel_rfl) ?_
  try go_simp
  replace BX := HI
  clear HI sh
  have ⟨q0, q1, q2⟩ := fields_cells BX w.heap.size n E F (.tail _ (.head _))
  go_wp2_with fail
  refine (wJoin_arg b n E F hE _).mono ?_
  rintro e u137 ⟨rfl, k137⟩
  replace BX := BX.keep k137
  have ⟨q0, q1, q2⟩ := fields_cells BX w.heap.size n E F (.tail _ (.head _))
  clear k137
  go_wp2_with fail
  refine (rIs b _).mono ?_
  rintro e u138 ⟨rfl, k138⟩
  replace BX := BX.keep k138
  have ⟨q0, q1, q2⟩ := fields_cells BX w.heap.size n E F (.tail _ (.head _))
  clear k138
  go_wp2_with fail
  refine (rFits_arg b n E F hE _).mono ?_
  rintro e u139 ⟨rfl, k139⟩
  replace BX := BX.keep k139
  have ⟨q0, q1, q2⟩ := fields_cells BX w.heap.size n E F (.tail _ (.head _))
  clear k139
  go_wp2_with fail
  refine (lIs_err 2 0 rfl _).mono ?_
  rintro e u140 ⟨rfl, k140⟩
  replace BX := BX.keep k140
  have ⟨q0, q1, q2⟩ := fields_cells BX w.heap.size n E F (.tail _ (.head _))
  clear k140
  go_wp2_with fail
  refine (lKnown _).mono ?_
  rintro e u141 ⟨rfl, k141⟩
  replace BX := BX.keep k141
  have ⟨q0, q1, q2⟩ := fields_cells BX w.heap.size n E F (.tail _ (.head _))
  clear k141
  go_wp2
  go_ret
  exact ⟨rfl, BX.bel⟩
theorem fields_any (f x : Int) (n : Bool) (E F : Int) (hx0 : 0 ≤ x) (hx : x < 18446744073709551616) (hF : 0 ≤ F) (w : World) :
    Calls Try.prog 3 #[.int .u8 f, .int .u64 x, FV n E F] w fun e w' => e = .returned (.bool true) ∧ Below w.heap.size w w' := by
  by_cases hf : Bad f
  · exact fields_bad f x n E F hf hx w
  · obtain ⟨b, rfl⟩ : ∃ b, f = fm b := by
      by_cases h1 : f = 1
      · exact ⟨false, h1⟩
      · by_cases h2 : f = 2
        · exact ⟨true, h2⟩
        · exact absurd ⟨h1, h2⟩ hf
    by_cases c : x < 2 * sg b
    · by_cases k : 0 ≤ E ∧ E ≤ tp b ∧ F < fr b
      · exact fields_ok1 b x n E F ⟨hx0, c⟩ k.1 k.2.1 hF k.2.2 w
      · exact fields_ok0 b x n E F ⟨hx0, c⟩ k w
    · have hl : GE (fm b) x 6 := .inr ⟨b, rfl, by omega, rfl⟩
      by_cases k : 0 ≤ E ∧ E ≤ tp b ∧ F < fr b
      · exact fields_long1 b x n E F hl hx k.1 k.2.1 hF k.2.2 w
      · exact fields_long0 b x n E F hl hx k w
end Go.Proofs.Ytioiakemmhfhkaa
