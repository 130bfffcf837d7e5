import Derived.Test.YtioiakemmhfhkaaWS
namespace Go.Proofs.Ytioiakemmhfhkaa
open Go.RowKit Go.Wd Go.Box
set_option linter.unusedVariables false
set_option maxRecDepth 3000
theorem sz_0 (b : Bool) : sz b 0 = 0 := by cases b <;> rfl
theorem sz_1 (b : Bool) : sz b 1 = 1 := by cases b <;> rfl
theorem ok_0 (b : Bool) : Ok b 0 := by cases b <;> (unfold Ok; decide)
theorem ok_1 (b : Bool) : Ok b 1 := by cases b <;> (unfold Ok; decide)
theorem ok_nan (b : Bool) : Ok b (nan b) := by cases b <;> (unfold Ok; decide)
theorem nan_nan (b : Bool) : inf b < sz b (nan b) := by cases b <;> decide
theorem sz_fl {b : Bool} {x : Int} (h : Ok b x) : sz b (fl b x) = sz b x := by
  have := sg_pos b
  have h1 := h.1
  have h2 := h.2
  unfold fl
  by_cases c : sg b ≤ x
  · rw [if_pos c, sz_neg h c]; exact sz_pos ⟨by omega, by omega⟩ (by omega)
  · rw [if_neg c, sz_pos h c, sz_neg ⟨by omega, by omega⟩ (by omega)]; omega
theorem sd_fl {b : Bool} {x : Int} (h : Ok b x) : sd b (sz b x) (!ng b x) = fl b x := by
  unfold fl sd ng
  by_cases c : sg b ≤ x
  · rw [if_pos c, decide_eq_true c, sz_neg h c]; rfl
  · rw [if_neg c, decide_eq_false c, sz_pos h c]; rfl
theorem sd_same {b : Bool} {x : Int} (h : Ok b x) : sd b (sz b x) (ng b x) = x := by
  unfold sd ng
  by_cases c : sg b ≤ x
  · rw [decide_eq_true c, sz_neg h c]; simp
  · rw [decide_eq_false c, sz_pos h c]; rfl
theorem fl_fl {b : Bool} {x : Int} (h : Ok b x) : fl b (fl b x) = x := by
  have h1 := h.1
  have h2 := h.2
  unfold fl
  by_cases c : sg b ≤ x
  · rw [if_pos c, if_neg (by omega)]; omega
  · rw [if_neg c, if_pos (by omega)]; omega
theorem sz_up {b : Bool} {y : Int} (h : Ok b y) (h1 : sz b y ≤ inf b) (h2 : y ≠ inf b) : sz b (up b y) ≤ inf b := by
  have hi := inf_lt b
  have h0 := h.1
  have h3 := h.2
  have hb := inf_bd b
  unfold up
  by_cases c1 : sz b y = 0
  · rw [if_pos c1, sz_1]; omega
  · rw [if_neg c1]
    by_cases c2 : sg b ≤ y
    · rw [sz_neg h c2] at h1 c1
      rw [if_pos c2, sz_neg ⟨by omega, by omega⟩ (by omega)]; omega
    · rw [sz_pos h c2] at h1 c1
      rw [if_neg c2, sz_pos ⟨by omega, by omega⟩ (by omega)]; omega
theorem upx_or (b : Bool) (x : Int) : (upx b x).2 = 0 ∨ upx b x = (0, 7) := by
  unfold upx
  by_cases c : inf b < sz b x
  · rw [if_pos c]; exact .inl rfl
  · rw [if_neg c]
    by_cases c2 : x = inf b
    · rw [if_pos c2]; exact .inr rfl
    · rw [if_neg c2]; exact .inl rfl
theorem dnx_or (b : Bool) (x : Int) : (dnx b x).2 = 0 ∨ dnx b x = (0, 7) := by
  unfold dnx
  by_cases c : inf b < sz b x
  · rw [if_pos c]; exact .inl rfl
  · rw [if_neg c]
    by_cases c2 : fl b x = inf b
    · rw [if_pos c2]; exact .inr rfl
    · rw [if_neg c2]; exact .inl rfl
theorem rDown_nan (b : Bool) (x : Int) (h : Ok b x) (hc : inf b < sz b x) (w : World) :
    Calls Try.prog 36 #[.int .u8 (fm b), .int .u64 x] w fun e w' => e = .returned (.tuple #[.int .u64 (nan b), .bool true]) ∧ Below w.heap.size w w' := by
  have HB := Below.refl w.heap.size w
  have HFL := Hide.mk (sd_fl h)
  have HFO := Hide.mk (fl_ok b h)
  have HCN : Hide (cnx b (fl b x) = nan b) := ⟨by unfold cnx; rw [sz_fl h, if_pos hc]⟩
  have HU : Hide (upx b (nan b) = (nan b, 0)) := ⟨by unfold upx; rw [if_pos (nan_nan b)]⟩
  have d1 : (cl b (nan b) == 5) = true := by simp [(cl_5 b (nan b)).2 (nan_nan b)]
  clear hc
  go_enter Try.func36, Try.ntmps36
  go_wp2_with fail
  refine (rSplit b x h _).mono ?_
  rintro e u1 ⟨rfl, k1⟩
  replace HB := below_then HB k1
  clear k1
  delta FV
  go_wp2_with fail
  rw [field_neg]
  go_wp2_with fail
  refine (rSigned b x (!ng b x) h _).mono ?_
  rintro e u2 ⟨rfl, k2⟩
  replace HB := below_then HB k2
  clear k2
  rw [HFL.out]
  go_wp2_with fail
  refine (rCanon b (fl b x) HFO.out _).mono ?_
  rintro e u3 ⟨rfl, k3⟩
  replace HB := below_then HB k3
  clear k3
  rw [HCN.out]
  go_wp2_with fail
  refine (rUp b (nan b) (ok_nan b) _).mono ?_
  rintro e u4 ⟨rfl, k4⟩
  replace HB := below_then HB k4
  clear k4
  rw [HU.out]
  rw [show decide (((nan b, 0) : Int × Int).2 = 0) = true from rfl]
  go_wp2_with fail
  refine (rClass b (nan b) (ok_nan b) _).mono ?_
  rintro e u5 ⟨rfl, k5⟩
  replace HB := below_then HB k5
  clear k5
  go_wp2
  go_ret2
  exact ⟨rfl, HB⟩
theorem rDown_inf (b : Bool) (x : Int) (h : Ok b x) (hc : sz b x ≤ inf b) (hi : fl b x = inf b) (w : World) :
    Calls Try.prog 36 #[.int .u8 (fm b), .int .u64 x] w fun e w' => e = .returned (.tuple #[.int .u64 0, .bool false]) ∧ Below w.heap.size w w' := by
  have HB := Below.refl w.heap.size w
  have HFL := Hide.mk (sd_fl h)
  have HFO := Hide.mk (fl_ok b h)
  have HCN : Hide (cnx b (fl b x) = fl b x) := ⟨by unfold cnx; rw [sz_fl h, if_neg (by omega)]⟩
  have HU : Hide (upx b (fl b x) = (0, 7)) := ⟨by unfold upx; rw [sz_fl h, if_neg (by omega), if_pos hi]⟩
  clear hc hi
  go_enter Try.func36, Try.ntmps36
  go_wp2_with fail
  refine (rSplit b x h _).mono ?_
  rintro e u1 ⟨rfl, k1⟩
  replace HB := below_then HB k1
  clear k1
  delta FV
  go_wp2_with fail
  rw [field_neg]
  go_wp2_with fail
  refine (rSigned b x (!ng b x) h _).mono ?_
  rintro e u2 ⟨rfl, k2⟩
  replace HB := below_then HB k2
  clear k2
  rw [HFL.out]
  go_wp2_with fail
  refine (rCanon b (fl b x) HFO.out _).mono ?_
  rintro e u3 ⟨rfl, k3⟩
  replace HB := below_then HB k3
  clear k3
  rw [HCN.out]
  go_wp2_with fail
  refine (rUp b (fl b x) HFO.out _).mono ?_
  rintro e u6 ⟨rfl, k6⟩
  replace HB := below_then HB k6
  clear k6
  rw [HU.out]
  rw [show decide (((0, 7) : Int × Int).2 = 0) = false from rfl]
  go_wp2
  go_ret2
  exact ⟨rfl, HB⟩
theorem rDown_dn (b : Bool) (x : Int) (h : Ok b x) (hc : sz b x ≤ inf b) (hi : fl b x ≠ inf b) (w : World) :
    Calls Try.prog 36 #[.int .u8 (fm b), .int .u64 x] w fun e w' => e = .returned (.tuple #[.int .u64 (fl b (up b (fl b x))), .bool true]) ∧ Below w.heap.size w w' := by
  have HB := Below.refl w.heap.size w
  have HFL := Hide.mk (sd_fl h)
  have HFO := Hide.mk (fl_ok b h)
  have HCN : Hide (cnx b (fl b x) = fl b x) := ⟨by unfold cnx; rw [sz_fl h, if_neg (by omega)]⟩
  have HU : Hide (upx b (fl b x) = (up b (fl b x), 0)) := ⟨by unfold upx; rw [sz_fl h, if_neg (by omega), if_neg hi]⟩
  have HUO := Hide.mk (up_ok b (fl_ok b h))
  have d1 : (cl b (up b (fl b x)) == 5) = false := beq_eq_false_iff_ne.2 (fun hh => by
    have k1 := (cl_5 b _).1 hh
    have k2 := sz_up (fl_ok b h) (by rw [sz_fl h]; exact hc) hi
    omega)
  have HF2 := Hide.mk (sd_fl HUO.out)
  clear hc hi
  go_enter Try.func36, Try.ntmps36
  go_wp2_with fail
  refine (rSplit b x h _).mono ?_
  rintro e u1 ⟨rfl, k1⟩
  replace HB := below_then HB k1
  clear k1
  delta FV
  go_wp2_with fail
  rw [field_neg]
  go_wp2_with fail
  refine (rSigned b x (!ng b x) h _).mono ?_
  rintro e u2 ⟨rfl, k2⟩
  replace HB := below_then HB k2
  clear k2
  rw [HFL.out]
  go_wp2_with fail
  refine (rCanon b (fl b x) HFO.out _).mono ?_
  rintro e u3 ⟨rfl, k3⟩
  replace HB := below_then HB k3
  clear k3
  rw [HCN.out]
  go_wp2_with fail
  refine (rUp b (fl b x) HFO.out _).mono ?_
  rintro e u7 ⟨rfl, k7⟩
  replace HB := below_then HB k7
  clear k7
  rw [HU.out]
  rw [show decide (((up b (fl b x), 0) : Int × Int).2 = 0) = true from rfl]
  rw [show ((up b (fl b x), (0 : Int)) : Int × Int).1 = up b (fl b x) from rfl]
  go_wp2_with fail
  refine (rClass b (up b (fl b x)) HUO.out _).mono ?_
  rintro e u8 ⟨rfl, k8⟩
  replace HB := below_then HB k8
  clear k8
  go_wp2_with fail
  refine (rSplit b (up b (fl b x)) HUO.out _).mono ?_
  rintro e u9 ⟨rfl, k9⟩
  replace HB := below_then HB k9
  clear k9
  delta FV
  go_wp2_with fail
  rw [field_neg]
  go_wp2_with fail
  refine (rSigned b (up b (fl b x)) (!ng b (up b (fl b x))) HUO.out _).mono ?_
  rintro e u10 ⟨rfl, k10⟩
  replace HB := below_then HB k10
  clear k10
  rw [HF2.out]
  go_wp2
  go_ret2
  exact ⟨rfl, HB⟩
theorem rDown (b : Bool) (x : Int) (h : Ok b x) (w : World) :
    Calls Try.prog 36 #[.int .u8 (fm b), .int .u64 x] w fun e w' => e = .returned (.tuple #[.int .u64 (dnx b x).1, .bool (decide ((dnx b x).2 = 0))]) ∧ Below w.heap.size w w' := by
  unfold dnx
  by_cases c : inf b < sz b x
  · rw [if_pos c]; exact rDown_nan b x h c w
  · rw [if_neg c]
    by_cases c2 : fl b x = inf b
    · rw [if_pos c2]; exact rDown_inf b x h (by omega) c2 w
    · rw [if_neg c2]; exact rDown_dn b x h (by omega) c2 w
set_option maxHeartbeats 1000000 in
theorem named_bad (f : Int) (n : Bool) (hf : Bad f) (w : World) :
    Calls Try.prog 4 #[.int .u8 f, .bool n] w fun e w' => e = .returned (.bool true) ∧ Below w.heap.size w w' := by
  have HB := Below.refl w.heap.size w
  go_enter Try.func4, Try.ntmps4
  go_wp2_with fail
  refine (wZero_bad f hf n _).mono ?_
  rintro e u11 ⟨rfl, k11⟩
  replace HB := below_then HB k11
  clear k11
  go_wp2_with fail
  refine (wInf_bad f hf n _).mono ?_
  rintro e u12 ⟨rfl, k12⟩
  replace HB := below_then HB k12
  clear k12
  go_wp2_with fail
  refine (wGreatest_bad f hf n _).mono ?_
  rintro e u13 ⟨rfl, k13⟩
  replace HB := below_then HB k13
  clear k13
  go_wp2_with fail
  refine (wLeast_bad f hf n _).mono ?_
  rintro e u14 ⟨rfl, k14⟩
  replace HB := below_then HB k14
  clear k14
  go_wp2_with fail
  refine (wNone_bad f hf n _).mono ?_
  rintro e u15 ⟨rfl, k15⟩
  replace HB := below_then HB k15
  clear k15
  go_wp2_with fail
  refine (rIs_bad f hf _).mono ?_
  rintro e u16 ⟨rfl, k16⟩
  replace HB := below_then HB k16
  clear k16
  go_wp2_with fail
  refine (lIs_err 4 0 rfl _).mono ?_
  rintro e u17 ⟨rfl, k17⟩
  replace HB := below_then HB k17
  clear k17
  go_wp2_with fail
  refine (lIs_err 4 0 rfl _).mono ?_
  rintro e u18 ⟨rfl, k18⟩
  replace HB := below_then HB k18
  clear k18
  go_wp2_with fail
  refine (lIs_err 4 0 rfl _).mono ?_
  rintro e u19 ⟨rfl, k19⟩
  replace HB := below_then HB k19
  clear k19
  go_wp2_with fail
  refine (lIs_err 4 0 rfl _).mono ?_
  rintro e u20 ⟨rfl, k20⟩
  replace HB := below_then HB k20
  clear k20
  go_wp2_with fail
  refine (lIs_err 4 0 rfl _).mono ?_
  rintro e u21 ⟨rfl, k21⟩
  replace HB := below_then HB k21
  clear k21
  go_wp2_with fail
  refine (lKnown _).mono ?_
  rintro e u22 ⟨rfl, k22⟩
  replace HB := below_then HB k22
  clear k22
  go_wp2
  go_ret
  exact ⟨rfl, HB⟩
set_option maxHeartbeats 1000000 in
theorem named_ok (b n : Bool)  (w : World) :
    Calls Try.prog 4 #[.int .u8 (fm b), .bool n] w fun e w' => e = .returned (.bool true) ∧ Below w.heap.size w w' := by
  have HB := Below.refl w.heap.size w
  have e1 : sd b (inf b - 1) n = sd b (inf b) n - 1 := by unfold sd; cases n <;> simp <;> omega
  have e2 : 1 ≤ sd b (inf b) n ∧ sd b (inf b) n ≤ 18446744073709551615 := by
    have := inf_bd b
    have := inf_lt b
    have := sg_le b
    unfold sd; cases n <;> simp <;> omega
  obtain ⟨e3, e4⟩ := e2
  have E1 := Hide.mk e1
  have R0 := fun w => Hide.mk (rSigned b 0 n (ok_0 b) w)
  have R1 := fun w => Hide.mk (rSigned b 1 n (ok_1 b) w)
  rw [sz_0] at R0
  rw [sz_1] at R1
  have RI := fun w => Hide.mk (rInf b n w)
  have WI := fun w => Hide.mk (wInf b n w)
  have WG := fun w => Hide.mk (wGreatest b n w)
  rw [e1] at WG
  clear e1 E1
  generalize sd b (inf b) n = Y at *
  go_enter Try.func4, Try.ntmps4
  go_wp2_with fail
  refine (wZero b n _).mono ?_
  rintro e u23 ⟨rfl, k23⟩
  replace HB := below_then HB k23
  clear k23
  go_wp2_with fail
  refine ((WI _).out).mono ?_
  rintro e u24 ⟨rfl, k24⟩
  replace HB := below_then HB k24
  clear k24
  go_wp2_with fail
  refine ((WG _).out).mono ?_
  rintro e u25 ⟨rfl, k25⟩
  replace HB := below_then HB k25
  clear k25
  go_wp2_with fail
  refine (wLeast b n _).mono ?_
  rintro e u26 ⟨rfl, k26⟩
  replace HB := below_then HB k26
  clear k26
  go_wp2_with fail
  refine (wNoneF b _).mono ?_
  rintro e u27 ⟨rfl, k27⟩
  replace HB := below_then HB k27
  clear k27
  go_wp2_with fail
  refine (rIs b _).mono ?_
  rintro e u28 ⟨rfl, k28⟩
  replace HB := below_then HB k28
  clear k28
  go_wp2_with fail
  refine ((RI _).out).mono ?_
  rintro e u29 ⟨rfl, k29⟩
  replace HB := below_then HB k29
  clear k29
  go_wp2_with fail
  refine ((R0 _).out).mono ?_
  rintro e u30 ⟨rfl, k30⟩
  replace HB := below_then HB k30
  clear k30
  go_wp2_with fail
  refine (lIs _ _).mono ?_
  rintro e u31 ⟨rfl, k31⟩
  replace HB := below_then HB k31
  clear k31
  go_wp2_with fail
  refine (lIs _ _).mono ?_
  rintro e u32 ⟨rfl, k32⟩
  replace HB := below_then HB k32
  clear k32
  go_wp2_with fail
  refine (lIs _ _).mono ?_
  rintro e u33 ⟨rfl, k33⟩
  replace HB := below_then HB k33
  clear k33
  go_wp2_with fail
  refine ((R1 _).out).mono ?_
  rintro e u34 ⟨rfl, k34⟩
  replace HB := below_then HB k34
  clear k34
  go_wp2_with fail
  refine (lIs _ _).mono ?_
  rintro e u35 ⟨rfl, k35⟩
  replace HB := below_then HB k35
  clear k35
  go_wp2_with fail
  refine (rNone b _).mono ?_
  rintro e u36 ⟨rfl, k36⟩
  replace HB := below_then HB k36
  clear k36
  go_wp2_with fail
  refine (lIs _ _).mono ?_
  rintro e u37 ⟨rfl, k37⟩
  replace HB := below_then HB k37
  clear k37
  go_wp2_with fail
  refine (lKnown _).mono ?_
  rintro e u38 ⟨rfl, k38⟩
  replace HB := below_then HB k38
  clear k38
  go_wp2
  go_ret
  exact ⟨rfl, HB⟩
set_option maxHeartbeats 1000000 in
theorem steps_bad (f x c : Int) (h : GE f x c) (hx : x < 18446744073709551616) (w : World) :
    Calls Try.prog 6 #[.int .u8 f, .int .u64 x] w fun e w' => e = .returned (.bool true) ∧ Below w.heap.size w w' := by
  have HB := Below.refl w.heap.size w
  have hc := h.ne
  go_enter Try.func6, Try.ntmps6
  go_wp2_with fail
  refine (rGood_err f x c h hx _).mono ?_
  rintro e u39 ⟨rfl, k39⟩
  replace HB := below_then HB k39
  clear k39
  go_wp2_with fail
  refine (wUp_err f x c h _).mono ?_
  rintro e u40 ⟨rfl, k40⟩
  replace HB := below_then HB k40
  clear k40
  go_wp2_with fail
  refine (wDown_err f x c h _).mono ?_
  rintro e u41 ⟨rfl, k41⟩
  replace HB := below_then HB k41
  clear k41
  clear h
  go_wp2_with fail
  refine (lIs_err c 0 hc _).mono ?_
  rintro e u42 ⟨rfl, k42⟩
  replace HB := below_then HB k42
  clear k42
  go_wp2_with fail
  refine (lIs_err c 0 hc _).mono ?_
  rintro e u43 ⟨rfl, k43⟩
  replace HB := below_then HB k43
  clear k43
  go_wp2_with fail
  refine (lKnown _).mono ?_
  rintro e u44 ⟨rfl, k44⟩
  replace HB := below_then HB k44
  clear k44
  go_wp2
  go_ret
  exact ⟨rfl, HB⟩
set_option maxHeartbeats 1000000 in
theorem steps_00 (b : Bool) (x : Int) (h : Ok b x) (hU : (upx b x).2 = 0) (hD : (dnx b x).2 = 0) (w : World) :
    Calls Try.prog 6 #[.int .u8 (fm b), .int .u64 x] w fun e w' => e = .returned (.bool true) ∧ Below w.heap.size w w' := by
  have HB := Below.refl w.heap.size w
  have U := fun w => Hide.mk (wUp b x h w)
  have D := fun w => Hide.mk (wDown b x h w)
  have RU := fun w => Hide.mk (rUp b x h w)
  have RD := fun w => Hide.mk (rDown b x h w)
  rw [hU] at U RU
  rw [show decide ((0 : Int) = 0) = true from rfl] at RU
  generalize (upx b x).1 = yU at *
  rw [hD] at D RD
  rw [show decide ((0 : Int) = 0) = true from rfl] at RD
  generalize (dnx b x).1 = yD at *
  clear hU hD
  go_enter Try.func6, Try.ntmps6
  go_wp2_with fail
  refine (rGood b x h _).mono ?_
  rintro e u45 ⟨rfl, k45⟩
  replace HB := below_then HB k45
  clear k45
  go_wp2_with fail
  refine ((U _).out).mono ?_
  rintro e u46 ⟨rfl, k46⟩
  replace HB := below_then HB k46
  clear k46
  go_wp2_with fail
  refine ((D _).out).mono ?_
  rintro e u47 ⟨rfl, k47⟩
  replace HB := below_then HB k47
  clear k47
  go_wp2_with fail
  refine ((RU _).out).mono ?_
  rintro e u48 ⟨rfl, k48⟩
  replace HB := below_then HB k48
  clear k48
  go_wp2_with fail
  refine ((RD _).out).mono ?_
  rintro e u49 ⟨rfl, k49⟩
  replace HB := below_then HB k49
  clear k49
  go_wp2_with fail
  refine (lIs _ _).mono ?_
  rintro e u50 ⟨rfl, k50⟩
  replace HB := below_then HB k50
  clear k50
  go_wp2_with fail
  refine (lIs _ _).mono ?_
  rintro e u51 ⟨rfl, k51⟩
  replace HB := below_then HB k51
  clear k51
  go_wp2_with fail
  refine (lKnown _).mono ?_
  rintro e u52 ⟨rfl, k52⟩
  replace HB := below_then HB k52
  clear k52
  go_wp2
  go_ret
  exact ⟨rfl, HB⟩
set_option maxHeartbeats 1000000 in
theorem steps_01 (b : Bool) (x : Int) (h : Ok b x) (hU : (upx b x).2 = 0) (hD : dnx b x = (0, 7)) (w : World) :
    Calls Try.prog 6 #[.int .u8 (fm b), .int .u64 x] w fun e w' => e = .returned (.bool true) ∧ Below w.heap.size w w' := by
  have HB := Below.refl w.heap.size w
  have U := fun w => Hide.mk (wUp b x h w)
  have D := fun w => Hide.mk (wDown b x h w)
  have RU := fun w => Hide.mk (rUp b x h w)
  have RD := fun w => Hide.mk (rDown b x h w)
  rw [hU] at U RU
  rw [show decide ((0 : Int) = 0) = true from rfl] at RU
  generalize (upx b x).1 = yU at *
  rw [hD] at D RD
  rw [show decide (((0, 7) : Int × Int).2 = 0) = false from rfl] at RD
  clear hU hD
  go_enter Try.func6, Try.ntmps6
  go_wp2_with fail
  refine (rGood b x h _).mono ?_
  rintro e u53 ⟨rfl, k53⟩
  replace HB := below_then HB k53
  clear k53
  go_wp2_with fail
  refine ((U _).out).mono ?_
  rintro e u54 ⟨rfl, k54⟩
  replace HB := below_then HB k54
  clear k54
  go_wp2_with fail
  refine ((D _).out).mono ?_
  rintro e u55 ⟨rfl, k55⟩
  replace HB := below_then HB k55
  clear k55
  go_wp2_with fail
  refine ((RU _).out).mono ?_
  rintro e u56 ⟨rfl, k56⟩
  replace HB := below_then HB k56
  clear k56
  go_wp2_with fail
  refine ((RD _).out).mono ?_
  rintro e u57 ⟨rfl, k57⟩
  replace HB := below_then HB k57
  clear k57
  go_wp2_with fail
  refine (lIs _ _).mono ?_
  rintro e u58 ⟨rfl, k58⟩
  replace HB := below_then HB k58
  clear k58
  go_wp2_with fail
  refine (lIs_err 7 _ rfl _).mono ?_
  rintro e u59 ⟨rfl, k59⟩
  replace HB := below_then HB k59
  clear k59
  go_wp2_with fail
  refine (lKnown _).mono ?_
  rintro e u60 ⟨rfl, k60⟩
  replace HB := below_then HB k60
  clear k60
  go_wp2
  go_ret
  exact ⟨rfl, HB⟩
set_option maxHeartbeats 1000000 in
theorem steps_10 (b : Bool) (x : Int) (h : Ok b x) (hU : upx b x = (0, 7)) (hD : (dnx b x).2 = 0) (w : World) :
    Calls Try.prog 6 #[.int .u8 (fm b), .int .u64 x] w fun e w' => e = .returned (.bool true) ∧ Below w.heap.size w w' := by
  have HB := Below.refl w.heap.size w
  have U := fun w => Hide.mk (wUp b x h w)
  have D := fun w => Hide.mk (wDown b x h w)
  have RU := fun w => Hide.mk (rUp b x h w)
  have RD := fun w => Hide.mk (rDown b x h w)
  rw [hU] at U RU
  rw [show decide (((0, 7) : Int × Int).2 = 0) = false from rfl] at RU
  rw [hD] at D RD
  rw [show decide ((0 : Int) = 0) = true from rfl] at RD
  generalize (dnx b x).1 = yD at *
  clear hU hD
  go_enter Try.func6, Try.ntmps6
  go_wp2_with fail
  refine (rGood b x h _).mono ?_
  rintro e u61 ⟨rfl, k61⟩
  replace HB := below_then HB k61
  clear k61
  go_wp2_with fail
  refine ((U _).out).mono ?_
  rintro e u62 ⟨rfl, k62⟩
  replace HB := below_then HB k62
  clear k62
  go_wp2_with fail
  refine ((D _).out).mono ?_
  rintro e u63 ⟨rfl, k63⟩
  replace HB := below_then HB k63
  clear k63
  go_wp2_with fail
  refine ((RU _).out).mono ?_
  rintro e u64 ⟨rfl, k64⟩
  replace HB := below_then HB k64
  clear k64
  go_wp2_with fail
  refine ((RD _).out).mono ?_
  rintro e u65 ⟨rfl, k65⟩
  replace HB := below_then HB k65
  clear k65
  go_wp2_with fail
  refine (lIs_err 7 _ rfl _).mono ?_
  rintro e u66 ⟨rfl, k66⟩
  replace HB := below_then HB k66
  clear k66
  go_wp2_with fail
  refine (lIs _ _).mono ?_
  rintro e u67 ⟨rfl, k67⟩
  replace HB := below_then HB k67
  clear k67
  go_wp2_with fail
  refine (lKnown _).mono ?_
  rintro e u68 ⟨rfl, k68⟩
  replace HB := below_then HB k68
  clear k68
  go_wp2
  go_ret
  exact ⟨rfl, HB⟩
set_option maxHeartbeats 1000000 in
theorem steps_11 (b : Bool) (x : Int) (h : Ok b x) (hU : upx b x = (0, 7)) (hD : dnx b x = (0, 7)) (w : World) :
    Calls Try.prog 6 #[.int .u8 (fm b), .int .u64 x] w fun e w' => e = .returned (.bool true) ∧ Below w.heap.size w w' := by
  have HB := Below.refl w.heap.size w
  have U := fun w => Hide.mk (wUp b x h w)
  have D := fun w => Hide.mk (wDown b x h w)
  have RU := fun w => Hide.mk (rUp b x h w)
  have RD := fun w => Hide.mk (rDown b x h w)
  rw [hU] at U RU
  rw [show decide (((0, 7) : Int × Int).2 = 0) = false from rfl] at RU
  rw [hD] at D RD
  rw [show decide (((0, 7) : Int × Int).2 = 0) = false from rfl] at RD
  clear hU hD
  go_enter Try.func6, Try.ntmps6
  go_wp2_with fail
  refine (rGood b x h _).mono ?_
  rintro e u69 ⟨rfl, k69⟩
  replace HB := below_then HB k69
  clear k69
  go_wp2_with fail
  refine ((U _).out).mono ?_
  rintro e u70 ⟨rfl, k70⟩
  replace HB := below_then HB k70
  clear k70
  go_wp2_with fail
  refine ((D _).out).mono ?_
  rintro e u71 ⟨rfl, k71⟩
  replace HB := below_then HB k71
  clear k71
  go_wp2_with fail
  refine ((RU _).out).mono ?_
  rintro e u72 ⟨rfl, k72⟩
  replace HB := below_then HB k72
  clear k72
  go_wp2_with fail
  refine ((RD _).out).mono ?_
  rintro e u73 ⟨rfl, k73⟩
  replace HB := below_then HB k73
  clear k73
  go_wp2_with fail
  refine (lIs_err 7 _ rfl _).mono ?_
  rintro e u74 ⟨rfl, k74⟩
  replace HB := below_then HB k74
  clear k74
  go_wp2_with fail
  refine (lIs_err 7 _ rfl _).mono ?_
  rintro e u75 ⟨rfl, k75⟩
  replace HB := below_then HB k75
  clear k75
  go_wp2_with fail
  refine (lKnown _).mono ?_
  rintro e u76 ⟨rfl, k76⟩
  replace HB := below_then HB k76
  clear k76
  go_wp2
  go_ret
  exact ⟨rfl, HB⟩
theorem word_cases {f x : Int} (hx0 : 0 ≤ x) (hx : x < 18446744073709551616) : (∃ c, GE f x c) ∨ ∃ b, f = fm b ∧ Ok b x := by
  by_cases h1 : f = 1
  · by_cases h2 : x < 4294967296
    · exact .inr ⟨false, h1, hx0, h2⟩
    · exact .inl ⟨6, .inr ⟨false, h1, by simp only [sg]; omega, rfl⟩⟩
  · by_cases h2 : f = 2
    · exact .inr ⟨true, h2, hx0, hx⟩
    · exact .inl ⟨4, .inl ⟨⟨h1, h2⟩, rfl⟩⟩
theorem steps_any (f x : Int) (hx0 : 0 ≤ x) (hx : x < 18446744073709551616) (w : World) :
    Calls Try.prog 6 #[.int .u8 f, .int .u64 x] w fun e w' => e = .returned (.bool true) ∧ Below w.heap.size w w' := by
  rcases word_cases (f := f) hx0 hx with ⟨c, h⟩ | ⟨b, rfl, h⟩
  · exact steps_bad f x c h hx w
  · rcases upx_or b x with hU | hU <;> rcases dnx_or b x with hD | hD
    · exact steps_00 b x h hU hD w
    · exact steps_01 b x h hU hD w
    · exact steps_10 b x h hU hD w
    · exact steps_11 b x h hU hD w
theorem named_any (f : Int) (n : Bool) (w : World) :
    Calls Try.prog 4 #[.int .u8 f, .bool n] w fun e w' => e = .returned (.bool true) ∧ Below w.heap.size w w' := by
  by_cases h1 : f = 1
  · subst h1; exact named_ok false n w
  · by_cases h2 : f = 2
    · subst h2; exact named_ok true n w
    · exact named_bad f n ⟨h1, h2⟩ w
end Go.Proofs.Ytioiakemmhfhkaa
