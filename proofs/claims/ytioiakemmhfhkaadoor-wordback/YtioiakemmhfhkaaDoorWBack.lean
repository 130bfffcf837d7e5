import Derived.Test.YtioiakemmhfhkaaDoorWK
namespace Go.Proofs.YtioiakemmhfhkaaDoor
open Go.RowKit Go.Wd Go.Box
set_option linter.unusedVariables false
set_option maxRecDepth 3000
theorem join_back {b : Bool} {x : Int} (h : Ok b x) : sd b (fd b x * fr b + fn b x) (ng b x) = x := by
  rw [← sz_fields]; exact sd_same h
set_option maxHeartbeats 2000000 in
theorem back_bad4 (f x : Int) (n : Bool) (E F : Int) (h : GE f x 4) (w : World) (hT : Tab w) :
    Calls Tryd.prog 17 #[.int .u8 f, .int .u64 x, FV n E F] w fun e w' => e = .returned (.bool true) ∧ Below w.heap.size w w' := by
  have BX := (Bx.nil w).push (FO n E F)
  go_enter Tryd.func17, Tryd.ntmps17
  go_wp2_with fail
  refine (wGood_err f x 4 h _).mono ?_
  rintro e u1 ⟨rfl, k1⟩
  replace BX := BX.keep k1
  obtain ⟨q0, q1, q2⟩ := fields_cells BX w.heap.size n E F (by simp)
  clear k1
  clear h
  go_wp2_with fail
  refine (lKnown _).mono ?_
  rintro e u2 ⟨rfl, k2⟩
  replace BX := BX.keep k2
  obtain ⟨q0, q1, q2⟩ := fields_cells BX w.heap.size n E F (by simp)
  clear k2
  go_wp2
  go_ret
  exact ⟨rfl, BX.bel⟩
set_option maxHeartbeats 2000000 in
theorem back_bad6 (f x : Int) (n : Bool) (E F : Int) (h : GE f x 6) (w : World) (hT : Tab w) :
    Calls Tryd.prog 17 #[.int .u8 f, .int .u64 x, FV n E F] w fun e w' => e = .returned (.bool true) ∧ Below w.heap.size w w' := by
  have BX := (Bx.nil w).push (FO n E F)
  go_enter Tryd.func17, Tryd.ntmps17
  go_wp2_with fail
  refine (wGood_err f x 6 h _).mono ?_
  rintro e u3 ⟨rfl, k3⟩
  replace BX := BX.keep k3
  obtain ⟨q0, q1, q2⟩ := fields_cells BX w.heap.size n E F (by simp)
  clear k3
  clear h
  go_wp2_with fail
  refine (lKnown _).mono ?_
  rintro e u4 ⟨rfl, k4⟩
  replace BX := BX.keep k4
  obtain ⟨q0, q1, q2⟩ := fields_cells BX w.heap.size n E F (by simp)
  clear k4
  go_wp2
  go_ret
  exact ⟨rfl, BX.bel⟩
set_option maxHeartbeats 2000000 in
theorem back_no1 (b : Bool) (x : Int) (n : Bool) (E F : Int) (h : Ok b x) (hE : 0 ≤ E) (hE1 : E ≤ tp b) (hF0 : 0 ≤ F) (hF : F < fr b) (hv : inf b ≤ sz b x) (w : World) (hT : Tab w) :
    Calls Tryd.prog 17 #[.int .u8 (fm b), .int .u64 x, FV n E F] w fun e w' => e = .returned (.bool true) ∧ Below w.heap.size w w' := by
  have BX := (Bx.nil w).push (FO n E F)
  have d0 : (x == x) = true := by simp
  have hE2 := fd_bd b x
  have hF2 := fn_bd b x
  have WJ := fun w => Hide.mk (wJoin b (ng b x) (fd b x) (fn b x) hE2.1 (fd_tp b x) hF2.1 hF2.2 w)
  rw [join_back h] at WJ
  clear hE2 hF2
  obtain ⟨a1, a2, a3, a4⟩ := apart (n := n) hE hE1 hF0 hF
  have WS := fun w => Hide.mk (wSplit b _ a1 w)
  rw [a2, a3, a4] at WS
  have WX := fun w => Hide.mk (wJoin b n E F hE hE1 hF0 hF w)
  clear a1 a2 a3 a4
  generalize sd b (E * fr b + F) n = y at *
  go_enter Tryd.func17, Tryd.ntmps17
  go_wp2_with fail
  refine (wGood b x h _).mono ?_
  rintro e u5 ⟨rfl, k5⟩
  replace BX := BX.keep k5
  obtain ⟨q0, q1, q2⟩ := fields_cells BX w.heap.size n E F (by simp)
  clear k5
  go_wp2_with fail
  refine (wSplit b x h _).mono ?_
  rintro e u6 ⟨rfl, k6⟩
  replace BX := BX.keep k6
  obtain ⟨q0, q1, q2⟩ := fields_cells BX w.heap.size n E F (by simp)
  clear k6
  have hlt6 : w.heap.size < u6.heap.size := BX.lt (p := (w.heap.size, FO n E F)) (by simp)
  replace BX := BX.push (FO (ng b x) (fd b x) (fn b x))
  go_wp2_with fail
  refine ((WJ _).out).mono ?_
  rintro e u7 ⟨rfl, k7⟩
  replace BX := BX.keep k7
  obtain ⟨q0, q1, q2⟩ := fields_cells BX w.heap.size n E F (by simp)
  clear k7
  clear WJ
  go_wp2_with fail
  refine ((WX _).out).mono ?_
  rintro e u8 ⟨rfl, k8⟩
  replace BX := BX.keep k8
  obtain ⟨q0, q1, q2⟩ := fields_cells BX w.heap.size n E F (by simp)
  clear k8
  clear WX
  go_wp2_with fail
  refine ((WS _).out).mono ?_
  rintro e u9 ⟨rfl, k9⟩
  replace BX := BX.keep k9
  obtain ⟨q0, q1, q2⟩ := fields_cells BX w.heap.size n E F (by simp)
  clear k9
  clear WS
  have hlt9 : w.heap.size < u9.heap.size := BX.lt (p := (w.heap.size, FO n E F)) (by simp)
  replace BX := BX.push (FO n E F)
  go_wp2_with fail
  refine (wValue_err (fm b) x 7 (.inr ⟨b, rfl, h, hv, rfl⟩) _).mono ?_
  rintro e u10 ⟨rfl, k10⟩
  replace BX := BX.keep k10
  obtain ⟨q0, q1, q2⟩ := fields_cells BX w.heap.size n E F (by simp)
  clear k10
  clear hv
  have hlt10 : w.heap.size < u10.heap.size := BX.lt (p := (w.heap.size, FO n E F)) (by simp)
  replace BX := BX.push (DO false none 0 0 0)
  go_wp2_with fail
  refine (lKnown _).mono ?_
  rintro e u11 ⟨rfl, k11⟩
  replace BX := BX.keep k11
  obtain ⟨q0, q1, q2⟩ := fields_cells BX w.heap.size n E F (by simp)
  clear k11
  go_wp2
  go_ret
  exact ⟨rfl, BX.bel⟩
set_option maxHeartbeats 2000000 in
theorem back_zero01 (b : Bool) (x : Int) (n : Bool) (E F : Int) (h : Ok b x) (hE : 0 ≤ E) (hE1 : E ≤ tp b) (hF0 : 0 ≤ F) (hF : F < fr b) (hx : x = 0) (w : World) (hT : Tab w) :
    Calls Tryd.prog 17 #[.int .u8 (fm b), .int .u64 x, FV n E F] w fun e w' => e = .returned (.bool true) ∧ Below w.heap.size w w' := by
  have BX := (Bx.nil w).push (FO n E F)
  subst hx
  have d0 : ((0 : Int) == 0) = true := rfl
  have hE2 := fd_bd b 0
  have hF2 := fn_bd b 0
  have WJ := fun w => Hide.mk (wJoin b (ng b 0) (fd b 0) (fn b 0) hE2.1 (fd_tp b 0) hF2.1 hF2.2 w)
  rw [join_back h] at WJ
  clear hE2 hF2
  obtain ⟨a1, a2, a3, a4⟩ := apart (n := n) hE hE1 hF0 hF
  have WS := fun w => Hide.mk (wSplit b _ a1 w)
  rw [a2, a3, a4] at WS
  have WX := fun w => Hide.mk (wJoin b n E F hE hE1 hF0 hF w)
  clear a1 a2 a3 a4
  generalize sd b (E * fr b + F) n = y at *
  have hf : sz b 0 < inf b := by cases b <;> decide
  have hu : un b 0 = 0 := by cases b <;> decide
  have dz : ((0 : Int) == sg b) = false := by cases b <;> decide
  have VV := fun w hT => Hide.mk (wValueE b 0 h hf w hT)
  clear hf
  go_enter Tryd.func17, Tryd.ntmps17
  go_wp2_with fail
  refine (wGood b 0 h _).mono ?_
  rintro e u12 ⟨rfl, k12⟩
  replace BX := BX.keep k12
  obtain ⟨q0, q1, q2⟩ := fields_cells BX w.heap.size n E F (by simp)
  clear k12
  go_wp2_with fail
  refine (wSplit b 0 h _).mono ?_
  rintro e u13 ⟨rfl, k13⟩
  replace BX := BX.keep k13
  obtain ⟨q0, q1, q2⟩ := fields_cells BX w.heap.size n E F (by simp)
  clear k13
  have hlt13 : w.heap.size < u13.heap.size := BX.lt (p := (w.heap.size, FO n E F)) (by simp)
  replace BX := BX.push (FO (ng b 0) (fd b 0) (fn b 0))
  go_wp2_with fail
  refine ((WJ _).out).mono ?_
  rintro e u14 ⟨rfl, k14⟩
  replace BX := BX.keep k14
  obtain ⟨q0, q1, q2⟩ := fields_cells BX w.heap.size n E F (by simp)
  clear k14
  clear WJ
  go_wp2_with fail
  refine ((WX _).out).mono ?_
  rintro e u15 ⟨rfl, k15⟩
  replace BX := BX.keep k15
  obtain ⟨q0, q1, q2⟩ := fields_cells BX w.heap.size n E F (by simp)
  clear k15
  clear WX
  go_wp2_with fail
  refine ((WS _).out).mono ?_
  rintro e u16 ⟨rfl, k16⟩
  replace BX := BX.keep k16
  obtain ⟨q0, q1, q2⟩ := fields_cells BX w.heap.size n E F (by simp)
  clear k16
  clear WS
  have hlt16 : w.heap.size < u16.heap.size := BX.lt (p := (w.heap.size, FO n E F)) (by simp)
  replace BX := BX.push (FO n E F)
  go_wp2_with fail
  refine (VV _ (hT.below BX.bel (Nat.le_refl _))).out.mono ?_
  rintro e u17 ⟨nv, zs, ex, av, cv, rfl, gv, lv, k17, hv⟩
  replace BX := BX.keep k17
  clear k17 VV
  have hlt17 : w.heap.size < u17.heap.size := BX.lt (p := (w.heap.size, FO n E F)) (by simp)
  replace BX := BX.push (DO nv av zs.length cv ex)
  obtain rfl : zs = [] := by
    rcases hv with ⟨_, h9⟩ | ⟨h9, _, t, _, h10⟩
    · exact h9
    · have h11 := gv.pos h9
      have h12 := Int.mul_pos h11 (p2pos t)
      omega
  obtain ⟨_, rfl, rfl⟩ := gv.nil (by simp)
  clear hv hu gv lv
  go_wp2_with fail
  refine (wOf_zero b av cv _).mono ?_
  rintro e u18 ⟨rfl, k18⟩
  replace BX := BX.keep k18
  obtain ⟨q0, q1, q2⟩ := fields_cells BX w.heap.size n E F (by simp)
  clear k18
  go_wp2_with fail
  refine (wZero b true _).mono ?_
  rintro e u19 ⟨rfl, k19⟩
  replace BX := BX.keep k19
  obtain ⟨q0, q1, q2⟩ := fields_cells BX w.heap.size n E F (by simp)
  clear k19
  rw [show sd b 0 true = sg b by unfold sd; simp]
  go_wp2_with fail
  refine (lKnown _).mono ?_
  rintro e u20 ⟨rfl, k20⟩
  replace BX := BX.keep k20
  obtain ⟨q0, q1, q2⟩ := fields_cells BX w.heap.size n E F (by simp)
  clear k20
  go_wp2
  go_ret
  exact ⟨rfl, BX.bel⟩
set_option maxHeartbeats 2000000 in
theorem back_zeroS1 (b : Bool) (x : Int) (n : Bool) (E F : Int) (h : Ok b x) (hE : 0 ≤ E) (hE1 : E ≤ tp b) (hF0 : 0 ≤ F) (hF : F < fr b) (hx : x = sg b) (w : World) (hT : Tab w) :
    Calls Tryd.prog 17 #[.int .u8 (fm b), .int .u64 x, FV n E F] w fun e w' => e = .returned (.bool true) ∧ Below w.heap.size w w' := by
  have BX := (Bx.nil w).push (FO n E F)
  have d0 : (x == x) = true := by simp
  have hE2 := fd_bd b x
  have hF2 := fn_bd b x
  have WJ := fun w => Hide.mk (wJoin b (ng b x) (fd b x) (fn b x) hE2.1 (fd_tp b x) hF2.1 hF2.2 w)
  rw [join_back h] at WJ
  clear hE2 hF2
  obtain ⟨a1, a2, a3, a4⟩ := apart (n := n) hE hE1 hF0 hF
  have WS := fun w => Hide.mk (wSplit b _ a1 w)
  rw [a2, a3, a4] at WS
  have WX := fun w => Hide.mk (wJoin b n E F hE hE1 hF0 hF w)
  clear a1 a2 a3 a4
  generalize sd b (E * fr b + F) n = y at *
  have hf : sz b x < inf b := by subst hx; cases b <;> decide
  have hu : un b x = 0 := by subst hx; cases b <;> decide
  have dz : (x == sg b) = true := by simp [hx]
  have VV := fun w hT => Hide.mk (wValueE b x h hf w hT)
  clear hf hx
  go_enter Tryd.func17, Tryd.ntmps17
  go_wp2_with fail
  refine (wGood b x h _).mono ?_
  rintro e u21 ⟨rfl, k21⟩
  replace BX := BX.keep k21
  obtain ⟨q0, q1, q2⟩ := fields_cells BX w.heap.size n E F (by simp)
  clear k21
  go_wp2_with fail
  refine (wSplit b x h _).mono ?_
  rintro e u22 ⟨rfl, k22⟩
  replace BX := BX.keep k22
  obtain ⟨q0, q1, q2⟩ := fields_cells BX w.heap.size n E F (by simp)
  clear k22
  have hlt22 : w.heap.size < u22.heap.size := BX.lt (p := (w.heap.size, FO n E F)) (by simp)
  replace BX := BX.push (FO (ng b x) (fd b x) (fn b x))
  go_wp2_with fail
  refine ((WJ _).out).mono ?_
  rintro e u23 ⟨rfl, k23⟩
  replace BX := BX.keep k23
  obtain ⟨q0, q1, q2⟩ := fields_cells BX w.heap.size n E F (by simp)
  clear k23
  clear WJ
  go_wp2_with fail
  refine ((WX _).out).mono ?_
  rintro e u24 ⟨rfl, k24⟩
  replace BX := BX.keep k24
  obtain ⟨q0, q1, q2⟩ := fields_cells BX w.heap.size n E F (by simp)
  clear k24
  clear WX
  go_wp2_with fail
  refine ((WS _).out).mono ?_
  rintro e u25 ⟨rfl, k25⟩
  replace BX := BX.keep k25
  obtain ⟨q0, q1, q2⟩ := fields_cells BX w.heap.size n E F (by simp)
  clear k25
  clear WS
  have hlt25 : w.heap.size < u25.heap.size := BX.lt (p := (w.heap.size, FO n E F)) (by simp)
  replace BX := BX.push (FO n E F)
  go_wp2_with fail
  refine (VV _ (hT.below BX.bel (Nat.le_refl _))).out.mono ?_
  rintro e u26 ⟨nv, zs, ex, av, cv, rfl, gv, lv, k26, hv⟩
  replace BX := BX.keep k26
  clear k26 VV
  have hlt26 : w.heap.size < u26.heap.size := BX.lt (p := (w.heap.size, FO n E F)) (by simp)
  replace BX := BX.push (DO nv av zs.length cv ex)
  obtain rfl : zs = [] := by
    rcases hv with ⟨_, h9⟩ | ⟨h9, _, t, _, h10⟩
    · exact h9
    · have h11 := gv.pos h9
      have h12 := Int.mul_pos h11 (p2pos t)
      omega
  obtain ⟨_, rfl, rfl⟩ := gv.nil (by simp)
  clear hv hu gv lv
  go_wp2_with fail
  refine (wOf_zero b av cv _).mono ?_
  rintro e u27 ⟨rfl, k27⟩
  replace BX := BX.keep k27
  obtain ⟨q0, q1, q2⟩ := fields_cells BX w.heap.size n E F (by simp)
  clear k27
  go_wp2_with fail
  refine (wZero b true _).mono ?_
  rintro e u28 ⟨rfl, k28⟩
  replace BX := BX.keep k28
  obtain ⟨q0, q1, q2⟩ := fields_cells BX w.heap.size n E F (by simp)
  clear k28
  rw [show sd b 0 true = sg b by unfold sd; simp]
  go_wp2_with fail
  refine (lKnown _).mono ?_
  rintro e u29 ⟨rfl, k29⟩
  replace BX := BX.keep k29
  obtain ⟨q0, q1, q2⟩ := fields_cells BX w.heap.size n E F (by simp)
  clear k29
  go_wp2
  go_ret
  exact ⟨rfl, BX.bel⟩
set_option maxHeartbeats 2000000 in
theorem back_num1 (b : Bool) (x : Int) (n : Bool) (E F : Int) (h : Ok b x) (hE : 0 ≤ E) (hE1 : E ≤ tp b) (hF0 : 0 ≤ F) (hF : F < fr b) (hf : sz b x < inf b) (hz : sz b x ≠ 0) (w : World) (hT : Tab w) :
    Calls Tryd.prog 17 #[.int .u8 (fm b), .int .u64 x, FV n E F] w fun e w' => e = .returned (.bool true) ∧ Below w.heap.size w w' := by
  have BX := (Bx.nil w).push (FO n E F)
  have d0 : (x == x) = true := by simp
  have hE2 := fd_bd b x
  have hF2 := fn_bd b x
  have WJ := fun w => Hide.mk (wJoin b (ng b x) (fd b x) (fn b x) hE2.1 (fd_tp b x) hF2.1 hF2.2 w)
  rw [join_back h] at WJ
  clear hE2 hF2
  obtain ⟨a1, a2, a3, a4⟩ := apart (n := n) hE hE1 hF0 hF
  have WS := fun w => Hide.mk (wSplit b _ a1 w)
  rw [a2, a3, a4] at WS
  have WX := fun w => Hide.mk (wJoin b n E F hE hE1 hF0 hF w)
  clear a1 a2 a3 a4
  generalize sd b (E * fr b + F) n = y at *
  have hu := un_pos hz
  have dz : (x == sg b) = false := beq_eq_false_iff_ne.2 (fun e => hz (by subst e; cases b <;> decide))
  have VV := fun w hT => Hide.mk (wValueE b x h hf w hT)
  have hfd := fin_fd hf
  clear hz hf
  go_enter Tryd.func17, Tryd.ntmps17
  go_wp2_with fail
  refine (wGood b x h _).mono ?_
  rintro e u30 ⟨rfl, k30⟩
  replace BX := BX.keep k30
  obtain ⟨q0, q1, q2⟩ := fields_cells BX w.heap.size n E F (by simp)
  clear k30
  go_wp2_with fail
  refine (wSplit b x h _).mono ?_
  rintro e u31 ⟨rfl, k31⟩
  replace BX := BX.keep k31
  obtain ⟨q0, q1, q2⟩ := fields_cells BX w.heap.size n E F (by simp)
  clear k31
  have hlt31 : w.heap.size < u31.heap.size := BX.lt (p := (w.heap.size, FO n E F)) (by simp)
  replace BX := BX.push (FO (ng b x) (fd b x) (fn b x))
  go_wp2_with fail
  refine ((WJ _).out).mono ?_
  rintro e u32 ⟨rfl, k32⟩
  replace BX := BX.keep k32
  obtain ⟨q0, q1, q2⟩ := fields_cells BX w.heap.size n E F (by simp)
  clear k32
  clear WJ
  go_wp2_with fail
  refine ((WX _).out).mono ?_
  rintro e u33 ⟨rfl, k33⟩
  replace BX := BX.keep k33
  obtain ⟨q0, q1, q2⟩ := fields_cells BX w.heap.size n E F (by simp)
  clear k33
  clear WX
  go_wp2_with fail
  refine ((WS _).out).mono ?_
  rintro e u34 ⟨rfl, k34⟩
  replace BX := BX.keep k34
  obtain ⟨q0, q1, q2⟩ := fields_cells BX w.heap.size n E F (by simp)
  clear k34
  clear WS
  have hlt34 : w.heap.size < u34.heap.size := BX.lt (p := (w.heap.size, FO n E F)) (by simp)
  replace BX := BX.push (FO n E F)
  go_wp2_with fail
  refine (VV _ (hT.below BX.bel (Nat.le_refl _))).out.mono ?_
  rintro e u35 ⟨nv, zs, ex, av, cv, rfl, gv, lv, k35, hv⟩
  replace BX := BX.keep k35
  clear k35 VV
  have hlt35 : w.heap.size < u35.heap.size := BX.lt (p := (w.heap.size, FO n E F)) (by simp)
  replace BX := BX.push (DO nv av zs.length cv ex)
  obtain ⟨hzl, rfl, t, rfl, hM⟩ : 0 < zs.length ∧ nv = ng b x ∧ ∃ t : Nat, ex = ue b x + t ∧ Nt.val zs * 2 ^ t = un b x := by
    rcases hv with ⟨h9, _⟩ | h9
    · omega
    · exact h9
  clear hv
  obtain ⟨B, hB⟩ := bitLen_ex gv.good.nonneg
  have hb : B ≤ 131072 := by
    rcases hB with ⟨_, rfl⟩ | ⟨_, h9⟩
    · omega
    · have h10 : Nt.val zs < 4294967296 ^ 4096 := gv.good.lt.2
      have := h9.fits (n := 0) (by rw [Int.pow_zero, Int.mul_one]; exact h10)
      omega
  have hU := uu_back hB (gv.pos hzl) hM
  have WO := fun w hl => Hide.mk (wOf_ok b (ng b x) av cv zs (ue b x + t) w hl gv hzl hB hb (by rw [hU]; unfold ue; have := fd_bd b x; have := tp_bd b; have : 1 < tp b := by { cases b <;> decide }; omega) (by rw [hU]; omega) t (by rw [hU]; omega))
  rw [hU, hM, word_back h] at WO
  clear hU hM hB hb gv hu hfd
  have lw := lv.below (below_alloc u35 (DO (ng b x) av zs.length cv (ue b x + t))) (Nat.le_refl _)
  generalize ue b x + (t : Int) = ex at *
  go_wp2_with fail
  refine ((WO _ lw).out).mono ?_
  rintro e u36 ⟨rfl, k36⟩
  replace BX := BX.keep k36
  obtain ⟨q0, q1, q2⟩ := fields_cells BX w.heap.size n E F (by simp)
  clear k36
  clear WO lv lw
  go_wp2_with fail
  refine (wZero b true _).mono ?_
  rintro e u37 ⟨rfl, k37⟩
  replace BX := BX.keep k37
  obtain ⟨q0, q1, q2⟩ := fields_cells BX w.heap.size n E F (by simp)
  clear k37
  rw [show sd b 0 true = sg b by unfold sd; simp]
  go_wp2_with fail
  refine (lKnown _).mono ?_
  rintro e u38 ⟨rfl, k38⟩
  replace BX := BX.keep k38
  obtain ⟨q0, q1, q2⟩ := fields_cells BX w.heap.size n E F (by simp)
  clear k38
  go_wp2
  go_ret
  exact ⟨rfl, BX.bel⟩
set_option maxHeartbeats 2000000 in
theorem back_no0 (b : Bool) (x : Int) (n : Bool) (E F : Int) (h : Ok b x) (hE : ¬ (0 ≤ E ∧ E ≤ tp b ∧ F < fr b)) (hv : inf b ≤ sz b x) (w : World) (hT : Tab w) :
    Calls Tryd.prog 17 #[.int .u8 (fm b), .int .u64 x, FV n E F] w fun e w' => e = .returned (.bool true) ∧ Below w.heap.size w w' := by
  have BX := (Bx.nil w).push (FO n E F)
  have d0 : (x == x) = true := by simp
  have hE2 := fd_bd b x
  have hF2 := fn_bd b x
  have WJ := fun w => Hide.mk (wJoin b (ng b x) (fd b x) (fn b x) hE2.1 (fd_tp b x) hF2.1 hF2.2 w)
  rw [join_back h] at WJ
  clear hE2 hF2
  have WX := fun w => Hide.mk (wJoin_arg b n E F hE w)
  clear hE
  go_enter Tryd.func17, Tryd.ntmps17
  go_wp2_with fail
  refine (wGood b x h _).mono ?_
  rintro e u39 ⟨rfl, k39⟩
  replace BX := BX.keep k39
  obtain ⟨q0, q1, q2⟩ := fields_cells BX w.heap.size n E F (by simp)
  clear k39
  go_wp2_with fail
  refine (wSplit b x h _).mono ?_
  rintro e u40 ⟨rfl, k40⟩
  replace BX := BX.keep k40
  obtain ⟨q0, q1, q2⟩ := fields_cells BX w.heap.size n E F (by simp)
  clear k40
  have hlt40 : w.heap.size < u40.heap.size := BX.lt (p := (w.heap.size, FO n E F)) (by simp)
  replace BX := BX.push (FO (ng b x) (fd b x) (fn b x))
  go_wp2_with fail
  refine ((WJ _).out).mono ?_
  rintro e u41 ⟨rfl, k41⟩
  replace BX := BX.keep k41
  obtain ⟨q0, q1, q2⟩ := fields_cells BX w.heap.size n E F (by simp)
  clear k41
  clear WJ
  go_wp2_with fail
  refine ((WX _).out).mono ?_
  rintro e u42 ⟨rfl, k42⟩
  replace BX := BX.keep k42
  obtain ⟨q0, q1, q2⟩ := fields_cells BX w.heap.size n E F (by simp)
  clear k42
  clear WX
  go_wp2_with fail
  refine (wValue_err (fm b) x 7 (.inr ⟨b, rfl, h, hv, rfl⟩) _).mono ?_
  rintro e u43 ⟨rfl, k43⟩
  replace BX := BX.keep k43
  obtain ⟨q0, q1, q2⟩ := fields_cells BX w.heap.size n E F (by simp)
  clear k43
  clear hv
  have hlt43 : w.heap.size < u43.heap.size := BX.lt (p := (w.heap.size, FO n E F)) (by simp)
  replace BX := BX.push (DO false none 0 0 0)
  go_wp2_with fail
  refine (lKnown _).mono ?_
  rintro e u44 ⟨rfl, k44⟩
  replace BX := BX.keep k44
  obtain ⟨q0, q1, q2⟩ := fields_cells BX w.heap.size n E F (by simp)
  clear k44
  go_wp2
  go_ret
  exact ⟨rfl, BX.bel⟩
set_option maxHeartbeats 2000000 in
theorem back_zero00 (b : Bool) (x : Int) (n : Bool) (E F : Int) (h : Ok b x) (hE : ¬ (0 ≤ E ∧ E ≤ tp b ∧ F < fr b)) (hx : x = 0) (w : World) (hT : Tab w) :
    Calls Tryd.prog 17 #[.int .u8 (fm b), .int .u64 x, FV n E F] w fun e w' => e = .returned (.bool true) ∧ Below w.heap.size w w' := by
  have BX := (Bx.nil w).push (FO n E F)
  subst hx
  have d0 : ((0 : Int) == 0) = true := rfl
  have hE2 := fd_bd b 0
  have hF2 := fn_bd b 0
  have WJ := fun w => Hide.mk (wJoin b (ng b 0) (fd b 0) (fn b 0) hE2.1 (fd_tp b 0) hF2.1 hF2.2 w)
  rw [join_back h] at WJ
  clear hE2 hF2
  have WX := fun w => Hide.mk (wJoin_arg b n E F hE w)
  clear hE
  have hf : sz b 0 < inf b := by cases b <;> decide
  have hu : un b 0 = 0 := by cases b <;> decide
  have dz : ((0 : Int) == sg b) = false := by cases b <;> decide
  have VV := fun w hT => Hide.mk (wValueE b 0 h hf w hT)
  clear hf
  go_enter Tryd.func17, Tryd.ntmps17
  go_wp2_with fail
  refine (wGood b 0 h _).mono ?_
  rintro e u45 ⟨rfl, k45⟩
  replace BX := BX.keep k45
  obtain ⟨q0, q1, q2⟩ := fields_cells BX w.heap.size n E F (by simp)
  clear k45
  go_wp2_with fail
  refine (wSplit b 0 h _).mono ?_
  rintro e u46 ⟨rfl, k46⟩
  replace BX := BX.keep k46
  obtain ⟨q0, q1, q2⟩ := fields_cells BX w.heap.size n E F (by simp)
  clear k46
  have hlt46 : w.heap.size < u46.heap.size := BX.lt (p := (w.heap.size, FO n E F)) (by simp)
  replace BX := BX.push (FO (ng b 0) (fd b 0) (fn b 0))
  go_wp2_with fail
  refine ((WJ _).out).mono ?_
  rintro e u47 ⟨rfl, k47⟩
  replace BX := BX.keep k47
  obtain ⟨q0, q1, q2⟩ := fields_cells BX w.heap.size n E F (by simp)
  clear k47
  clear WJ
  go_wp2_with fail
  refine ((WX _).out).mono ?_
  rintro e u48 ⟨rfl, k48⟩
  replace BX := BX.keep k48
  obtain ⟨q0, q1, q2⟩ := fields_cells BX w.heap.size n E F (by simp)
  clear k48
  clear WX
  go_wp2_with fail
  refine (VV _ (hT.below BX.bel (Nat.le_refl _))).out.mono ?_
  rintro e u49 ⟨nv, zs, ex, av, cv, rfl, gv, lv, k49, hv⟩
  replace BX := BX.keep k49
  clear k49 VV
  have hlt49 : w.heap.size < u49.heap.size := BX.lt (p := (w.heap.size, FO n E F)) (by simp)
  replace BX := BX.push (DO nv av zs.length cv ex)
  obtain rfl : zs = [] := by
    rcases hv with ⟨_, h9⟩ | ⟨h9, _, t, _, h10⟩
    · exact h9
    · have h11 := gv.pos h9
      have h12 := Int.mul_pos h11 (p2pos t)
      omega
  obtain ⟨_, rfl, rfl⟩ := gv.nil (by simp)
  clear hv hu gv lv
  go_wp2_with fail
  refine (wOf_zero b av cv _).mono ?_
  rintro e u50 ⟨rfl, k50⟩
  replace BX := BX.keep k50
  obtain ⟨q0, q1, q2⟩ := fields_cells BX w.heap.size n E F (by simp)
  clear k50
  go_wp2_with fail
  refine (wZero b true _).mono ?_
  rintro e u51 ⟨rfl, k51⟩
  replace BX := BX.keep k51
  obtain ⟨q0, q1, q2⟩ := fields_cells BX w.heap.size n E F (by simp)
  clear k51
  rw [show sd b 0 true = sg b by unfold sd; simp]
  go_wp2_with fail
  refine (lKnown _).mono ?_
  rintro e u52 ⟨rfl, k52⟩
  replace BX := BX.keep k52
  obtain ⟨q0, q1, q2⟩ := fields_cells BX w.heap.size n E F (by simp)
  clear k52
  go_wp2
  go_ret
  exact ⟨rfl, BX.bel⟩
set_option maxHeartbeats 2000000 in
theorem back_zeroS0 (b : Bool) (x : Int) (n : Bool) (E F : Int) (h : Ok b x) (hE : ¬ (0 ≤ E ∧ E ≤ tp b ∧ F < fr b)) (hx : x = sg b) (w : World) (hT : Tab w) :
    Calls Tryd.prog 17 #[.int .u8 (fm b), .int .u64 x, FV n E F] w fun e w' => e = .returned (.bool true) ∧ Below w.heap.size w w' := by
  have BX := (Bx.nil w).push (FO n E F)
  have d0 : (x == x) = true := by simp
  have hE2 := fd_bd b x
  have hF2 := fn_bd b x
  have WJ := fun w => Hide.mk (wJoin b (ng b x) (fd b x) (fn b x) hE2.1 (fd_tp b x) hF2.1 hF2.2 w)
  rw [join_back h] at WJ
  clear hE2 hF2
  have WX := fun w => Hide.mk (wJoin_arg b n E F hE w)
  clear hE
  have hf : sz b x < inf b := by subst hx; cases b <;> decide
  have hu : un b x = 0 := by subst hx; cases b <;> decide
  have dz : (x == sg b) = true := by simp [hx]
  have VV := fun w hT => Hide.mk (wValueE b x h hf w hT)
  clear hf hx
  go_enter Tryd.func17, Tryd.ntmps17
  go_wp2_with fail
  refine (wGood b x h _).mono ?_
  rintro e u53 ⟨rfl, k53⟩
  replace BX := BX.keep k53
  obtain ⟨q0, q1, q2⟩ := fields_cells BX w.heap.size n E F (by simp)
  clear k53
  go_wp2_with fail
  refine (wSplit b x h _).mono ?_
  rintro e u54 ⟨rfl, k54⟩
  replace BX := BX.keep k54
  obtain ⟨q0, q1, q2⟩ := fields_cells BX w.heap.size n E F (by simp)
  clear k54
  have hlt54 : w.heap.size < u54.heap.size := BX.lt (p := (w.heap.size, FO n E F)) (by simp)
  replace BX := BX.push (FO (ng b x) (fd b x) (fn b x))
  go_wp2_with fail
  refine ((WJ _).out).mono ?_
  rintro e u55 ⟨rfl, k55⟩
  replace BX := BX.keep k55
  obtain ⟨q0, q1, q2⟩ := fields_cells BX w.heap.size n E F (by simp)
  clear k55
  clear WJ
  go_wp2_with fail
  refine ((WX _).out).mono ?_
  rintro e u56 ⟨rfl, k56⟩
  replace BX := BX.keep k56
  obtain ⟨q0, q1, q2⟩ := fields_cells BX w.heap.size n E F (by simp)
  clear k56
  clear WX
  go_wp2_with fail
  refine (VV _ (hT.below BX.bel (Nat.le_refl _))).out.mono ?_
  rintro e u57 ⟨nv, zs, ex, av, cv, rfl, gv, lv, k57, hv⟩
  replace BX := BX.keep k57
  clear k57 VV
  have hlt57 : w.heap.size < u57.heap.size := BX.lt (p := (w.heap.size, FO n E F)) (by simp)
  replace BX := BX.push (DO nv av zs.length cv ex)
  obtain rfl : zs = [] := by
    rcases hv with ⟨_, h9⟩ | ⟨h9, _, t, _, h10⟩
    · exact h9
    · have h11 := gv.pos h9
      have h12 := Int.mul_pos h11 (p2pos t)
      omega
  obtain ⟨_, rfl, rfl⟩ := gv.nil (by simp)
  clear hv hu gv lv
  go_wp2_with fail
  refine (wOf_zero b av cv _).mono ?_
  rintro e u58 ⟨rfl, k58⟩
  replace BX := BX.keep k58
  obtain ⟨q0, q1, q2⟩ := fields_cells BX w.heap.size n E F (by simp)
  clear k58
  go_wp2_with fail
  refine (wZero b true _).mono ?_
  rintro e u59 ⟨rfl, k59⟩
  replace BX := BX.keep k59
  obtain ⟨q0, q1, q2⟩ := fields_cells BX w.heap.size n E F (by simp)
  clear k59
  rw [show sd b 0 true = sg b by unfold sd; simp]
  go_wp2_with fail
  refine (lKnown _).mono ?_
  rintro e u60 ⟨rfl, k60⟩
  replace BX := BX.keep k60
  obtain ⟨q0, q1, q2⟩ := fields_cells BX w.heap.size n E F (by simp)
  clear k60
  go_wp2
  go_ret
  exact ⟨rfl, BX.bel⟩
set_option maxHeartbeats 2000000 in
theorem back_num0 (b : Bool) (x : Int) (n : Bool) (E F : Int) (h : Ok b x) (hE : ¬ (0 ≤ E ∧ E ≤ tp b ∧ F < fr b)) (hf : sz b x < inf b) (hz : sz b x ≠ 0) (w : World) (hT : Tab w) :
    Calls Tryd.prog 17 #[.int .u8 (fm b), .int .u64 x, FV n E F] w fun e w' => e = .returned (.bool true) ∧ Below w.heap.size w w' := by
  have BX := (Bx.nil w).push (FO n E F)
  have d0 : (x == x) = true := by simp
  have hE2 := fd_bd b x
  have hF2 := fn_bd b x
  have WJ := fun w => Hide.mk (wJoin b (ng b x) (fd b x) (fn b x) hE2.1 (fd_tp b x) hF2.1 hF2.2 w)
  rw [join_back h] at WJ
  clear hE2 hF2
  have WX := fun w => Hide.mk (wJoin_arg b n E F hE w)
  clear hE
  have hu := un_pos hz
  have dz : (x == sg b) = false := beq_eq_false_iff_ne.2 (fun e => hz (by subst e; cases b <;> decide))
  have VV := fun w hT => Hide.mk (wValueE b x h hf w hT)
  have hfd := fin_fd hf
  clear hz hf
  go_enter Tryd.func17, Tryd.ntmps17
  go_wp2_with fail
  refine (wGood b x h _).mono ?_
  rintro e u61 ⟨rfl, k61⟩
  replace BX := BX.keep k61
  obtain ⟨q0, q1, q2⟩ := fields_cells BX w.heap.size n E F (by simp)
  clear k61
  go_wp2_with fail
  refine (wSplit b x h _).mono ?_
  rintro e u62 ⟨rfl, k62⟩
  replace BX := BX.keep k62
  obtain ⟨q0, q1, q2⟩ := fields_cells BX w.heap.size n E F (by simp)
  clear k62
  have hlt62 : w.heap.size < u62.heap.size := BX.lt (p := (w.heap.size, FO n E F)) (by simp)
  replace BX := BX.push (FO (ng b x) (fd b x) (fn b x))
  go_wp2_with fail
  refine ((WJ _).out).mono ?_
  rintro e u63 ⟨rfl, k63⟩
  replace BX := BX.keep k63
  obtain ⟨q0, q1, q2⟩ := fields_cells BX w.heap.size n E F (by simp)
  clear k63
  clear WJ
  go_wp2_with fail
  refine ((WX _).out).mono ?_
  rintro e u64 ⟨rfl, k64⟩
  replace BX := BX.keep k64
  obtain ⟨q0, q1, q2⟩ := fields_cells BX w.heap.size n E F (by simp)
  clear k64
  clear WX
  go_wp2_with fail
  refine (VV _ (hT.below BX.bel (Nat.le_refl _))).out.mono ?_
  rintro e u65 ⟨nv, zs, ex, av, cv, rfl, gv, lv, k65, hv⟩
  replace BX := BX.keep k65
  clear k65 VV
  have hlt65 : w.heap.size < u65.heap.size := BX.lt (p := (w.heap.size, FO n E F)) (by simp)
  replace BX := BX.push (DO nv av zs.length cv ex)
  obtain ⟨hzl, rfl, t, rfl, hM⟩ : 0 < zs.length ∧ nv = ng b x ∧ ∃ t : Nat, ex = ue b x + t ∧ Nt.val zs * 2 ^ t = un b x := by
    rcases hv with ⟨h9, _⟩ | h9
    · omega
    · exact h9
  clear hv
  obtain ⟨B, hB⟩ := bitLen_ex gv.good.nonneg
  have hb : B ≤ 131072 := by
    rcases hB with ⟨_, rfl⟩ | ⟨_, h9⟩
    · omega
    · have h10 : Nt.val zs < 4294967296 ^ 4096 := gv.good.lt.2
      have := h9.fits (n := 0) (by rw [Int.pow_zero, Int.mul_one]; exact h10)
      omega
  have hU := uu_back hB (gv.pos hzl) hM
  have WO := fun w hl => Hide.mk (wOf_ok b (ng b x) av cv zs (ue b x + t) w hl gv hzl hB hb (by rw [hU]; unfold ue; have := fd_bd b x; have := tp_bd b; have : 1 < tp b := by { cases b <;> decide }; omega) (by rw [hU]; omega) t (by rw [hU]; omega))
  rw [hU, hM, word_back h] at WO
  clear hU hM hB hb gv hu hfd
  have lw := lv.below (below_alloc u65 (DO (ng b x) av zs.length cv (ue b x + t))) (Nat.le_refl _)
  generalize ue b x + (t : Int) = ex at *
  go_wp2_with fail
  refine ((WO _ lw).out).mono ?_
  rintro e u66 ⟨rfl, k66⟩
  replace BX := BX.keep k66
  obtain ⟨q0, q1, q2⟩ := fields_cells BX w.heap.size n E F (by simp)
  clear k66
  clear WO lv lw
  go_wp2_with fail
  refine (wZero b true _).mono ?_
  rintro e u67 ⟨rfl, k67⟩
  replace BX := BX.keep k67
  obtain ⟨q0, q1, q2⟩ := fields_cells BX w.heap.size n E F (by simp)
  clear k67
  rw [show sd b 0 true = sg b by unfold sd; simp]
  go_wp2_with fail
  refine (lKnown _).mono ?_
  rintro e u68 ⟨rfl, k68⟩
  replace BX := BX.keep k68
  obtain ⟨q0, q1, q2⟩ := fields_cells BX w.heap.size n E F (by simp)
  clear k68
  go_wp2
  go_ret
  exact ⟨rfl, BX.bel⟩
theorem back_any (f x : Int) (n : Bool) (E F : Int) (hx0 : 0 ≤ x) (hx : x < 18446744073709551616) (hF : 0 ≤ F) (w : World) (hT : Tab w) :
    Calls Tryd.prog 17 #[.int .u8 f, .int .u64 x, FV n E F] w fun e w' => e = .returned (.bool true) ∧ Below w.heap.size w w' := by
  by_cases hf : Bad f
  · exact back_bad4 f x n E F (.inl ⟨hf, rfl⟩) w hT
  · obtain ⟨b, rfl⟩ : ∃ b, f = fm b := by
      by_cases h1 : f = 1
      · exact ⟨false, h1⟩
      · by_cases h2 : f = 2
        · exact ⟨true, h2⟩
        · exact absurd ⟨h1, h2⟩ hf
    by_cases c : x < 2 * sg b
    · have h : Ok b x := ⟨hx0, c⟩
      have key : inf b ≤ sz b x ∨ x = 0 ∨ x = sg b ∨ (sz b x < inf b ∧ sz b x ≠ 0) := by
        by_cases c1 : inf b ≤ sz b x
        · exact .inl c1
        · by_cases c2 : sz b x = 0
          · by_cases c3 : sg b ≤ x
            · rw [sz_neg h c3] at c2; exact .inr (.inr (.inl (by omega)))
            · rw [sz_pos h c3] at c2; exact .inr (.inl c2)
          · exact .inr (.inr (.inr ⟨by omega, c2⟩))
      by_cases k : 0 ≤ E ∧ E ≤ tp b ∧ F < fr b
      · rcases key with c1 | c1 | c1 | c1
        · exact back_no1 b x n E F h k.1 k.2.1 hF k.2.2 c1 w hT
        · exact back_zero01 b x n E F h k.1 k.2.1 hF k.2.2 c1 w hT
        · exact back_zeroS1 b x n E F h k.1 k.2.1 hF k.2.2 c1 w hT
        · exact back_num1 b x n E F h k.1 k.2.1 hF k.2.2 c1.1 c1.2 w hT
      · rcases key with c1 | c1 | c1 | c1
        · exact back_no0 b x n E F h k c1 w hT
        · exact back_zero00 b x n E F h k c1 w hT
        · exact back_zeroS0 b x n E F h k c1 w hT
        · exact back_num0 b x n E F h k c1.1 c1.2 w hT
    · exact back_bad6 (fm b) x n E F (.inr ⟨b, rfl, by omega, rfl⟩) w hT
end Go.Proofs.YtioiakemmhfhkaaDoor
