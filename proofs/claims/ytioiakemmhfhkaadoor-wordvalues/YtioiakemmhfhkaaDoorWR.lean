import Derived.Test.YtioiakemmhfhkaaDoorWF
import Derived.Test.YtioiakemmhfhkaaDoorWC
namespace Go.Proofs.YtioiakemmhfhkaaDoor
open Go.RowKit Go.Wd Go.Box
set_option linter.unusedVariables false
set_option maxRecDepth 3000
theorem rFrac (b : Bool) (w : World) :
    Calls Tryd.prog 145 #[.int .u8 (fm b)] w fun e w' => e = .returned (.int .i64 (fc b)) ∧ Below w.heap.size w w' := by
  cases b
  · rw [show fm false = 1 from rfl]
    go_enter Tryd.func145, Tryd.ntmps145
    go_wp2
    go_ret
    exact ⟨rfl, Below.refl _ _⟩
  · rw [show fm true = 2 from rfl]
    go_enter Tryd.func145, Tryd.ntmps145
    go_wp2
    go_ret
    exact ⟨rfl, Below.refl _ _⟩
theorem rMost (b : Bool) (w : World) :
    Calls Tryd.prog 177 #[.int .u8 (fm b)] w fun e w' => e = .returned (.int .i64 (tp b)) ∧ Below w.heap.size w w' := by
  cases b
  · rw [show fm false = 1 from rfl]
    go_enter Tryd.func177, Tryd.ntmps177
    go_wp2
    go_ret
    exact ⟨rfl, Below.refl _ _⟩
  · rw [show fm true = 2 from rfl]
    go_enter Tryd.func177, Tryd.ntmps177
    go_wp2
    go_ret
    exact ⟨rfl, Below.refl _ _⟩
theorem rSign (b : Bool) (w : World) :
    Calls Tryd.prog 178 #[.int .u8 (fm b)] w fun e w' => e = .returned (.int .u64 (sg b)) ∧ Below w.heap.size w w' := by
  cases b
  · rw [show fm false = 1 from rfl]
    go_enter Tryd.func178, Tryd.ntmps178
    go_wp2
    go_ret
    exact ⟨rfl, Below.refl _ _⟩
  · rw [show fm true = 2 from rfl]
    go_enter Tryd.func178, Tryd.ntmps178
    go_wp2
    go_ret
    exact ⟨rfl, Below.refl _ _⟩
theorem rIs (b : Bool) (w : World) :
    Calls Tryd.prog 88 #[.int .u8 (fm b)] w fun e w' => e = .returned (.bool true) ∧ Below w.heap.size w w' := by
  cases b
  · rw [show fm false = 1 from rfl]
    go_enter Tryd.func88, Tryd.ntmps88
    go_wp2
    go_ret
    exact ⟨rfl, Below.refl _ _⟩
  · rw [show fm true = 2 from rfl]
    go_enter Tryd.func88, Tryd.ntmps88
    go_wp2
    go_ret
    exact ⟨rfl, Below.refl _ _⟩
theorem rIs_bad (f : Int) (h : Bad f) (w : World) :
    Calls Tryd.prog 88 #[.int .u8 f] w fun e w' => e = .returned (.bool false) ∧ Below w.heap.size w w' := by
  have h1 : (f == 1) = false := beq_eq_false_iff_ne.2 h.1
  have h2 : (f == 2) = false := beq_eq_false_iff_ne.2 h.2
  go_enter Tryd.func88, Tryd.ntmps88
  go_wp2
  go_ret
  exact ⟨rfl, Below.refl _ _⟩
theorem rGood (b : Bool) (x : Int) (h : Ok b x) (w : World) :
    Calls Tryd.prog 81 #[.int .u8 (fm b), .int .u64 x] w fun e w' => e = .returned (.int .i64 0) ∧ Below w.heap.size w w' := by
  have h0 := h.1
  have h1 := h.2
  cases b
  · rw [show fm false = 1 from rfl]
    have h2 : x < 4294967296 := h1
    go_enter Tryd.func81, Tryd.ntmps81
    go_wp2
    go_ret
    exact ⟨rfl, Below.refl _ _⟩
  · rw [show fm true = 2 from rfl]
    go_enter Tryd.func81, Tryd.ntmps81
    go_wp2
    go_ret
    exact ⟨rfl, Below.refl _ _⟩
theorem u64_long {b : Bool} {x : Int} (h : 2 * sg b ≤ x) (hx : x < 18446744073709551616) : b = false ∧ 4294967296 ≤ x := by
  cases b <;> simp only [sg] at h
  · exact ⟨rfl, by omega⟩
  · omega
theorem rGood_err (f x c : Int) (h : GE f x c) (hx : x < 18446744073709551616) (w : World) :
    Calls Tryd.prog 81 #[.int .u8 f, .int .u64 x] w fun e w' => e = .returned (.int .i64 c) ∧ Below w.heap.size w w' := by
  rcases h with ⟨h, rfl⟩ | ⟨b, rfl, h, rfl⟩
  · have h1 : (f == 1) = false := beq_eq_false_iff_ne.2 h.1
    have h2 : (f == 2) = false := beq_eq_false_iff_ne.2 h.2
    go_enter Tryd.func81, Tryd.ntmps81
    go_wp2
    go_ret
    exact ⟨rfl, Below.refl _ _⟩
  · obtain ⟨rfl, h3⟩ := u64_long h hx
    rw [show fm false = 1 from rfl]
    go_enter Tryd.func81, Tryd.ntmps81
    go_wp2
    go_ret
    exact ⟨rfl, Below.refl _ _⟩
theorem fn_sz32 (x : Int) : x % 2147483648 % 8388608 = fn false x := by show _ = x % _; simp only [fr]; omega
theorem fn_sz64 (x : Int) : x % 9223372036854775808 % 4503599627370496 = fn true x := by show _ = x % _; simp only [fr]; omega
theorem rSplit (b : Bool) (x : Int) (h : Ok b x) (w : World) :
    Calls Tryd.prog 143 #[.int .u8 (fm b), .int .u64 x] w fun e w' => e = .returned (FV (ng b x) (fd b x) (fn b x)) ∧ Below w.heap.size w w' := by
  have h0 := h.1
  have h1 := h.2
  cases b
  · rw [show fm false = 1 from rfl]
    simp only [sg] at h1
    have B2 := ((Bx.nil w).push (FO (decide (2147483648 ≤ x)) (x % 2147483648 / 8388608) (x % 8388608))).push (FO (decide (2147483648 ≤ x)) (x % 2147483648 / 8388608) (x % 8388608))
    go_enter Tryd.func143, Tryd.ntmps143
    go_wp2
    refine bodyPost_ret (results_F1 rfl _ _ w.heap.size _ rfl B2.tail.head rfl) rfl ?_
    exact ⟨rfl, B2.bel⟩
  · rw [show fm true = 2 from rfl]
    simp only [sg] at h1
    have B2 := ((Bx.nil w).push (FO (decide (9223372036854775808 ≤ x)) (x % 9223372036854775808 / 4503599627370496) (x % 4503599627370496))).push (FO (decide (9223372036854775808 ≤ x)) (x % 9223372036854775808 / 4503599627370496) (x % 4503599627370496))
    go_enter Tryd.func143, Tryd.ntmps143
    go_wp2
    refine bodyPost_ret (results_F1 rfl _ _ w.heap.size _ rfl B2.tail.head rfl) rfl ?_
    exact ⟨rfl, B2.bel⟩
theorem cl_1 (b : Bool) (x : Int) : sz b x = 0 ↔ fd b x = 0 ∧ fn b x = 0 := by
  cases b <;> simp only [sz, fd, fn, sg, fr] <;> omega
theorem cl_2 (b : Bool) (x : Int) : sz b x < fr b ↔ fd b x = 0 := by
  have := sz_bd b x
  cases b <;> simp only [sz, fd, sg, fr] at * <;> omega
theorem cl_3 (b : Bool) (x : Int) : sz b x < inf b ↔ fd b x < tp b := by
  have := sz_bd b x
  cases b <;> simp only [sz, fd, sg, fr, inf, tp] at * <;> omega
theorem cl_4 (b : Bool) (x : Int) (h : ¬ fd b x < tp b) : sz b x = inf b ↔ fn b x = 0 := by
  have := sz_bd b x
  cases b <;> simp only [sz, fd, fn, sg, fr, inf, tp] at * <;> omega
theorem cl_5 (b : Bool) (x : Int) : cl b x = 5 ↔ inf b < sz b x := by
  have h1 := cl_2 b x
  have := sz_bd b x
  have hi : fr b ≤ inf b := by cases b <;> decide
  have hf := fr_pos b
  unfold cl
  by_cases c1 : sz b x = 0
  · rw [if_pos c1]; omega
  · rw [if_neg c1]
    by_cases c2 : sz b x < fr b
    · rw [if_pos c2]; omega
    · rw [if_neg c2]
      by_cases c3 : sz b x < inf b
      · rw [if_pos c3]; omega
      · rw [if_neg c3]
        by_cases c4 : sz b x = inf b
        · rw [if_pos c4]; omega
        · rw [if_neg c4]; omega
set_option maxHeartbeats 1000000 in
theorem rClass (b : Bool) (x : Int) (h : Ok b x) (w : World) :
    Calls Tryd.prog 142 #[.int .u8 (fm b), .int .u64 x] w fun e w' => e = .returned (.int .u8 (cl b x)) ∧ Below w.heap.size w w' := by
  have k1 := cl_1 b x
  have k2 := cl_2 b x
  have k3 := cl_3 b x
  have k4 := cl_4 b x
  have HF := Hide.mk (fd_bd b x)
  have HC : Hide (cl b x = if fd b x = 0 ∧ fn b x = 0 then 1 else if fd b x = 0 then 2 else if fd b x < tp b then 3 else if fn b x = 0 then 4 else 5) := ⟨by
    unfold cl
    by_cases c1 : sz b x = 0
    · rw [if_pos c1, if_pos (k1.1 c1)]
    · rw [if_neg c1, if_neg (fun hh => c1 (k1.2 hh))]
      by_cases c2 : sz b x < fr b
      · rw [if_pos c2, if_pos (k2.1 c2)]
      · rw [if_neg c2, if_neg (fun hh => c2 (k2.2 hh))]
        by_cases c3 : sz b x < inf b
        · rw [if_pos c3, if_pos (k3.1 c3)]
        · rw [if_neg c3, if_neg (fun hh => c3 (k3.2 hh))]
          have k5 := k4 (fun hh => c3 (k3.2 hh))
          by_cases c4 : sz b x = inf b
          · rw [if_pos c4, if_pos (k5.1 c4)]
          · rw [if_neg c4, if_neg (fun hh => c4 (k5.2 hh))]⟩
  clear k1 k2 k3 k4
  have HS := Hide.mk (rSplit b x h w)
  clear h
  generalize ng b x = n at *
  generalize fd b x = E at *
  generalize fn b x = F at *
  generalize cl b x = C at *
  go_enter Tryd.func142, Tryd.ntmps142
  go_wp2_with fail
  refine HS.out.mono ?_
  rintro e w2 ⟨rfl, h2⟩
  have B2 := ((Bx.nil w).keep h2).push (FO n E F)
  clear h2 HS
  by_cases c1 : E = 0
  · have d1 : (E == 0) = true := by simp [c1]
    by_cases c2 : F = 0
    · have d2 : (F == 0) = true := by simp [c2]
      have HD : Hide (C = 1) := ⟨by rw [HC.out, if_pos ⟨c1, c2⟩]⟩
      clear c1 c2 HC HF
      go_wp2
      go_ret
      exact ⟨by rw [HD.out]; rfl, B2.bel⟩
    · have d2 : (F == 0) = false := beq_eq_false_iff_ne.2 c2
      have HD : Hide (C = 2) := ⟨by rw [HC.out, if_neg (fun hh => c2 hh.2), if_pos c1]⟩
      clear c1 c2 HC HF
      go_wp2
      go_ret
      exact ⟨by rw [HD.out]; rfl, B2.bel⟩
  · have d1 : (E == 0) = false := beq_eq_false_iff_ne.2 c1
    go_wp2_with fail
    generalize hw3 : w2.alloc (FO n E F) = w3 at *
    clear hw3
    have HI := B2.drew
    have sh := fun W (hW : Bx w [(w2.heap.size, FO n E F)] W) => fields_cells hW w2.heap.size n E F (.head _)
    refine Drawn.enter (Bx w [(w2.heap.size, FO n E F)]) (by kernel_rfl) ?_
    refine Drawn.take (i := 0) (v := ?v0) rfl (by kernel_rfl) (by kernel_rfl) (by kernel_rfl) (fun _ _ _ h => h) (by kernel_rfl) (fun W hW => ?_) HI ?_
    rotate_left
    · have ⟨q0, q1, q2⟩ := sh W hW
      go_simp <;> exact rfl
    refine Drawn.take (i := 1) (v := ?v1) rfl (by kernel_rfl) (by kernel_rfl) (by kernel_rfl) (fun _ _ _ h => h) (by kernel_rfl) (fun W hW => ?_) HI ?_
    rotate_left
    · have ⟨q0, q1, q2⟩ := sh W hW
      go_simp <;> exact rfl
    refine Drawn.take (i := 2) (v := ?v2) rfl (by kernel_rfl) (by kernel_rfl) (by kernel_rfl) (fun _ _ _ h => h) (by kernel_rfl) (fun W hW => ?_) HI ?_
    rotate_left
    · have ⟨q0, q1, q2⟩ := sh W hW
      go_simp <;> exact rfl
    refine Drawn.one (j := 3) (by kernel_rfl) rfl (fun K hK => ?_)
    go_simp
    refine (rMost b _).mono ?_
    rintro e wn ⟨rfl, hn⟩
    refine hK _ _ (HI.keep hn) ?_
    clear hK K
    replace HI := HI.keep hn
    clear hn
    by_cases c2 : E < tp b
    · have HD : Hide (C = 3) := ⟨by rw [HC.out, if_neg (fun hh => c1 hh.1), if_neg c1, if_pos c2]⟩
      refine Drawn.take (i := 4) (v := .bool true) rfl (by kernel_rfl) (by kernel_rfl) (by kernel_rfl) (fun _ _ _ h => h) (by kernel_rfl) (fun W hW => ?_) HI ?_
      · have ⟨q0, q1, q2⟩ := sh W hW
        go_simp <;> (simp [c2])
      refine Drawn.done (by kernel_rfl) ?_
      try go_simp
      clear sh c1 c2 HC HF
      go_wp2
      go_ret
      exact ⟨by rw [HD.out]; rfl, HI.bel⟩
    · refine Drawn.take (i := 4) (v := .bool false) rfl (by kernel_rfl) (by kernel_rfl) (by kernel_rfl) (fun _ _ _ h => h) (by kernel_rfl) (fun W hW => ?_) HI ?_
      · have ⟨q0, q1, q2⟩ := sh W hW
        go_simp <;> (first | omega | (simp; omega))
      refine Drawn.done (by kernel_rfl) ?_
      try go_simp
      obtain ⟨q0, q1, q2⟩ := sh _ HI
      clear sh
      by_cases c3 : F = 0
      · have HD : Hide (C = 4) := ⟨by rw [HC.out, if_neg (fun hh => c1 hh.1), if_neg c1, if_neg c2, if_pos c3]⟩
        have d3 : (F == 0) = true := by simp [c3]
        clear c1 c2 c3 HC HF
        go_wp2
        go_ret
        exact ⟨by rw [HD.out]; rfl, HI.bel⟩
      · have HD : Hide (C = 5) := ⟨by rw [HC.out, if_neg (fun hh => c1 hh.1), if_neg c1, if_neg c2, if_neg c3]⟩
        have d3 : (F == 0) = false := beq_eq_false_iff_ne.2 c3
        clear c1 c2 c3 HC HF
        go_wp2
        go_ret
        exact ⟨by rw [HD.out]; rfl, HI.bel⟩
set_option maxHeartbeats 1000000 in
theorem rJoin (b n : Bool) (E F : Int) (hE : 0 ≤ E) (hE1 : E ≤ tp b) (hF0 : 0 ≤ F) (hF : F < fr b) (w : World) :
    Calls Tryd.prog 150 #[.int .u8 (fm b), FV n E F] w fun e w' => e = .returned (.int .u64 (sd b (E * fr b + F) n)) ∧ Below w.heap.size w w' := by
  have B1 := (Bx.nil w).push (FO n E F)
  obtain ⟨k1, k2, k3, k4⟩ := fields_lt b hE hE1 hF0 hF
  have hsl := sg_le b
  go_enter Tryd.func150, Tryd.ntmps150
  go_wp2_with fail
  generalize hw1 : w.alloc (FO n E F) = w1 at *
  clear hw1
  have HI := B1.drew
  have sh := fun W (hW : Bx w [(w.heap.size, FO n E F)] W) => fields_cells hW w.heap.size n E F (.head _)
  refine Drawn.enter (Bx w [(w.heap.size, FO n E F)]) (by kernel_rfl) ?_
  refine Drawn.take (i := 0) (v := ?v46) rfl (by kernel_rfl) (by kernel_rfl) (by kernel_rfl) (fun _ _ _ h => h) (by kernel_rfl) (fun W hW => ?_) HI ?_
  rotate_left
  · have ⟨q0, q1, q2⟩ := sh W hW
    go_simp <;> exact rfl
  refine Drawn.take (i := 1) (v := ?v47) rfl (by kernel_rfl) (by kernel_rfl) (by kernel_rfl) (fun _ _ _ h => h) (by kernel_rfl) (fun W hW => ?_) HI ?_
  rotate_left
  · have ⟨q0, q1, q2⟩ := sh W hW
    go_simp <;> exact rfl
  refine Drawn.take (i := 2) (v := .int .u64 E) rfl (by kernel_rfl) (by kernel_rfl) (by kernel_rfl) (fun _ _ _ h => h) (by kernel_rfl) (fun W hW => ?_) HI ?_
  · have ⟨q0, q1, q2⟩ := sh W hW
    go_simp <;> (rw [IntKind.wrap_u64]; have := tp_bd b; omega)
  refine Drawn.take (i := 3) (v := ?v48) rfl (by kernel_rfl) (by kernel_rfl) (by kernel_rfl) (fun _ _ _ h => h) (by kernel_rfl) (fun W hW => ?_) HI ?_
  rotate_left
  · have ⟨q0, q1, q2⟩ := sh W hW
    go_simp <;> exact rfl
  refine Drawn.take (i := 6) (v := ?v49) rfl (by kernel_rfl) (by kernel_rfl) (by kernel_rfl) (fun _ _ _ h => h) (by kernel_rfl) (fun W hW => ?_) HI ?_
  rotate_left
  · have ⟨q0, q1, q2⟩ := sh W hW
    go_simp <;> exact rfl
  refine Drawn.take (i := 7) (v := ?v50) rfl (by kernel_rfl) (by kernel_rfl) (by kernel_rfl) (fun _ _ _ h => h) (by kernel_rfl) (fun W hW => ?_) HI ?_
  rotate_left
  · have ⟨q0, q1, q2⟩ := sh W hW
    go_simp <;> exact rfl
  refine Drawn.one (j := 4) (by kernel_rfl) rfl (fun K hK => ?_)
  go_simp
  refine (rFrac b _).mono ?_
  rintro e wn ⟨rfl, hn⟩
  refine hK _ _ (HI.keep hn) ?_
  clear hK K
  replace HI := HI.keep hn
  clear hn
  refine Drawn.take (i := 5) (v := .int .u64 (E * fr b)) rfl (by kernel_rfl) (by kernel_rfl) (by kernel_rfl) (fun _ _ _ h => h) (by kernel_rfl) (fun W hW => ?_) HI ?_
  · have ⟨q0, q1, q2⟩ := sh W hW
    go_simp <;> (rw [shl_fc, Int.emod_eq_of_lt k4 k3]; rfl)
  refine Drawn.take (i := 8) (v := .int .u64 (E * fr b + F)) rfl (by kernel_rfl) (by kernel_rfl) (by kernel_rfl) (fun _ _ _ h => h) (by kernel_rfl) (fun W hW => ?_) HI ?_
  · have ⟨q0, q1, q2⟩ := sh W hW
    go_simp <;> (rw [IntKind.wrap_u64]; omega)
  refine Drawn.take (i := 9) (v := ?v51) rfl (by kernel_rfl) (by kernel_rfl) (by kernel_rfl) (fun _ _ _ h => h) (by kernel_rfl) (fun W hW => ?_) HI ?_
  rotate_left
  · have ⟨q0, q1, q2⟩ := sh W hW
    go_simp <;> exact rfl
  refine Drawn.done (by kernel_rfl) ?_
  try go_simp
  obtain ⟨q0, q1, q2⟩ := sh _ HI
  clear sh
  cases n
  · go_wp2
    go_ret
    exact ⟨rfl, HI.bel⟩
  · go_wp2_with fail
    refine (rSign b _).mono ?_
    rintro e w3 ⟨rfl, h3⟩
    have B3 := HI.keep h3
    have hsum : E * fr b + F + sg b < 18446744073709551616 := by omega
    have hsg := sg_pos b
    clear h3 HI q0 q1 q2 hE hE1 hF0 hF
    go_wp2
    go_ret
    refine ⟨?_, B3.bel⟩
    unfold sd
    rw [if_pos rfl]
    first | rfl | (simp; done)
end Go.Proofs.YtioiakemmhfhkaaDoor
