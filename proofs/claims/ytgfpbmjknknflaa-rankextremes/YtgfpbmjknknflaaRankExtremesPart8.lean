import Derived.Test.YtgfpbmjknknflaaRankExtremesPart7
namespace Go.Proofs.Ytgfpbmjknknflaa
open Go.RowKit Go.Wd Go.Box
set_option linter.unusedVariables false
set_option maxRecDepth 3000
theorem rCmp1 (b : Bool) (x y : Int) (hx : Ok b x) (hy : Ok b y) (c1 : (cl b x == 5) = true) (w : World) :
    Calls Try.prog 15 #[.int .u8 (fm b), .int .u64 x, .int .u64 y] w fun e w' => e = .returned (.int .u8 4) ∧ Below w.heap.size w w' := by
  have BX := Bx.nil w
  go_enter Try.func15, Try.ntmps15
  go_wp2_with fail
  refine (rClass b x hx _).mono ?_
  rintro e v1 ⟨rfl, hk⟩
  replace BX := BX.keep hk
  clear hk
  go_wp2
  go_ret
  exact ⟨by first | rfl | simp, BX.bel⟩
theorem rCmp2 (b : Bool) (x y : Int) (hx : Ok b x) (hy : Ok b y) (c1 : (cl b x == 5) = false) (c2 : (cl b y == 5) = true) (w : World) :
    Calls Try.prog 15 #[.int .u8 (fm b), .int .u64 x, .int .u64 y] w fun e w' => e = .returned (.int .u8 4) ∧ Below w.heap.size w w' := by
  have BX := Bx.nil w
  go_enter Try.func15, Try.ntmps15
  go_wp2_with fail
  refine (rClass b x hx _).mono ?_
  rintro e v2 ⟨rfl, hk⟩
  replace BX := BX.keep hk
  clear hk
  go_wp2_with fail
  refine (rClass b y hy _).mono ?_
  rintro e v3 ⟨rfl, hk⟩
  replace BX := BX.keep hk
  clear hk
  go_wp2
  go_ret
  exact ⟨by first | rfl | simp, BX.bel⟩
theorem rCmp3 (b : Bool) (x y : Int) (hx : Ok b x) (hy : Ok b y) (c1 : (cl b x == 5) = false) (c2 : (cl b y == 5) = false) (c3 : (x == y) = true) (w : World) :
    Calls Try.prog 15 #[.int .u8 (fm b), .int .u64 x, .int .u64 y] w fun e w' => e = .returned (.int .u8 2) ∧ Below w.heap.size w w' := by
  have BX := Bx.nil w
  go_enter Try.func15, Try.ntmps15
  go_wp2_with fail
  refine (rClass b x hx _).mono ?_
  rintro e v4 ⟨rfl, hk⟩
  replace BX := BX.keep hk
  clear hk
  go_wp2_with fail
  refine (rClass b y hy _).mono ?_
  rintro e v5 ⟨rfl, hk⟩
  replace BX := BX.keep hk
  clear hk
  go_wp2
  go_ret
  exact ⟨by first | rfl | simp, BX.bel⟩
theorem rCmp4 (b : Bool) (x y : Int) (hx : Ok b x) (hy : Ok b y) (c1 : (cl b x == 5) = false) (c2 : (cl b y == 5) = false) (c3 : (x == y) = false) (c4 : (x == sd b (inf b) false) = true) (w : World) :
    Calls Try.prog 15 #[.int .u8 (fm b), .int .u64 x, .int .u64 y] w fun e w' => e = .returned (.int .u8 3) ∧ Below w.heap.size w w' := by
  have BX := Bx.nil w
  go_enter Try.func15, Try.ntmps15
  go_wp2_with fail
  refine (rClass b x hx _).mono ?_
  rintro e v6 ⟨rfl, hk⟩
  replace BX := BX.keep hk
  clear hk
  go_wp2_with fail
  refine (rClass b y hy _).mono ?_
  rintro e v7 ⟨rfl, hk⟩
  replace BX := BX.keep hk
  clear hk
  go_wp2_with fail
  refine (rInf b false _).mono ?_
  rintro e v8 ⟨rfl, hk⟩
  replace BX := BX.keep hk
  clear hk
  go_wp2
  go_ret
  exact ⟨by first | rfl | simp, BX.bel⟩
theorem rCmp5 (b : Bool) (x y : Int) (hx : Ok b x) (hy : Ok b y) (c1 : (cl b x == 5) = false) (c2 : (cl b y == 5) = false) (c3 : (x == y) = false) (c4 : (x == sd b (inf b) false) = false) (c5 : (y == sd b (inf b) true) = true) (w : World) :
    Calls Try.prog 15 #[.int .u8 (fm b), .int .u64 x, .int .u64 y] w fun e w' => e = .returned (.int .u8 3) ∧ Below w.heap.size w w' := by
  have BX := Bx.nil w
  go_enter Try.func15, Try.ntmps15
  go_wp2_with fail
  refine (rClass b x hx _).mono ?_
  rintro e v9 ⟨rfl, hk⟩
  replace BX := BX.keep hk
  clear hk
  go_wp2_with fail
  refine (rClass b y hy _).mono ?_
  rintro e v10 ⟨rfl, hk⟩
  replace BX := BX.keep hk
  clear hk
  go_wp2_with fail
  refine (rInf b false _).mono ?_
  rintro e v11 ⟨rfl, hk⟩
  replace BX := BX.keep hk
  clear hk
  go_wp2_with fail
  refine (rInf b true _).mono ?_
  rintro e v12 ⟨rfl, hk⟩
  replace BX := BX.keep hk
  clear hk
  go_wp2
  go_ret
  exact ⟨by first | rfl | simp, BX.bel⟩
theorem rCmp6 (b : Bool) (x y : Int) (hx : Ok b x) (hy : Ok b y) (c1 : (cl b x == 5) = false) (c2 : (cl b y == 5) = false) (c3 : (x == y) = false) (c4 : (x == sd b (inf b) false) = false) (c5 : (y == sd b (inf b) true) = false) (c6 : (y == sd b (inf b) false) = true) (w : World) :
    Calls Try.prog 15 #[.int .u8 (fm b), .int .u64 x, .int .u64 y] w fun e w' => e = .returned (.int .u8 1) ∧ Below w.heap.size w w' := by
  have BX := Bx.nil w
  go_enter Try.func15, Try.ntmps15
  go_wp2_with fail
  refine (rClass b x hx _).mono ?_
  rintro e v13 ⟨rfl, hk⟩
  replace BX := BX.keep hk
  clear hk
  go_wp2_with fail
  refine (rClass b y hy _).mono ?_
  rintro e v14 ⟨rfl, hk⟩
  replace BX := BX.keep hk
  clear hk
  go_wp2_with fail
  refine (rInf b false _).mono ?_
  rintro e v15 ⟨rfl, hk⟩
  replace BX := BX.keep hk
  clear hk
  go_wp2_with fail
  refine (rInf b true _).mono ?_
  rintro e v16 ⟨rfl, hk⟩
  replace BX := BX.keep hk
  clear hk
  go_wp2_with fail
  refine (rInf b false _).mono ?_
  rintro e v17 ⟨rfl, hk⟩
  replace BX := BX.keep hk
  clear hk
  go_wp2
  go_ret
  exact ⟨by first | rfl | simp, BX.bel⟩
theorem rCmp7 (b : Bool) (x y : Int) (hx : Ok b x) (hy : Ok b y) (c1 : (cl b x == 5) = false) (c2 : (cl b y == 5) = false) (c3 : (x == y) = false) (c4 : (x == sd b (inf b) false) = false) (c5 : (y == sd b (inf b) true) = false) (c6 : (y == sd b (inf b) false) = false) (c7 : (x == sd b (inf b) true) = true) (w : World) :
    Calls Try.prog 15 #[.int .u8 (fm b), .int .u64 x, .int .u64 y] w fun e w' => e = .returned (.int .u8 1) ∧ Below w.heap.size w w' := by
  have BX := Bx.nil w
  go_enter Try.func15, Try.ntmps15
  go_wp2_with fail
  refine (rClass b x hx _).mono ?_
  rintro e v18 ⟨rfl, hk⟩
  replace BX := BX.keep hk
  clear hk
  go_wp2_with fail
  refine (rClass b y hy _).mono ?_
  rintro e v19 ⟨rfl, hk⟩
  replace BX := BX.keep hk
  clear hk
  go_wp2_with fail
  refine (rInf b false _).mono ?_
  rintro e v20 ⟨rfl, hk⟩
  replace BX := BX.keep hk
  clear hk
  go_wp2_with fail
  refine (rInf b true _).mono ?_
  rintro e v21 ⟨rfl, hk⟩
  replace BX := BX.keep hk
  clear hk
  go_wp2_with fail
  refine (rInf b false _).mono ?_
  rintro e v22 ⟨rfl, hk⟩
  replace BX := BX.keep hk
  clear hk
  go_wp2_with fail
  refine (rInf b true _).mono ?_
  rintro e v23 ⟨rfl, hk⟩
  replace BX := BX.keep hk
  clear hk
  go_wp2
  go_ret
  exact ⟨by first | rfl | simp, BX.bel⟩
theorem rCmp8a (b : Bool) (x y : Int) (hx : Ok b x) (hy : Ok b y) (c1 : (cl b x == 5) = false) (c2 : (cl b y == 5) = false) (c3 : (x == y) = false) (c4 : (x == sd b (inf b) false) = false) (c5 : (y == sd b (inf b) true) = false) (c6 : (y == sd b (inf b) false) = false) (c7 : (x == sd b (inf b) true) = false) (hs : sgn (wv b x) (wv b y) = (-1)) (w : World) :
    Calls Try.prog 15 #[.int .u8 (fm b), .int .u64 x, .int .u64 y] w fun e w' => e = .returned (.int .u8 1) ∧ Below w.heap.size w w' := by
  have BX := Bx.nil w
  go_enter Try.func15, Try.ntmps15
  go_wp2_with fail
  refine (rClass b x hx _).mono ?_
  rintro e v24 ⟨rfl, hk⟩
  replace BX := BX.keep hk
  clear hk
  go_wp2_with fail
  refine (rClass b y hy _).mono ?_
  rintro e v25 ⟨rfl, hk⟩
  replace BX := BX.keep hk
  clear hk
  go_wp2_with fail
  refine (rInf b false _).mono ?_
  rintro e v26 ⟨rfl, hk⟩
  replace BX := BX.keep hk
  clear hk
  go_wp2_with fail
  refine (rInf b true _).mono ?_
  rintro e v27 ⟨rfl, hk⟩
  replace BX := BX.keep hk
  clear hk
  go_wp2_with fail
  refine (rInf b false _).mono ?_
  rintro e v28 ⟨rfl, hk⟩
  replace BX := BX.keep hk
  clear hk
  go_wp2_with fail
  refine (rInf b true _).mono ?_
  rintro e v29 ⟨rfl, hk⟩
  replace BX := BX.keep hk
  clear hk
  go_wp2_with fail
  refine (rValue b x hx _).mono ?_
  rintro e v30 ⟨nx, zx, xx, ax, cx, rfl, Nx, lx, hk⟩
  replace BX := BX.keep hk
  have Hx := Hide.mk Nx
  clear hk Nx
  go_wp2_with fail
  refine (rValue b y hy _).mono ?_
  rintro e v31 ⟨ny, zy, xy, ay, cy, rfl, Ny, ly, hk⟩
  replace BX := BX.keep hk
  have Hy := Hide.mk Ny
  replace lx := lx.below hk (Nat.le_refl _)
  clear hk Ny
  go_wp2_with fail
  refine (cmpX nx ny ax ay cx cy zx zy xx xy _ lx ly Hx.out Hy.out _ hs).mono ?_
  rintro e v32 ⟨rfl, hk⟩
  replace BX := BX.keep hk
  clear hk
  go_wp2
  go_ret
  exact ⟨by first | rfl | simp, BX.bel⟩
theorem rCmp8b (b : Bool) (x y : Int) (hx : Ok b x) (hy : Ok b y) (c1 : (cl b x == 5) = false) (c2 : (cl b y == 5) = false) (c3 : (x == y) = false) (c4 : (x == sd b (inf b) false) = false) (c5 : (y == sd b (inf b) true) = false) (c6 : (y == sd b (inf b) false) = false) (c7 : (x == sd b (inf b) true) = false) (hs : sgn (wv b x) (wv b y) = 0) (w : World) :
    Calls Try.prog 15 #[.int .u8 (fm b), .int .u64 x, .int .u64 y] w fun e w' => e = .returned (.int .u8 2) ∧ Below w.heap.size w w' := by
  have BX := Bx.nil w
  go_enter Try.func15, Try.ntmps15
  go_wp2_with fail
  refine (rClass b x hx _).mono ?_
  rintro e v33 ⟨rfl, hk⟩
  replace BX := BX.keep hk
  clear hk
  go_wp2_with fail
  refine (rClass b y hy _).mono ?_
  rintro e v34 ⟨rfl, hk⟩
  replace BX := BX.keep hk
  clear hk
  go_wp2_with fail
  refine (rInf b false _).mono ?_
  rintro e v35 ⟨rfl, hk⟩
  replace BX := BX.keep hk
  clear hk
  go_wp2_with fail
  refine (rInf b true _).mono ?_
  rintro e v36 ⟨rfl, hk⟩
  replace BX := BX.keep hk
  clear hk
  go_wp2_with fail
  refine (rInf b false _).mono ?_
  rintro e v37 ⟨rfl, hk⟩
  replace BX := BX.keep hk
  clear hk
  go_wp2_with fail
  refine (rInf b true _).mono ?_
  rintro e v38 ⟨rfl, hk⟩
  replace BX := BX.keep hk
  clear hk
  go_wp2_with fail
  refine (rValue b x hx _).mono ?_
  rintro e v39 ⟨nx, zx, xx, ax, cx, rfl, Nx, lx, hk⟩
  replace BX := BX.keep hk
  have Hx := Hide.mk Nx
  clear hk Nx
  go_wp2_with fail
  refine (rValue b y hy _).mono ?_
  rintro e v40 ⟨ny, zy, xy, ay, cy, rfl, Ny, ly, hk⟩
  replace BX := BX.keep hk
  have Hy := Hide.mk Ny
  replace lx := lx.below hk (Nat.le_refl _)
  clear hk Ny
  go_wp2_with fail
  refine (cmpX nx ny ax ay cx cy zx zy xx xy _ lx ly Hx.out Hy.out _ hs).mono ?_
  rintro e v41 ⟨rfl, hk⟩
  replace BX := BX.keep hk
  clear hk
  go_wp2
  go_ret
  exact ⟨by first | rfl | simp, BX.bel⟩
theorem rCmp8c (b : Bool) (x y : Int) (hx : Ok b x) (hy : Ok b y) (c1 : (cl b x == 5) = false) (c2 : (cl b y == 5) = false) (c3 : (x == y) = false) (c4 : (x == sd b (inf b) false) = false) (c5 : (y == sd b (inf b) true) = false) (c6 : (y == sd b (inf b) false) = false) (c7 : (x == sd b (inf b) true) = false) (hs : sgn (wv b x) (wv b y) = 1) (w : World) :
    Calls Try.prog 15 #[.int .u8 (fm b), .int .u64 x, .int .u64 y] w fun e w' => e = .returned (.int .u8 3) ∧ Below w.heap.size w w' := by
  have BX := Bx.nil w
  go_enter Try.func15, Try.ntmps15
  go_wp2_with fail
  refine (rClass b x hx _).mono ?_
  rintro e v42 ⟨rfl, hk⟩
  replace BX := BX.keep hk
  clear hk
  go_wp2_with fail
  refine (rClass b y hy _).mono ?_
  rintro e v43 ⟨rfl, hk⟩
  replace BX := BX.keep hk
  clear hk
  go_wp2_with fail
  refine (rInf b false _).mono ?_
  rintro e v44 ⟨rfl, hk⟩
  replace BX := BX.keep hk
  clear hk
  go_wp2_with fail
  refine (rInf b true _).mono ?_
  rintro e v45 ⟨rfl, hk⟩
  replace BX := BX.keep hk
  clear hk
  go_wp2_with fail
  refine (rInf b false _).mono ?_
  rintro e v46 ⟨rfl, hk⟩
  replace BX := BX.keep hk
  clear hk
  go_wp2_with fail
  refine (rInf b true _).mono ?_
  rintro e v47 ⟨rfl, hk⟩
  replace BX := BX.keep hk
  clear hk
  go_wp2_with fail
  refine (rValue b x hx _).mono ?_
  rintro e v48 ⟨nx, zx, xx, ax, cx, rfl, Nx, lx, hk⟩
  replace BX := BX.keep hk
  have Hx := Hide.mk Nx
  clear hk Nx
  go_wp2_with fail
  refine (rValue b y hy _).mono ?_
  rintro e v49 ⟨ny, zy, xy, ay, cy, rfl, Ny, ly, hk⟩
  replace BX := BX.keep hk
  have Hy := Hide.mk Ny
  replace lx := lx.below hk (Nat.le_refl _)
  clear hk Ny
  go_wp2_with fail
  refine (cmpX nx ny ax ay cx cy zx zy xx xy _ lx ly Hx.out Hy.out _ hs).mono ?_
  rintro e v50 ⟨rfl, hk⟩
  replace BX := BX.keep hk
  clear hk
  go_wp2
  go_ret
  exact ⟨by first | rfl | simp, BX.bel⟩
theorem inf_pl {b : Bool} {x : Int} (h : Ok b x) (c : ¬ inf b < sz b x) : (x = sd b (inf b) false ↔ pl b x = inf b) ∧ (x = sd b (inf b) true ↔ pl b x = -inf b) ∧ -inf b ≤ pl b x ∧ pl b x ≤ inf b := by
  have hi := inf_lt b
  have hb := inf_bd b
  have h0 := (sz_bd b x).1
  have e1 : sd b (inf b) false = inf b := rfl
  have e2 : sd b (inf b) true = inf b + sg b := rfl
  rw [e1, e2]
  unfold pl
  by_cases d : sg b ≤ x
  · have := sz_neg h d
    rw [show ng b x = true from decide_eq_true d, sv_t]
    omega
  · have := sz_pos h d
    rw [show ng b x = false from decide_eq_false d, sv_f]
    omega
theorem rCmp (b : Bool) (x y : Int) (hx : Ok b x) (hy : Ok b y) (w : World) :
    Calls Try.prog 15 #[.int .u8 (fm b), .int .u64 x, .int .u64 y] w fun e w' => e = .returned (.int .u8 (co b x y)) ∧ Below w.heap.size w w' := by
  have hi := inf_lt b
  have hb := inf_bd b
  unfold co
  by_cases c1 : inf b < sz b x
  · rw [if_pos (.inl c1)]
    exact rCmp1 b x y hx hy (by simp [(cl_5 b x).2 c1]) w
  · have k1 : (cl b x == 5) = false := beq_eq_false_iff_ne.2 (fun q => c1 ((cl_5 b x).1 q))
    by_cases c2 : inf b < sz b y
    · rw [if_pos (.inr c2)]
      exact rCmp2 b x y hx hy k1 (by simp [(cl_5 b y).2 c2]) w
    · have k2 : (cl b y == 5) = false := beq_eq_false_iff_ne.2 (fun q => c2 ((cl_5 b y).1 q))
      rw [if_neg (by simp [c1, c2])]
      obtain ⟨i1, i2, i3, i4⟩ := inf_pl hx c1
      obtain ⟨j1, j2, j3, j4⟩ := inf_pl hy c2
      by_cases c3 : x = y
      · rw [if_neg (by rw [c3]; omega), if_neg (by rw [c3]; omega)]
        exact rCmp3 b x y hx hy k1 k2 (by simpa using c3) w
      · have k3 : (x == y) = false := beq_eq_false_iff_ne.2 c3
        by_cases c4 : x = sd b (inf b) false
        · have : pl b y ≠ inf b := fun q => c3 (c4.trans (j1.2 q).symm)
          have := i1.1 c4
          rw [if_neg (by omega), if_pos (by omega)]
          exact rCmp4 b x y hx hy k1 k2 k3 (by simpa using c4) w
        · have k4 : (x == sd b (inf b) false) = false := beq_eq_false_iff_ne.2 c4
          by_cases c5 : y = sd b (inf b) true
          · have : pl b x ≠ -inf b := fun q => c3 ((i2.2 q).trans c5.symm)
            have := j2.1 c5
            rw [if_neg (by omega), if_pos (by omega)]
            exact rCmp5 b x y hx hy k1 k2 k3 k4 (by simpa using c5) w
          · have k5 : (y == sd b (inf b) true) = false := beq_eq_false_iff_ne.2 c5
            by_cases c6 : y = sd b (inf b) false
            · have : pl b x ≠ inf b := fun q => c4 (i1.2 q)
              have := j1.1 c6
              rw [if_pos (by omega)]
              exact rCmp6 b x y hx hy k1 k2 k3 k4 k5 (by simpa using c6) w
            · have k6 : (y == sd b (inf b) false) = false := beq_eq_false_iff_ne.2 c6
              by_cases c7 : x = sd b (inf b) true
              · have : pl b y ≠ -inf b := fun q => c5 (j2.2 q)
                have := i2.1 c7
                rw [if_pos (by omega)]
                exact rCmp7 b x y hx hy k1 k2 k3 k4 k5 k6 (by simpa using c7) w
              · have k7 : (x == sd b (inf b) true) = false := beq_eq_false_iff_ne.2 c7
                have hs := sgn_pl b x y
                rcases (show pl b x < pl b y ∨ pl b x = pl b y ∨ pl b y < pl b x by omega) with q | q | q
                · rw [if_pos q]
                  exact rCmp8a b x y hx hy k1 k2 k3 k4 k5 k6 k7 (by rw [hs]; exact sgn_is1 q) w
                · rw [if_neg (by omega), if_neg (by omega)]
                  exact rCmp8b b x y hx hy k1 k2 k3 k4 k5 k6 k7 (by rw [hs]; exact sgn_is0 q) w
                · rw [if_neg (by omega), if_pos q]
                  exact rCmp8c b x y hx hy k1 k2 k3 k4 k5 k6 k7 (by rw [hs]; exact sgn_is2 q) w
end Go.Proofs.Ytgfpbmjknknflaa

namespace Go.Proofs.Ytgfpbmjknknflaa
open Go.RowKit Go.Wd Go.Box
set_option linter.unusedVariables false
set_option maxRecDepth 3000
theorem rTot1 (b : Bool) (x y : Int) (hx : Ok b x) (hy : Ok b y) (c1 : (cl b x == 5) = true) (c2 : (cl b y == 5) = true) (w : World) :
    Calls Try.prog 16 #[.int .u8 (fm b), .int .u64 x, .int .u64 y] w fun e w' => e = .returned (.int .i64 0) ∧ Below w.heap.size w w' := by
  have BX := Bx.nil w
  go_enter Try.func16, Try.ntmps16
  go_wp2_with fail
  refine (rClass b x hx _).mono ?_
  rintro e v51 ⟨rfl, hk⟩
  replace BX := BX.keep hk
  clear hk
  go_wp2_with fail
  refine (rClass b y hy _).mono ?_
  rintro e v52 ⟨rfl, hk⟩
  replace BX := BX.keep hk
  clear hk
  go_wp2
  go_ret
  exact ⟨by first | rfl | simp, BX.bel⟩
theorem rTot2 (b : Bool) (x y : Int) (hx : Ok b x) (hy : Ok b y) (c1 : (cl b x == 5) = false) (c2 : (cl b y == 5) = false) (c3 : (x == y) = true) (w : World) :
    Calls Try.prog 16 #[.int .u8 (fm b), .int .u64 x, .int .u64 y] w fun e w' => e = .returned (.int .i64 0) ∧ Below w.heap.size w w' := by
  have BX := Bx.nil w
  go_enter Try.func16, Try.ntmps16
  go_wp2_with fail
  refine (rClass b x hx _).mono ?_
  rintro e v53 ⟨rfl, hk⟩
  replace BX := BX.keep hk
  clear hk
  go_wp2_with fail
  refine (rClass b y hy _).mono ?_
  rintro e v54 ⟨rfl, hk⟩
  replace BX := BX.keep hk
  clear hk
  go_wp2
  go_ret
  exact ⟨by first | rfl | simp, BX.bel⟩
theorem rTot3 (b : Bool) (x y : Int) (hx : Ok b x) (hy : Ok b y) (c1 : (cl b x == 5) = true) (c2 : (cl b y == 5) = false) (c3 : (x == y) = false) (w : World) :
    Calls Try.prog 16 #[.int .u8 (fm b), .int .u64 x, .int .u64 y] w fun e w' => e = .returned (.int .i64 1) ∧ Below w.heap.size w w' := by
  have BX := Bx.nil w
  go_enter Try.func16, Try.ntmps16
  go_wp2_with fail
  refine (rClass b x hx _).mono ?_
  rintro e v55 ⟨rfl, hk⟩
  replace BX := BX.keep hk
  clear hk
  go_wp2_with fail
  refine (rClass b y hy _).mono ?_
  rintro e v56 ⟨rfl, hk⟩
  replace BX := BX.keep hk
  clear hk
  go_wp2
  go_ret
  exact ⟨by first | rfl | simp, BX.bel⟩
theorem rTot4 (b : Bool) (x y : Int) (hx : Ok b x) (hy : Ok b y) (c1 : (cl b x == 5) = false) (c2 : (cl b y == 5) = true) (c3 : (x == y) = false) (w : World) :
    Calls Try.prog 16 #[.int .u8 (fm b), .int .u64 x, .int .u64 y] w fun e w' => e = .returned (.int .i64 (-1)) ∧ Below w.heap.size w w' := by
  have BX := Bx.nil w
  go_enter Try.func16, Try.ntmps16
  go_wp2_with fail
  refine (rClass b x hx _).mono ?_
  rintro e v57 ⟨rfl, hk⟩
  replace BX := BX.keep hk
  clear hk
  go_wp2_with fail
  refine (rClass b y hy _).mono ?_
  rintro e v58 ⟨rfl, hk⟩
  replace BX := BX.keep hk
  clear hk
  go_wp2
  go_ret
  exact ⟨by first | rfl | simp, BX.bel⟩
theorem rTot5 (b : Bool) (x y : Int) (hx : Ok b x) (hy : Ok b y) (c1 : (cl b x == 5) = false) (c2 : (cl b y == 5) = false) (c3 : (x == y) = false) (hc : co b x y = 1) (w : World) :
    Calls Try.prog 16 #[.int .u8 (fm b), .int .u64 x, .int .u64 y] w fun e w' => e = .returned (.int .i64 (-1)) ∧ Below w.heap.size w w' := by
  have BX := Bx.nil w
  go_enter Try.func16, Try.ntmps16
  have HC := fun W => Hide.mk (rCmp b x y hx hy W)
  rw [hc] at HC
  go_wp2_with fail
  refine (rClass b x hx _).mono ?_
  rintro e v59 ⟨rfl, hk⟩
  replace BX := BX.keep hk
  clear hk
  go_wp2_with fail
  refine (rClass b y hy _).mono ?_
  rintro e v60 ⟨rfl, hk⟩
  replace BX := BX.keep hk
  clear hk
  go_wp2_with fail
  refine ((HC _).out).mono ?_
  rintro e v61 ⟨rfl, hk⟩
  replace BX := BX.keep hk
  clear hk
  go_wp2
  go_ret
  exact ⟨by first | rfl | simp, BX.bel⟩
theorem rTot8 (b : Bool) (x y : Int) (hx : Ok b x) (hy : Ok b y) (c1 : (cl b x == 5) = false) (c2 : (cl b y == 5) = false) (c3 : (x == y) = false) (hc : co b x y = 3) (w : World) :
    Calls Try.prog 16 #[.int .u8 (fm b), .int .u64 x, .int .u64 y] w fun e w' => e = .returned (.int .i64 1) ∧ Below w.heap.size w w' := by
  have BX := Bx.nil w
  go_enter Try.func16, Try.ntmps16
  have HC := fun W => Hide.mk (rCmp b x y hx hy W)
  rw [hc] at HC
  go_wp2_with fail
  refine (rClass b x hx _).mono ?_
  rintro e v62 ⟨rfl, hk⟩
  replace BX := BX.keep hk
  clear hk
  go_wp2_with fail
  refine (rClass b y hy _).mono ?_
  rintro e v63 ⟨rfl, hk⟩
  replace BX := BX.keep hk
  clear hk
  go_wp2_with fail
  refine ((HC _).out).mono ?_
  rintro e v64 ⟨rfl, hk⟩
  replace BX := BX.keep hk
  clear hk
  go_wp2
  go_ret
  exact ⟨by first | rfl | simp, BX.bel⟩
theorem rTot6 (b : Bool) (x y : Int) (hx : Ok b x) (hy : Ok b y) (c1 : (cl b x == 5) = false) (c2 : (cl b y == 5) = false) (c3 : (x == y) = false) (hc : co b x y = 2) (hn : ng b x = true) (w : World) :
    Calls Try.prog 16 #[.int .u8 (fm b), .int .u64 x, .int .u64 y] w fun e w' => e = .returned (.int .i64 (-1)) ∧ Below w.heap.size w w' := by
  have BX := Bx.nil w
  go_enter Try.func16, Try.ntmps16
  have HC := fun W => Hide.mk (rCmp b x y hx hy W)
  rw [hc] at HC
  have HS := fun W => Hide.mk (rSplit b x hx W)
  rw [hn] at HS
  go_wp2_with fail
  refine (rClass b x hx _).mono ?_
  rintro e v65 ⟨rfl, hk⟩
  replace BX := BX.keep hk
  clear hk
  go_wp2_with fail
  refine (rClass b y hy _).mono ?_
  rintro e v66 ⟨rfl, hk⟩
  replace BX := BX.keep hk
  clear hk
  go_wp2_with fail
  refine ((HC _).out).mono ?_
  rintro e v67 ⟨rfl, hk⟩
  replace BX := BX.keep hk
  clear hk
  go_wp2_with fail
  refine ((HS _).out).mono ?_
  rintro e v68 ⟨rfl, hk⟩
  replace BX := BX.keep hk
  clear hk
  delta FV
  go_wp2_with fail
  rw [field_neg]
  go_wp2
  go_ret
  exact ⟨by first | rfl | simp, BX.bel⟩
theorem rTot7 (b : Bool) (x y : Int) (hx : Ok b x) (hy : Ok b y) (c1 : (cl b x == 5) = false) (c2 : (cl b y == 5) = false) (c3 : (x == y) = false) (hc : co b x y = 2) (hn : ng b x = false) (w : World) :
    Calls Try.prog 16 #[.int .u8 (fm b), .int .u64 x, .int .u64 y] w fun e w' => e = .returned (.int .i64 1) ∧ Below w.heap.size w w' := by
  have BX := Bx.nil w
  go_enter Try.func16, Try.ntmps16
  have HC := fun W => Hide.mk (rCmp b x y hx hy W)
  rw [hc] at HC
  have HS := fun W => Hide.mk (rSplit b x hx W)
  rw [hn] at HS
  go_wp2_with fail
  refine (rClass b x hx _).mono ?_
  rintro e v69 ⟨rfl, hk⟩
  replace BX := BX.keep hk
  clear hk
  go_wp2_with fail
  refine (rClass b y hy _).mono ?_
  rintro e v70 ⟨rfl, hk⟩
  replace BX := BX.keep hk
  clear hk
  go_wp2_with fail
  refine ((HC _).out).mono ?_
  rintro e v71 ⟨rfl, hk⟩
  replace BX := BX.keep hk
  clear hk
  go_wp2_with fail
  refine ((HS _).out).mono ?_
  rintro e v72 ⟨rfl, hk⟩
  replace BX := BX.keep hk
  clear hk
  delta FV
  go_wp2_with fail
  rw [field_neg]
  go_wp2
  go_ret
  exact ⟨by first | rfl | simp, BX.bel⟩
theorem ht_lt {b : Bool} {x y : Int} (hx : Ok b x) (hy : Ok b y) (c : ¬ inf b < sz b x) (d : ¬ inf b < sz b y) (h : pl b x < pl b y) : ht b x < ht b y := by
  have h1 := (sz_bd b x).1
  have h2 := (sz_bd b y).1
  unfold ht
  rw [if_neg c, if_neg d]
  unfold pl at *
  cases hn : ng b x <;> cases hm : ng b y <;> rw [hn, hm] at h <;> simp only [sv_f, sv_t] at * <;> simp <;> omega
theorem ht_nan {b : Bool} {x : Int} (c : ¬ inf b < sz b x) : ht b x < 9223372036854775807 := by
  have := inf_lt b
  have h2 : sg b ≤ 9223372036854775808 := by cases b <;> decide
  have h1 := (sz_bd b x).1
  have hi : inf b < 9223372036854775807 := by cases b <;> decide
  unfold ht pl
  rw [if_neg c]
  cases ng b x <;> simp only [sv_f, sv_t] <;> simp <;> omega
theorem ht_zero {b : Bool} {x y : Int} (hx : Ok b x) (hy : Ok b y) (h : x ≠ y) (c : ¬ inf b < sz b x) (d : ¬ inf b < sz b y) (e : pl b x = pl b y) : (ng b x = true ∧ ht b x < ht b y) ∨ (ng b x = false ∧ ht b y < ht b x) := by
  have hb := inf_bd b
  have hp := sg_pos b
  rcases pl_eq hx hy e with q | ⟨q1, q2⟩
  · exact absurd q h
  · unfold ht pl
    rw [if_neg c, if_neg d, q1, q2]
    have : ng b x ≠ ng b y := by
      intro q
      apply h
      by_cases u : sg b ≤ x <;> by_cases v : sg b ≤ y
      · have := sz_neg hx u
        have := sz_neg hy v
        omega
      · rw [show ng b x = true from decide_eq_true u, show ng b y = false from decide_eq_false v] at q; exact absurd q (by decide)
      · rw [show ng b x = false from decide_eq_false u, show ng b y = true from decide_eq_true v] at q; exact absurd q (by decide)
      · have := sz_pos hx u
        have := sz_pos hy v
        omega
    cases hn : ng b x <;> cases hm : ng b y <;> rw [hn, hm] at this <;> simp at this <;> simp [sv_f, sv_t]
theorem rTotal (b : Bool) (x y : Int) (hx : Ok b x) (hy : Ok b y) (w : World) :
    Calls Try.prog 16 #[.int .u8 (fm b), .int .u64 x, .int .u64 y] w fun e w' => e = .returned (.int .i64 (sgn (ht b x) (ht b y))) ∧ Below w.heap.size w w' := by
  by_cases c1 : inf b < sz b x
  · have k1 : (cl b x == 5) = true := by simp [(cl_5 b x).2 c1]
    have e1 : ht b x = 9223372036854775807 := by unfold ht; rw [if_pos c1]
    by_cases c2 : inf b < sz b y
    · have e2 : ht b y = 9223372036854775807 := by unfold ht; rw [if_pos c2]
      rw [e1, e2, sgn_is0 rfl]
      exact rTot1 b x y hx hy k1 (by simp [(cl_5 b y).2 c2]) w
    · have k2 : (cl b y == 5) = false := beq_eq_false_iff_ne.2 (fun q => c2 ((cl_5 b y).1 q))
      have h := ht_nan c2
      rw [e1, sgn_is2 h]
      exact rTot3 b x y hx hy k1 k2 (beq_eq_false_iff_ne.2 (fun q => c2 (q ▸ c1))) w
  · have k1 : (cl b x == 5) = false := beq_eq_false_iff_ne.2 (fun q => c1 ((cl_5 b x).1 q))
    by_cases c2 : inf b < sz b y
    · have e2 : ht b y = 9223372036854775807 := by unfold ht; rw [if_pos c2]
      have h := ht_nan c1
      rw [e2, sgn_is1 h]
      exact rTot4 b x y hx hy k1 (by simp [(cl_5 b y).2 c2]) (beq_eq_false_iff_ne.2 (fun q => c1 (q ▸ c2))) w
    · have k2 : (cl b y == 5) = false := beq_eq_false_iff_ne.2 (fun q => c2 ((cl_5 b y).1 q))
      by_cases c3 : x = y
      · rw [c3, sgn_is0 rfl, ← c3]
        have := rTot2 b x y hx hy k1 k2 (by simpa using c3) w
        rw [← c3] at this
        exact this
      · have k3 : (x == y) = false := beq_eq_false_iff_ne.2 c3
        have hco : co b x y = if pl b x < pl b y then 1 else if pl b y < pl b x then 3 else 2 := by unfold co; rw [if_neg (by simp [c1, c2])]
        rcases (show pl b x < pl b y ∨ pl b x = pl b y ∨ pl b y < pl b x by omega) with q | q | q
        · rw [sgn_is1 (ht_lt hx hy c1 c2 q)]
          exact rTot5 b x y hx hy k1 k2 k3 (by rw [hco, if_pos q]) w
        · have hc : co b x y = 2 := by rw [hco, if_neg (by omega), if_neg (by omega)]
          rcases ht_zero hx hy c3 c1 c2 q with ⟨n, h⟩ | ⟨n, h⟩
          · rw [sgn_is1 h]; exact rTot6 b x y hx hy k1 k2 k3 hc n w
          · rw [sgn_is2 h]; exact rTot7 b x y hx hy k1 k2 k3 hc n w
        · rw [sgn_is2 (ht_lt hy hx c2 c1 q)]
          exact rTot8 b x y hx hy k1 k2 k3 (by rw [hco, if_neg (by omega), if_pos q]) w
end Go.Proofs.Ytgfpbmjknknflaa

namespace Go.Proofs.Ytgfpbmjknknflaa
open Go.RowKit Go.Wd Go.Box
set_option linter.unusedVariables false
set_option maxRecDepth 3000
theorem u_cell {w W : World} {g : Nat} {cs : Array Value} {t : TypeId} (h : w.heap[g]? = some (.cells cs t (0, 0))) (hb : Below w.heap.size w W) (j : Nat) : W.cell? ⟨g, j, none⟩ = cs[j]? :=
  cell_of_row W g j cs t (0, 0) ((hb.block g (Array.getElem?_eq_some_iff.1 h).1).trans h)
theorem rOpens2_1 (b : Bool) (x y : Int)  (hbad : 2 * sg b ≤ x) (hlt : x < 18446744073709551616) (w : World) (g : Nat) (hg : w.heap[g]? = some (.cells #[.int .u64 x, .int .u64 y] 23 (0, 0))) :
    Calls Try.prog 13 #[.int .u8 (fm b), .slice (some ⟨g, 0, none⟩) 2 2] w fun e w' => e = .returned (.int .i64 6) ∧ Below w.heap.size w w' := by
  have HG := fun W hb j => u_cell hg (W := W) hb j
  clear hg
  have BX := Bx.nil w
  go_enter Try.func13, Try.ntmps13
  go_wp2_with fail
  refine (rIs b _).mono ?_
  rintro e v5 ⟨rfl, hk⟩
  replace BX := BX.keep hk
  clear hk
  have s0 : World.cell? _ ⟨g, 0, none⟩ = some (.int .u64 x) := HG _ BX.bel 0
  have s1 : World.cell? _ ⟨g, 1, none⟩ = some (.int .u64 y) := HG _ BX.bel 1
  go_wp2_with fail
  refine wp_loop_rounds 3 ?_
  rw [rounds_succ]
  go_wp2_with fail
  clear s0 s1
  refine (rGood_err (fm b) x 6 (.inr ⟨b, rfl, hbad, rfl⟩) hlt _).mono ?_
  rintro e v6 ⟨rfl, hk⟩
  replace BX := BX.keep hk
  clear hk
  have s0 : World.cell? _ ⟨g, 0, none⟩ = some (.int .u64 x) := HG _ BX.bel 0
  have s1 : World.cell? _ ⟨g, 1, none⟩ = some (.int .u64 y) := HG _ BX.bel 1
  go_wp2
  go_ret
  exact ⟨by first | rfl | simp, BX.bel⟩
theorem rOpens2_2 (b : Bool) (x y : Int) (hx : Ok b x) (hbad : 2 * sg b ≤ y) (hlt : y < 18446744073709551616) (w : World) (g : Nat) (hg : w.heap[g]? = some (.cells #[.int .u64 x, .int .u64 y] 23 (0, 0))) :
    Calls Try.prog 13 #[.int .u8 (fm b), .slice (some ⟨g, 0, none⟩) 2 2] w fun e w' => e = .returned (.int .i64 6) ∧ Below w.heap.size w w' := by
  have HG := fun W hb j => u_cell hg (W := W) hb j
  clear hg
  have BX := Bx.nil w
  go_enter Try.func13, Try.ntmps13
  go_wp2_with fail
  refine (rIs b _).mono ?_
  rintro e v7 ⟨rfl, hk⟩
  replace BX := BX.keep hk
  clear hk
  have s0 : World.cell? _ ⟨g, 0, none⟩ = some (.int .u64 x) := HG _ BX.bel 0
  have s1 : World.cell? _ ⟨g, 1, none⟩ = some (.int .u64 y) := HG _ BX.bel 1
  go_wp2_with fail
  refine wp_loop_rounds 3 ?_
  rw [rounds_succ]
  go_wp2_with fail
  clear s0 s1
  refine (rGood b x hx _).mono ?_
  rintro e v8 ⟨rfl, hk⟩
  replace BX := BX.keep hk
  clear hk
  have s0 : World.cell? _ ⟨g, 0, none⟩ = some (.int .u64 x) := HG _ BX.bel 0
  have s1 : World.cell? _ ⟨g, 1, none⟩ = some (.int .u64 y) := HG _ BX.bel 1
  go_wp2_with fail
  rw [rounds_succ]
  go_wp2_with fail
  clear s0 s1
  refine (rGood_err (fm b) y 6 (.inr ⟨b, rfl, hbad, rfl⟩) hlt _).mono ?_
  rintro e v9 ⟨rfl, hk⟩
  replace BX := BX.keep hk
  clear hk
  have s0 : World.cell? _ ⟨g, 0, none⟩ = some (.int .u64 x) := HG _ BX.bel 0
  have s1 : World.cell? _ ⟨g, 1, none⟩ = some (.int .u64 y) := HG _ BX.bel 1
  go_wp2
  go_ret
  exact ⟨by first | rfl | simp, BX.bel⟩
theorem rOpens2_ok (b : Bool) (x y : Int) (hx : Ok b x) (hy : Ok b y) (w : World) (g : Nat) (hg : w.heap[g]? = some (.cells #[.int .u64 x, .int .u64 y] 23 (0, 0))) :
    Calls Try.prog 13 #[.int .u8 (fm b), .slice (some ⟨g, 0, none⟩) 2 2] w fun e w' => e = .returned (.int .i64 0) ∧ Below w.heap.size w w' := by
  have HG := fun W hb j => u_cell hg (W := W) hb j
  clear hg
  have BX := Bx.nil w
  go_enter Try.func13, Try.ntmps13
  go_wp2_with fail
  refine (rIs b _).mono ?_
  rintro e v10 ⟨rfl, hk⟩
  replace BX := BX.keep hk
  clear hk
  have s0 : World.cell? _ ⟨g, 0, none⟩ = some (.int .u64 x) := HG _ BX.bel 0
  have s1 : World.cell? _ ⟨g, 1, none⟩ = some (.int .u64 y) := HG _ BX.bel 1
  go_wp2_with fail
  refine wp_loop_rounds 3 ?_
  rw [rounds_succ]
  go_wp2_with fail
  clear s0 s1
  refine (rGood b x hx _).mono ?_
  rintro e v11 ⟨rfl, hk⟩
  replace BX := BX.keep hk
  clear hk
  have s0 : World.cell? _ ⟨g, 0, none⟩ = some (.int .u64 x) := HG _ BX.bel 0
  have s1 : World.cell? _ ⟨g, 1, none⟩ = some (.int .u64 y) := HG _ BX.bel 1
  go_wp2_with fail
  rw [rounds_succ]
  go_wp2_with fail
  clear s0 s1
  refine (rGood b y hy _).mono ?_
  rintro e v12 ⟨rfl, hk⟩
  replace BX := BX.keep hk
  clear hk
  have s0 : World.cell? _ ⟨g, 0, none⟩ = some (.int .u64 x) := HG _ BX.bel 0
  have s1 : World.cell? _ ⟨g, 1, none⟩ = some (.int .u64 y) := HG _ BX.bel 1
  go_wp2_with fail
  rw [rounds_succ]
  go_wp2
  go_ret
  exact ⟨by first | rfl | simp, BX.bel⟩
theorem rOpens_bad (f : Int) (hf : Bad f) (sl : Value) (w : World) :
    Calls Try.prog 13 #[.int .u8 f, sl] w fun e w' => e = .returned (.int .i64 4) ∧ Below w.heap.size w w' := by
  have BX := Bx.nil w
  go_enter Try.func13, Try.ntmps13
  go_wp2_with fail
  refine (rIs_bad f hf _).mono ?_
  rintro e v26 ⟨rfl, hk⟩
  replace BX := BX.keep hk
  clear hk
  go_wp2
  go_ret
  exact ⟨by first | rfl | simp, BX.bel⟩
theorem wApart (p q : Int) (h1 : -9223372036854775808 < p) (h2 : p < 9223372036854775808) (h3 : -9223372036854775808 < q) (h4 : q < 9223372036854775808) (w : World) :
    Calls Try.prog 42 #[.int .i64 p, .int .i64 q] w fun e w' => e = .returned (.int .u64 (max p q - min p q)) ∧ Below w.heap.size w w' := by
  have e1 : IntKind.u64.wrap (IntKind.u64.wrap (max p q) - IntKind.u64.wrap (min p q)) = max p q - min p q := by
    rw [IntKind.wrap_u64, IntKind.wrap_u64, IntKind.wrap_u64]; omega
  go_enter Try.func42, Try.ntmps42
  go_wp2
  go_ret
  exact ⟨rfl, Below.refl _ _⟩
end Go.Proofs.Ytgfpbmjknknflaa

namespace Go.Proofs.Ytgfpbmjknknflaa
open Go.RowKit Go.Wd Go.Box
set_option linter.unusedVariables false
set_option maxRecDepth 3000
theorem wSteps_ok (b : Bool) (x y : Int) (hx : Ok b x) (hy : Ok b y) (c : ¬ inf b < sz b x) (d : ¬ inf b < sz b y) (w : World) :
    Calls Try.prog 21 #[.int .u8 (fm b), .int .u64 x, .int .u64 y] w fun e w' => e = .returned (.tuple #[.int .u64 (max (pl b x) (pl b y) - min (pl b x) (pl b y)), .int .i64 0]) ∧ Below w.heap.size w w' := by
  have HS := fun W => Hide.mk (wStandsOf_ok b x y hx hy W (show stV b x = KV x false (ng b x) (pl b x) by unfold stV; rw [if_neg c]) (show stV b y = KV y false (ng b y) (pl b y) by unfold stV; rw [if_neg d]))
  have b1 := pl_bd b x
  have b2 := pl_bd b y
  have HA := fun W => Hide.mk (wApart (pl b x) (pl b y) b1.1 b1.2 b2.1 b2.2 W)
  clear b1 b2
  go_enter Try.func21, Try.ntmps21
  go_wp2_with fail
  refine (HS _).out.mono ?_
  rintro e w2 ⟨rfl, h2⟩
  have BX := (((Bx.nil w).keep h2).push (KO x false (ng b x) (pl b x))).push (KO y false (ng b y) (pl b y))
  rw [show (w2.alloc (KO x false (ng b x) (pl b x))).heap.size = w2.heap.size + 1 by simp] at BX
  obtain ⟨⟨f0, f1, f2, f3⟩, _⟩ := cells4 BX w2.heap.size _ _ _ _ _ (.tail _ (.head _))
  obtain ⟨⟨t0, t1, t2, t3⟩, _⟩ := cells4 BX (w2.heap.size + 1) _ _ _ _ _ (.head _)
  clear h2 HS
  clear hx hy
  go_wp2_with fail
  refine (HA _).out.mono ?_
  rintro e w3 ⟨rfl, h3⟩
  replace BX := BX.keep h3
  go_wp2
  go_ret2
  exact ⟨rfl, BX.bel⟩
theorem lKnown7 (w : World) : Calls Try.prog 14 #[] w fun e w' => e = .returned (.bool true) ∧ Below w.heap.size w w' := by
  have o1 : Ok false 2147483648 := by unfold Ok; decide
  have o2 : Ok false 0 := by unfold Ok; decide
  have o3 : Ok false 2147483649 := by unfold Ok; decide
  have o4 : Ok false 1 := by unfold Ok; decide
  have HC : ∀ W, Hide (Calls Try.prog 11 #[.int .u8 1, .int .u64 2147483648, .int .u64 0] W fun e w' => e = .returned (.tuple #[.int .u8 2, .int .i64 0]) ∧ Below W.heap.size W w') := fun W => ⟨by
    have := wCmp false 2147483648 0 o1 o2 W
    rw [show co false 2147483648 0 = 2 by decide] at this
    exact this⟩
  have HT : ∀ W, Hide (Calls Try.prog 12 #[.int .u8 1, .int .u64 2147483648, .int .u64 0] W fun e w' => e = .returned (.tuple #[.int .i64 (-1), .int .i64 0]) ∧ Below W.heap.size W w') := fun W => ⟨by
    have := wTotal false 2147483648 0 o1 o2 W
    rw [show sgn (ht false 2147483648) (ht false 0) = -1 by decide] at this
    exact this⟩
  have HS : ∀ W, Hide (Calls Try.prog 21 #[.int .u8 1, .int .u64 2147483649, .int .u64 1] W fun e w' => e = .returned (.tuple #[.int .u64 2, .int .i64 0]) ∧ Below W.heap.size W w') := fun W => ⟨by
    have := wSteps_ok false 2147483649 1 o3 o4 (by decide) (by decide) W
    rw [show max (pl false 2147483649) (pl false 1) - min (pl false 2147483649) (pl false 1) = 2 by decide] at this
    exact this⟩
  clear o1 o2 o3 o4
  have BX := Bx.nil w
  go_enter Try.func14, Try.ntmps14
  go_wp2_with fail
  refine (HC _).out.mono ?_
  rintro e w2 ⟨rfl, hk⟩
  replace BX := BX.keep hk
  clear hk
  go_wp2_with fail
  refine (HT _).out.mono ?_
  rintro e w3 ⟨rfl, hk⟩
  replace BX := BX.keep hk
  clear hk
  go_wp2_with fail
  refine (HS _).out.mono ?_
  rintro e w4 ⟨rfl, hk⟩
  replace BX := BX.keep hk
  clear hk
  go_wp2
  go_ret
  exact ⟨rfl, BX.bel⟩
end Go.Proofs.Ytgfpbmjknknflaa

namespace Go.Proofs.Ytgfpbmjknknflaa
open Go.RowKit Go.Wd Go.Box
set_option linter.unusedVariables false
set_option maxRecDepth 3000
theorem fm_badK (f : Int) : (∃ b, f = fm b) ∨ Bad f := by
  by_cases h1 : f = 1
  · exact .inl ⟨false, h1⟩
  · by_cases h2 : f = 2
    · exact .inl ⟨true, h2⟩
    · exact .inr ⟨h1, h2⟩
theorem ht_inj {b : Bool} {x y : Int} (hx : Ok b x) (hy : Ok b y) (c : ¬ inf b < sz b x) (d : ¬ inf b < sz b y) (h : ht b x = ht b y) : x = y := by
  by_cases e : x = y
  · exact e
  · rcases (show pl b x < pl b y ∨ pl b x = pl b y ∨ pl b y < pl b x by omega) with q | q | q
    · have := ht_lt hx hy c d q; omega
    · rcases ht_zero hx hy e c d q with ⟨_, k⟩ | ⟨_, k⟩ <;> omega
    · have := ht_lt hy hx d c q; omega
theorem wExt_n1 (b : Bool) (en x y : Int) (hx : Ok b x) (hy : Ok b y) {u1 u2 : Int} {n1 n2 g1 g2 : Bool} {p1 p2 : Int} (e1 : stV b x = KV u1 n1 g1 p1) (e2 : stV b y = KV u2 n2 g2 p2) (h : n1 = true) (w : World) :
    Calls Try.prog 41 #[.int .u8 (fm b), .int .i64 en, .int .u64 x, .int .u64 y] w fun e w' => e = .returned (.tuple #[.int .u64 u2, .int .i64 0]) ∧ Below w.heap.size w w' := by
  have HS := fun W => Hide.mk (wStandsOf_ok b x y hx hy W e1 e2)
  clear e1 e2
  subst h
  go_enter Try.func41, Try.ntmps41
  go_wp2_with fail
  refine (HS _).out.mono ?_
  rintro e w2 ⟨rfl, h2⟩
  have BX := (((Bx.nil w).keep h2).push (KO u1 true g1 p1)).push (KO u2 n2 g2 p2)
  rw [show (w2.alloc (KO u1 true g1 p1)).heap.size = w2.heap.size + 1 by simp] at BX
  obtain ⟨⟨f0, f1, f2, f3⟩, _⟩ := cells4 BX w2.heap.size _ _ _ _ _ (.tail _ (.head _))
  obtain ⟨⟨t0, t1, t2, t3⟩, _⟩ := cells4 BX (w2.heap.size + 1) _ _ _ _ _ (.head _)
  clear h2 HS
  go_wp2
  go_ret2
  exact ⟨rfl, BX.bel⟩
theorem wExt_n2 (b : Bool) (en x y : Int) (hx : Ok b x) (hy : Ok b y) {u1 u2 : Int} {n1 n2 g1 g2 : Bool} {p1 p2 : Int} (e1 : stV b x = KV u1 n1 g1 p1) (e2 : stV b y = KV u2 n2 g2 p2) (h1 : n1 = false) (h2 : n2 = true) (w : World) :
    Calls Try.prog 41 #[.int .u8 (fm b), .int .i64 en, .int .u64 x, .int .u64 y] w fun e w' => e = .returned (.tuple #[.int .u64 u1, .int .i64 0]) ∧ Below w.heap.size w w' := by
  have HS := fun W => Hide.mk (wStandsOf_ok b x y hx hy W e1 e2)
  clear e1 e2
  subst h1 h2
  go_enter Try.func41, Try.ntmps41
  go_wp2_with fail
  refine (HS _).out.mono ?_
  rintro e w2 ⟨rfl, h2⟩
  have BX := (((Bx.nil w).keep h2).push (KO u1 false g1 p1)).push (KO u2 true g2 p2)
  rw [show (w2.alloc (KO u1 false g1 p1)).heap.size = w2.heap.size + 1 by simp] at BX
  obtain ⟨⟨f0, f1, f2, f3⟩, _⟩ := cells4 BX w2.heap.size _ _ _ _ _ (.tail _ (.head _))
  obtain ⟨⟨t0, t1, t2, t3⟩, _⟩ := cells4 BX (w2.heap.size + 1) _ _ _ _ _ (.head _)
  clear h2 HS
  go_wp2_with fail
  clear f0 f1 f2 f3 t0 t1 t2 t3
  generalize w2.heap.size + 1 = kb at *
  generalize w2.heap.size = ka at *
  generalize (w2.alloc (KO u1 false g1 p1)).alloc (KO u2 true g2 p2) = W1 at *
  have HI := BX.drew
  clear BX
  have sh := fun W (hW : Bx w [(kb, KO u2 true g2 p2), (ka, KO u1 false g1 p1)] W) => And.intro (cells4 hW kb _ _ _ _ _ (.head _)).1 (cells4 hW ka _ _ _ _ _ (.tail _ (.head _))).1
  refine Drawn.enter (Bx w [(kb, KO u2 true g2 p2), (ka, KO u1 false g1 p1)]) (by kernel_rfl) ?_
  refine Drawn.tk (i := 0) (v := ?v7) rfl (fun W hW => ?_) HI ?_
  rotate_left
  · have ⟨⟨t0, t1, t2, t3⟩, f0, f1, f2, f3⟩ := sh W hW
    go_simp <;> exact rfl
  refine Drawn.tk (i := 1) (v := ?v8) rfl (fun W hW => ?_) HI ?_
  rotate_left
  · have ⟨⟨t0, t1, t2, t3⟩, f0, f1, f2, f3⟩ := sh W hW
    go_simp <;> exact rfl
  refine Drawn.tk (i := 2) (v := ?v9) rfl (fun W hW => ?_) HI ?_
  rotate_left
  · have ⟨⟨t0, t1, t2, t3⟩, f0, f1, f2, f3⟩ := sh W hW
    go_simp <;> exact rfl
  refine Drawn.sk (i := 3) rfl HI ?_
  refine Drawn.sk (i := 4) rfl HI ?_
  refine Drawn.sk (i := 5) rfl HI ?_
  refine Drawn.sk (i := 6) rfl HI ?_
  refine Drawn.sk (i := 7) rfl HI ?_
  refine Drawn.sk (i := 8) rfl HI ?_
  refine Drawn.sk (i := 9) rfl HI ?_
  refine Drawn.tk (i := 10) (v := ?v10) rfl (fun W hW => ?_) HI ?_
  rotate_left
  · have ⟨⟨t0, t1, t2, t3⟩, f0, f1, f2, f3⟩ := sh W hW
    go_simp <;> exact rfl
  refine Drawn.tk (i := 11) (v := ?v11) rfl (fun W hW => ?_) HI ?_
  rotate_left
  · have ⟨⟨t0, t1, t2, t3⟩, f0, f1, f2, f3⟩ := sh W hW
    go_simp <;> exact rfl
  refine Drawn.done (by kernel_rfl) ?_
  try go_simp
  have BX := HI
  clear HI sh
  obtain ⟨⟨f0, f1, f2, f3⟩, _⟩ := cells4 BX ka _ _ _ _ _ (.tail _ (.head _))
  obtain ⟨⟨t0, t1, t2, t3⟩, _⟩ := cells4 BX kb _ _ _ _ _ (.head _)
  go_wp2
  go_ret2
  exact ⟨rfl, BX.bel⟩
theorem wExt_true (b : Bool) (en x y : Int) (hx : Ok b x) (hy : Ok b y) {u1 u2 : Int} {n1 n2 g1 g2 : Bool} {p1 p2 : Int} (e1 : stV b x = KV u1 n1 g1 p1) (e2 : stV b y = KV u2 n2 g2 p2) (h1 : n1 = false) (h2 : n2 = false) (a1 a2 : Int) (K1 : ∀ W, Calls Try.prog 36 #[KV u1 n1 g1 p1] W fun e w' => e = .returned (.int .i64 a1) ∧ Below W.heap.size W w') (K2 : ∀ W, Calls Try.prog 36 #[KV u2 n2 g2 p2] W fun e w' => e = .returned (.int .i64 a2) ∧ Below W.heap.size W w') (hq : (sgn a1 a2 == en) = true) (w : World) :
    Calls Try.prog 41 #[.int .u8 (fm b), .int .i64 en, .int .u64 x, .int .u64 y] w fun e w' => e = .returned (.tuple #[.int .u64 u1, .int .i64 0]) ∧ Below w.heap.size w w' := by
  have HS := fun W => Hide.mk (wStandsOf_ok b x y hx hy W e1 e2)
  clear e1 e2
  subst h1 h2
  have H1 := fun W => Hide.mk (K1 W)
  have H2 := fun W => Hide.mk (K2 W)
  clear K1 K2
  go_enter Try.func41, Try.ntmps41
  go_wp2_with fail
  refine (HS _).out.mono ?_
  rintro e w2 ⟨rfl, h2⟩
  have BX := (((Bx.nil w).keep h2).push (KO u1 false g1 p1)).push (KO u2 false g2 p2)
  rw [show (w2.alloc (KO u1 false g1 p1)).heap.size = w2.heap.size + 1 by simp] at BX
  obtain ⟨⟨f0, f1, f2, f3⟩, _⟩ := cells4 BX w2.heap.size _ _ _ _ _ (.tail _ (.head _))
  obtain ⟨⟨t0, t1, t2, t3⟩, _⟩ := cells4 BX (w2.heap.size + 1) _ _ _ _ _ (.head _)
  clear h2 HS
  go_wp2_with fail
  clear f0 f1 f2 f3 t0 t1 t2 t3
  generalize w2.heap.size + 1 = kb at *
  generalize w2.heap.size = ka at *
  generalize (w2.alloc (KO u1 false g1 p1)).alloc (KO u2 false g2 p2) = W1 at *
  have HI := BX.drew
  clear BX
  have sh := fun W (hW : Bx w [(kb, KO u2 false g2 p2), (ka, KO u1 false g1 p1)] W) => And.intro (cells4 hW kb _ _ _ _ _ (.head _)).1 (cells4 hW ka _ _ _ _ _ (.tail _ (.head _))).1
  refine Drawn.enter (Bx w [(kb, KO u2 false g2 p2), (ka, KO u1 false g1 p1)]) (by kernel_rfl) ?_
  refine Drawn.tk (i := 0) (v := ?v12) rfl (fun W hW => ?_) HI ?_
  rotate_left
  · have ⟨⟨t0, t1, t2, t3⟩, f0, f1, f2, f3⟩ := sh W hW
    go_simp <;> exact rfl
  refine Drawn.tk (i := 1) (v := ?v13) rfl (fun W hW => ?_) HI ?_
  rotate_left
  · have ⟨⟨t0, t1, t2, t3⟩, f0, f1, f2, f3⟩ := sh W hW
    go_simp <;> exact rfl
  refine Drawn.tk (i := 2) (v := ?v14) rfl (fun W hW => ?_) HI ?_
  rotate_left
  · have ⟨⟨t0, t1, t2, t3⟩, f0, f1, f2, f3⟩ := sh W hW
    go_simp <;> exact rfl
  refine Drawn.tk (i := 3) (v := ?v15) rfl (fun W hW => ?_) HI ?_
  rotate_left
  · have ⟨⟨t0, t1, t2, t3⟩, f0, f1, f2, f3⟩ := sh W hW
    go_simp <;> exact rfl
  refine Drawn.tk (i := 5) (v := ?v16) rfl (fun W hW => ?_) HI ?_
  rotate_left
  · have ⟨⟨t0, t1, t2, t3⟩, f0, f1, f2, f3⟩ := sh W hW
    go_simp <;> exact rfl
  refine Drawn.tk (i := 8) (v := ?v17) rfl (fun W hW => ?_) HI ?_
  rotate_left
  · have ⟨⟨t0, t1, t2, t3⟩, f0, f1, f2, f3⟩ := sh W hW
    go_simp <;> exact rfl
  refine Drawn.one (j := 4) (by kernel_rfl) rfl (fun K hK => ?_)
  go_simp
  refine ((H1 _).out).mono ?_
  rintro e wn ⟨rfl, hn⟩
  refine hK _ _ (HI.keep hn) ?_
  clear hK K
  replace HI := HI.keep hn
  clear hn
  refine Drawn.one (j := 6) (by kernel_rfl) rfl (fun K hK => ?_)
  go_simp
  refine ((H2 _).out).mono ?_
  rintro e wn ⟨rfl, hn⟩
  refine hK _ _ (HI.keep hn) ?_
  clear hK K
  replace HI := HI.keep hn
  clear hn
  refine Drawn.one (j := 7) (by kernel_rfl) rfl (fun K hK => ?_)
  go_simp
  refine (cmp64 a1 a2 _).mono ?_
  rintro e wn ⟨rfl, hn⟩
  refine hK _ _ (HI.keep hn) ?_
  clear hK K
  replace HI := HI.keep hn
  clear hn
  refine Drawn.tk (i := 9) (v := .bool true) rfl (fun W hW => ?_) HI ?_
  · have ⟨⟨t0, t1, t2, t3⟩, f0, f1, f2, f3⟩ := sh W hW
    go_simp <;> (exact hq)
  refine Drawn.tk (i := 10) (v := ?v18) rfl (fun W hW => ?_) HI ?_
  rotate_left
  · have ⟨⟨t0, t1, t2, t3⟩, f0, f1, f2, f3⟩ := sh W hW
    go_simp <;> exact rfl
  refine Drawn.tk (i := 11) (v := ?v19) rfl (fun W hW => ?_) HI ?_
  rotate_left
  · have ⟨⟨t0, t1, t2, t3⟩, f0, f1, f2, f3⟩ := sh W hW
    go_simp <;> exact rfl
  refine Drawn.done (by kernel_rfl) ?_
  try go_simp
  have BX := HI
  clear HI sh
  obtain ⟨⟨f0, f1, f2, f3⟩, _⟩ := cells4 BX ka _ _ _ _ _ (.tail _ (.head _))
  obtain ⟨⟨t0, t1, t2, t3⟩, _⟩ := cells4 BX kb _ _ _ _ _ (.head _)
  go_wp2
  go_ret2
  exact ⟨rfl, BX.bel⟩
theorem wExt_false (b : Bool) (en x y : Int) (hx : Ok b x) (hy : Ok b y) {u1 u2 : Int} {n1 n2 g1 g2 : Bool} {p1 p2 : Int} (e1 : stV b x = KV u1 n1 g1 p1) (e2 : stV b y = KV u2 n2 g2 p2) (h1 : n1 = false) (h2 : n2 = false) (a1 a2 : Int) (K1 : ∀ W, Calls Try.prog 36 #[KV u1 n1 g1 p1] W fun e w' => e = .returned (.int .i64 a1) ∧ Below W.heap.size W w') (K2 : ∀ W, Calls Try.prog 36 #[KV u2 n2 g2 p2] W fun e w' => e = .returned (.int .i64 a2) ∧ Below W.heap.size W w') (hq : (sgn a1 a2 == en) = false) (w : World) :
    Calls Try.prog 41 #[.int .u8 (fm b), .int .i64 en, .int .u64 x, .int .u64 y] w fun e w' => e = .returned (.tuple #[.int .u64 u2, .int .i64 0]) ∧ Below w.heap.size w w' := by
  have HS := fun W => Hide.mk (wStandsOf_ok b x y hx hy W e1 e2)
  clear e1 e2
  subst h1 h2
  have H1 := fun W => Hide.mk (K1 W)
  have H2 := fun W => Hide.mk (K2 W)
  clear K1 K2
  go_enter Try.func41, Try.ntmps41
  go_wp2_with fail
  refine (HS _).out.mono ?_
  rintro e w2 ⟨rfl, h2⟩
  have BX := (((Bx.nil w).keep h2).push (KO u1 false g1 p1)).push (KO u2 false g2 p2)
  rw [show (w2.alloc (KO u1 false g1 p1)).heap.size = w2.heap.size + 1 by simp] at BX
  obtain ⟨⟨f0, f1, f2, f3⟩, _⟩ := cells4 BX w2.heap.size _ _ _ _ _ (.tail _ (.head _))
  obtain ⟨⟨t0, t1, t2, t3⟩, _⟩ := cells4 BX (w2.heap.size + 1) _ _ _ _ _ (.head _)
  clear h2 HS
  go_wp2_with fail
  clear f0 f1 f2 f3 t0 t1 t2 t3
  generalize w2.heap.size + 1 = kb at *
  generalize w2.heap.size = ka at *
  generalize (w2.alloc (KO u1 false g1 p1)).alloc (KO u2 false g2 p2) = W1 at *
  have HI := BX.drew
  clear BX
  have sh := fun W (hW : Bx w [(kb, KO u2 false g2 p2), (ka, KO u1 false g1 p1)] W) => And.intro (cells4 hW kb _ _ _ _ _ (.head _)).1 (cells4 hW ka _ _ _ _ _ (.tail _ (.head _))).1
  refine Drawn.enter (Bx w [(kb, KO u2 false g2 p2), (ka, KO u1 false g1 p1)]) (by kernel_rfl) ?_
  refine Drawn.tk (i := 0) (v := ?v20) rfl (fun W hW => ?_) HI ?_
  rotate_left
  · have ⟨⟨t0, t1, t2, t3⟩, f0, f1, f2, f3⟩ := sh W hW
    go_simp <;> exact rfl
  refine Drawn.tk (i := 1) (v := ?v21) rfl (fun W hW => ?_) HI ?_
  rotate_left
  · have ⟨⟨t0, t1, t2, t3⟩, f0, f1, f2, f3⟩ := sh W hW
    go_simp <;> exact rfl
  refine Drawn.tk (i := 2) (v := ?v22) rfl (fun W hW => ?_) HI ?_
  rotate_left
  · have ⟨⟨t0, t1, t2, t3⟩, f0, f1, f2, f3⟩ := sh W hW
    go_simp <;> exact rfl
  refine Drawn.tk (i := 3) (v := ?v23) rfl (fun W hW => ?_) HI ?_
  rotate_left
  · have ⟨⟨t0, t1, t2, t3⟩, f0, f1, f2, f3⟩ := sh W hW
    go_simp <;> exact rfl
  refine Drawn.tk (i := 5) (v := ?v24) rfl (fun W hW => ?_) HI ?_
  rotate_left
  · have ⟨⟨t0, t1, t2, t3⟩, f0, f1, f2, f3⟩ := sh W hW
    go_simp <;> exact rfl
  refine Drawn.tk (i := 8) (v := ?v25) rfl (fun W hW => ?_) HI ?_
  rotate_left
  · have ⟨⟨t0, t1, t2, t3⟩, f0, f1, f2, f3⟩ := sh W hW
    go_simp <;> exact rfl
  refine Drawn.one (j := 4) (by kernel_rfl) rfl (fun K hK => ?_)
  go_simp
  refine ((H1 _).out).mono ?_
  rintro e wn ⟨rfl, hn⟩
  refine hK _ _ (HI.keep hn) ?_
  clear hK K
  replace HI := HI.keep hn
  clear hn
  refine Drawn.one (j := 6) (by kernel_rfl) rfl (fun K hK => ?_)
  go_simp
  refine ((H2 _).out).mono ?_
  rintro e wn ⟨rfl, hn⟩
  refine hK _ _ (HI.keep hn) ?_
  clear hK K
  replace HI := HI.keep hn
  clear hn
  refine Drawn.one (j := 7) (by kernel_rfl) rfl (fun K hK => ?_)
  go_simp
  refine (cmp64 a1 a2 _).mono ?_
  rintro e wn ⟨rfl, hn⟩
  refine hK _ _ (HI.keep hn) ?_
  clear hK K
  replace HI := HI.keep hn
  clear hn
  refine Drawn.tk (i := 9) (v := .bool false) rfl (fun W hW => ?_) HI ?_
  · have ⟨⟨t0, t1, t2, t3⟩, f0, f1, f2, f3⟩ := sh W hW
    go_simp <;> (exact hq)
  refine Drawn.tk (i := 10) (v := ?v26) rfl (fun W hW => ?_) HI ?_
  rotate_left
  · have ⟨⟨t0, t1, t2, t3⟩, f0, f1, f2, f3⟩ := sh W hW
    go_simp <;> exact rfl
  refine Drawn.tk (i := 11) (v := ?v27) rfl (fun W hW => ?_) HI ?_
  rotate_left
  · have ⟨⟨t0, t1, t2, t3⟩, f0, f1, f2, f3⟩ := sh W hW
    go_simp <;> exact rfl
  refine Drawn.done (by kernel_rfl) ?_
  try go_simp
  have BX := HI
  clear HI sh
  obtain ⟨⟨f0, f1, f2, f3⟩, _⟩ := cells4 BX ka _ _ _ _ _ (.tail _ (.head _))
  obtain ⟨⟨t0, t1, t2, t3⟩, _⟩ := cells4 BX kb _ _ _ _ _ (.head _)
  go_wp2
  go_ret2
  exact ⟨rfl, BX.bel⟩
theorem ht_of (b : Bool) (x : Int) : ∃ u n g p, stV b x = KV u n g p ∧ u = cnx b x ∧ n = decide (inf b < sz b x) ∧ ∀ W, Calls Try.prog 36 #[KV u n g p] W fun e w' => e = .returned (.int .i64 (ht b x)) ∧ Below W.heap.size W w' := by
  have hpx := pl_bd b x
  rcases stV_cases b x with ⟨c, h, k⟩ | ⟨c, h, k⟩
  · exact ⟨_, _, _, _, h, by unfold cnx; rw [if_pos c], (decide_eq_true c).symm, fun W => by have := wHeight (nan b) true false 0 (by decide) (by decide) W; rw [k]; exact this⟩
  · exact ⟨_, _, _, _, h, by unfold cnx; rw [if_neg c], (decide_eq_false c).symm, fun W => by have := wHeight x false (ng b x) (pl b x) hpx.1 hpx.2 W; rw [k]; exact this⟩
/-- The one of both that is told. -/
def ex (b : Bool) (en x y : Int) : Int := if inf b < sz b x then cnx b y else if inf b < sz b y then x else if sgn (ht b x) (ht b y) = en then x else y
theorem wExt (b : Bool) (en x y : Int) (hx : Ok b x) (hy : Ok b y) (w : World) :
    Calls Try.prog 41 #[.int .u8 (fm b), .int .i64 en, .int .u64 x, .int .u64 y] w fun e w' => e = .returned (.tuple #[.int .u64 (ex b en x y), .int .i64 0]) ∧ Below w.heap.size w w' := by
  obtain ⟨u1, n1, g1, p1, e1, hu1, hn1, K1⟩ := ht_of b x
  obtain ⟨u2, n2, g2, p2, e2, hu2, hn2, K2⟩ := ht_of b y
  unfold ex
  by_cases c : inf b < sz b x
  · rw [if_pos c, ← hu2]
    exact wExt_n1 b en x y hx hy e1 e2 (by rw [hn1]; exact decide_eq_true c) w
  · rw [if_neg c]
    have hn1' : n1 = false := by rw [hn1]; exact decide_eq_false c
    have hx1 : u1 = x := by rw [hu1]; unfold cnx; rw [if_neg c]
    by_cases d : inf b < sz b y
    · rw [if_pos d]
      have := wExt_n2 b en x y hx hy e1 e2 hn1' (by rw [hn2]; exact decide_eq_true d) w
      rw [hx1] at this
      exact this
    · rw [if_neg d]
      have hn2' : n2 = false := by rw [hn2]; exact decide_eq_false d
      have hy1 : u2 = y := by rw [hu2]; unfold cnx; rw [if_neg d]
      by_cases q : sgn (ht b x) (ht b y) = en
      · rw [if_pos q]
        have := wExt_true b en x y hx hy e1 e2 hn1' hn2' _ _ K1 K2 (by simpa using q) w
        rw [hx1] at this
        exact this
      · rw [if_neg q]
        have := wExt_false b en x y hx hy e1 e2 hn1' hn2' _ _ K1 K2 (by simpa using q) w
        rw [hy1] at this
        exact this
theorem wExt_err1 (f en x y c : Int) (h : GE f x c) (w : World) :
    Calls Try.prog 41 #[.int .u8 f, .int .i64 en, .int .u64 x, .int .u64 y] w fun e w' => e = .returned (.tuple #[.int .u64 0, .int .i64 c]) ∧ Below w.heap.size w w' := by
  have hne := h.ne
  have hn2 : (c != 0) = true := by simp only [bne, hne, Bool.not_false]
  go_enter Try.func41, Try.ntmps41
  go_wp2_with fail
  refine (wStandsOf_1 f x y c h _).mono ?_
  rintro e w2 ⟨rfl, h2⟩
  have BX := (((Bx.nil w).keep h2).push (KO 0 false false 0)).push (KO 0 false false 0)
  rw [show (w2.alloc (KO 0 false false 0)).heap.size = w2.heap.size + 1 by simp] at BX
  clear h2
  go_wp2
  go_ret2
  exact ⟨rfl, BX.bel⟩
theorem wExt_err2 (b : Bool) (en x y c : Int) (hx : Ok b x) (h : GE (fm b) y c) (w : World) :
    Calls Try.prog 41 #[.int .u8 (fm b), .int .i64 en, .int .u64 x, .int .u64 y] w fun e w' => e = .returned (.tuple #[.int .u64 0, .int .i64 c]) ∧ Below w.heap.size w w' := by
  have hne := h.ne
  have hn2 : (c != 0) = true := by simp only [bne, hne, Bool.not_false]
  go_enter Try.func41, Try.ntmps41
  go_wp2_with fail
  refine (wStandsOf_2 b x y c hx h _).mono ?_
  rintro e w2 ⟨rfl, h2⟩
  have BX := (((Bx.nil w).keep h2).push (KO 0 false false 0)).push (KO 0 false false 0)
  rw [show (w2.alloc (KO 0 false false 0)).heap.size = w2.heap.size + 1 by simp] at BX
  clear h2
  go_wp2
  go_ret2
  exact ⟨rfl, BX.bel⟩
theorem wMin0 (f x y v c : Int) (K : ∀ W, Calls Try.prog 41 #[.int .u8 f, .int .i64 (-1), .int .u64 x, .int .u64 y] W fun e w' => e = .returned (.tuple #[.int .u64 v, .int .i64 c]) ∧ Below W.heap.size W w') (w : World) :
    Calls Try.prog 17 #[.int .u8 f, .int .u64 x, .int .u64 y] w fun e w' => e = .returned (.tuple #[.int .u64 v, .int .i64 c]) ∧ Below w.heap.size w w' := by
  have H := fun W => Hide.mk (K W)
  clear K
  go_enter Try.func17, Try.ntmps17
  go_wp2_with fail
  refine (H _).out.mono ?_
  rintro e w2 ⟨rfl, h2⟩
  go_wp2
  go_ret2
  exact ⟨rfl, h2⟩
theorem wMax0 (f x y v c : Int) (K : ∀ W, Calls Try.prog 41 #[.int .u8 f, .int .i64 1, .int .u64 x, .int .u64 y] W fun e w' => e = .returned (.tuple #[.int .u64 v, .int .i64 c]) ∧ Below W.heap.size W w') (w : World) :
    Calls Try.prog 18 #[.int .u8 f, .int .u64 x, .int .u64 y] w fun e w' => e = .returned (.tuple #[.int .u64 v, .int .i64 c]) ∧ Below w.heap.size w w' := by
  have H := fun W => Hide.mk (K W)
  clear K
  go_enter Try.func18, Try.ntmps18
  go_wp2_with fail
  refine (H _).out.mono ?_
  rintro e w2 ⟨rfl, h2⟩
  go_wp2
  go_ret2
  exact ⟨rfl, h2⟩
end Go.Proofs.Ytgfpbmjknknflaa

namespace Go.Proofs.Ytgfpbmjknknflaa
open Go.RowKit Go.Wd Go.Box
set_option linter.unusedVariables false
set_option maxRecDepth 3000
theorem rMin1 (b : Bool) (x y : Int) (hx : Ok b x) (hy : Ok b y) (c1 : (cl b x == 5) = true) (w : World) :
    Calls Try.prog 19 #[.int .u8 (fm b), .int .u64 x, .int .u64 y] w fun e w' => e = .returned (.int .u64 (cnx b y)) ∧ Below w.heap.size w w' := by
  have BX := Bx.nil w
  go_enter Try.func19, Try.ntmps19
  go_wp2_with fail
  refine (rClass b x hx _).mono ?_
  rintro e v1 ⟨rfl, hk⟩
  replace BX := BX.keep hk
  clear hk
  go_wp2_with fail
  refine (rCanon b y hy _).mono ?_
  rintro e v2 ⟨rfl, hk⟩
  replace BX := BX.keep hk
  clear hk
  go_wp2
  go_ret
  exact ⟨by first | rfl | simp, BX.bel⟩
theorem rMin2 (b : Bool) (x y : Int) (hx : Ok b x) (hy : Ok b y) (c1 : (cl b x == 5) = false) (c2 : (cl b y == 5) = true) (w : World) :
    Calls Try.prog 19 #[.int .u8 (fm b), .int .u64 x, .int .u64 y] w fun e w' => e = .returned (.int .u64 x) ∧ Below w.heap.size w w' := by
  have BX := Bx.nil w
  go_enter Try.func19, Try.ntmps19
  go_wp2_with fail
  refine (rClass b x hx _).mono ?_
  rintro e v3 ⟨rfl, hk⟩
  replace BX := BX.keep hk
  clear hk
  go_wp2_with fail
  refine (rClass b y hy _).mono ?_
  rintro e v4 ⟨rfl, hk⟩
  replace BX := BX.keep hk
  clear hk
  go_wp2
  go_ret
  exact ⟨by first | rfl | simp, BX.bel⟩
theorem rMin3 (b : Bool) (x y : Int) (hx : Ok b x) (hy : Ok b y) (c1 : (cl b x == 5) = false) (c2 : (cl b y == 5) = false) (s : Int) (hs : sgn (ht b x) (ht b y) = s) (h : s ≤ 0) (w : World) :
    Calls Try.prog 19 #[.int .u8 (fm b), .int .u64 x, .int .u64 y] w fun e w' => e = .returned (.int .u64 x) ∧ Below w.heap.size w w' := by
  have BX := Bx.nil w
  go_enter Try.func19, Try.ntmps19
  have HT := fun W => Hide.mk (rTotal b x y hx hy W)
  rw [hs] at HT
  go_wp2_with fail
  refine (rClass b x hx _).mono ?_
  rintro e v5 ⟨rfl, hk⟩
  replace BX := BX.keep hk
  clear hk
  go_wp2_with fail
  refine (rClass b y hy _).mono ?_
  rintro e v6 ⟨rfl, hk⟩
  replace BX := BX.keep hk
  clear hk
  go_wp2_with fail
  refine ((HT _).out).mono ?_
  rintro e v7 ⟨rfl, hk⟩
  replace BX := BX.keep hk
  clear hk
  go_wp2
  go_ret
  exact ⟨by first | rfl | simp, BX.bel⟩
theorem rMin4 (b : Bool) (x y : Int) (hx : Ok b x) (hy : Ok b y) (c1 : (cl b x == 5) = false) (c2 : (cl b y == 5) = false) (s : Int) (hs : sgn (ht b x) (ht b y) = s) (h : ¬ s ≤ 0) (w : World) :
    Calls Try.prog 19 #[.int .u8 (fm b), .int .u64 x, .int .u64 y] w fun e w' => e = .returned (.int .u64 y) ∧ Below w.heap.size w w' := by
  have BX := Bx.nil w
  go_enter Try.func19, Try.ntmps19
  have HT := fun W => Hide.mk (rTotal b x y hx hy W)
  rw [hs] at HT
  go_wp2_with fail
  refine (rClass b x hx _).mono ?_
  rintro e v8 ⟨rfl, hk⟩
  replace BX := BX.keep hk
  clear hk
  go_wp2_with fail
  refine (rClass b y hy _).mono ?_
  rintro e v9 ⟨rfl, hk⟩
  replace BX := BX.keep hk
  clear hk
  go_wp2_with fail
  refine ((HT _).out).mono ?_
  rintro e v10 ⟨rfl, hk⟩
  replace BX := BX.keep hk
  clear hk
  go_wp2
  go_ret
  exact ⟨by first | rfl | simp, BX.bel⟩
theorem rMin (b : Bool) (x y : Int) (hx : Ok b x) (hy : Ok b y) (w : World) :
    Calls Try.prog 19 #[.int .u8 (fm b), .int .u64 x, .int .u64 y] w fun e w' => e = .returned (.int .u64 (ex b (-1) x y)) ∧ Below w.heap.size w w' := by
  unfold ex
  by_cases c1 : inf b < sz b x
  · rw [if_pos c1]
    exact rMin1 b x y hx hy (by simp [(cl_5 b x).2 c1]) w
  · have k1 : (cl b x == 5) = false := beq_eq_false_iff_ne.2 (fun q => c1 ((cl_5 b x).1 q))
    rw [if_neg c1]
    by_cases c2 : inf b < sz b y
    · rw [if_pos c2]
      exact rMin2 b x y hx hy k1 (by simp [(cl_5 b y).2 c2]) w
    · have k2 : (cl b y == 5) = false := beq_eq_false_iff_ne.2 (fun q => c2 ((cl_5 b y).1 q))
      rw [if_neg c2]
      rcases (show ht b x < ht b y ∨ ht b x = ht b y ∨ ht b y < ht b x by omega) with q | q | q
      · rw [sgn_is1 q]
        exact rMin3 b x y hx hy k1 k2 _ (sgn_is1 q) (by decide) w
      · have e := ht_inj hx hy c1 c2 q
        rw [show (if sgn (ht b x) (ht b y) = (-1) then x else y) = x by rw [e]; simp]
        exact rMin3 b x y hx hy k1 k2 _ (sgn_is0 q) (by decide) w
      · rw [sgn_is2 q]
        exact rMin4 b x y hx hy k1 k2 _ (sgn_is2 q) (by decide) w
theorem rMax1 (b : Bool) (x y : Int) (hx : Ok b x) (hy : Ok b y) (c1 : (cl b x == 5) = true) (w : World) :
    Calls Try.prog 20 #[.int .u8 (fm b), .int .u64 x, .int .u64 y] w fun e w' => e = .returned (.int .u64 (cnx b y)) ∧ Below w.heap.size w w' := by
  have BX := Bx.nil w
  go_enter Try.func20, Try.ntmps20
  go_wp2_with fail
  refine (rClass b x hx _).mono ?_
  rintro e v11 ⟨rfl, hk⟩
  replace BX := BX.keep hk
  clear hk
  go_wp2_with fail
  refine (rCanon b y hy _).mono ?_
  rintro e v12 ⟨rfl, hk⟩
  replace BX := BX.keep hk
  clear hk
  go_wp2
  go_ret
  exact ⟨by first | rfl | simp, BX.bel⟩
theorem rMax2 (b : Bool) (x y : Int) (hx : Ok b x) (hy : Ok b y) (c1 : (cl b x == 5) = false) (c2 : (cl b y == 5) = true) (w : World) :
    Calls Try.prog 20 #[.int .u8 (fm b), .int .u64 x, .int .u64 y] w fun e w' => e = .returned (.int .u64 x) ∧ Below w.heap.size w w' := by
  have BX := Bx.nil w
  go_enter Try.func20, Try.ntmps20
  go_wp2_with fail
  refine (rClass b x hx _).mono ?_
  rintro e v13 ⟨rfl, hk⟩
  replace BX := BX.keep hk
  clear hk
  go_wp2_with fail
  refine (rClass b y hy _).mono ?_
  rintro e v14 ⟨rfl, hk⟩
  replace BX := BX.keep hk
  clear hk
  go_wp2
  go_ret
  exact ⟨by first | rfl | simp, BX.bel⟩
theorem rMax3 (b : Bool) (x y : Int) (hx : Ok b x) (hy : Ok b y) (c1 : (cl b x == 5) = false) (c2 : (cl b y == 5) = false) (s : Int) (hs : sgn (ht b x) (ht b y) = s) (h : 0 ≤ s) (w : World) :
    Calls Try.prog 20 #[.int .u8 (fm b), .int .u64 x, .int .u64 y] w fun e w' => e = .returned (.int .u64 x) ∧ Below w.heap.size w w' := by
  have BX := Bx.nil w
  go_enter Try.func20, Try.ntmps20
  have HT := fun W => Hide.mk (rTotal b x y hx hy W)
  rw [hs] at HT
  go_wp2_with fail
  refine (rClass b x hx _).mono ?_
  rintro e v15 ⟨rfl, hk⟩
  replace BX := BX.keep hk
  clear hk
  go_wp2_with fail
  refine (rClass b y hy _).mono ?_
  rintro e v16 ⟨rfl, hk⟩
  replace BX := BX.keep hk
  clear hk
  go_wp2_with fail
  refine ((HT _).out).mono ?_
  rintro e v17 ⟨rfl, hk⟩
  replace BX := BX.keep hk
  clear hk
  go_wp2
  go_ret
  exact ⟨by first | rfl | simp, BX.bel⟩
theorem rMax4 (b : Bool) (x y : Int) (hx : Ok b x) (hy : Ok b y) (c1 : (cl b x == 5) = false) (c2 : (cl b y == 5) = false) (s : Int) (hs : sgn (ht b x) (ht b y) = s) (h : ¬ 0 ≤ s) (w : World) :
    Calls Try.prog 20 #[.int .u8 (fm b), .int .u64 x, .int .u64 y] w fun e w' => e = .returned (.int .u64 y) ∧ Below w.heap.size w w' := by
  have BX := Bx.nil w
  go_enter Try.func20, Try.ntmps20
  have HT := fun W => Hide.mk (rTotal b x y hx hy W)
  rw [hs] at HT
  go_wp2_with fail
  refine (rClass b x hx _).mono ?_
  rintro e v18 ⟨rfl, hk⟩
  replace BX := BX.keep hk
  clear hk
  go_wp2_with fail
  refine (rClass b y hy _).mono ?_
  rintro e v19 ⟨rfl, hk⟩
  replace BX := BX.keep hk
  clear hk
  go_wp2_with fail
  refine ((HT _).out).mono ?_
  rintro e v20 ⟨rfl, hk⟩
  replace BX := BX.keep hk
  clear hk
  go_wp2
  go_ret
  exact ⟨by first | rfl | simp, BX.bel⟩
theorem rMax (b : Bool) (x y : Int) (hx : Ok b x) (hy : Ok b y) (w : World) :
    Calls Try.prog 20 #[.int .u8 (fm b), .int .u64 x, .int .u64 y] w fun e w' => e = .returned (.int .u64 (ex b 1 x y)) ∧ Below w.heap.size w w' := by
  unfold ex
  by_cases c1 : inf b < sz b x
  · rw [if_pos c1]
    exact rMax1 b x y hx hy (by simp [(cl_5 b x).2 c1]) w
  · have k1 : (cl b x == 5) = false := beq_eq_false_iff_ne.2 (fun q => c1 ((cl_5 b x).1 q))
    rw [if_neg c1]
    by_cases c2 : inf b < sz b y
    · rw [if_pos c2]
      exact rMax2 b x y hx hy k1 (by simp [(cl_5 b y).2 c2]) w
    · have k2 : (cl b y == 5) = false := beq_eq_false_iff_ne.2 (fun q => c2 ((cl_5 b y).1 q))
      rw [if_neg c2]
      rcases (show ht b x < ht b y ∨ ht b x = ht b y ∨ ht b y < ht b x by omega) with q | q | q
      · rw [sgn_is1 q]
        exact rMax4 b x y hx hy k1 k2 _ (sgn_is1 q) (by decide) w
      · have e := ht_inj hx hy c1 c2 q
        rw [show (if sgn (ht b x) (ht b y) = 1 then x else y) = x by rw [e]; simp]
        exact rMax3 b x y hx hy k1 k2 _ (sgn_is0 q) (by decide) w
      · rw [sgn_is2 q]
        exact rMax3 b x y hx hy k1 k2 _ (sgn_is2 q) (by decide) w
end Go.Proofs.Ytgfpbmjknknflaa

namespace Go.Proofs.Ytgfpbmjknknflaa
open Go.RowKit Go.Wd Go.Box
set_option linter.unusedVariables false
set_option maxRecDepth 3000
set_option maxHeartbeats 4000000 in
theorem re_err (f x y c : Int) (hc : (c == 0) = false) (K1 : ∀ W, Calls Try.prog 17 #[.int .u8 f, .int .u64 x, .int .u64 y] W fun e w' => e = .returned (.tuple #[.int .u64 0, .int .i64 c]) ∧ Below W.heap.size W w') (K2 : ∀ W, Calls Try.prog 18 #[.int .u8 f, .int .u64 x, .int .u64 y] W fun e w' => e = .returned (.tuple #[.int .u64 0, .int .i64 c]) ∧ Below W.heap.size W w') (KO : ∀ W g, W.heap[g]? = some (.cells #[.int .u64 x, .int .u64 y] 23 (0, 0)) → Calls Try.prog 13 #[.int .u8 f, .slice (some ⟨g, 0, none⟩) 2 2] W fun e w' => e = .returned (.int .i64 c) ∧ Below W.heap.size W w') (w : World) :
    Calls Try.prog 4 #[.int .u8 f, .int .u64 x, .int .u64 y] w fun e w' => e = .returned (.bool true) ∧ Below w.heap.size w w' := by
  have H1 := fun W => Hide.mk (K1 W)
  have H2 := fun W => Hide.mk (K2 W)
  have HO := fun W g h => Hide.mk (KO W g h)
  clear K1 K2 KO
  have hcc : (c == c) = true := by simp
  have hc2 : (c != 0) = true := by simp only [bne, hc, Bool.not_false]
  have BX := Bx.nil w
  go_enter Try.func4, Try.ntmps4
  go_wp2_with fail
  refine ((H1 _).out).mono ?_
  rintro e v29 ⟨rfl, hk⟩
  replace BX := BX.keep hk
  clear hk
  go_wp2_with fail
  refine ((H2 _).out).mono ?_
  rintro e v30 ⟨rfl, hk⟩
  replace BX := BX.keep hk
  clear hk
  go_wp2_with fail
  replace BX := BX.push (.cells #[.int .u64 x, .int .u64 y] 23 (0, 0))
  refine (HO _ _ BX.head).out.mono ?_
  rintro e wo ⟨rfl, hk⟩
  replace BX := BX.keep hk
  clear hk
  go_wp2_with fail
  refine (lKnown7 _).mono ?_
  rintro e v31 ⟨rfl, hk⟩
  replace BX := BX.keep hk
  clear hk
  go_wp2
  go_ret
  exact ⟨by first | rfl | simp, BX.bel⟩
set_option maxHeartbeats 4000000 in
theorem re_ok (f x y v1 v2 : Int) (K1 : ∀ W, Calls Try.prog 17 #[.int .u8 f, .int .u64 x, .int .u64 y] W fun e w' => e = .returned (.tuple #[.int .u64 v1, .int .i64 0]) ∧ Below W.heap.size W w') (K2 : ∀ W, Calls Try.prog 18 #[.int .u8 f, .int .u64 x, .int .u64 y] W fun e w' => e = .returned (.tuple #[.int .u64 v2, .int .i64 0]) ∧ Below W.heap.size W w') (KO : ∀ W g, W.heap[g]? = some (.cells #[.int .u64 x, .int .u64 y] 23 (0, 0)) → Calls Try.prog 13 #[.int .u8 f, .slice (some ⟨g, 0, none⟩) 2 2] W fun e w' => e = .returned (.int .i64 0) ∧ Below W.heap.size W w') (R1 : ∀ W, Calls Try.prog 19 #[.int .u8 f, .int .u64 x, .int .u64 y] W fun e w' => e = .returned (.int .u64 v1) ∧ Below W.heap.size W w') (R2 : ∀ W, Calls Try.prog 20 #[.int .u8 f, .int .u64 x, .int .u64 y] W fun e w' => e = .returned (.int .u64 v2) ∧ Below W.heap.size W w') (w : World) :
    Calls Try.prog 4 #[.int .u8 f, .int .u64 x, .int .u64 y] w fun e w' => e = .returned (.bool true) ∧ Below w.heap.size w w' := by
  have H1 := fun W => Hide.mk (K1 W)
  have H2 := fun W => Hide.mk (K2 W)
  have HO := fun W g h => Hide.mk (KO W g h)
  clear K1 K2 KO
  have G1 := fun W => Hide.mk (R1 W)
  have G2 := fun W => Hide.mk (R2 W)
  clear R1 R2
  have e1 : (v1 == v1) = true := by simp
  have e2 : (v2 == v2) = true := by simp
  have BX := Bx.nil w
  go_enter Try.func4, Try.ntmps4
  go_wp2_with fail
  refine ((H1 _).out).mono ?_
  rintro e v32 ⟨rfl, hk⟩
  replace BX := BX.keep hk
  clear hk
  go_wp2_with fail
  refine ((H2 _).out).mono ?_
  rintro e v33 ⟨rfl, hk⟩
  replace BX := BX.keep hk
  clear hk
  go_wp2_with fail
  replace BX := BX.push (.cells #[.int .u64 x, .int .u64 y] 23 (0, 0))
  refine (HO _ _ BX.head).out.mono ?_
  rintro e wo ⟨rfl, hk⟩
  replace BX := BX.keep hk
  clear hk
  go_wp2_with fail
  refine ((G1 _).out).mono ?_
  rintro e v34 ⟨rfl, hk⟩
  replace BX := BX.keep hk
  clear hk
  go_wp2_with fail
  refine ((G2 _).out).mono ?_
  rintro e v35 ⟨rfl, hk⟩
  replace BX := BX.keep hk
  clear hk
  go_wp2_with fail
  refine (lKnown7 _).mono ?_
  rintro e v36 ⟨rfl, hk⟩
  replace BX := BX.keep hk
  clear hk
  go_wp2
  go_ret
  exact ⟨by first | rfl | simp, BX.bel⟩
/-- RankExtremes, whatever it is called with. -/
theorem re_any (f x y : Int) (w : World) (x0 : 0 ≤ x) (x1 : x < 18446744073709551616) (y0 : 0 ≤ y) (y1 : y < 18446744073709551616) :
    Calls Try.prog 4 #[.int .u8 f, .int .u64 x, .int .u64 y] w fun e w' => e = .returned (.bool true) ∧ Below w.heap.size w w' := by
  rcases fm_badK f with ⟨b, rfl⟩ | hf
  · by_cases hx : Ok b x
    · by_cases hy : Ok b y
      · exact re_ok (fm b) x y _ _ (wMin0 _ x y _ 0 (fun W => wExt b _ x y hx hy W)) (wMax0 _ x y _ 0 (fun W => wExt b _ x y hx hy W)) (fun W g h => rOpens2_ok b x y hx hy W g h) (fun W => rMin b x y hx hy W) (fun W => rMax b x y hx hy W) w
      · have q : 2 * sg b ≤ y := by unfold Ok at hy; omega
        have g : GE (fm b) y 6 := .inr ⟨b, rfl, q, rfl⟩
        exact re_err (fm b) x y 6 rfl (wMin0 _ x y 0 6 (fun W => wExt_err2 b _ x y 6 hx g W)) (wMax0 _ x y 0 6 (fun W => wExt_err2 b _ x y 6 hx g W)) (fun W k h => rOpens2_2 b x y hx q y1 W k h) w
    · have q : 2 * sg b ≤ x := by unfold Ok at hx; omega
      have g : GE (fm b) x 6 := .inr ⟨b, rfl, q, rfl⟩
      exact re_err (fm b) x y 6 rfl (wMin0 _ x y 0 6 (fun W => wExt_err1 _ _ x y 6 g W)) (wMax0 _ x y 0 6 (fun W => wExt_err1 _ _ x y 6 g W)) (fun W k h => rOpens2_1 b x y q x1 W k h) w
  · have g : GE f x 4 := .inl ⟨hf, rfl⟩
    exact re_err f x y 4 rfl (wMin0 _ x y 0 4 (fun W => wExt_err1 _ _ x y 4 g W)) (wMax0 _ x y 0 4 (fun W => wExt_err1 _ _ x y 4 g W)) (fun W k h => rOpens_bad f hf _ W) w
end Go.Proofs.Ytgfpbmjknknflaa
