import Derived.Test.YtgfpbmjknknflaaRankWalkPart3
namespace Go.Proofs.Ytgfpbmjknknflaa
open Go.RowKit Go.Wd Go.Box
set_option linter.unusedVariables false
set_option maxRecDepth 3000
theorem pl_neg {b : Bool} {x : Int} (h : Ok b x) (c : sg b ≤ x) : pl b x = -(x - sg b) ∧ sz b x = x - sg b := by
  have := sz_neg h c
  unfold pl
  rw [show ng b x = true from decide_eq_true c, sv_t, this]
  exact ⟨rfl, rfl⟩
theorem pl_pos {b : Bool} {x : Int} (h : Ok b x) (c : ¬ sg b ≤ x) : pl b x = x ∧ sz b x = x := by
  have := sz_pos h c
  unfold pl
  rw [show ng b x = false from decide_eq_false c, sv_f, this]
  exact ⟨rfl, rfl⟩
/-- A single step. -/
theorem step_up {b : Bool} {A : Int} (hA : Ok b A) (c : ¬ inf b < sz b A) (hne : A ≠ inf b) : upx b A = (up b A, 0) ∧ ∃ U, (if up b A = sg b then 0 else up b A) = U ∧ Ok b U ∧ ¬ inf b < sz b U ∧ pl b U = pl b A + 1 ∧ U = wpl b (pl b A + 1) := by
  have hi := inf_lt b
  have hb := inf_bd b
  have hp := sg_one b
  have h0 := hA.1
  have h1 := hA.2
  refine ⟨by unfold upx; rw [if_neg c, if_neg hne], _, rfl, ?_⟩
  have key : ∀ U, U = (if up b A = sg b then 0 else up b A) → (∃ h : Ok b U, (sg b ≤ U ∧ U ≠ sg b ∧ U - sg b ≤ inf b ∧ pl b A + 1 = -(U - sg b)) ∨ (¬ sg b ≤ U ∧ U ≤ inf b ∧ pl b A + 1 = U)) → Ok b U ∧ ¬ inf b < sz b U ∧ pl b U = pl b A + 1 ∧ U = wpl b (pl b A + 1) := by
    rintro U _ ⟨h, ⟨k1, k2, k3, k4⟩ | ⟨k1, k3, k4⟩⟩
    · obtain ⟨e1, e2⟩ := pl_neg h k1
      refine ⟨h, by omega, by omega, ?_⟩
      unfold wpl
      rw [if_pos (by omega)]; omega
    · obtain ⟨e1, e2⟩ := pl_pos h k1
      have := h.1
      refine ⟨h, by omega, by omega, ?_⟩
      unfold wpl
      rw [if_neg (by omega)]; omega
  apply key _ rfl
  by_cases s : sg b ≤ A
  · obtain ⟨e1, e2⟩ := pl_neg hA s
    by_cases z : A = sg b
    · have : up b A = 1 := by unfold up; rw [if_pos (by omega)]
      rw [this, if_neg (by omega)]
      exact ⟨⟨by omega, by omega⟩, .inr ⟨by omega, by omega, by omega⟩⟩
    · have : up b A = A - 1 := by unfold up; rw [if_neg (by omega), if_pos s]
      rw [this]
      by_cases q : A - 1 = sg b
      · rw [if_pos q]
        exact ⟨⟨by omega, by omega⟩, .inr ⟨by omega, by omega, by omega⟩⟩
      · rw [if_neg q]
        exact ⟨⟨by omega, by omega⟩, .inl ⟨by omega, by omega, by omega, by omega⟩⟩
  · obtain ⟨e1, e2⟩ := pl_pos hA s
    by_cases z : A = 0
    · have : up b A = 1 := by unfold up; rw [if_pos (by omega)]
      rw [this, if_neg (by omega)]
      exact ⟨⟨by omega, by omega⟩, .inr ⟨by omega, by omega, by omega⟩⟩
    · have : up b A = A + 1 := by unfold up; rw [if_neg (by omega), if_neg s]
      rw [this, if_neg (by omega)]
      exact ⟨⟨by omega, by omega⟩, .inr ⟨by omega, by omega, by omega⟩⟩
theorem wpl_pl {b : Bool} {x : Int} (h : Ok b x) : wpl b (pl b x) = if x = sg b then 0 else x := by
  have hp := sg_pos b
  have h0 := h.1
  by_cases c : sg b ≤ x
  · obtain ⟨e1, _⟩ := pl_neg h c
    unfold wpl
    rw [e1]
    by_cases d : x = sg b
    · rw [if_pos d, if_neg (by omega)]; omega
    · rw [if_neg d, if_pos (by omega)]; omega
  · obtain ⟨e1, _⟩ := pl_pos h c
    unfold wpl
    rw [e1, if_neg (by omega), if_neg (by omega)]
/-- Where the walk stands behind j steps. -/
structure At7 (b : Bool) (x : Int) (j : Nat) (A : Int) : Prop where
  ok : Ok b A
  num : ¬ inf b < sz b A
  eq : pl b A = pl b x + j
  at0 : j = 0 → A = x
  at1 : 0 < j → A = wpl b (pl b x + j)
theorem At7.next {b : Bool} {x A U : Int} {j : Nat} (h : At7 b x j A) (hne : A ≠ inf b) (hU : (if up b A = sg b then 0 else up b A) = U) : At7 b x (j + 1) U := by
  obtain ⟨_, U', e, h1, h2, h3, h4⟩ := step_up h.ok h.num hne
  obtain rfl : U' = U := e.symm.trans hU
  have := h.eq
  refine ⟨h1, h2, by omega, by omega, fun _ => ?_⟩
  rw [h4, this]
  congr 1
  omega
set_option maxHeartbeats 8000000 in
theorem rw_err (f x n : Int) (c : Int) (hc : (c == 0) = false) (KO : ∀ W g, W.heap[g]? = some (.cells #[.int .u64 x] 23 (0, 0)) → Calls Try.prog 13 #[.int .u8 f, .slice (some ⟨g, 0, none⟩) 1 1] W fun e w' => e = .returned (.int .i64 c) ∧ Below W.heap.size W w') (w : World) :
    Calls Try.prog 8 #[.int .u8 f, .int .u64 x, .int .i64 n] w fun e w' => e = .returned (.bool true) ∧ Below w.heap.size w w' := by
  have HO := fun W g h => Hide.mk (KO W g h)
  clear KO
  have hc2 : (c != 0) = true := by simp only [bne, hc, Bool.not_false]
  have BX := Bx.nil w
  go_enter Try.func8, Try.ntmps8
  go_wp2_with fail
  replace BX := BX.push (.cells #[.int .u64 x] 23 (0, 0))
  refine (HO _ _ BX.head).out.mono ?_
  rintro e wo ⟨rfl, hk⟩
  replace BX := BX.keep hk
  clear hk
  go_wp2_with fail
  refine (lKnown7 _).mono ?_
  rintro e v1 ⟨rfl, hk⟩
  replace BX := BX.keep hk
  clear hk
  go_wp2
  go_ret
  exact ⟨by first | rfl | simp, BX.bel⟩
set_option maxHeartbeats 8000000 in
theorem rw_low (f x n : Int) (KO : ∀ W g, W.heap[g]? = some (.cells #[.int .u64 x] 23 (0, 0)) → Calls Try.prog 13 #[.int .u8 f, .slice (some ⟨g, 0, none⟩) 1 1] W fun e w' => e = .returned (.int .i64 0) ∧ Below W.heap.size W w') (hn : n < 0) (w : World) :
    Calls Try.prog 8 #[.int .u8 f, .int .u64 x, .int .i64 n] w fun e w' => e = .returned (.bool true) ∧ Below w.heap.size w w' := by
  have HO := fun W g h => Hide.mk (KO W g h)
  clear KO
  have BX := Bx.nil w
  go_enter Try.func8, Try.ntmps8
  go_wp2_with fail
  replace BX := BX.push (.cells #[.int .u64 x] 23 (0, 0))
  refine (HO _ _ BX.head).out.mono ?_
  rintro e wo ⟨rfl, hk⟩
  replace BX := BX.keep hk
  clear hk
  go_wp2_with fail
  refine (lKnown7 _).mono ?_
  rintro e v2 ⟨rfl, hk⟩
  replace BX := BX.keep hk
  clear hk
  go_wp2
  go_ret
  exact ⟨by first | rfl | simp, BX.bel⟩
set_option maxHeartbeats 8000000 in
theorem rw_high (f x n : Int) (KO : ∀ W g, W.heap[g]? = some (.cells #[.int .u64 x] 23 (0, 0)) → Calls Try.prog 13 #[.int .u8 f, .slice (some ⟨g, 0, none⟩) 1 1] W fun e w' => e = .returned (.int .i64 0) ∧ Below W.heap.size W w') (hn0 : ¬ n < 0) (hn : 300 < n) (w : World) :
    Calls Try.prog 8 #[.int .u8 f, .int .u64 x, .int .i64 n] w fun e w' => e = .returned (.bool true) ∧ Below w.heap.size w w' := by
  have HO := fun W g h => Hide.mk (KO W g h)
  clear KO
  have BX := Bx.nil w
  go_enter Try.func8, Try.ntmps8
  go_wp2_with fail
  replace BX := BX.push (.cells #[.int .u64 x] 23 (0, 0))
  refine (HO _ _ BX.head).out.mono ?_
  rintro e wo ⟨rfl, hk⟩
  replace BX := BX.keep hk
  clear hk
  go_wp2_with fail
  refine (lKnown7 _).mono ?_
  rintro e v3 ⟨rfl, hk⟩
  replace BX := BX.keep hk
  clear hk
  go_wp2
  go_ret
  exact ⟨by first | rfl | simp, BX.bel⟩
set_option maxHeartbeats 8000000 in
theorem rw_nan (f x n : Int) (cx : Int) (KO : ∀ W g, W.heap[g]? = some (.cells #[.int .u64 x] 23 (0, 0)) → Calls Try.prog 13 #[.int .u8 f, .slice (some ⟨g, 0, none⟩) 1 1] W fun e w' => e = .returned (.int .i64 0) ∧ Below W.heap.size W w') (hn0 : ¬ n < 0) (hn : ¬ 300 < n) (Cx : ∀ W, Calls Try.prog 23 #[.int .u8 f, .int .u64 x] W fun e w' => e = .returned (.int .u8 cx) ∧ Below W.heap.size W w') (hx : (cx == 5) = true) (w : World) :
    Calls Try.prog 8 #[.int .u8 f, .int .u64 x, .int .i64 n] w fun e w' => e = .returned (.bool true) ∧ Below w.heap.size w w' := by
  have HO := fun W g h => Hide.mk (KO W g h)
  clear KO
  have Dx := fun W => Hide.mk (Cx W)
  clear Cx
  have BX := Bx.nil w
  go_enter Try.func8, Try.ntmps8
  go_wp2_with fail
  replace BX := BX.push (.cells #[.int .u64 x] 23 (0, 0))
  refine (HO _ _ BX.head).out.mono ?_
  rintro e wo ⟨rfl, hk⟩
  replace BX := BX.keep hk
  clear hk
  go_wp2_with fail
  refine ((Dx _).out).mono ?_
  rintro e v4 ⟨rfl, hk⟩
  replace BX := BX.keep hk
  clear hk
  go_wp2_with fail
  refine (lKnown7 _).mono ?_
  rintro e v5 ⟨rfl, hk⟩
  replace BX := BX.keep hk
  clear hk
  go_wp2
  go_ret
  exact ⟨by first | rfl | simp, BX.bel⟩
/-- What is behind the walk. -/
structure Tl7 (b : Bool) (x : Int) (j : Nat) (A R : Int) : Prop where
  s1 : ∀ W, Calls Try.prog 21 #[.int .u8 (fm b), .int .u64 x, .int .u64 A] W fun e w' => e = .returned (.tuple #[.int .u64 (j : Int), .int .i64 0]) ∧ Below W.heap.size W w'
  s2 : ∀ W, Calls Try.prog 21 #[.int .u8 (fm b), .int .u64 A, .int .u64 x] W fun e w' => e = .returned (.tuple #[.int .u64 (j : Int), .int .i64 0]) ∧ Below W.heap.size W w'
  m1 : ∀ W, Calls Try.prog 22 #[.int .u8 (fm b), .int .u64 x, .int .i64 (j : Int)] W fun e w' => e = .returned (.tuple #[.int .u64 A, .int .i64 0]) ∧ Below W.heap.size W w'
  m2 : ∀ W, Calls Try.prog 22 #[.int .u8 (fm b), .int .u64 A, .int .i64 (-(j : Int))] W fun e w' => e = .returned (.tuple #[.int .u64 R, .int .i64 0]) ∧ Below W.heap.size W w'
theorem At7.tl {b : Bool} {x A : Int} {j : Nat} (hx : Ok b x) (c : ¬ inf b < sz b x) (h : At7 b x j A) (hj : j ≤ 300) : Tl7 b x j A (if x = sg b ∧ 0 < j then 0 else x) := by
  have hp := h.eq
  have i1 := pl_inf c
  have i2 := pl_inf h.num
  refine ⟨fun W => ?_, fun W => ?_, fun W => ?_, fun W => ?_⟩
  · have := wSteps_ok b x A hx h.ok c h.num W
    rw [show max (pl b x) (pl b A) - min (pl b x) (pl b A) = (j : Int) by omega] at this
    exact this
  · have := wSteps_ok b A x h.ok hx h.num c W
    rw [show max (pl b A) (pl b x) - min (pl b A) (pl b x) = (j : Int) by omega] at this
    exact this
  · by_cases j0 : j = 0
    · rw [h.at0 j0, j0]; exact wMove_0 b x 0 hx c rfl W
    · have := wMove_ok b x j hx c (by omega) (by omega) (by omega) (by unfold mvd; omega) W
      rw [← h.at1 (by omega)] at this
      exact this
  · by_cases j0 : j = 0
    · rw [if_neg (by omega), h.at0 j0, j0]; exact wMove_0 b x 0 hx c rfl W
    · have := wMove_ok b A (-(j : Int)) h.ok h.num (by omega) (by omega) (by omega) (by unfold mvd; omega) W
      rw [show pl b A + -(j : Int) = pl b x by omega, wpl_pl hx] at this
      by_cases e : x = sg b
      · rw [if_pos e] at this
        rw [if_pos ⟨e, by omega⟩]
        exact this
      · rw [if_neg e] at this
        rw [if_neg (fun q => e q.1)]
        exact this
set_option maxHeartbeats 8000000 in
theorem rw_main (f x n : Int) (b : Bool) (cx : Int) (hf : f = fm b) (hxo : Hide (Ok b x)) (hxc : Hide (sz b x ≤ inf b)) (N : Nat) (hN : n = N) (hN3 : N ≤ 300) (KO : ∀ W g, W.heap[g]? = some (.cells #[.int .u64 x] 23 (0, 0)) → Calls Try.prog 13 #[.int .u8 f, .slice (some ⟨g, 0, none⟩) 1 1] W fun e w' => e = .returned (.int .i64 0) ∧ Below W.heap.size W w') (Cx : ∀ W, Calls Try.prog 23 #[.int .u8 f, .int .u64 x] W fun e w' => e = .returned (.int .u8 cx) ∧ Below W.heap.size W w') (hx : (cx == 5) = false) (w : World) :
    Calls Try.prog 8 #[.int .u8 f, .int .u64 x, .int .i64 n] w fun e w' => e = .returned (.bool true) ∧ Below w.heap.size w w' := by
  subst hf hN
  have HO := fun W g h => Hide.mk (KO W g h)
  clear KO
  have Dx := fun W => Hide.mk (Cx W)
  clear Cx
  have hn0 : ¬ (N : Int) < 0 := by omega
  have hn3 : ¬ (300 : Int) < N := by omega
  have BX := Bx.nil w
  go_enter Try.func8, Try.ntmps8
  go_wp2_with fail
  replace BX := BX.push (.cells #[.int .u64 x] 23 (0, 0))
  refine (HO _ _ BX.head).out.mono ?_
  rintro e wo ⟨rfl, hk⟩
  replace BX := BX.keep hk
  clear hk
  go_wp2_with fail
  refine ((Dx _).out).mono ?_
  rintro e v6 ⟨rfl, hk⟩
  replace BX := BX.keep hk
  clear hk
  go_wp2
  replace BX := BX.sub (L' := []) (by simp)
  go_loopw [7, 8] (fun a k wr => ∃ (j : Nat) (A : Int), j ≤ N ∧ k = .int .i64 j ∧ a = .int .u64 A ∧ Hide (At7 b x j A) ∧ Below w.heap.size w wr) (fun _ k _ => N - (intOf k).toNat)
  case atStart => exact ⟨0, x, Nat.zero_le _, rfl, rfl, ⟨⟨hxo.out, by have := hxc.out; omega, by simp, fun _ => rfl, fun h => absurd h (by decide)⟩⟩, BX.bel⟩
  case round =>
    obtain ⟨j, A, hjN, rfl, rfl, hat, hbel⟩ := hrel
    have hj3 : j ≤ 300 := by omega
    clear BX
    have BX : Bx w [] wr := ⟨hbel, fun _ h => by cases h⟩
    clear hbel
    by_cases hlt : j < N
    · have hlt2 : (j : Int) < (N : Int) := by omega
      by_cases hi : A = sd b (inf b) false
      · have hi2 : (A != sd b (inf b) false) = false := by simp [hi]
        clear hi
        go_wp2_with fail
        refine (rInf b false _).mono ?_
        rintro e v7 ⟨rfl, hk⟩
        replace BX := BX.keep hk
        clear hk
        obtain ⟨R, hR⟩ : ∃ R, (if x = sg b ∧ 0 < j then 0 else x) = R := ⟨_, rfl⟩
        have TL := Hide.mk (hat.out.tl hxo.out (by have := hxc.out; omega) hj3)
        rw [hR] at TL
        have eAA : (A == A) = true := by simp
        have ejj : ((j : Int) == (j : Int)) = true := by simp
        have w1 : IntKind.i64.wrap (-(j : Int)) = -(j : Int) := by rw [IntKind.wrap_i64]; omega
        have w2 : IntKind.u64.wrap (j : Int) = (j : Int) := by rw [IntKind.wrap_u64]; omega
        clear hat
        by_cases es : x = sg b
        · have es2 : (x == sg b) = true := by simp [es]
          by_cases ej : 0 < j
          · have eR : (R == 0) = true := by rw [← hR, if_pos ⟨es, ej⟩]; rfl
            clear hR es
            go_wp2_with fail
            refine (TL.out.s1 _).mono ?_
            rintro e v8 ⟨rfl, hk⟩
            replace BX := BX.keep hk
            clear hk
            go_wp2_with fail
            refine (TL.out.s2 _).mono ?_
            rintro e v9 ⟨rfl, hk⟩
            replace BX := BX.keep hk
            clear hk
            go_wp2_with fail
            refine (TL.out.m1 _).mono ?_
            rintro e v10 ⟨rfl, hk⟩
            replace BX := BX.keep hk
            clear hk
            go_wp2_with fail
            refine (TL.out.m2 _).mono ?_
            rintro e v11 ⟨rfl, hk⟩
            replace BX := BX.keep hk
            clear hk
            go_wp2_with fail
            refine (rSign b _).mono ?_
            rintro e v12 ⟨rfl, hk⟩
            replace BX := BX.keep hk
            clear hk
            go_wp2_with fail
            refine (lKnown7 _).mono ?_
            rintro e v13 ⟨rfl, hk⟩
            replace BX := BX.keep hk
            clear hk
            go_wp2
            go_ret
            exact ⟨by first | rfl | simp, BX.bel⟩
          · have eR : (R == x) = true := by rw [← hR, if_neg (fun q => ej q.2)]; simp
            clear hR es
            go_wp2_with fail
            refine (TL.out.s1 _).mono ?_
            rintro e v14 ⟨rfl, hk⟩
            replace BX := BX.keep hk
            clear hk
            go_wp2_with fail
            refine (TL.out.s2 _).mono ?_
            rintro e v15 ⟨rfl, hk⟩
            replace BX := BX.keep hk
            clear hk
            go_wp2_with fail
            refine (TL.out.m1 _).mono ?_
            rintro e v16 ⟨rfl, hk⟩
            replace BX := BX.keep hk
            clear hk
            go_wp2_with fail
            refine (TL.out.m2 _).mono ?_
            rintro e v17 ⟨rfl, hk⟩
            replace BX := BX.keep hk
            clear hk
            go_wp2_with fail
            refine (rSign b _).mono ?_
            rintro e v18 ⟨rfl, hk⟩
            replace BX := BX.keep hk
            clear hk
            go_wp2_with fail
            refine (lKnown7 _).mono ?_
            rintro e v19 ⟨rfl, hk⟩
            replace BX := BX.keep hk
            clear hk
            go_wp2
            go_ret
            exact ⟨by first | rfl | simp, BX.bel⟩
        · have es2 : (x == sg b) = false := beq_eq_false_iff_ne.2 es
          have eR : (R == x) = true := by rw [← hR, if_neg (fun q => es q.1)]; simp
          clear hR es
          go_wp2_with fail
          refine (TL.out.s1 _).mono ?_
          rintro e v20 ⟨rfl, hk⟩
          replace BX := BX.keep hk
          clear hk
          go_wp2_with fail
          refine (TL.out.s2 _).mono ?_
          rintro e v21 ⟨rfl, hk⟩
          replace BX := BX.keep hk
          clear hk
          go_wp2_with fail
          refine (TL.out.m1 _).mono ?_
          rintro e v22 ⟨rfl, hk⟩
          replace BX := BX.keep hk
          clear hk
          go_wp2_with fail
          refine (TL.out.m2 _).mono ?_
          rintro e v23 ⟨rfl, hk⟩
          replace BX := BX.keep hk
          clear hk
          go_wp2_with fail
          refine (rSign b _).mono ?_
          rintro e v24 ⟨rfl, hk⟩
          replace BX := BX.keep hk
          clear hk
          go_wp2_with fail
          refine (lKnown7 _).mono ?_
          rintro e v25 ⟨rfl, hk⟩
          replace BX := BX.keep hk
          clear hk
          go_wp2
          go_ret
          exact ⟨by first | rfl | simp, BX.bel⟩
      · have hi2 : (A != sd b (inf b) false) = true := by simp [hi]
        have hne : A ≠ inf b := hi
        obtain ⟨eu, _⟩ := step_up hat.out.ok hat.out.num hne
        have HU := fun W => Hide.mk (rUp b A hat.out.ok W)
        rw [eu] at HU
        clear hi eu
        go_wp2_with fail
        refine (rInf b false _).mono ?_
        rintro e v26 ⟨rfl, hk⟩
        replace BX := BX.keep hk
        clear hk
        go_wp2_with fail
        refine ((HU _).out).mono ?_
        rintro e v27 ⟨rfl, hk⟩
        replace BX := BX.keep hk
        clear hk
        go_wp2_with fail
        refine (rSign b _).mono ?_
        rintro e v28 ⟨rfl, hk⟩
        replace BX := BX.keep hk
        clear hk
        clear HU
        by_cases hs : up b A = sg b
        · have hs2 : (up b A == sg b) = true := by simp [hs]
          have hnx := Hide.mk (hat.out.next hne (show _ = (0 : Int) by rw [if_pos hs]))
          clear hs hat hne
          go_wp2
          go_roundw
          case rel => exact ⟨j + 1, 0, by omega, by go_num, rfl, hnx, BX.bel⟩
          case measure => simp [intOf]; omega
        · have hs2 : (up b A == sg b) = false := beq_eq_false_iff_ne.2 hs
          have hnx := Hide.mk (hat.out.next hne (show _ = up b A by rw [if_neg hs]))
          clear hs hat hne
          go_wp2
          go_roundw
          case rel => exact ⟨j + 1, up b A, by omega, by go_num, rfl, hnx, BX.bel⟩
          case measure => simp [intOf]; omega
    · have hlt2 : ¬ (j : Int) < (N : Int) := by omega
      obtain ⟨R, hR⟩ : ∃ R, (if x = sg b ∧ 0 < j then 0 else x) = R := ⟨_, rfl⟩
      have TL := Hide.mk (hat.out.tl hxo.out (by have := hxc.out; omega) hj3)
      rw [hR] at TL
      have eAA : (A == A) = true := by simp
      have ejj : ((j : Int) == (j : Int)) = true := by simp
      have w1 : IntKind.i64.wrap (-(j : Int)) = -(j : Int) := by rw [IntKind.wrap_i64]; omega
      have w2 : IntKind.u64.wrap (j : Int) = (j : Int) := by rw [IntKind.wrap_u64]; omega
      clear hat
      by_cases es : x = sg b
      · have es2 : (x == sg b) = true := by simp [es]
        by_cases ej : 0 < j
        · have eR : (R == 0) = true := by rw [← hR, if_pos ⟨es, ej⟩]; rfl
          clear hR es
          go_wp2_with fail
          refine (TL.out.s1 _).mono ?_
          rintro e v29 ⟨rfl, hk⟩
          replace BX := BX.keep hk
          clear hk
          go_wp2_with fail
          refine (TL.out.s2 _).mono ?_
          rintro e v30 ⟨rfl, hk⟩
          replace BX := BX.keep hk
          clear hk
          go_wp2_with fail
          refine (TL.out.m1 _).mono ?_
          rintro e v31 ⟨rfl, hk⟩
          replace BX := BX.keep hk
          clear hk
          go_wp2_with fail
          refine (TL.out.m2 _).mono ?_
          rintro e v32 ⟨rfl, hk⟩
          replace BX := BX.keep hk
          clear hk
          go_wp2_with fail
          refine (rSign b _).mono ?_
          rintro e v33 ⟨rfl, hk⟩
          replace BX := BX.keep hk
          clear hk
          go_wp2_with fail
          refine (lKnown7 _).mono ?_
          rintro e v34 ⟨rfl, hk⟩
          replace BX := BX.keep hk
          clear hk
          go_wp2
          go_ret
          exact ⟨by first | rfl | simp, BX.bel⟩
        · have eR : (R == x) = true := by rw [← hR, if_neg (fun q => ej q.2)]; simp
          clear hR es
          go_wp2_with fail
          refine (TL.out.s1 _).mono ?_
          rintro e v35 ⟨rfl, hk⟩
          replace BX := BX.keep hk
          clear hk
          go_wp2_with fail
          refine (TL.out.s2 _).mono ?_
          rintro e v36 ⟨rfl, hk⟩
          replace BX := BX.keep hk
          clear hk
          go_wp2_with fail
          refine (TL.out.m1 _).mono ?_
          rintro e v37 ⟨rfl, hk⟩
          replace BX := BX.keep hk
          clear hk
          go_wp2_with fail
          refine (TL.out.m2 _).mono ?_
          rintro e v38 ⟨rfl, hk⟩
          replace BX := BX.keep hk
          clear hk
          go_wp2_with fail
          refine (rSign b _).mono ?_
          rintro e v39 ⟨rfl, hk⟩
          replace BX := BX.keep hk
          clear hk
          go_wp2_with fail
          refine (lKnown7 _).mono ?_
          rintro e v40 ⟨rfl, hk⟩
          replace BX := BX.keep hk
          clear hk
          go_wp2
          go_ret
          exact ⟨by first | rfl | simp, BX.bel⟩
      · have es2 : (x == sg b) = false := beq_eq_false_iff_ne.2 es
        have eR : (R == x) = true := by rw [← hR, if_neg (fun q => es q.1)]; simp
        clear hR es
        go_wp2_with fail
        refine (TL.out.s1 _).mono ?_
        rintro e v41 ⟨rfl, hk⟩
        replace BX := BX.keep hk
        clear hk
        go_wp2_with fail
        refine (TL.out.s2 _).mono ?_
        rintro e v42 ⟨rfl, hk⟩
        replace BX := BX.keep hk
        clear hk
        go_wp2_with fail
        refine (TL.out.m1 _).mono ?_
        rintro e v43 ⟨rfl, hk⟩
        replace BX := BX.keep hk
        clear hk
        go_wp2_with fail
        refine (TL.out.m2 _).mono ?_
        rintro e v44 ⟨rfl, hk⟩
        replace BX := BX.keep hk
        clear hk
        go_wp2_with fail
        refine (rSign b _).mono ?_
        rintro e v45 ⟨rfl, hk⟩
        replace BX := BX.keep hk
        clear hk
        go_wp2_with fail
        refine (lKnown7 _).mono ?_
        rintro e v46 ⟨rfl, hk⟩
        replace BX := BX.keep hk
        clear hk
        go_wp2
        go_ret
        exact ⟨by first | rfl | simp, BX.bel⟩
/-- RankWalk, whatever it is called with. -/
theorem rw_any (f x n : Int) (w : World) (x0 : 0 ≤ x) (x1 : x < 18446744073709551616) :
    Calls Try.prog 8 #[.int .u8 f, .int .u64 x, .int .i64 n] w fun e w' => e = .returned (.bool true) ∧ Below w.heap.size w w' := by
  rcases fm_badK f with ⟨b, rfl⟩ | hf
  · by_cases hx : Ok b x
    · have KO := fun W g h => rOpens1_ok b x hx W g h
      by_cases n0 : n < 0
      · exact rw_low (fm b) x n KO n0 w
      · by_cases n1 : 300 < n
        · exact rw_high (fm b) x n KO n0 n1 w
        · have Cx := fun W => rClass b x hx W
          by_cases c : inf b < sz b x
          · exact rw_nan (fm b) x n _ KO n0 n1 Cx (by simp [(cl_5 b x).2 c]) w
          · exact rw_main (fm b) x n b _ rfl ⟨hx⟩ ⟨by omega⟩ n.toNat (by omega) (by omega) KO Cx (beq_eq_false_iff_ne.2 (fun q => c ((cl_5 b x).1 q))) w
    · exact rw_err (fm b) x n 6 rfl (fun W k h => rOpens1_1 b x (by unfold Ok at hx; omega) x1 W k h) w
  · exact rw_err f x n 4 rfl (fun W k h => rOpens_bad f hf _ W) w
end Go.Proofs.Ytgfpbmjknknflaa
