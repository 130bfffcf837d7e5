import Derived.Test.YtgfpbmjknknflaaRankTotalPart3
namespace Go.Proofs.Ytgfpbmjknknflaa
open Go.RowKit Go.Wd Go.Box
set_option linter.unusedVariables false
set_option maxRecDepth 3000
set_option maxHeartbeats 4000000 in
theorem rt_err (f x y z : Int) (c : Int) (hc : (c == 0) = false) (KO : ∀ W g, W.heap[g]? = some (.cells #[.int .u64 x, .int .u64 y, .int .u64 z] 23 (0, 0)) → Calls Try.prog 13 #[.int .u8 f, .slice (some ⟨g, 0, none⟩) 3 3] W fun e w' => e = .returned (.int .i64 c) ∧ Below W.heap.size W w') (w : World) :
    Calls Try.prog 7 #[.int .u8 f, .int .u64 x, .int .u64 y, .int .u64 z] w fun e w' => e = .returned (.bool true) ∧ Below w.heap.size w w' := by
  have HO := fun W g h => Hide.mk (KO W g h)
  clear KO
  have hc2 : (c != 0) = true := by simp only [bne, hc, Bool.not_false]
  have BX := Bx.nil w
  go_enter Try.func7, Try.ntmps7
  go_wp2_with fail
  replace BX := BX.push (.cells #[.int .u64 x, .int .u64 y, .int .u64 z] 23 (0, 0))
  refine (HO _ _ BX.head).out.mono ?_
  rintro e wo ⟨rfl, hk⟩
  replace BX := BX.keep hk
  clear hk
  go_wp2_with fail
  refine (lKnown7 _).mono ?_
  rintro e v1 ⟨rfl, hk⟩
  replace BX := BX.keep hk
  clear hk
  go_wp2
  go_ret
  exact ⟨by first | rfl | simp, BX.bel⟩
set_option maxHeartbeats 4000000 in
theorem rt_pss2 (f x y z : Int) (bc ac u v : Int) (KO : ∀ W g, W.heap[g]? = some (.cells #[.int .u64 x, .int .u64 y, .int .u64 z] 23 (0, 0)) → Calls Try.prog 13 #[.int .u8 f, .slice (some ⟨g, 0, none⟩) 3 3] W fun e w' => e = .returned (.int .i64 0) ∧ Below W.heap.size W w') (K1 : ∀ W, Calls Try.prog 12 #[.int .u8 f, .int .u64 x, .int .u64 y] W fun e w' => e = .returned (.tuple #[.int .i64 1, .int .i64 0]) ∧ Below W.heap.size W w') (K2 : ∀ W, Calls Try.prog 12 #[.int .u8 f, .int .u64 y, .int .u64 x] W fun e w' => e = .returned (.tuple #[.int .i64 (-1), .int .i64 0]) ∧ Below W.heap.size W w') (K3 : ∀ W, Calls Try.prog 12 #[.int .u8 f, .int .u64 y, .int .u64 z] W fun e w' => e = .returned (.tuple #[.int .i64 bc, .int .i64 0]) ∧ Below W.heap.size W w') (K4 : ∀ W, Calls Try.prog 12 #[.int .u8 f, .int .u64 x, .int .u64 z] W fun e w' => e = .returned (.tuple #[.int .i64 ac, .int .i64 0]) ∧ Below W.heap.size W w') (K5 : ∀ W, Calls Try.prog 11 #[.int .u8 f, .int .u64 x, .int .u64 y] W fun e w' => e = .returned (.tuple #[.int .u8 2, .int .i64 0]) ∧ Below W.heap.size W w') (N1 : ∀ W, Calls Try.prog 30 #[.int .u8 f, .int .u64 x] W fun e w' => e = .returned (.int .u64 u) ∧ Below W.heap.size W w') (N2 : ∀ W, Calls Try.prog 30 #[.int .u8 f, .int .u64 y] W fun e w' => e = .returned (.int .u64 v) ∧ Below W.heap.size W w') (huv : (u == v) = false) (w : World) :
    Calls Try.prog 7 #[.int .u8 f, .int .u64 x, .int .u64 y, .int .u64 z] w fun e w' => e = .returned (.bool true) ∧ Below w.heap.size w w' := by
  have HO := fun W g h => Hide.mk (KO W g h)
  clear KO
  have H1 := fun W => Hide.mk (K1 W)
  have H2 := fun W => Hide.mk (K2 W)
  have H3 := fun W => Hide.mk (K3 W)
  have H4 := fun W => Hide.mk (K4 W)
  have H5 := fun W => Hide.mk (K5 W)
  have G1 := fun W => Hide.mk (N1 W)
  have G2 := fun W => Hide.mk (N2 W)
  clear K1 K2 K3 K4 K5 N1 N2
  have BX := Bx.nil w
  go_enter Try.func7, Try.ntmps7
  go_wp2_with fail
  replace BX := BX.push (.cells #[.int .u64 x, .int .u64 y, .int .u64 z] 23 (0, 0))
  refine (HO _ _ BX.head).out.mono ?_
  rintro e wo ⟨rfl, hk⟩
  replace BX := BX.keep hk
  clear hk
  go_wp2_with fail
  refine ((H1 _).out).mono ?_
  rintro e v2 ⟨rfl, hk⟩
  replace BX := BX.keep hk
  clear hk
  go_wp2_with fail
  refine ((H2 _).out).mono ?_
  rintro e v3 ⟨rfl, hk⟩
  replace BX := BX.keep hk
  clear hk
  go_wp2_with fail
  refine ((H3 _).out).mono ?_
  rintro e v4 ⟨rfl, hk⟩
  replace BX := BX.keep hk
  clear hk
  go_wp2_with fail
  refine ((H4 _).out).mono ?_
  rintro e v5 ⟨rfl, hk⟩
  replace BX := BX.keep hk
  clear hk
  go_wp2_with fail
  refine ((H5 _).out).mono ?_
  rintro e v6 ⟨rfl, hk⟩
  replace BX := BX.keep hk
  clear hk
  go_wp2_with fail
  refine ((G1 _).out).mono ?_
  rintro e v7 ⟨rfl, hk⟩
  replace BX := BX.keep hk
  clear hk
  go_wp2_with fail
  refine ((G2 _).out).mono ?_
  rintro e v8 ⟨rfl, hk⟩
  replace BX := BX.keep hk
  clear hk
  go_wp2_with fail
  refine (lKnown7 _).mono ?_
  rintro e v9 ⟨rfl, hk⟩
  replace BX := BX.keep hk
  clear hk
  go_wp2
  go_ret
  exact ⟨by first | rfl | simp, BX.bel⟩
set_option maxHeartbeats 4000000 in
theorem rt_pss3 (f x y z : Int) (bc ac u v : Int) (KO : ∀ W g, W.heap[g]? = some (.cells #[.int .u64 x, .int .u64 y, .int .u64 z] 23 (0, 0)) → Calls Try.prog 13 #[.int .u8 f, .slice (some ⟨g, 0, none⟩) 3 3] W fun e w' => e = .returned (.int .i64 0) ∧ Below W.heap.size W w') (K1 : ∀ W, Calls Try.prog 12 #[.int .u8 f, .int .u64 x, .int .u64 y] W fun e w' => e = .returned (.tuple #[.int .i64 1, .int .i64 0]) ∧ Below W.heap.size W w') (K2 : ∀ W, Calls Try.prog 12 #[.int .u8 f, .int .u64 y, .int .u64 x] W fun e w' => e = .returned (.tuple #[.int .i64 (-1), .int .i64 0]) ∧ Below W.heap.size W w') (K3 : ∀ W, Calls Try.prog 12 #[.int .u8 f, .int .u64 y, .int .u64 z] W fun e w' => e = .returned (.tuple #[.int .i64 bc, .int .i64 0]) ∧ Below W.heap.size W w') (K4 : ∀ W, Calls Try.prog 12 #[.int .u8 f, .int .u64 x, .int .u64 z] W fun e w' => e = .returned (.tuple #[.int .i64 ac, .int .i64 0]) ∧ Below W.heap.size W w') (K5 : ∀ W, Calls Try.prog 11 #[.int .u8 f, .int .u64 x, .int .u64 y] W fun e w' => e = .returned (.tuple #[.int .u8 3, .int .i64 0]) ∧ Below W.heap.size W w') (N1 : ∀ W, Calls Try.prog 30 #[.int .u8 f, .int .u64 x] W fun e w' => e = .returned (.int .u64 u) ∧ Below W.heap.size W w') (N2 : ∀ W, Calls Try.prog 30 #[.int .u8 f, .int .u64 y] W fun e w' => e = .returned (.int .u64 v) ∧ Below W.heap.size W w') (huv : (u == v) = false) (w : World) :
    Calls Try.prog 7 #[.int .u8 f, .int .u64 x, .int .u64 y, .int .u64 z] w fun e w' => e = .returned (.bool true) ∧ Below w.heap.size w w' := by
  have HO := fun W g h => Hide.mk (KO W g h)
  clear KO
  have H1 := fun W => Hide.mk (K1 W)
  have H2 := fun W => Hide.mk (K2 W)
  have H3 := fun W => Hide.mk (K3 W)
  have H4 := fun W => Hide.mk (K4 W)
  have H5 := fun W => Hide.mk (K5 W)
  have G1 := fun W => Hide.mk (N1 W)
  have G2 := fun W => Hide.mk (N2 W)
  clear K1 K2 K3 K4 K5 N1 N2
  have BX := Bx.nil w
  go_enter Try.func7, Try.ntmps7
  go_wp2_with fail
  replace BX := BX.push (.cells #[.int .u64 x, .int .u64 y, .int .u64 z] 23 (0, 0))
  refine (HO _ _ BX.head).out.mono ?_
  rintro e wo ⟨rfl, hk⟩
  replace BX := BX.keep hk
  clear hk
  go_wp2_with fail
  refine ((H1 _).out).mono ?_
  rintro e v10 ⟨rfl, hk⟩
  replace BX := BX.keep hk
  clear hk
  go_wp2_with fail
  refine ((H2 _).out).mono ?_
  rintro e v11 ⟨rfl, hk⟩
  replace BX := BX.keep hk
  clear hk
  go_wp2_with fail
  refine ((H3 _).out).mono ?_
  rintro e v12 ⟨rfl, hk⟩
  replace BX := BX.keep hk
  clear hk
  go_wp2_with fail
  refine ((H4 _).out).mono ?_
  rintro e v13 ⟨rfl, hk⟩
  replace BX := BX.keep hk
  clear hk
  go_wp2_with fail
  refine ((H5 _).out).mono ?_
  rintro e v14 ⟨rfl, hk⟩
  replace BX := BX.keep hk
  clear hk
  go_wp2_with fail
  refine ((G1 _).out).mono ?_
  rintro e v15 ⟨rfl, hk⟩
  replace BX := BX.keep hk
  clear hk
  go_wp2_with fail
  refine ((G2 _).out).mono ?_
  rintro e v16 ⟨rfl, hk⟩
  replace BX := BX.keep hk
  clear hk
  go_wp2_with fail
  refine (lKnown7 _).mono ?_
  rintro e v17 ⟨rfl, hk⟩
  replace BX := BX.keep hk
  clear hk
  go_wp2
  go_ret
  exact ⟨by first | rfl | simp, BX.bel⟩
set_option maxHeartbeats 4000000 in
theorem rt_pss4 (f x y z : Int) (bc ac u v : Int) (KO : ∀ W g, W.heap[g]? = some (.cells #[.int .u64 x, .int .u64 y, .int .u64 z] 23 (0, 0)) → Calls Try.prog 13 #[.int .u8 f, .slice (some ⟨g, 0, none⟩) 3 3] W fun e w' => e = .returned (.int .i64 0) ∧ Below W.heap.size W w') (K1 : ∀ W, Calls Try.prog 12 #[.int .u8 f, .int .u64 x, .int .u64 y] W fun e w' => e = .returned (.tuple #[.int .i64 1, .int .i64 0]) ∧ Below W.heap.size W w') (K2 : ∀ W, Calls Try.prog 12 #[.int .u8 f, .int .u64 y, .int .u64 x] W fun e w' => e = .returned (.tuple #[.int .i64 (-1), .int .i64 0]) ∧ Below W.heap.size W w') (K3 : ∀ W, Calls Try.prog 12 #[.int .u8 f, .int .u64 y, .int .u64 z] W fun e w' => e = .returned (.tuple #[.int .i64 bc, .int .i64 0]) ∧ Below W.heap.size W w') (K4 : ∀ W, Calls Try.prog 12 #[.int .u8 f, .int .u64 x, .int .u64 z] W fun e w' => e = .returned (.tuple #[.int .i64 ac, .int .i64 0]) ∧ Below W.heap.size W w') (K5 : ∀ W, Calls Try.prog 11 #[.int .u8 f, .int .u64 x, .int .u64 y] W fun e w' => e = .returned (.tuple #[.int .u8 4, .int .i64 0]) ∧ Below W.heap.size W w') (N1 : ∀ W, Calls Try.prog 30 #[.int .u8 f, .int .u64 x] W fun e w' => e = .returned (.int .u64 u) ∧ Below W.heap.size W w') (N2 : ∀ W, Calls Try.prog 30 #[.int .u8 f, .int .u64 y] W fun e w' => e = .returned (.int .u64 v) ∧ Below W.heap.size W w') (huv : (u == v) = false) (w : World) :
    Calls Try.prog 7 #[.int .u8 f, .int .u64 x, .int .u64 y, .int .u64 z] w fun e w' => e = .returned (.bool true) ∧ Below w.heap.size w w' := by
  have HO := fun W g h => Hide.mk (KO W g h)
  clear KO
  have H1 := fun W => Hide.mk (K1 W)
  have H2 := fun W => Hide.mk (K2 W)
  have H3 := fun W => Hide.mk (K3 W)
  have H4 := fun W => Hide.mk (K4 W)
  have H5 := fun W => Hide.mk (K5 W)
  have G1 := fun W => Hide.mk (N1 W)
  have G2 := fun W => Hide.mk (N2 W)
  clear K1 K2 K3 K4 K5 N1 N2
  have BX := Bx.nil w
  go_enter Try.func7, Try.ntmps7
  go_wp2_with fail
  replace BX := BX.push (.cells #[.int .u64 x, .int .u64 y, .int .u64 z] 23 (0, 0))
  refine (HO _ _ BX.head).out.mono ?_
  rintro e wo ⟨rfl, hk⟩
  replace BX := BX.keep hk
  clear hk
  go_wp2_with fail
  refine ((H1 _).out).mono ?_
  rintro e v18 ⟨rfl, hk⟩
  replace BX := BX.keep hk
  clear hk
  go_wp2_with fail
  refine ((H2 _).out).mono ?_
  rintro e v19 ⟨rfl, hk⟩
  replace BX := BX.keep hk
  clear hk
  go_wp2_with fail
  refine ((H3 _).out).mono ?_
  rintro e v20 ⟨rfl, hk⟩
  replace BX := BX.keep hk
  clear hk
  go_wp2_with fail
  refine ((H4 _).out).mono ?_
  rintro e v21 ⟨rfl, hk⟩
  replace BX := BX.keep hk
  clear hk
  go_wp2_with fail
  refine ((H5 _).out).mono ?_
  rintro e v22 ⟨rfl, hk⟩
  replace BX := BX.keep hk
  clear hk
  go_wp2_with fail
  refine ((G1 _).out).mono ?_
  rintro e v23 ⟨rfl, hk⟩
  replace BX := BX.keep hk
  clear hk
  go_wp2_with fail
  refine ((G2 _).out).mono ?_
  rintro e v24 ⟨rfl, hk⟩
  replace BX := BX.keep hk
  clear hk
  go_wp2_with fail
  refine (lKnown7 _).mono ?_
  rintro e v25 ⟨rfl, hk⟩
  replace BX := BX.keep hk
  clear hk
  go_wp2
  go_ret
  exact ⟨by first | rfl | simp, BX.bel⟩
set_option maxHeartbeats 4000000 in
theorem rt_nps1 (f x y z : Int) (ac u v : Int) (KO : ∀ W g, W.heap[g]? = some (.cells #[.int .u64 x, .int .u64 y, .int .u64 z] 23 (0, 0)) → Calls Try.prog 13 #[.int .u8 f, .slice (some ⟨g, 0, none⟩) 3 3] W fun e w' => e = .returned (.int .i64 0) ∧ Below W.heap.size W w') (K1 : ∀ W, Calls Try.prog 12 #[.int .u8 f, .int .u64 x, .int .u64 y] W fun e w' => e = .returned (.tuple #[.int .i64 (-1), .int .i64 0]) ∧ Below W.heap.size W w') (K2 : ∀ W, Calls Try.prog 12 #[.int .u8 f, .int .u64 y, .int .u64 x] W fun e w' => e = .returned (.tuple #[.int .i64 1, .int .i64 0]) ∧ Below W.heap.size W w') (K3 : ∀ W, Calls Try.prog 12 #[.int .u8 f, .int .u64 y, .int .u64 z] W fun e w' => e = .returned (.tuple #[.int .i64 1, .int .i64 0]) ∧ Below W.heap.size W w') (K4 : ∀ W, Calls Try.prog 12 #[.int .u8 f, .int .u64 x, .int .u64 z] W fun e w' => e = .returned (.tuple #[.int .i64 ac, .int .i64 0]) ∧ Below W.heap.size W w') (K5 : ∀ W, Calls Try.prog 11 #[.int .u8 f, .int .u64 x, .int .u64 y] W fun e w' => e = .returned (.tuple #[.int .u8 1, .int .i64 0]) ∧ Below W.heap.size W w') (N1 : ∀ W, Calls Try.prog 30 #[.int .u8 f, .int .u64 x] W fun e w' => e = .returned (.int .u64 u) ∧ Below W.heap.size W w') (N2 : ∀ W, Calls Try.prog 30 #[.int .u8 f, .int .u64 y] W fun e w' => e = .returned (.int .u64 v) ∧ Below W.heap.size W w') (huv : (u == v) = false) (w : World) :
    Calls Try.prog 7 #[.int .u8 f, .int .u64 x, .int .u64 y, .int .u64 z] w fun e w' => e = .returned (.bool true) ∧ Below w.heap.size w w' := by
  have HO := fun W g h => Hide.mk (KO W g h)
  clear KO
  have H1 := fun W => Hide.mk (K1 W)
  have H2 := fun W => Hide.mk (K2 W)
  have H3 := fun W => Hide.mk (K3 W)
  have H4 := fun W => Hide.mk (K4 W)
  have H5 := fun W => Hide.mk (K5 W)
  have G1 := fun W => Hide.mk (N1 W)
  have G2 := fun W => Hide.mk (N2 W)
  clear K1 K2 K3 K4 K5 N1 N2
  have BX := Bx.nil w
  go_enter Try.func7, Try.ntmps7
  go_wp2_with fail
  replace BX := BX.push (.cells #[.int .u64 x, .int .u64 y, .int .u64 z] 23 (0, 0))
  refine (HO _ _ BX.head).out.mono ?_
  rintro e wo ⟨rfl, hk⟩
  replace BX := BX.keep hk
  clear hk
  go_wp2_with fail
  refine ((H1 _).out).mono ?_
  rintro e v26 ⟨rfl, hk⟩
  replace BX := BX.keep hk
  clear hk
  go_wp2_with fail
  refine ((H2 _).out).mono ?_
  rintro e v27 ⟨rfl, hk⟩
  replace BX := BX.keep hk
  clear hk
  go_wp2_with fail
  refine ((H3 _).out).mono ?_
  rintro e v28 ⟨rfl, hk⟩
  replace BX := BX.keep hk
  clear hk
  go_wp2_with fail
  refine ((H4 _).out).mono ?_
  rintro e v29 ⟨rfl, hk⟩
  replace BX := BX.keep hk
  clear hk
  go_wp2_with fail
  refine ((H5 _).out).mono ?_
  rintro e v30 ⟨rfl, hk⟩
  replace BX := BX.keep hk
  clear hk
  go_wp2_with fail
  refine ((G1 _).out).mono ?_
  rintro e v31 ⟨rfl, hk⟩
  replace BX := BX.keep hk
  clear hk
  go_wp2_with fail
  refine ((G2 _).out).mono ?_
  rintro e v32 ⟨rfl, hk⟩
  replace BX := BX.keep hk
  clear hk
  go_wp2_with fail
  refine (lKnown7 _).mono ?_
  rintro e v33 ⟨rfl, hk⟩
  replace BX := BX.keep hk
  clear hk
  go_wp2
  go_ret
  exact ⟨by first | rfl | simp, BX.bel⟩
set_option maxHeartbeats 4000000 in
theorem rt_nnn1 (f x y z : Int) ( u v : Int) (KO : ∀ W g, W.heap[g]? = some (.cells #[.int .u64 x, .int .u64 y, .int .u64 z] 23 (0, 0)) → Calls Try.prog 13 #[.int .u8 f, .slice (some ⟨g, 0, none⟩) 3 3] W fun e w' => e = .returned (.int .i64 0) ∧ Below W.heap.size W w') (K1 : ∀ W, Calls Try.prog 12 #[.int .u8 f, .int .u64 x, .int .u64 y] W fun e w' => e = .returned (.tuple #[.int .i64 (-1), .int .i64 0]) ∧ Below W.heap.size W w') (K2 : ∀ W, Calls Try.prog 12 #[.int .u8 f, .int .u64 y, .int .u64 x] W fun e w' => e = .returned (.tuple #[.int .i64 1, .int .i64 0]) ∧ Below W.heap.size W w') (K3 : ∀ W, Calls Try.prog 12 #[.int .u8 f, .int .u64 y, .int .u64 z] W fun e w' => e = .returned (.tuple #[.int .i64 (-1), .int .i64 0]) ∧ Below W.heap.size W w') (K4 : ∀ W, Calls Try.prog 12 #[.int .u8 f, .int .u64 x, .int .u64 z] W fun e w' => e = .returned (.tuple #[.int .i64 (-1), .int .i64 0]) ∧ Below W.heap.size W w') (K5 : ∀ W, Calls Try.prog 11 #[.int .u8 f, .int .u64 x, .int .u64 y] W fun e w' => e = .returned (.tuple #[.int .u8 1, .int .i64 0]) ∧ Below W.heap.size W w') (N1 : ∀ W, Calls Try.prog 30 #[.int .u8 f, .int .u64 x] W fun e w' => e = .returned (.int .u64 u) ∧ Below W.heap.size W w') (N2 : ∀ W, Calls Try.prog 30 #[.int .u8 f, .int .u64 y] W fun e w' => e = .returned (.int .u64 v) ∧ Below W.heap.size W w') (huv : (u == v) = false) (w : World) :
    Calls Try.prog 7 #[.int .u8 f, .int .u64 x, .int .u64 y, .int .u64 z] w fun e w' => e = .returned (.bool true) ∧ Below w.heap.size w w' := by
  have HO := fun W g h => Hide.mk (KO W g h)
  clear KO
  have H1 := fun W => Hide.mk (K1 W)
  have H2 := fun W => Hide.mk (K2 W)
  have H3 := fun W => Hide.mk (K3 W)
  have H4 := fun W => Hide.mk (K4 W)
  have H5 := fun W => Hide.mk (K5 W)
  have G1 := fun W => Hide.mk (N1 W)
  have G2 := fun W => Hide.mk (N2 W)
  clear K1 K2 K3 K4 K5 N1 N2
  have BX := Bx.nil w
  go_enter Try.func7, Try.ntmps7
  go_wp2_with fail
  replace BX := BX.push (.cells #[.int .u64 x, .int .u64 y, .int .u64 z] 23 (0, 0))
  refine (HO _ _ BX.head).out.mono ?_
  rintro e wo ⟨rfl, hk⟩
  replace BX := BX.keep hk
  clear hk
  go_wp2_with fail
  refine ((H1 _).out).mono ?_
  rintro e v34 ⟨rfl, hk⟩
  replace BX := BX.keep hk
  clear hk
  go_wp2_with fail
  refine ((H2 _).out).mono ?_
  rintro e v35 ⟨rfl, hk⟩
  replace BX := BX.keep hk
  clear hk
  go_wp2_with fail
  refine ((H3 _).out).mono ?_
  rintro e v36 ⟨rfl, hk⟩
  replace BX := BX.keep hk
  clear hk
  go_wp2_with fail
  refine ((H4 _).out).mono ?_
  rintro e v37 ⟨rfl, hk⟩
  replace BX := BX.keep hk
  clear hk
  go_wp2_with fail
  refine ((H5 _).out).mono ?_
  rintro e v38 ⟨rfl, hk⟩
  replace BX := BX.keep hk
  clear hk
  go_wp2_with fail
  refine ((G1 _).out).mono ?_
  rintro e v39 ⟨rfl, hk⟩
  replace BX := BX.keep hk
  clear hk
  go_wp2_with fail
  refine ((G2 _).out).mono ?_
  rintro e v40 ⟨rfl, hk⟩
  replace BX := BX.keep hk
  clear hk
  go_wp2_with fail
  refine (lKnown7 _).mono ?_
  rintro e v41 ⟨rfl, hk⟩
  replace BX := BX.keep hk
  clear hk
  go_wp2
  go_ret
  exact ⟨by first | rfl | simp, BX.bel⟩
set_option maxHeartbeats 4000000 in
theorem rt_nzn1 (f x y z : Int) ( u v : Int) (KO : ∀ W g, W.heap[g]? = some (.cells #[.int .u64 x, .int .u64 y, .int .u64 z] 23 (0, 0)) → Calls Try.prog 13 #[.int .u8 f, .slice (some ⟨g, 0, none⟩) 3 3] W fun e w' => e = .returned (.int .i64 0) ∧ Below W.heap.size W w') (K1 : ∀ W, Calls Try.prog 12 #[.int .u8 f, .int .u64 x, .int .u64 y] W fun e w' => e = .returned (.tuple #[.int .i64 (-1), .int .i64 0]) ∧ Below W.heap.size W w') (K2 : ∀ W, Calls Try.prog 12 #[.int .u8 f, .int .u64 y, .int .u64 x] W fun e w' => e = .returned (.tuple #[.int .i64 1, .int .i64 0]) ∧ Below W.heap.size W w') (K3 : ∀ W, Calls Try.prog 12 #[.int .u8 f, .int .u64 y, .int .u64 z] W fun e w' => e = .returned (.tuple #[.int .i64 0, .int .i64 0]) ∧ Below W.heap.size W w') (K4 : ∀ W, Calls Try.prog 12 #[.int .u8 f, .int .u64 x, .int .u64 z] W fun e w' => e = .returned (.tuple #[.int .i64 (-1), .int .i64 0]) ∧ Below W.heap.size W w') (K5 : ∀ W, Calls Try.prog 11 #[.int .u8 f, .int .u64 x, .int .u64 y] W fun e w' => e = .returned (.tuple #[.int .u8 1, .int .i64 0]) ∧ Below W.heap.size W w') (N1 : ∀ W, Calls Try.prog 30 #[.int .u8 f, .int .u64 x] W fun e w' => e = .returned (.int .u64 u) ∧ Below W.heap.size W w') (N2 : ∀ W, Calls Try.prog 30 #[.int .u8 f, .int .u64 y] W fun e w' => e = .returned (.int .u64 v) ∧ Below W.heap.size W w') (huv : (u == v) = false) (w : World) :
    Calls Try.prog 7 #[.int .u8 f, .int .u64 x, .int .u64 y, .int .u64 z] w fun e w' => e = .returned (.bool true) ∧ Below w.heap.size w w' := by
  have HO := fun W g h => Hide.mk (KO W g h)
  clear KO
  have H1 := fun W => Hide.mk (K1 W)
  have H2 := fun W => Hide.mk (K2 W)
  have H3 := fun W => Hide.mk (K3 W)
  have H4 := fun W => Hide.mk (K4 W)
  have H5 := fun W => Hide.mk (K5 W)
  have G1 := fun W => Hide.mk (N1 W)
  have G2 := fun W => Hide.mk (N2 W)
  clear K1 K2 K3 K4 K5 N1 N2
  have BX := Bx.nil w
  go_enter Try.func7, Try.ntmps7
  go_wp2_with fail
  replace BX := BX.push (.cells #[.int .u64 x, .int .u64 y, .int .u64 z] 23 (0, 0))
  refine (HO _ _ BX.head).out.mono ?_
  rintro e wo ⟨rfl, hk⟩
  replace BX := BX.keep hk
  clear hk
  go_wp2_with fail
  refine ((H1 _).out).mono ?_
  rintro e v42 ⟨rfl, hk⟩
  replace BX := BX.keep hk
  clear hk
  go_wp2_with fail
  refine ((H2 _).out).mono ?_
  rintro e v43 ⟨rfl, hk⟩
  replace BX := BX.keep hk
  clear hk
  go_wp2_with fail
  refine ((H3 _).out).mono ?_
  rintro e v44 ⟨rfl, hk⟩
  replace BX := BX.keep hk
  clear hk
  go_wp2_with fail
  refine ((H4 _).out).mono ?_
  rintro e v45 ⟨rfl, hk⟩
  replace BX := BX.keep hk
  clear hk
  go_wp2_with fail
  refine ((H5 _).out).mono ?_
  rintro e v46 ⟨rfl, hk⟩
  replace BX := BX.keep hk
  clear hk
  go_wp2_with fail
  refine ((G1 _).out).mono ?_
  rintro e v47 ⟨rfl, hk⟩
  replace BX := BX.keep hk
  clear hk
  go_wp2_with fail
  refine ((G2 _).out).mono ?_
  rintro e v48 ⟨rfl, hk⟩
  replace BX := BX.keep hk
  clear hk
  go_wp2_with fail
  refine (lKnown7 _).mono ?_
  rintro e v49 ⟨rfl, hk⟩
  replace BX := BX.keep hk
  clear hk
  go_wp2
  go_ret
  exact ⟨by first | rfl | simp, BX.bel⟩
set_option maxHeartbeats 4000000 in
theorem rt_nps2 (f x y z : Int) (ac u v : Int) (KO : ∀ W g, W.heap[g]? = some (.cells #[.int .u64 x, .int .u64 y, .int .u64 z] 23 (0, 0)) → Calls Try.prog 13 #[.int .u8 f, .slice (some ⟨g, 0, none⟩) 3 3] W fun e w' => e = .returned (.int .i64 0) ∧ Below W.heap.size W w') (K1 : ∀ W, Calls Try.prog 12 #[.int .u8 f, .int .u64 x, .int .u64 y] W fun e w' => e = .returned (.tuple #[.int .i64 (-1), .int .i64 0]) ∧ Below W.heap.size W w') (K2 : ∀ W, Calls Try.prog 12 #[.int .u8 f, .int .u64 y, .int .u64 x] W fun e w' => e = .returned (.tuple #[.int .i64 1, .int .i64 0]) ∧ Below W.heap.size W w') (K3 : ∀ W, Calls Try.prog 12 #[.int .u8 f, .int .u64 y, .int .u64 z] W fun e w' => e = .returned (.tuple #[.int .i64 1, .int .i64 0]) ∧ Below W.heap.size W w') (K4 : ∀ W, Calls Try.prog 12 #[.int .u8 f, .int .u64 x, .int .u64 z] W fun e w' => e = .returned (.tuple #[.int .i64 ac, .int .i64 0]) ∧ Below W.heap.size W w') (K5 : ∀ W, Calls Try.prog 11 #[.int .u8 f, .int .u64 x, .int .u64 y] W fun e w' => e = .returned (.tuple #[.int .u8 2, .int .i64 0]) ∧ Below W.heap.size W w') (N1 : ∀ W, Calls Try.prog 30 #[.int .u8 f, .int .u64 x] W fun e w' => e = .returned (.int .u64 u) ∧ Below W.heap.size W w') (N2 : ∀ W, Calls Try.prog 30 #[.int .u8 f, .int .u64 y] W fun e w' => e = .returned (.int .u64 v) ∧ Below W.heap.size W w') (huv : (u == v) = false) (w : World) :
    Calls Try.prog 7 #[.int .u8 f, .int .u64 x, .int .u64 y, .int .u64 z] w fun e w' => e = .returned (.bool true) ∧ Below w.heap.size w w' := by
  have HO := fun W g h => Hide.mk (KO W g h)
  clear KO
  have H1 := fun W => Hide.mk (K1 W)
  have H2 := fun W => Hide.mk (K2 W)
  have H3 := fun W => Hide.mk (K3 W)
  have H4 := fun W => Hide.mk (K4 W)
  have H5 := fun W => Hide.mk (K5 W)
  have G1 := fun W => Hide.mk (N1 W)
  have G2 := fun W => Hide.mk (N2 W)
  clear K1 K2 K3 K4 K5 N1 N2
  have BX := Bx.nil w
  go_enter Try.func7, Try.ntmps7
  go_wp2_with fail
  replace BX := BX.push (.cells #[.int .u64 x, .int .u64 y, .int .u64 z] 23 (0, 0))
  refine (HO _ _ BX.head).out.mono ?_
  rintro e wo ⟨rfl, hk⟩
  replace BX := BX.keep hk
  clear hk
  go_wp2_with fail
  refine ((H1 _).out).mono ?_
  rintro e v50 ⟨rfl, hk⟩
  replace BX := BX.keep hk
  clear hk
  go_wp2_with fail
  refine ((H2 _).out).mono ?_
  rintro e v51 ⟨rfl, hk⟩
  replace BX := BX.keep hk
  clear hk
  go_wp2_with fail
  refine ((H3 _).out).mono ?_
  rintro e v52 ⟨rfl, hk⟩
  replace BX := BX.keep hk
  clear hk
  go_wp2_with fail
  refine ((H4 _).out).mono ?_
  rintro e v53 ⟨rfl, hk⟩
  replace BX := BX.keep hk
  clear hk
  go_wp2_with fail
  refine ((H5 _).out).mono ?_
  rintro e v54 ⟨rfl, hk⟩
  replace BX := BX.keep hk
  clear hk
  go_wp2_with fail
  refine ((G1 _).out).mono ?_
  rintro e v55 ⟨rfl, hk⟩
  replace BX := BX.keep hk
  clear hk
  go_wp2_with fail
  refine ((G2 _).out).mono ?_
  rintro e v56 ⟨rfl, hk⟩
  replace BX := BX.keep hk
  clear hk
  go_wp2_with fail
  refine (lKnown7 _).mono ?_
  rintro e v57 ⟨rfl, hk⟩
  replace BX := BX.keep hk
  clear hk
  go_wp2
  go_ret
  exact ⟨by first | rfl | simp, BX.bel⟩
set_option maxHeartbeats 4000000 in
theorem rt_nnn2 (f x y z : Int) ( u v : Int) (KO : ∀ W g, W.heap[g]? = some (.cells #[.int .u64 x, .int .u64 y, .int .u64 z] 23 (0, 0)) → Calls Try.prog 13 #[.int .u8 f, .slice (some ⟨g, 0, none⟩) 3 3] W fun e w' => e = .returned (.int .i64 0) ∧ Below W.heap.size W w') (K1 : ∀ W, Calls Try.prog 12 #[.int .u8 f, .int .u64 x, .int .u64 y] W fun e w' => e = .returned (.tuple #[.int .i64 (-1), .int .i64 0]) ∧ Below W.heap.size W w') (K2 : ∀ W, Calls Try.prog 12 #[.int .u8 f, .int .u64 y, .int .u64 x] W fun e w' => e = .returned (.tuple #[.int .i64 1, .int .i64 0]) ∧ Below W.heap.size W w') (K3 : ∀ W, Calls Try.prog 12 #[.int .u8 f, .int .u64 y, .int .u64 z] W fun e w' => e = .returned (.tuple #[.int .i64 (-1), .int .i64 0]) ∧ Below W.heap.size W w') (K4 : ∀ W, Calls Try.prog 12 #[.int .u8 f, .int .u64 x, .int .u64 z] W fun e w' => e = .returned (.tuple #[.int .i64 (-1), .int .i64 0]) ∧ Below W.heap.size W w') (K5 : ∀ W, Calls Try.prog 11 #[.int .u8 f, .int .u64 x, .int .u64 y] W fun e w' => e = .returned (.tuple #[.int .u8 2, .int .i64 0]) ∧ Below W.heap.size W w') (N1 : ∀ W, Calls Try.prog 30 #[.int .u8 f, .int .u64 x] W fun e w' => e = .returned (.int .u64 u) ∧ Below W.heap.size W w') (N2 : ∀ W, Calls Try.prog 30 #[.int .u8 f, .int .u64 y] W fun e w' => e = .returned (.int .u64 v) ∧ Below W.heap.size W w') (huv : (u == v) = false) (w : World) :
    Calls Try.prog 7 #[.int .u8 f, .int .u64 x, .int .u64 y, .int .u64 z] w fun e w' => e = .returned (.bool true) ∧ Below w.heap.size w w' := by
  have HO := fun W g h => Hide.mk (KO W g h)
  clear KO
  have H1 := fun W => Hide.mk (K1 W)
  have H2 := fun W => Hide.mk (K2 W)
  have H3 := fun W => Hide.mk (K3 W)
  have H4 := fun W => Hide.mk (K4 W)
  have H5 := fun W => Hide.mk (K5 W)
  have G1 := fun W => Hide.mk (N1 W)
  have G2 := fun W => Hide.mk (N2 W)
  clear K1 K2 K3 K4 K5 N1 N2
  have BX := Bx.nil w
  go_enter Try.func7, Try.ntmps7
  go_wp2_with fail
  replace BX := BX.push (.cells #[.int .u64 x, .int .u64 y, .int .u64 z] 23 (0, 0))
  refine (HO _ _ BX.head).out.mono ?_
  rintro e wo ⟨rfl, hk⟩
  replace BX := BX.keep hk
  clear hk
  go_wp2_with fail
  refine ((H1 _).out).mono ?_
  rintro e v58 ⟨rfl, hk⟩
  replace BX := BX.keep hk
  clear hk
  go_wp2_with fail
  refine ((H2 _).out).mono ?_
  rintro e v59 ⟨rfl, hk⟩
  replace BX := BX.keep hk
  clear hk
  go_wp2_with fail
  refine ((H3 _).out).mono ?_
  rintro e v60 ⟨rfl, hk⟩
  replace BX := BX.keep hk
  clear hk
  go_wp2_with fail
  refine ((H4 _).out).mono ?_
  rintro e v61 ⟨rfl, hk⟩
  replace BX := BX.keep hk
  clear hk
  go_wp2_with fail
  refine ((H5 _).out).mono ?_
  rintro e v62 ⟨rfl, hk⟩
  replace BX := BX.keep hk
  clear hk
  go_wp2_with fail
  refine ((G1 _).out).mono ?_
  rintro e v63 ⟨rfl, hk⟩
  replace BX := BX.keep hk
  clear hk
  go_wp2_with fail
  refine ((G2 _).out).mono ?_
  rintro e v64 ⟨rfl, hk⟩
  replace BX := BX.keep hk
  clear hk
  go_wp2_with fail
  refine (lKnown7 _).mono ?_
  rintro e v65 ⟨rfl, hk⟩
  replace BX := BX.keep hk
  clear hk
  go_wp2
  go_ret
  exact ⟨by first | rfl | simp, BX.bel⟩
set_option maxHeartbeats 4000000 in
theorem rt_nzn2 (f x y z : Int) ( u v : Int) (KO : ∀ W g, W.heap[g]? = some (.cells #[.int .u64 x, .int .u64 y, .int .u64 z] 23 (0, 0)) → Calls Try.prog 13 #[.int .u8 f, .slice (some ⟨g, 0, none⟩) 3 3] W fun e w' => e = .returned (.int .i64 0) ∧ Below W.heap.size W w') (K1 : ∀ W, Calls Try.prog 12 #[.int .u8 f, .int .u64 x, .int .u64 y] W fun e w' => e = .returned (.tuple #[.int .i64 (-1), .int .i64 0]) ∧ Below W.heap.size W w') (K2 : ∀ W, Calls Try.prog 12 #[.int .u8 f, .int .u64 y, .int .u64 x] W fun e w' => e = .returned (.tuple #[.int .i64 1, .int .i64 0]) ∧ Below W.heap.size W w') (K3 : ∀ W, Calls Try.prog 12 #[.int .u8 f, .int .u64 y, .int .u64 z] W fun e w' => e = .returned (.tuple #[.int .i64 0, .int .i64 0]) ∧ Below W.heap.size W w') (K4 : ∀ W, Calls Try.prog 12 #[.int .u8 f, .int .u64 x, .int .u64 z] W fun e w' => e = .returned (.tuple #[.int .i64 (-1), .int .i64 0]) ∧ Below W.heap.size W w') (K5 : ∀ W, Calls Try.prog 11 #[.int .u8 f, .int .u64 x, .int .u64 y] W fun e w' => e = .returned (.tuple #[.int .u8 2, .int .i64 0]) ∧ Below W.heap.size W w') (N1 : ∀ W, Calls Try.prog 30 #[.int .u8 f, .int .u64 x] W fun e w' => e = .returned (.int .u64 u) ∧ Below W.heap.size W w') (N2 : ∀ W, Calls Try.prog 30 #[.int .u8 f, .int .u64 y] W fun e w' => e = .returned (.int .u64 v) ∧ Below W.heap.size W w') (huv : (u == v) = false) (w : World) :
    Calls Try.prog 7 #[.int .u8 f, .int .u64 x, .int .u64 y, .int .u64 z] w fun e w' => e = .returned (.bool true) ∧ Below w.heap.size w w' := by
  have HO := fun W g h => Hide.mk (KO W g h)
  clear KO
  have H1 := fun W => Hide.mk (K1 W)
  have H2 := fun W => Hide.mk (K2 W)
  have H3 := fun W => Hide.mk (K3 W)
  have H4 := fun W => Hide.mk (K4 W)
  have H5 := fun W => Hide.mk (K5 W)
  have G1 := fun W => Hide.mk (N1 W)
  have G2 := fun W => Hide.mk (N2 W)
  clear K1 K2 K3 K4 K5 N1 N2
  have BX := Bx.nil w
  go_enter Try.func7, Try.ntmps7
  go_wp2_with fail
  replace BX := BX.push (.cells #[.int .u64 x, .int .u64 y, .int .u64 z] 23 (0, 0))
  refine (HO _ _ BX.head).out.mono ?_
  rintro e wo ⟨rfl, hk⟩
  replace BX := BX.keep hk
  clear hk
  go_wp2_with fail
  refine ((H1 _).out).mono ?_
  rintro e v66 ⟨rfl, hk⟩
  replace BX := BX.keep hk
  clear hk
  go_wp2_with fail
  refine ((H2 _).out).mono ?_
  rintro e v67 ⟨rfl, hk⟩
  replace BX := BX.keep hk
  clear hk
  go_wp2_with fail
  refine ((H3 _).out).mono ?_
  rintro e v68 ⟨rfl, hk⟩
  replace BX := BX.keep hk
  clear hk
  go_wp2_with fail
  refine ((H4 _).out).mono ?_
  rintro e v69 ⟨rfl, hk⟩
  replace BX := BX.keep hk
  clear hk
  go_wp2_with fail
  refine ((H5 _).out).mono ?_
  rintro e v70 ⟨rfl, hk⟩
  replace BX := BX.keep hk
  clear hk
  go_wp2_with fail
  refine ((G1 _).out).mono ?_
  rintro e v71 ⟨rfl, hk⟩
  replace BX := BX.keep hk
  clear hk
  go_wp2_with fail
  refine ((G2 _).out).mono ?_
  rintro e v72 ⟨rfl, hk⟩
  replace BX := BX.keep hk
  clear hk
  go_wp2_with fail
  refine (lKnown7 _).mono ?_
  rintro e v73 ⟨rfl, hk⟩
  replace BX := BX.keep hk
  clear hk
  go_wp2
  go_ret
  exact ⟨by first | rfl | simp, BX.bel⟩
set_option maxHeartbeats 4000000 in
theorem rt_nps4 (f x y z : Int) (ac u v : Int) (KO : ∀ W g, W.heap[g]? = some (.cells #[.int .u64 x, .int .u64 y, .int .u64 z] 23 (0, 0)) → Calls Try.prog 13 #[.int .u8 f, .slice (some ⟨g, 0, none⟩) 3 3] W fun e w' => e = .returned (.int .i64 0) ∧ Below W.heap.size W w') (K1 : ∀ W, Calls Try.prog 12 #[.int .u8 f, .int .u64 x, .int .u64 y] W fun e w' => e = .returned (.tuple #[.int .i64 (-1), .int .i64 0]) ∧ Below W.heap.size W w') (K2 : ∀ W, Calls Try.prog 12 #[.int .u8 f, .int .u64 y, .int .u64 x] W fun e w' => e = .returned (.tuple #[.int .i64 1, .int .i64 0]) ∧ Below W.heap.size W w') (K3 : ∀ W, Calls Try.prog 12 #[.int .u8 f, .int .u64 y, .int .u64 z] W fun e w' => e = .returned (.tuple #[.int .i64 1, .int .i64 0]) ∧ Below W.heap.size W w') (K4 : ∀ W, Calls Try.prog 12 #[.int .u8 f, .int .u64 x, .int .u64 z] W fun e w' => e = .returned (.tuple #[.int .i64 ac, .int .i64 0]) ∧ Below W.heap.size W w') (K5 : ∀ W, Calls Try.prog 11 #[.int .u8 f, .int .u64 x, .int .u64 y] W fun e w' => e = .returned (.tuple #[.int .u8 4, .int .i64 0]) ∧ Below W.heap.size W w') (N1 : ∀ W, Calls Try.prog 30 #[.int .u8 f, .int .u64 x] W fun e w' => e = .returned (.int .u64 u) ∧ Below W.heap.size W w') (N2 : ∀ W, Calls Try.prog 30 #[.int .u8 f, .int .u64 y] W fun e w' => e = .returned (.int .u64 v) ∧ Below W.heap.size W w') (huv : (u == v) = false) (w : World) :
    Calls Try.prog 7 #[.int .u8 f, .int .u64 x, .int .u64 y, .int .u64 z] w fun e w' => e = .returned (.bool true) ∧ Below w.heap.size w w' := by
  have HO := fun W g h => Hide.mk (KO W g h)
  clear KO
  have H1 := fun W => Hide.mk (K1 W)
  have H2 := fun W => Hide.mk (K2 W)
  have H3 := fun W => Hide.mk (K3 W)
  have H4 := fun W => Hide.mk (K4 W)
  have H5 := fun W => Hide.mk (K5 W)
  have G1 := fun W => Hide.mk (N1 W)
  have G2 := fun W => Hide.mk (N2 W)
  clear K1 K2 K3 K4 K5 N1 N2
  have BX := Bx.nil w
  go_enter Try.func7, Try.ntmps7
  go_wp2_with fail
  replace BX := BX.push (.cells #[.int .u64 x, .int .u64 y, .int .u64 z] 23 (0, 0))
  refine (HO _ _ BX.head).out.mono ?_
  rintro e wo ⟨rfl, hk⟩
  replace BX := BX.keep hk
  clear hk
  go_wp2_with fail
  refine ((H1 _).out).mono ?_
  rintro e v74 ⟨rfl, hk⟩
  replace BX := BX.keep hk
  clear hk
  go_wp2_with fail
  refine ((H2 _).out).mono ?_
  rintro e v75 ⟨rfl, hk⟩
  replace BX := BX.keep hk
  clear hk
  go_wp2_with fail
  refine ((H3 _).out).mono ?_
  rintro e v76 ⟨rfl, hk⟩
  replace BX := BX.keep hk
  clear hk
  go_wp2_with fail
  refine ((H4 _).out).mono ?_
  rintro e v77 ⟨rfl, hk⟩
  replace BX := BX.keep hk
  clear hk
  go_wp2_with fail
  refine ((H5 _).out).mono ?_
  rintro e v78 ⟨rfl, hk⟩
  replace BX := BX.keep hk
  clear hk
  go_wp2_with fail
  refine ((G1 _).out).mono ?_
  rintro e v79 ⟨rfl, hk⟩
  replace BX := BX.keep hk
  clear hk
  go_wp2_with fail
  refine ((G2 _).out).mono ?_
  rintro e v80 ⟨rfl, hk⟩
  replace BX := BX.keep hk
  clear hk
  go_wp2_with fail
  refine (lKnown7 _).mono ?_
  rintro e v81 ⟨rfl, hk⟩
  replace BX := BX.keep hk
  clear hk
  go_wp2
  go_ret
  exact ⟨by first | rfl | simp, BX.bel⟩
set_option maxHeartbeats 4000000 in
theorem rt_nnn4 (f x y z : Int) ( u v : Int) (KO : ∀ W g, W.heap[g]? = some (.cells #[.int .u64 x, .int .u64 y, .int .u64 z] 23 (0, 0)) → Calls Try.prog 13 #[.int .u8 f, .slice (some ⟨g, 0, none⟩) 3 3] W fun e w' => e = .returned (.int .i64 0) ∧ Below W.heap.size W w') (K1 : ∀ W, Calls Try.prog 12 #[.int .u8 f, .int .u64 x, .int .u64 y] W fun e w' => e = .returned (.tuple #[.int .i64 (-1), .int .i64 0]) ∧ Below W.heap.size W w') (K2 : ∀ W, Calls Try.prog 12 #[.int .u8 f, .int .u64 y, .int .u64 x] W fun e w' => e = .returned (.tuple #[.int .i64 1, .int .i64 0]) ∧ Below W.heap.size W w') (K3 : ∀ W, Calls Try.prog 12 #[.int .u8 f, .int .u64 y, .int .u64 z] W fun e w' => e = .returned (.tuple #[.int .i64 (-1), .int .i64 0]) ∧ Below W.heap.size W w') (K4 : ∀ W, Calls Try.prog 12 #[.int .u8 f, .int .u64 x, .int .u64 z] W fun e w' => e = .returned (.tuple #[.int .i64 (-1), .int .i64 0]) ∧ Below W.heap.size W w') (K5 : ∀ W, Calls Try.prog 11 #[.int .u8 f, .int .u64 x, .int .u64 y] W fun e w' => e = .returned (.tuple #[.int .u8 4, .int .i64 0]) ∧ Below W.heap.size W w') (N1 : ∀ W, Calls Try.prog 30 #[.int .u8 f, .int .u64 x] W fun e w' => e = .returned (.int .u64 u) ∧ Below W.heap.size W w') (N2 : ∀ W, Calls Try.prog 30 #[.int .u8 f, .int .u64 y] W fun e w' => e = .returned (.int .u64 v) ∧ Below W.heap.size W w') (huv : (u == v) = false) (w : World) :
    Calls Try.prog 7 #[.int .u8 f, .int .u64 x, .int .u64 y, .int .u64 z] w fun e w' => e = .returned (.bool true) ∧ Below w.heap.size w w' := by
  have HO := fun W g h => Hide.mk (KO W g h)
  clear KO
  have H1 := fun W => Hide.mk (K1 W)
  have H2 := fun W => Hide.mk (K2 W)
  have H3 := fun W => Hide.mk (K3 W)
  have H4 := fun W => Hide.mk (K4 W)
  have H5 := fun W => Hide.mk (K5 W)
  have G1 := fun W => Hide.mk (N1 W)
  have G2 := fun W => Hide.mk (N2 W)
  clear K1 K2 K3 K4 K5 N1 N2
  have BX := Bx.nil w
  go_enter Try.func7, Try.ntmps7
  go_wp2_with fail
  replace BX := BX.push (.cells #[.int .u64 x, .int .u64 y, .int .u64 z] 23 (0, 0))
  refine (HO _ _ BX.head).out.mono ?_
  rintro e wo ⟨rfl, hk⟩
  replace BX := BX.keep hk
  clear hk
  go_wp2_with fail
  refine ((H1 _).out).mono ?_
  rintro e v82 ⟨rfl, hk⟩
  replace BX := BX.keep hk
  clear hk
  go_wp2_with fail
  refine ((H2 _).out).mono ?_
  rintro e v83 ⟨rfl, hk⟩
  replace BX := BX.keep hk
  clear hk
  go_wp2_with fail
  refine ((H3 _).out).mono ?_
  rintro e v84 ⟨rfl, hk⟩
  replace BX := BX.keep hk
  clear hk
  go_wp2_with fail
  refine ((H4 _).out).mono ?_
  rintro e v85 ⟨rfl, hk⟩
  replace BX := BX.keep hk
  clear hk
  go_wp2_with fail
  refine ((H5 _).out).mono ?_
  rintro e v86 ⟨rfl, hk⟩
  replace BX := BX.keep hk
  clear hk
  go_wp2_with fail
  refine ((G1 _).out).mono ?_
  rintro e v87 ⟨rfl, hk⟩
  replace BX := BX.keep hk
  clear hk
  go_wp2_with fail
  refine ((G2 _).out).mono ?_
  rintro e v88 ⟨rfl, hk⟩
  replace BX := BX.keep hk
  clear hk
  go_wp2_with fail
  refine (lKnown7 _).mono ?_
  rintro e v89 ⟨rfl, hk⟩
  replace BX := BX.keep hk
  clear hk
  go_wp2
  go_ret
  exact ⟨by first | rfl | simp, BX.bel⟩
set_option maxHeartbeats 4000000 in
theorem rt_nzn4 (f x y z : Int) ( u v : Int) (KO : ∀ W g, W.heap[g]? = some (.cells #[.int .u64 x, .int .u64 y, .int .u64 z] 23 (0, 0)) → Calls Try.prog 13 #[.int .u8 f, .slice (some ⟨g, 0, none⟩) 3 3] W fun e w' => e = .returned (.int .i64 0) ∧ Below W.heap.size W w') (K1 : ∀ W, Calls Try.prog 12 #[.int .u8 f, .int .u64 x, .int .u64 y] W fun e w' => e = .returned (.tuple #[.int .i64 (-1), .int .i64 0]) ∧ Below W.heap.size W w') (K2 : ∀ W, Calls Try.prog 12 #[.int .u8 f, .int .u64 y, .int .u64 x] W fun e w' => e = .returned (.tuple #[.int .i64 1, .int .i64 0]) ∧ Below W.heap.size W w') (K3 : ∀ W, Calls Try.prog 12 #[.int .u8 f, .int .u64 y, .int .u64 z] W fun e w' => e = .returned (.tuple #[.int .i64 0, .int .i64 0]) ∧ Below W.heap.size W w') (K4 : ∀ W, Calls Try.prog 12 #[.int .u8 f, .int .u64 x, .int .u64 z] W fun e w' => e = .returned (.tuple #[.int .i64 (-1), .int .i64 0]) ∧ Below W.heap.size W w') (K5 : ∀ W, Calls Try.prog 11 #[.int .u8 f, .int .u64 x, .int .u64 y] W fun e w' => e = .returned (.tuple #[.int .u8 4, .int .i64 0]) ∧ Below W.heap.size W w') (N1 : ∀ W, Calls Try.prog 30 #[.int .u8 f, .int .u64 x] W fun e w' => e = .returned (.int .u64 u) ∧ Below W.heap.size W w') (N2 : ∀ W, Calls Try.prog 30 #[.int .u8 f, .int .u64 y] W fun e w' => e = .returned (.int .u64 v) ∧ Below W.heap.size W w') (huv : (u == v) = false) (w : World) :
    Calls Try.prog 7 #[.int .u8 f, .int .u64 x, .int .u64 y, .int .u64 z] w fun e w' => e = .returned (.bool true) ∧ Below w.heap.size w w' := by
  have HO := fun W g h => Hide.mk (KO W g h)
  clear KO
  have H1 := fun W => Hide.mk (K1 W)
  have H2 := fun W => Hide.mk (K2 W)
  have H3 := fun W => Hide.mk (K3 W)
  have H4 := fun W => Hide.mk (K4 W)
  have H5 := fun W => Hide.mk (K5 W)
  have G1 := fun W => Hide.mk (N1 W)
  have G2 := fun W => Hide.mk (N2 W)
  clear K1 K2 K3 K4 K5 N1 N2
  have BX := Bx.nil w
  go_enter Try.func7, Try.ntmps7
  go_wp2_with fail
  replace BX := BX.push (.cells #[.int .u64 x, .int .u64 y, .int .u64 z] 23 (0, 0))
  refine (HO _ _ BX.head).out.mono ?_
  rintro e wo ⟨rfl, hk⟩
  replace BX := BX.keep hk
  clear hk
  go_wp2_with fail
  refine ((H1 _).out).mono ?_
  rintro e v90 ⟨rfl, hk⟩
  replace BX := BX.keep hk
  clear hk
  go_wp2_with fail
  refine ((H2 _).out).mono ?_
  rintro e v91 ⟨rfl, hk⟩
  replace BX := BX.keep hk
  clear hk
  go_wp2_with fail
  refine ((H3 _).out).mono ?_
  rintro e v92 ⟨rfl, hk⟩
  replace BX := BX.keep hk
  clear hk
  go_wp2_with fail
  refine ((H4 _).out).mono ?_
  rintro e v93 ⟨rfl, hk⟩
  replace BX := BX.keep hk
  clear hk
  go_wp2_with fail
  refine ((H5 _).out).mono ?_
  rintro e v94 ⟨rfl, hk⟩
  replace BX := BX.keep hk
  clear hk
  go_wp2_with fail
  refine ((G1 _).out).mono ?_
  rintro e v95 ⟨rfl, hk⟩
  replace BX := BX.keep hk
  clear hk
  go_wp2_with fail
  refine ((G2 _).out).mono ?_
  rintro e v96 ⟨rfl, hk⟩
  replace BX := BX.keep hk
  clear hk
  go_wp2_with fail
  refine (lKnown7 _).mono ?_
  rintro e v97 ⟨rfl, hk⟩
  replace BX := BX.keep hk
  clear hk
  go_wp2
  go_ret
  exact ⟨by first | rfl | simp, BX.bel⟩
set_option maxHeartbeats 4000000 in
theorem rt_zps2 (f x y z : Int) (ac u v : Int) (KO : ∀ W g, W.heap[g]? = some (.cells #[.int .u64 x, .int .u64 y, .int .u64 z] 23 (0, 0)) → Calls Try.prog 13 #[.int .u8 f, .slice (some ⟨g, 0, none⟩) 3 3] W fun e w' => e = .returned (.int .i64 0) ∧ Below W.heap.size W w') (K1 : ∀ W, Calls Try.prog 12 #[.int .u8 f, .int .u64 x, .int .u64 y] W fun e w' => e = .returned (.tuple #[.int .i64 0, .int .i64 0]) ∧ Below W.heap.size W w') (K2 : ∀ W, Calls Try.prog 12 #[.int .u8 f, .int .u64 y, .int .u64 x] W fun e w' => e = .returned (.tuple #[.int .i64 0, .int .i64 0]) ∧ Below W.heap.size W w') (K3 : ∀ W, Calls Try.prog 12 #[.int .u8 f, .int .u64 y, .int .u64 z] W fun e w' => e = .returned (.tuple #[.int .i64 1, .int .i64 0]) ∧ Below W.heap.size W w') (K4 : ∀ W, Calls Try.prog 12 #[.int .u8 f, .int .u64 x, .int .u64 z] W fun e w' => e = .returned (.tuple #[.int .i64 ac, .int .i64 0]) ∧ Below W.heap.size W w') (K5 : ∀ W, Calls Try.prog 11 #[.int .u8 f, .int .u64 x, .int .u64 y] W fun e w' => e = .returned (.tuple #[.int .u8 2, .int .i64 0]) ∧ Below W.heap.size W w') (N1 : ∀ W, Calls Try.prog 30 #[.int .u8 f, .int .u64 x] W fun e w' => e = .returned (.int .u64 u) ∧ Below W.heap.size W w') (N2 : ∀ W, Calls Try.prog 30 #[.int .u8 f, .int .u64 y] W fun e w' => e = .returned (.int .u64 v) ∧ Below W.heap.size W w') (huv : (u == v) = true) (w : World) :
    Calls Try.prog 7 #[.int .u8 f, .int .u64 x, .int .u64 y, .int .u64 z] w fun e w' => e = .returned (.bool true) ∧ Below w.heap.size w w' := by
  have HO := fun W g h => Hide.mk (KO W g h)
  clear KO
  have H1 := fun W => Hide.mk (K1 W)
  have H2 := fun W => Hide.mk (K2 W)
  have H3 := fun W => Hide.mk (K3 W)
  have H4 := fun W => Hide.mk (K4 W)
  have H5 := fun W => Hide.mk (K5 W)
  have G1 := fun W => Hide.mk (N1 W)
  have G2 := fun W => Hide.mk (N2 W)
  clear K1 K2 K3 K4 K5 N1 N2
  have BX := Bx.nil w
  go_enter Try.func7, Try.ntmps7
  go_wp2_with fail
  replace BX := BX.push (.cells #[.int .u64 x, .int .u64 y, .int .u64 z] 23 (0, 0))
  refine (HO _ _ BX.head).out.mono ?_
  rintro e wo ⟨rfl, hk⟩
  replace BX := BX.keep hk
  clear hk
  go_wp2_with fail
  refine ((H1 _).out).mono ?_
  rintro e v98 ⟨rfl, hk⟩
  replace BX := BX.keep hk
  clear hk
  go_wp2_with fail
  refine ((H2 _).out).mono ?_
  rintro e v99 ⟨rfl, hk⟩
  replace BX := BX.keep hk
  clear hk
  go_wp2_with fail
  refine ((H3 _).out).mono ?_
  rintro e v100 ⟨rfl, hk⟩
  replace BX := BX.keep hk
  clear hk
  go_wp2_with fail
  refine ((H4 _).out).mono ?_
  rintro e v101 ⟨rfl, hk⟩
  replace BX := BX.keep hk
  clear hk
  go_wp2_with fail
  refine ((H5 _).out).mono ?_
  rintro e v102 ⟨rfl, hk⟩
  replace BX := BX.keep hk
  clear hk
  go_wp2_with fail
  refine ((G1 _).out).mono ?_
  rintro e v103 ⟨rfl, hk⟩
  replace BX := BX.keep hk
  clear hk
  go_wp2_with fail
  refine ((G2 _).out).mono ?_
  rintro e v104 ⟨rfl, hk⟩
  replace BX := BX.keep hk
  clear hk
  go_wp2_with fail
  refine (lKnown7 _).mono ?_
  rintro e v105 ⟨rfl, hk⟩
  replace BX := BX.keep hk
  clear hk
  go_wp2
  go_ret
  exact ⟨by first | rfl | simp, BX.bel⟩
set_option maxHeartbeats 4000000 in
theorem rt_znn2 (f x y z : Int) ( u v : Int) (KO : ∀ W g, W.heap[g]? = some (.cells #[.int .u64 x, .int .u64 y, .int .u64 z] 23 (0, 0)) → Calls Try.prog 13 #[.int .u8 f, .slice (some ⟨g, 0, none⟩) 3 3] W fun e w' => e = .returned (.int .i64 0) ∧ Below W.heap.size W w') (K1 : ∀ W, Calls Try.prog 12 #[.int .u8 f, .int .u64 x, .int .u64 y] W fun e w' => e = .returned (.tuple #[.int .i64 0, .int .i64 0]) ∧ Below W.heap.size W w') (K2 : ∀ W, Calls Try.prog 12 #[.int .u8 f, .int .u64 y, .int .u64 x] W fun e w' => e = .returned (.tuple #[.int .i64 0, .int .i64 0]) ∧ Below W.heap.size W w') (K3 : ∀ W, Calls Try.prog 12 #[.int .u8 f, .int .u64 y, .int .u64 z] W fun e w' => e = .returned (.tuple #[.int .i64 (-1), .int .i64 0]) ∧ Below W.heap.size W w') (K4 : ∀ W, Calls Try.prog 12 #[.int .u8 f, .int .u64 x, .int .u64 z] W fun e w' => e = .returned (.tuple #[.int .i64 (-1), .int .i64 0]) ∧ Below W.heap.size W w') (K5 : ∀ W, Calls Try.prog 11 #[.int .u8 f, .int .u64 x, .int .u64 y] W fun e w' => e = .returned (.tuple #[.int .u8 2, .int .i64 0]) ∧ Below W.heap.size W w') (N1 : ∀ W, Calls Try.prog 30 #[.int .u8 f, .int .u64 x] W fun e w' => e = .returned (.int .u64 u) ∧ Below W.heap.size W w') (N2 : ∀ W, Calls Try.prog 30 #[.int .u8 f, .int .u64 y] W fun e w' => e = .returned (.int .u64 v) ∧ Below W.heap.size W w') (huv : (u == v) = true) (w : World) :
    Calls Try.prog 7 #[.int .u8 f, .int .u64 x, .int .u64 y, .int .u64 z] w fun e w' => e = .returned (.bool true) ∧ Below w.heap.size w w' := by
  have HO := fun W g h => Hide.mk (KO W g h)
  clear KO
  have H1 := fun W => Hide.mk (K1 W)
  have H2 := fun W => Hide.mk (K2 W)
  have H3 := fun W => Hide.mk (K3 W)
  have H4 := fun W => Hide.mk (K4 W)
  have H5 := fun W => Hide.mk (K5 W)
  have G1 := fun W => Hide.mk (N1 W)
  have G2 := fun W => Hide.mk (N2 W)
  clear K1 K2 K3 K4 K5 N1 N2
  have BX := Bx.nil w
  go_enter Try.func7, Try.ntmps7
  go_wp2_with fail
  replace BX := BX.push (.cells #[.int .u64 x, .int .u64 y, .int .u64 z] 23 (0, 0))
  refine (HO _ _ BX.head).out.mono ?_
  rintro e wo ⟨rfl, hk⟩
  replace BX := BX.keep hk
  clear hk
  go_wp2_with fail
  refine ((H1 _).out).mono ?_
  rintro e v106 ⟨rfl, hk⟩
  replace BX := BX.keep hk
  clear hk
  go_wp2_with fail
  refine ((H2 _).out).mono ?_
  rintro e v107 ⟨rfl, hk⟩
  replace BX := BX.keep hk
  clear hk
  go_wp2_with fail
  refine ((H3 _).out).mono ?_
  rintro e v108 ⟨rfl, hk⟩
  replace BX := BX.keep hk
  clear hk
  go_wp2_with fail
  refine ((H4 _).out).mono ?_
  rintro e v109 ⟨rfl, hk⟩
  replace BX := BX.keep hk
  clear hk
  go_wp2_with fail
  refine ((H5 _).out).mono ?_
  rintro e v110 ⟨rfl, hk⟩
  replace BX := BX.keep hk
  clear hk
  go_wp2_with fail
  refine ((G1 _).out).mono ?_
  rintro e v111 ⟨rfl, hk⟩
  replace BX := BX.keep hk
  clear hk
  go_wp2_with fail
  refine ((G2 _).out).mono ?_
  rintro e v112 ⟨rfl, hk⟩
  replace BX := BX.keep hk
  clear hk
  go_wp2_with fail
  refine (lKnown7 _).mono ?_
  rintro e v113 ⟨rfl, hk⟩
  replace BX := BX.keep hk
  clear hk
  go_wp2
  go_ret
  exact ⟨by first | rfl | simp, BX.bel⟩
set_option maxHeartbeats 4000000 in
theorem rt_zzz2 (f x y z : Int) ( u v : Int) (KO : ∀ W g, W.heap[g]? = some (.cells #[.int .u64 x, .int .u64 y, .int .u64 z] 23 (0, 0)) → Calls Try.prog 13 #[.int .u8 f, .slice (some ⟨g, 0, none⟩) 3 3] W fun e w' => e = .returned (.int .i64 0) ∧ Below W.heap.size W w') (K1 : ∀ W, Calls Try.prog 12 #[.int .u8 f, .int .u64 x, .int .u64 y] W fun e w' => e = .returned (.tuple #[.int .i64 0, .int .i64 0]) ∧ Below W.heap.size W w') (K2 : ∀ W, Calls Try.prog 12 #[.int .u8 f, .int .u64 y, .int .u64 x] W fun e w' => e = .returned (.tuple #[.int .i64 0, .int .i64 0]) ∧ Below W.heap.size W w') (K3 : ∀ W, Calls Try.prog 12 #[.int .u8 f, .int .u64 y, .int .u64 z] W fun e w' => e = .returned (.tuple #[.int .i64 0, .int .i64 0]) ∧ Below W.heap.size W w') (K4 : ∀ W, Calls Try.prog 12 #[.int .u8 f, .int .u64 x, .int .u64 z] W fun e w' => e = .returned (.tuple #[.int .i64 0, .int .i64 0]) ∧ Below W.heap.size W w') (K5 : ∀ W, Calls Try.prog 11 #[.int .u8 f, .int .u64 x, .int .u64 y] W fun e w' => e = .returned (.tuple #[.int .u8 2, .int .i64 0]) ∧ Below W.heap.size W w') (N1 : ∀ W, Calls Try.prog 30 #[.int .u8 f, .int .u64 x] W fun e w' => e = .returned (.int .u64 u) ∧ Below W.heap.size W w') (N2 : ∀ W, Calls Try.prog 30 #[.int .u8 f, .int .u64 y] W fun e w' => e = .returned (.int .u64 v) ∧ Below W.heap.size W w') (huv : (u == v) = true) (w : World) :
    Calls Try.prog 7 #[.int .u8 f, .int .u64 x, .int .u64 y, .int .u64 z] w fun e w' => e = .returned (.bool true) ∧ Below w.heap.size w w' := by
  have HO := fun W g h => Hide.mk (KO W g h)
  clear KO
  have H1 := fun W => Hide.mk (K1 W)
  have H2 := fun W => Hide.mk (K2 W)
  have H3 := fun W => Hide.mk (K3 W)
  have H4 := fun W => Hide.mk (K4 W)
  have H5 := fun W => Hide.mk (K5 W)
  have G1 := fun W => Hide.mk (N1 W)
  have G2 := fun W => Hide.mk (N2 W)
  clear K1 K2 K3 K4 K5 N1 N2
  have BX := Bx.nil w
  go_enter Try.func7, Try.ntmps7
  go_wp2_with fail
  replace BX := BX.push (.cells #[.int .u64 x, .int .u64 y, .int .u64 z] 23 (0, 0))
  refine (HO _ _ BX.head).out.mono ?_
  rintro e wo ⟨rfl, hk⟩
  replace BX := BX.keep hk
  clear hk
  go_wp2_with fail
  refine ((H1 _).out).mono ?_
  rintro e v114 ⟨rfl, hk⟩
  replace BX := BX.keep hk
  clear hk
  go_wp2_with fail
  refine ((H2 _).out).mono ?_
  rintro e v115 ⟨rfl, hk⟩
  replace BX := BX.keep hk
  clear hk
  go_wp2_with fail
  refine ((H3 _).out).mono ?_
  rintro e v116 ⟨rfl, hk⟩
  replace BX := BX.keep hk
  clear hk
  go_wp2_with fail
  refine ((H4 _).out).mono ?_
  rintro e v117 ⟨rfl, hk⟩
  replace BX := BX.keep hk
  clear hk
  go_wp2_with fail
  refine ((H5 _).out).mono ?_
  rintro e v118 ⟨rfl, hk⟩
  replace BX := BX.keep hk
  clear hk
  go_wp2_with fail
  refine ((G1 _).out).mono ?_
  rintro e v119 ⟨rfl, hk⟩
  replace BX := BX.keep hk
  clear hk
  go_wp2_with fail
  refine ((G2 _).out).mono ?_
  rintro e v120 ⟨rfl, hk⟩
  replace BX := BX.keep hk
  clear hk
  go_wp2_with fail
  refine (lKnown7 _).mono ?_
  rintro e v121 ⟨rfl, hk⟩
  replace BX := BX.keep hk
  clear hk
  go_wp2
  go_ret
  exact ⟨by first | rfl | simp, BX.bel⟩
set_option maxHeartbeats 4000000 in
theorem rt_zps4 (f x y z : Int) (ac u v : Int) (KO : ∀ W g, W.heap[g]? = some (.cells #[.int .u64 x, .int .u64 y, .int .u64 z] 23 (0, 0)) → Calls Try.prog 13 #[.int .u8 f, .slice (some ⟨g, 0, none⟩) 3 3] W fun e w' => e = .returned (.int .i64 0) ∧ Below W.heap.size W w') (K1 : ∀ W, Calls Try.prog 12 #[.int .u8 f, .int .u64 x, .int .u64 y] W fun e w' => e = .returned (.tuple #[.int .i64 0, .int .i64 0]) ∧ Below W.heap.size W w') (K2 : ∀ W, Calls Try.prog 12 #[.int .u8 f, .int .u64 y, .int .u64 x] W fun e w' => e = .returned (.tuple #[.int .i64 0, .int .i64 0]) ∧ Below W.heap.size W w') (K3 : ∀ W, Calls Try.prog 12 #[.int .u8 f, .int .u64 y, .int .u64 z] W fun e w' => e = .returned (.tuple #[.int .i64 1, .int .i64 0]) ∧ Below W.heap.size W w') (K4 : ∀ W, Calls Try.prog 12 #[.int .u8 f, .int .u64 x, .int .u64 z] W fun e w' => e = .returned (.tuple #[.int .i64 ac, .int .i64 0]) ∧ Below W.heap.size W w') (K5 : ∀ W, Calls Try.prog 11 #[.int .u8 f, .int .u64 x, .int .u64 y] W fun e w' => e = .returned (.tuple #[.int .u8 4, .int .i64 0]) ∧ Below W.heap.size W w') (N1 : ∀ W, Calls Try.prog 30 #[.int .u8 f, .int .u64 x] W fun e w' => e = .returned (.int .u64 u) ∧ Below W.heap.size W w') (N2 : ∀ W, Calls Try.prog 30 #[.int .u8 f, .int .u64 y] W fun e w' => e = .returned (.int .u64 v) ∧ Below W.heap.size W w') (huv : (u == v) = true) (w : World) :
    Calls Try.prog 7 #[.int .u8 f, .int .u64 x, .int .u64 y, .int .u64 z] w fun e w' => e = .returned (.bool true) ∧ Below w.heap.size w w' := by
  have HO := fun W g h => Hide.mk (KO W g h)
  clear KO
  have H1 := fun W => Hide.mk (K1 W)
  have H2 := fun W => Hide.mk (K2 W)
  have H3 := fun W => Hide.mk (K3 W)
  have H4 := fun W => Hide.mk (K4 W)
  have H5 := fun W => Hide.mk (K5 W)
  have G1 := fun W => Hide.mk (N1 W)
  have G2 := fun W => Hide.mk (N2 W)
  clear K1 K2 K3 K4 K5 N1 N2
  have BX := Bx.nil w
  go_enter Try.func7, Try.ntmps7
  go_wp2_with fail
  replace BX := BX.push (.cells #[.int .u64 x, .int .u64 y, .int .u64 z] 23 (0, 0))
  refine (HO _ _ BX.head).out.mono ?_
  rintro e wo ⟨rfl, hk⟩
  replace BX := BX.keep hk
  clear hk
  go_wp2_with fail
  refine ((H1 _).out).mono ?_
  rintro e v122 ⟨rfl, hk⟩
  replace BX := BX.keep hk
  clear hk
  go_wp2_with fail
  refine ((H2 _).out).mono ?_
  rintro e v123 ⟨rfl, hk⟩
  replace BX := BX.keep hk
  clear hk
  go_wp2_with fail
  refine ((H3 _).out).mono ?_
  rintro e v124 ⟨rfl, hk⟩
  replace BX := BX.keep hk
  clear hk
  go_wp2_with fail
  refine ((H4 _).out).mono ?_
  rintro e v125 ⟨rfl, hk⟩
  replace BX := BX.keep hk
  clear hk
  go_wp2_with fail
  refine ((H5 _).out).mono ?_
  rintro e v126 ⟨rfl, hk⟩
  replace BX := BX.keep hk
  clear hk
  go_wp2_with fail
  refine ((G1 _).out).mono ?_
  rintro e v127 ⟨rfl, hk⟩
  replace BX := BX.keep hk
  clear hk
  go_wp2_with fail
  refine ((G2 _).out).mono ?_
  rintro e v128 ⟨rfl, hk⟩
  replace BX := BX.keep hk
  clear hk
  go_wp2_with fail
  refine (lKnown7 _).mono ?_
  rintro e v129 ⟨rfl, hk⟩
  replace BX := BX.keep hk
  clear hk
  go_wp2
  go_ret
  exact ⟨by first | rfl | simp, BX.bel⟩
set_option maxHeartbeats 4000000 in
theorem rt_znn4 (f x y z : Int) ( u v : Int) (KO : ∀ W g, W.heap[g]? = some (.cells #[.int .u64 x, .int .u64 y, .int .u64 z] 23 (0, 0)) → Calls Try.prog 13 #[.int .u8 f, .slice (some ⟨g, 0, none⟩) 3 3] W fun e w' => e = .returned (.int .i64 0) ∧ Below W.heap.size W w') (K1 : ∀ W, Calls Try.prog 12 #[.int .u8 f, .int .u64 x, .int .u64 y] W fun e w' => e = .returned (.tuple #[.int .i64 0, .int .i64 0]) ∧ Below W.heap.size W w') (K2 : ∀ W, Calls Try.prog 12 #[.int .u8 f, .int .u64 y, .int .u64 x] W fun e w' => e = .returned (.tuple #[.int .i64 0, .int .i64 0]) ∧ Below W.heap.size W w') (K3 : ∀ W, Calls Try.prog 12 #[.int .u8 f, .int .u64 y, .int .u64 z] W fun e w' => e = .returned (.tuple #[.int .i64 (-1), .int .i64 0]) ∧ Below W.heap.size W w') (K4 : ∀ W, Calls Try.prog 12 #[.int .u8 f, .int .u64 x, .int .u64 z] W fun e w' => e = .returned (.tuple #[.int .i64 (-1), .int .i64 0]) ∧ Below W.heap.size W w') (K5 : ∀ W, Calls Try.prog 11 #[.int .u8 f, .int .u64 x, .int .u64 y] W fun e w' => e = .returned (.tuple #[.int .u8 4, .int .i64 0]) ∧ Below W.heap.size W w') (N1 : ∀ W, Calls Try.prog 30 #[.int .u8 f, .int .u64 x] W fun e w' => e = .returned (.int .u64 u) ∧ Below W.heap.size W w') (N2 : ∀ W, Calls Try.prog 30 #[.int .u8 f, .int .u64 y] W fun e w' => e = .returned (.int .u64 v) ∧ Below W.heap.size W w') (huv : (u == v) = true) (w : World) :
    Calls Try.prog 7 #[.int .u8 f, .int .u64 x, .int .u64 y, .int .u64 z] w fun e w' => e = .returned (.bool true) ∧ Below w.heap.size w w' := by
  have HO := fun W g h => Hide.mk (KO W g h)
  clear KO
  have H1 := fun W => Hide.mk (K1 W)
  have H2 := fun W => Hide.mk (K2 W)
  have H3 := fun W => Hide.mk (K3 W)
  have H4 := fun W => Hide.mk (K4 W)
  have H5 := fun W => Hide.mk (K5 W)
  have G1 := fun W => Hide.mk (N1 W)
  have G2 := fun W => Hide.mk (N2 W)
  clear K1 K2 K3 K4 K5 N1 N2
  have BX := Bx.nil w
  go_enter Try.func7, Try.ntmps7
  go_wp2_with fail
  replace BX := BX.push (.cells #[.int .u64 x, .int .u64 y, .int .u64 z] 23 (0, 0))
  refine (HO _ _ BX.head).out.mono ?_
  rintro e wo ⟨rfl, hk⟩
  replace BX := BX.keep hk
  clear hk
  go_wp2_with fail
  refine ((H1 _).out).mono ?_
  rintro e v130 ⟨rfl, hk⟩
  replace BX := BX.keep hk
  clear hk
  go_wp2_with fail
  refine ((H2 _).out).mono ?_
  rintro e v131 ⟨rfl, hk⟩
  replace BX := BX.keep hk
  clear hk
  go_wp2_with fail
  refine ((H3 _).out).mono ?_
  rintro e v132 ⟨rfl, hk⟩
  replace BX := BX.keep hk
  clear hk
  go_wp2_with fail
  refine ((H4 _).out).mono ?_
  rintro e v133 ⟨rfl, hk⟩
  replace BX := BX.keep hk
  clear hk
  go_wp2_with fail
  refine ((H5 _).out).mono ?_
  rintro e v134 ⟨rfl, hk⟩
  replace BX := BX.keep hk
  clear hk
  go_wp2_with fail
  refine ((G1 _).out).mono ?_
  rintro e v135 ⟨rfl, hk⟩
  replace BX := BX.keep hk
  clear hk
  go_wp2_with fail
  refine ((G2 _).out).mono ?_
  rintro e v136 ⟨rfl, hk⟩
  replace BX := BX.keep hk
  clear hk
  go_wp2_with fail
  refine (lKnown7 _).mono ?_
  rintro e v137 ⟨rfl, hk⟩
  replace BX := BX.keep hk
  clear hk
  go_wp2
  go_ret
  exact ⟨by first | rfl | simp, BX.bel⟩
set_option maxHeartbeats 4000000 in
theorem rt_zzz4 (f x y z : Int) ( u v : Int) (KO : ∀ W g, W.heap[g]? = some (.cells #[.int .u64 x, .int .u64 y, .int .u64 z] 23 (0, 0)) → Calls Try.prog 13 #[.int .u8 f, .slice (some ⟨g, 0, none⟩) 3 3] W fun e w' => e = .returned (.int .i64 0) ∧ Below W.heap.size W w') (K1 : ∀ W, Calls Try.prog 12 #[.int .u8 f, .int .u64 x, .int .u64 y] W fun e w' => e = .returned (.tuple #[.int .i64 0, .int .i64 0]) ∧ Below W.heap.size W w') (K2 : ∀ W, Calls Try.prog 12 #[.int .u8 f, .int .u64 y, .int .u64 x] W fun e w' => e = .returned (.tuple #[.int .i64 0, .int .i64 0]) ∧ Below W.heap.size W w') (K3 : ∀ W, Calls Try.prog 12 #[.int .u8 f, .int .u64 y, .int .u64 z] W fun e w' => e = .returned (.tuple #[.int .i64 0, .int .i64 0]) ∧ Below W.heap.size W w') (K4 : ∀ W, Calls Try.prog 12 #[.int .u8 f, .int .u64 x, .int .u64 z] W fun e w' => e = .returned (.tuple #[.int .i64 0, .int .i64 0]) ∧ Below W.heap.size W w') (K5 : ∀ W, Calls Try.prog 11 #[.int .u8 f, .int .u64 x, .int .u64 y] W fun e w' => e = .returned (.tuple #[.int .u8 4, .int .i64 0]) ∧ Below W.heap.size W w') (N1 : ∀ W, Calls Try.prog 30 #[.int .u8 f, .int .u64 x] W fun e w' => e = .returned (.int .u64 u) ∧ Below W.heap.size W w') (N2 : ∀ W, Calls Try.prog 30 #[.int .u8 f, .int .u64 y] W fun e w' => e = .returned (.int .u64 v) ∧ Below W.heap.size W w') (huv : (u == v) = true) (w : World) :
    Calls Try.prog 7 #[.int .u8 f, .int .u64 x, .int .u64 y, .int .u64 z] w fun e w' => e = .returned (.bool true) ∧ Below w.heap.size w w' := by
  have HO := fun W g h => Hide.mk (KO W g h)
  clear KO
  have H1 := fun W => Hide.mk (K1 W)
  have H2 := fun W => Hide.mk (K2 W)
  have H3 := fun W => Hide.mk (K3 W)
  have H4 := fun W => Hide.mk (K4 W)
  have H5 := fun W => Hide.mk (K5 W)
  have G1 := fun W => Hide.mk (N1 W)
  have G2 := fun W => Hide.mk (N2 W)
  clear K1 K2 K3 K4 K5 N1 N2
  have BX := Bx.nil w
  go_enter Try.func7, Try.ntmps7
  go_wp2_with fail
  replace BX := BX.push (.cells #[.int .u64 x, .int .u64 y, .int .u64 z] 23 (0, 0))
  refine (HO _ _ BX.head).out.mono ?_
  rintro e wo ⟨rfl, hk⟩
  replace BX := BX.keep hk
  clear hk
  go_wp2_with fail
  refine ((H1 _).out).mono ?_
  rintro e v138 ⟨rfl, hk⟩
  replace BX := BX.keep hk
  clear hk
  go_wp2_with fail
  refine ((H2 _).out).mono ?_
  rintro e v139 ⟨rfl, hk⟩
  replace BX := BX.keep hk
  clear hk
  go_wp2_with fail
  refine ((H3 _).out).mono ?_
  rintro e v140 ⟨rfl, hk⟩
  replace BX := BX.keep hk
  clear hk
  go_wp2_with fail
  refine ((H4 _).out).mono ?_
  rintro e v141 ⟨rfl, hk⟩
  replace BX := BX.keep hk
  clear hk
  go_wp2_with fail
  refine ((H5 _).out).mono ?_
  rintro e v142 ⟨rfl, hk⟩
  replace BX := BX.keep hk
  clear hk
  go_wp2_with fail
  refine ((G1 _).out).mono ?_
  rintro e v143 ⟨rfl, hk⟩
  replace BX := BX.keep hk
  clear hk
  go_wp2_with fail
  refine ((G2 _).out).mono ?_
  rintro e v144 ⟨rfl, hk⟩
  replace BX := BX.keep hk
  clear hk
  go_wp2_with fail
  refine (lKnown7 _).mono ?_
  rintro e v145 ⟨rfl, hk⟩
  replace BX := BX.keep hk
  clear hk
  go_wp2
  go_ret
  exact ⟨by first | rfl | simp, BX.bel⟩
theorem cnx_eq {b : Bool} {x y : Int} (hx : Ok b x) (hy : Ok b y) : cnx b x = cnx b y ↔ ht b x = ht b y := by
  unfold cnx
  have n1 : inf b < nan b := by cases b <;> decide
  have n2 : sz b (nan b) = nan b := by cases b <;> rfl
  by_cases c : inf b < sz b x <;> by_cases d : inf b < sz b y
  · rw [if_pos c, if_pos d]
    unfold ht
    rw [if_pos c, if_pos d]
    simp
  · rw [if_pos c, if_neg d]
    have h1 := ht_nan d
    have h2 : ht b x = 9223372036854775807 := by unfold ht; rw [if_pos c]
    refine ⟨fun q => absurd (show inf b < sz b y by rw [← q, n2]; exact n1) d, fun q => by omega⟩
  · rw [if_neg c, if_pos d]
    have h1 := ht_nan c
    have h2 : ht b y = 9223372036854775807 := by unfold ht; rw [if_pos d]
    refine ⟨fun q => absurd (show inf b < sz b x by rw [q, n2]; exact n1) c, fun q => by omega⟩
  · rw [if_neg c, if_neg d]
    exact ⟨fun q => by rw [q], fun q => ht_inj hx hy c d q⟩
/-- The order of values goes with the total one. -/
theorem co_ht {b : Bool} {x y : Int} (hx : Ok b x) (hy : Ok b y) : (co b x y = 1 ∧ ht b x < ht b y) ∨ co b x y = 2 ∨ (co b x y = 3 ∧ ht b y < ht b x) ∨ co b x y = 4 := by
  unfold co
  by_cases c : inf b < sz b x ∨ inf b < sz b y
  · rw [if_pos c]; exact .inr (.inr (.inr rfl))
  · rw [if_neg c]
    have c1 : ¬ inf b < sz b x := fun q => c (.inl q)
    have c2 : ¬ inf b < sz b y := fun q => c (.inr q)
    by_cases h : pl b x < pl b y
    · rw [if_pos h]; exact .inl ⟨rfl, ht_lt hx hy c1 c2 h⟩
    · rw [if_neg h]
      by_cases k : pl b y < pl b x
      · rw [if_pos k]; exact .inr (.inr (.inl ⟨rfl, ht_lt hy hx c2 c1 k⟩))
      · rw [if_neg k]; exact .inr (.inl rfl)
/-- RankTotal, whatever it is called with. -/
theorem rt_any (f x y z : Int) (w : World) (x0 : 0 ≤ x) (x1 : x < 18446744073709551616) (y0 : 0 ≤ y) (y1 : y < 18446744073709551616) (z0 : 0 ≤ z) (z1 : z < 18446744073709551616) :
    Calls Try.prog 7 #[.int .u8 f, .int .u64 x, .int .u64 y, .int .u64 z] w fun e w' => e = .returned (.bool true) ∧ Below w.heap.size w w' := by
  rcases fm_badK f with ⟨b, rfl⟩ | hf
  · by_cases hx : Ok b x
    · by_cases hy : Ok b y
      · by_cases hz : Ok b z
        · have KO := fun W g h => rOpens3_ok b x y z hx hy hz W g h
          have K1 := fun W => wTotal b x y hx hy W
          have K2 := fun W => wTotal b y x hy hx W
          have K3 := fun W => wTotal b y z hy hz W
          have K4 := fun W => wTotal b x z hx hz W
          have K5 := fun W => wCmp b x y hx hy W
          have N1 := fun W => rCanon b x hx W
          have N2 := fun W => rCanon b y hy W
          have hcn := cnx_eq hx hy
          have hco := co_ht hx hy
          rcases (show ht b x < ht b y ∨ ht b x = ht b y ∨ ht b y < ht b x by omega) with q | q | q
          · have huv : (cnx b x == cnx b y) = false := beq_eq_false_iff_ne.2 (fun h => by have := hcn.1 h; omega)
            rw [sgn_is1 q] at K1
            rw [sgn_is2 q] at K2
            have ho : co b x y = 1 ∨ co b x y = 2 ∨ co b x y = 4 := by omega
            rcases (show ht b y < ht b z ∨ ht b y = ht b z ∨ ht b z < ht b y by omega) with r | r | r
            · rw [sgn_is1 r] at K3
              rw [sgn_is1 (show ht b x < ht b z by omega)] at K4
              rcases ho with h | h | h <;> rw [h] at K5
              · exact rt_nnn1 (fm b) x y z _ _ KO K1 K2 K3 K4 K5 N1 N2 huv w
              · exact rt_nnn2 (fm b) x y z _ _ KO K1 K2 K3 K4 K5 N1 N2 huv w
              · exact rt_nnn4 (fm b) x y z _ _ KO K1 K2 K3 K4 K5 N1 N2 huv w
            · rw [sgn_is0 r] at K3
              rw [sgn_is1 (show ht b x < ht b z by omega)] at K4
              rcases ho with h | h | h <;> rw [h] at K5
              · exact rt_nzn1 (fm b) x y z _ _ KO K1 K2 K3 K4 K5 N1 N2 huv w
              · exact rt_nzn2 (fm b) x y z _ _ KO K1 K2 K3 K4 K5 N1 N2 huv w
              · exact rt_nzn4 (fm b) x y z _ _ KO K1 K2 K3 K4 K5 N1 N2 huv w
            · rw [sgn_is2 r] at K3
              rcases ho with h | h | h <;> rw [h] at K5
              · exact rt_nps1 (fm b) x y z _ _ _ KO K1 K2 K3 K4 K5 N1 N2 huv w
              · exact rt_nps2 (fm b) x y z _ _ _ KO K1 K2 K3 K4 K5 N1 N2 huv w
              · exact rt_nps4 (fm b) x y z _ _ _ KO K1 K2 K3 K4 K5 N1 N2 huv w
          · have huv : (cnx b x == cnx b y) = true := beq_iff_eq.2 (hcn.2 q)
            rw [sgn_is0 q] at K1
            rw [sgn_is0 q.symm] at K2
            have ho : co b x y = 2 ∨ co b x y = 4 := by omega
            rcases (show ht b y < ht b z ∨ ht b y = ht b z ∨ ht b z < ht b y by omega) with r | r | r
            · rw [sgn_is1 r] at K3
              rw [sgn_is1 (show ht b x < ht b z by omega)] at K4
              rcases ho with h | h <;> rw [h] at K5
              · exact rt_znn2 (fm b) x y z _ _ KO K1 K2 K3 K4 K5 N1 N2 huv w
              · exact rt_znn4 (fm b) x y z _ _ KO K1 K2 K3 K4 K5 N1 N2 huv w
            · rw [sgn_is0 r] at K3
              rw [sgn_is0 (show ht b x = ht b z by omega)] at K4
              rcases ho with h | h <;> rw [h] at K5
              · exact rt_zzz2 (fm b) x y z _ _ KO K1 K2 K3 K4 K5 N1 N2 huv w
              · exact rt_zzz4 (fm b) x y z _ _ KO K1 K2 K3 K4 K5 N1 N2 huv w
            · rw [sgn_is2 r] at K3
              rcases ho with h | h <;> rw [h] at K5
              · exact rt_zps2 (fm b) x y z _ _ _ KO K1 K2 K3 K4 K5 N1 N2 huv w
              · exact rt_zps4 (fm b) x y z _ _ _ KO K1 K2 K3 K4 K5 N1 N2 huv w
          · have huv : (cnx b x == cnx b y) = false := beq_eq_false_iff_ne.2 (fun h => by have := hcn.1 h; omega)
            rw [sgn_is2 q] at K1
            rw [sgn_is1 q] at K2
            have ho : co b x y = 2 ∨ co b x y = 3 ∨ co b x y = 4 := by omega
            rcases ho with h | h | h <;> rw [h] at K5
            · exact rt_pss2 (fm b) x y z _ _ _ _ KO K1 K2 K3 K4 K5 N1 N2 huv w
            · exact rt_pss3 (fm b) x y z _ _ _ _ KO K1 K2 K3 K4 K5 N1 N2 huv w
            · exact rt_pss4 (fm b) x y z _ _ _ _ KO K1 K2 K3 K4 K5 N1 N2 huv w
        · exact rt_err (fm b) x y z 6 rfl (fun W g h => rOpens3_3 b x y z hx hy (by unfold Ok at hz; omega) z1 W g h) w
      · exact rt_err (fm b) x y z 6 rfl (fun W g h => rOpens3_2 b x y z hx (by unfold Ok at hy; omega) y1 W g h) w
    · exact rt_err (fm b) x y z 6 rfl (fun W g h => rOpens3_1 b x y z (by unfold Ok at hx; omega) x1 W g h) w
  · exact rt_err f x y z 4 rfl (fun W g h => rOpens_bad f hf _ W) w
end Go.Proofs.Ytgfpbmjknknflaa
