import Derived.Test.YtgfpbmjknknflaaRankLatticePart3
namespace Go.Proofs.Ytgfpbmjknknflaa
open Go.RowKit Go.Wd Go.Box
set_option linter.unusedVariables false
set_option maxRecDepth 3000
set_option maxHeartbeats 4000000 in
theorem rl_err (f x y z : Int) (c : Int) (hc : (c == 0) = false) (KO : ∀ W g, W.heap[g]? = some (.cells #[.int .u64 x, .int .u64 y, .int .u64 z] 23 (0, 0)) → Calls Try.prog 13 #[.int .u8 f, .slice (some ⟨g, 0, none⟩) 3 3] W fun e w' => e = .returned (.int .i64 c) ∧ Below W.heap.size W w') (w : World) :
    Calls Try.prog 9 #[.int .u8 f, .int .u64 x, .int .u64 y, .int .u64 z] w fun e w' => e = .returned (.bool true) ∧ Below w.heap.size w w' := by
  have HO := fun W g h => Hide.mk (KO W g h)
  clear KO
  have hc2 : (c != 0) = true := by simp only [bne, hc, Bool.not_false]
  have BX := Bx.nil w
  go_enter Try.func9, Try.ntmps9
  go_wp2_with fail
  replace BX := BX.push (.cells #[.int .u64 x, .int .u64 y, .int .u64 z] 23 (0, 0))
  refine (HO _ _ BX.head).out.mono ?_
  rintro e wo ⟨rfl, hk⟩
  replace BX := BX.keep hk
  clear hk
  go_wp2_with fail
  refine (lKnown7 _).mono ?_
  rintro e v146 ⟨rfl, hk⟩
  replace BX := BX.keep hk
  clear hk
  go_wp2
  go_ret
  exact ⟨by first | rfl | simp, BX.bel⟩
set_option maxHeartbeats 4000000 in
theorem rl_nan1 (f x y z : Int) (KO : ∀ W g, W.heap[g]? = some (.cells #[.int .u64 x, .int .u64 y, .int .u64 z] 23 (0, 0)) → Calls Try.prog 13 #[.int .u8 f, .slice (some ⟨g, 0, none⟩) 3 3] W fun e w' => e = .returned (.int .i64 0) ∧ Below W.heap.size W w') (cx cy cz : Int) (Cx : ∀ W, Calls Try.prog 23 #[.int .u8 f, .int .u64 x] W fun e w' => e = .returned (.int .u8 cx) ∧ Below W.heap.size W w') (hx : (cx == 5) = true) (w : World) :
    Calls Try.prog 9 #[.int .u8 f, .int .u64 x, .int .u64 y, .int .u64 z] w fun e w' => e = .returned (.bool true) ∧ Below w.heap.size w w' := by
  have HO := fun W g h => Hide.mk (KO W g h)
  clear KO
  have Dx := fun W => Hide.mk (Cx W)
  clear Cx
  have BX := Bx.nil w
  go_enter Try.func9, Try.ntmps9
  go_wp2_with fail
  replace BX := BX.push (.cells #[.int .u64 x, .int .u64 y, .int .u64 z] 23 (0, 0))
  refine (HO _ _ BX.head).out.mono ?_
  rintro e wo ⟨rfl, hk⟩
  replace BX := BX.keep hk
  clear hk
  go_wp2_with fail
  refine ((Dx _).out).mono ?_
  rintro e v147 ⟨rfl, hk⟩
  replace BX := BX.keep hk
  clear hk
  go_wp2_with fail
  refine (lKnown7 _).mono ?_
  rintro e v148 ⟨rfl, hk⟩
  replace BX := BX.keep hk
  clear hk
  go_wp2
  go_ret
  exact ⟨by first | rfl | simp, BX.bel⟩
set_option maxHeartbeats 4000000 in
theorem rl_nan2 (f x y z : Int) (KO : ∀ W g, W.heap[g]? = some (.cells #[.int .u64 x, .int .u64 y, .int .u64 z] 23 (0, 0)) → Calls Try.prog 13 #[.int .u8 f, .slice (some ⟨g, 0, none⟩) 3 3] W fun e w' => e = .returned (.int .i64 0) ∧ Below W.heap.size W w') (cx cy cz : Int) (Cx : ∀ W, Calls Try.prog 23 #[.int .u8 f, .int .u64 x] W fun e w' => e = .returned (.int .u8 cx) ∧ Below W.heap.size W w') (hx : (cx == 5) = false) (Cy : ∀ W, Calls Try.prog 23 #[.int .u8 f, .int .u64 y] W fun e w' => e = .returned (.int .u8 cy) ∧ Below W.heap.size W w') (hy : (cy == 5) = true) (w : World) :
    Calls Try.prog 9 #[.int .u8 f, .int .u64 x, .int .u64 y, .int .u64 z] w fun e w' => e = .returned (.bool true) ∧ Below w.heap.size w w' := by
  have HO := fun W g h => Hide.mk (KO W g h)
  clear KO
  have Dx := fun W => Hide.mk (Cx W)
  have Dy := fun W => Hide.mk (Cy W)
  clear Cx Cy
  have BX := Bx.nil w
  go_enter Try.func9, Try.ntmps9
  go_wp2_with fail
  replace BX := BX.push (.cells #[.int .u64 x, .int .u64 y, .int .u64 z] 23 (0, 0))
  refine (HO _ _ BX.head).out.mono ?_
  rintro e wo ⟨rfl, hk⟩
  replace BX := BX.keep hk
  clear hk
  go_wp2_with fail
  refine ((Dx _).out).mono ?_
  rintro e v149 ⟨rfl, hk⟩
  replace BX := BX.keep hk
  clear hk
  go_wp2_with fail
  refine ((Dy _).out).mono ?_
  rintro e v150 ⟨rfl, hk⟩
  replace BX := BX.keep hk
  clear hk
  go_wp2_with fail
  refine (lKnown7 _).mono ?_
  rintro e v151 ⟨rfl, hk⟩
  replace BX := BX.keep hk
  clear hk
  go_wp2
  go_ret
  exact ⟨by first | rfl | simp, BX.bel⟩
set_option maxHeartbeats 4000000 in
theorem rl_nan3 (f x y z : Int) (KO : ∀ W g, W.heap[g]? = some (.cells #[.int .u64 x, .int .u64 y, .int .u64 z] 23 (0, 0)) → Calls Try.prog 13 #[.int .u8 f, .slice (some ⟨g, 0, none⟩) 3 3] W fun e w' => e = .returned (.int .i64 0) ∧ Below W.heap.size W w') (cx cy cz : Int) (Cx : ∀ W, Calls Try.prog 23 #[.int .u8 f, .int .u64 x] W fun e w' => e = .returned (.int .u8 cx) ∧ Below W.heap.size W w') (hx : (cx == 5) = false) (Cy : ∀ W, Calls Try.prog 23 #[.int .u8 f, .int .u64 y] W fun e w' => e = .returned (.int .u8 cy) ∧ Below W.heap.size W w') (hy : (cy == 5) = false) (Cz : ∀ W, Calls Try.prog 23 #[.int .u8 f, .int .u64 z] W fun e w' => e = .returned (.int .u8 cz) ∧ Below W.heap.size W w') (hz : (cz == 5) = true) (w : World) :
    Calls Try.prog 9 #[.int .u8 f, .int .u64 x, .int .u64 y, .int .u64 z] w fun e w' => e = .returned (.bool true) ∧ Below w.heap.size w w' := by
  have HO := fun W g h => Hide.mk (KO W g h)
  clear KO
  have Dx := fun W => Hide.mk (Cx W)
  have Dy := fun W => Hide.mk (Cy W)
  have Dz := fun W => Hide.mk (Cz W)
  clear Cx Cy Cz
  have BX := Bx.nil w
  go_enter Try.func9, Try.ntmps9
  go_wp2_with fail
  replace BX := BX.push (.cells #[.int .u64 x, .int .u64 y, .int .u64 z] 23 (0, 0))
  refine (HO _ _ BX.head).out.mono ?_
  rintro e wo ⟨rfl, hk⟩
  replace BX := BX.keep hk
  clear hk
  go_wp2_with fail
  refine ((Dx _).out).mono ?_
  rintro e v152 ⟨rfl, hk⟩
  replace BX := BX.keep hk
  clear hk
  go_wp2_with fail
  refine ((Dy _).out).mono ?_
  rintro e v153 ⟨rfl, hk⟩
  replace BX := BX.keep hk
  clear hk
  go_wp2_with fail
  refine ((Dz _).out).mono ?_
  rintro e v154 ⟨rfl, hk⟩
  replace BX := BX.keep hk
  clear hk
  go_wp2_with fail
  refine (lKnown7 _).mono ?_
  rintro e v155 ⟨rfl, hk⟩
  replace BX := BX.keep hk
  clear hk
  go_wp2
  go_ret
  exact ⟨by first | rfl | simp, BX.bel⟩
set_option maxHeartbeats 4000000 in
theorem rl_a (f x y z : Int) (KO : ∀ W g, W.heap[g]? = some (.cells #[.int .u64 x, .int .u64 y, .int .u64 z] 23 (0, 0)) → Calls Try.prog 13 #[.int .u8 f, .slice (some ⟨g, 0, none⟩) 3 3] W fun e w' => e = .returned (.int .i64 0) ∧ Below W.heap.size W w') (cx cy cz : Int) (Cx : ∀ W, Calls Try.prog 23 #[.int .u8 f, .int .u64 x] W fun e w' => e = .returned (.int .u8 cx) ∧ Below W.heap.size W w') (hx : (cx == 5) = false) (Cy : ∀ W, Calls Try.prog 23 #[.int .u8 f, .int .u64 y] W fun e w' => e = .returned (.int .u8 cy) ∧ Below W.heap.size W w') (hy : (cy == 5) = false) (Cz : ∀ W, Calls Try.prog 23 #[.int .u8 f, .int .u64 z] W fun e w' => e = .returned (.int .u8 cz) ∧ Below W.heap.size W w') (hz : (cz == 5) = false) (t p q : Int) (K1 : ∀ W, Calls Try.prog 17 #[.int .u8 f, .int .u64 x, .int .u64 y] W fun e w' => e = .returned (.tuple #[.int .u64 x, .int .i64 0]) ∧ Below W.heap.size W w') (K2 : ∀ W, Calls Try.prog 18 #[.int .u8 f, .int .u64 x, .int .u64 y] W fun e w' => e = .returned (.tuple #[.int .u64 y, .int .i64 0]) ∧ Below W.heap.size W w') (K3 : ∀ W, Calls Try.prog 17 #[.int .u8 f, .int .u64 y, .int .u64 x] W fun e w' => e = .returned (.tuple #[.int .u64 x, .int .i64 0]) ∧ Below W.heap.size W w') (K4 : ∀ W, Calls Try.prog 18 #[.int .u8 f, .int .u64 y, .int .u64 x] W fun e w' => e = .returned (.tuple #[.int .u64 y, .int .i64 0]) ∧ Below W.heap.size W w') (K5 : ∀ W, Calls Try.prog 12 #[.int .u8 f, .int .u64 x, .int .u64 y] W fun e w' => e = .returned (.tuple #[.int .i64 t, .int .i64 0]) ∧ Below W.heap.size W w') (h5 : ¬ 0 < t) (K6 : ∀ W, Calls Try.prog 17 #[.int .u8 f, .int .u64 x, .int .u64 z] W fun e w' => e = .returned (.tuple #[.int .u64 p, .int .i64 0]) ∧ Below W.heap.size W w') (K7 : ∀ W, Calls Try.prog 17 #[.int .u8 f, .int .u64 y, .int .u64 z] W fun e w' => e = .returned (.tuple #[.int .u64 q, .int .i64 0]) ∧ Below W.heap.size W w') (K8 : ∀ W, Calls Try.prog 17 #[.int .u8 f, .int .u64 x, .int .u64 q] W fun e w' => e = .returned (.tuple #[.int .u64 p, .int .i64 0]) ∧ Below W.heap.size W w') (K9 : ∀ W, Calls Try.prog 18 #[.int .u8 f, .int .u64 x, .int .u64 x] W fun e w' => e = .returned (.tuple #[.int .u64 x, .int .i64 0]) ∧ Below W.heap.size W w') (w : World) :
    Calls Try.prog 9 #[.int .u8 f, .int .u64 x, .int .u64 y, .int .u64 z] w fun e w' => e = .returned (.bool true) ∧ Below w.heap.size w w' := by
  have HO := fun W g h => Hide.mk (KO W g h)
  clear KO
  have Dx := fun W => Hide.mk (Cx W)
  have Dy := fun W => Hide.mk (Cy W)
  have Dz := fun W => Hide.mk (Cz W)
  have H1 := fun W => Hide.mk (K1 W)
  have H2 := fun W => Hide.mk (K2 W)
  have H3 := fun W => Hide.mk (K3 W)
  have H4 := fun W => Hide.mk (K4 W)
  have H5 := fun W => Hide.mk (K5 W)
  have H6 := fun W => Hide.mk (K6 W)
  have H7 := fun W => Hide.mk (K7 W)
  have H8 := fun W => Hide.mk (K8 W)
  have H9 := fun W => Hide.mk (K9 W)
  clear Cx Cy Cz K1 K2 K3 K4 K5 K6 K7 K8 K9
  have exx : (x == x) = true := by simp
  have eyy : (y == y) = true := by simp
  have epp : (p == p) = true := by simp
  have nxx : (x != x) = false := by simp
  have nyy : (y != y) = false := by simp
  have BX := Bx.nil w
  go_enter Try.func9, Try.ntmps9
  go_wp2_with fail
  replace BX := BX.push (.cells #[.int .u64 x, .int .u64 y, .int .u64 z] 23 (0, 0))
  refine (HO _ _ BX.head).out.mono ?_
  rintro e wo ⟨rfl, hk⟩
  replace BX := BX.keep hk
  clear hk
  go_wp2_with fail
  refine ((Dx _).out).mono ?_
  rintro e v156 ⟨rfl, hk⟩
  replace BX := BX.keep hk
  clear hk
  go_wp2_with fail
  refine ((Dy _).out).mono ?_
  rintro e v157 ⟨rfl, hk⟩
  replace BX := BX.keep hk
  clear hk
  go_wp2_with fail
  refine ((Dz _).out).mono ?_
  rintro e v158 ⟨rfl, hk⟩
  replace BX := BX.keep hk
  clear hk
  go_wp2_with fail
  refine ((H1 _).out).mono ?_
  rintro e v159 ⟨rfl, hk⟩
  replace BX := BX.keep hk
  clear hk
  go_wp2_with fail
  refine ((H2 _).out).mono ?_
  rintro e v160 ⟨rfl, hk⟩
  replace BX := BX.keep hk
  clear hk
  go_wp2_with fail
  refine ((H3 _).out).mono ?_
  rintro e v161 ⟨rfl, hk⟩
  replace BX := BX.keep hk
  clear hk
  go_wp2_with fail
  refine ((H4 _).out).mono ?_
  rintro e v162 ⟨rfl, hk⟩
  replace BX := BX.keep hk
  clear hk
  go_wp2_with fail
  refine ((H5 _).out).mono ?_
  rintro e v163 ⟨rfl, hk⟩
  replace BX := BX.keep hk
  clear hk
  go_wp2_with fail
  refine ((H6 _).out).mono ?_
  rintro e v164 ⟨rfl, hk⟩
  replace BX := BX.keep hk
  clear hk
  go_wp2_with fail
  refine ((H7 _).out).mono ?_
  rintro e v165 ⟨rfl, hk⟩
  replace BX := BX.keep hk
  clear hk
  go_wp2_with fail
  refine ((H8 _).out).mono ?_
  rintro e v166 ⟨rfl, hk⟩
  replace BX := BX.keep hk
  clear hk
  go_wp2_with fail
  refine ((H9 _).out).mono ?_
  rintro e v167 ⟨rfl, hk⟩
  replace BX := BX.keep hk
  clear hk
  go_wp2_with fail
  refine (lKnown7 _).mono ?_
  rintro e v168 ⟨rfl, hk⟩
  replace BX := BX.keep hk
  clear hk
  go_wp2
  go_ret
  exact ⟨by first | rfl | simp, BX.bel⟩
set_option maxHeartbeats 4000000 in
theorem rl_b (f x y z : Int) (KO : ∀ W g, W.heap[g]? = some (.cells #[.int .u64 x, .int .u64 y, .int .u64 z] 23 (0, 0)) → Calls Try.prog 13 #[.int .u8 f, .slice (some ⟨g, 0, none⟩) 3 3] W fun e w' => e = .returned (.int .i64 0) ∧ Below W.heap.size W w') (cx cy cz : Int) (Cx : ∀ W, Calls Try.prog 23 #[.int .u8 f, .int .u64 x] W fun e w' => e = .returned (.int .u8 cx) ∧ Below W.heap.size W w') (hx : (cx == 5) = false) (Cy : ∀ W, Calls Try.prog 23 #[.int .u8 f, .int .u64 y] W fun e w' => e = .returned (.int .u8 cy) ∧ Below W.heap.size W w') (hy : (cy == 5) = false) (Cz : ∀ W, Calls Try.prog 23 #[.int .u8 f, .int .u64 z] W fun e w' => e = .returned (.int .u8 cz) ∧ Below W.heap.size W w') (hz : (cz == 5) = false) (t p q : Int) (K1 : ∀ W, Calls Try.prog 17 #[.int .u8 f, .int .u64 x, .int .u64 y] W fun e w' => e = .returned (.tuple #[.int .u64 y, .int .i64 0]) ∧ Below W.heap.size W w') (K2 : ∀ W, Calls Try.prog 18 #[.int .u8 f, .int .u64 x, .int .u64 y] W fun e w' => e = .returned (.tuple #[.int .u64 x, .int .i64 0]) ∧ Below W.heap.size W w') (K3 : ∀ W, Calls Try.prog 17 #[.int .u8 f, .int .u64 y, .int .u64 x] W fun e w' => e = .returned (.tuple #[.int .u64 y, .int .i64 0]) ∧ Below W.heap.size W w') (K4 : ∀ W, Calls Try.prog 18 #[.int .u8 f, .int .u64 y, .int .u64 x] W fun e w' => e = .returned (.tuple #[.int .u64 x, .int .i64 0]) ∧ Below W.heap.size W w') (K5 : ∀ W, Calls Try.prog 12 #[.int .u8 f, .int .u64 y, .int .u64 x] W fun e w' => e = .returned (.tuple #[.int .i64 t, .int .i64 0]) ∧ Below W.heap.size W w') (h5 : ¬ 0 < t) (K6 : ∀ W, Calls Try.prog 17 #[.int .u8 f, .int .u64 y, .int .u64 z] W fun e w' => e = .returned (.tuple #[.int .u64 p, .int .i64 0]) ∧ Below W.heap.size W w') (K7 : ∀ W, Calls Try.prog 17 #[.int .u8 f, .int .u64 y, .int .u64 z] W fun e w' => e = .returned (.tuple #[.int .u64 q, .int .i64 0]) ∧ Below W.heap.size W w') (K8 : ∀ W, Calls Try.prog 17 #[.int .u8 f, .int .u64 x, .int .u64 q] W fun e w' => e = .returned (.tuple #[.int .u64 p, .int .i64 0]) ∧ Below W.heap.size W w') (K9 : ∀ W, Calls Try.prog 18 #[.int .u8 f, .int .u64 x, .int .u64 y] W fun e w' => e = .returned (.tuple #[.int .u64 x, .int .i64 0]) ∧ Below W.heap.size W w') (hne : (y == x) = false) (w : World) :
    Calls Try.prog 9 #[.int .u8 f, .int .u64 x, .int .u64 y, .int .u64 z] w fun e w' => e = .returned (.bool true) ∧ Below w.heap.size w w' := by
  have HO := fun W g h => Hide.mk (KO W g h)
  clear KO
  have Dx := fun W => Hide.mk (Cx W)
  have Dy := fun W => Hide.mk (Cy W)
  have Dz := fun W => Hide.mk (Cz W)
  have H1 := fun W => Hide.mk (K1 W)
  have H2 := fun W => Hide.mk (K2 W)
  have H3 := fun W => Hide.mk (K3 W)
  have H4 := fun W => Hide.mk (K4 W)
  have H5 := fun W => Hide.mk (K5 W)
  have H6 := fun W => Hide.mk (K6 W)
  have H7 := fun W => Hide.mk (K7 W)
  have H8 := fun W => Hide.mk (K8 W)
  have H9 := fun W => Hide.mk (K9 W)
  clear Cx Cy Cz K1 K2 K3 K4 K5 K6 K7 K8 K9
  have exx : (x == x) = true := by simp
  have eyy : (y == y) = true := by simp
  have epp : (p == p) = true := by simp
  have nxx : (x != x) = false := by simp
  have nyy : (y != y) = false := by simp
  have BX := Bx.nil w
  go_enter Try.func9, Try.ntmps9
  go_wp2_with fail
  replace BX := BX.push (.cells #[.int .u64 x, .int .u64 y, .int .u64 z] 23 (0, 0))
  refine (HO _ _ BX.head).out.mono ?_
  rintro e wo ⟨rfl, hk⟩
  replace BX := BX.keep hk
  clear hk
  go_wp2_with fail
  refine ((Dx _).out).mono ?_
  rintro e v169 ⟨rfl, hk⟩
  replace BX := BX.keep hk
  clear hk
  go_wp2_with fail
  refine ((Dy _).out).mono ?_
  rintro e v170 ⟨rfl, hk⟩
  replace BX := BX.keep hk
  clear hk
  go_wp2_with fail
  refine ((Dz _).out).mono ?_
  rintro e v171 ⟨rfl, hk⟩
  replace BX := BX.keep hk
  clear hk
  go_wp2_with fail
  refine ((H1 _).out).mono ?_
  rintro e v172 ⟨rfl, hk⟩
  replace BX := BX.keep hk
  clear hk
  go_wp2_with fail
  refine ((H2 _).out).mono ?_
  rintro e v173 ⟨rfl, hk⟩
  replace BX := BX.keep hk
  clear hk
  go_wp2_with fail
  refine ((H3 _).out).mono ?_
  rintro e v174 ⟨rfl, hk⟩
  replace BX := BX.keep hk
  clear hk
  go_wp2_with fail
  refine ((H4 _).out).mono ?_
  rintro e v175 ⟨rfl, hk⟩
  replace BX := BX.keep hk
  clear hk
  go_wp2_with fail
  refine ((H5 _).out).mono ?_
  rintro e v176 ⟨rfl, hk⟩
  replace BX := BX.keep hk
  clear hk
  go_wp2_with fail
  refine ((H6 _).out).mono ?_
  rintro e v177 ⟨rfl, hk⟩
  replace BX := BX.keep hk
  clear hk
  go_wp2_with fail
  refine ((H7 _).out).mono ?_
  rintro e v178 ⟨rfl, hk⟩
  replace BX := BX.keep hk
  clear hk
  go_wp2_with fail
  refine ((H8 _).out).mono ?_
  rintro e v179 ⟨rfl, hk⟩
  replace BX := BX.keep hk
  clear hk
  go_wp2_with fail
  refine ((H9 _).out).mono ?_
  rintro e v180 ⟨rfl, hk⟩
  replace BX := BX.keep hk
  clear hk
  go_wp2_with fail
  refine (lKnown7 _).mono ?_
  rintro e v181 ⟨rfl, hk⟩
  replace BX := BX.keep hk
  clear hk
  go_wp2
  go_ret
  exact ⟨by first | rfl | simp, BX.bel⟩
/-- The lower and the higher one of two numbers. -/
theorem ex_min {b : Bool} {x y : Int} (c : ¬ inf b < sz b x) (d : ¬ inf b < sz b y) : ex b (-1) x y = if ht b x < ht b y then x else y := by
  unfold ex
  rw [if_neg c, if_neg d]
  by_cases h : ht b x < ht b y
  · rw [if_pos h, if_pos (sgn_is1 h)]
  · rw [if_neg h, if_neg]
    unfold sgn
    rw [if_neg h]
    split <;> decide
theorem ex_max {b : Bool} {x y : Int} (c : ¬ inf b < sz b x) (d : ¬ inf b < sz b y) : ex b 1 x y = if ht b y < ht b x then x else y := by
  unfold ex
  rw [if_neg c, if_neg d]
  by_cases h : ht b y < ht b x
  · rw [if_pos h, if_pos (sgn_is2 h)]
  · rw [if_neg h, if_neg]
    unfold sgn
    split
    · decide
    · decide
/-- RankLattice, whatever it is called with. -/
theorem rl_any (f x y z : Int) (w : World) (x0 : 0 ≤ x) (x1 : x < 18446744073709551616) (y0 : 0 ≤ y) (y1 : y < 18446744073709551616) (z0 : 0 ≤ z) (z1 : z < 18446744073709551616) :
    Calls Try.prog 9 #[.int .u8 f, .int .u64 x, .int .u64 y, .int .u64 z] w fun e w' => e = .returned (.bool true) ∧ Below w.heap.size w w' := by
  rcases fm_badK f with ⟨b, rfl⟩ | hf
  · by_cases hx : Ok b x
    · by_cases hy : Ok b y
      · by_cases hz : Ok b z
        · have KO := fun W g h => rOpens3_ok b x y z hx hy hz W g h
          have Cx := fun W => rClass b x hx W
          have Cy := fun W => rClass b y hy W
          have Cz := fun W => rClass b z hz W
          have n5 : ∀ v, ¬ inf b < sz b v → (cl b v == 5) = false := fun v h => beq_eq_false_iff_ne.2 (fun q => h ((cl_5 b v).1 q))
          by_cases c1 : inf b < sz b x
          · exact rl_nan1 (fm b) x y z KO _ 0 0 Cx (by simp [(cl_5 b x).2 c1]) w
          · by_cases c2 : inf b < sz b y
            · exact rl_nan2 (fm b) x y z KO _ _ 0 Cx (n5 x c1) Cy (by simp [(cl_5 b y).2 c2]) w
            · by_cases c3 : inf b < sz b z
              · exact rl_nan3 (fm b) x y z KO _ _ _ Cx (n5 x c1) Cy (n5 y c2) Cz (by simp [(cl_5 b z).2 c3]) w
              · have mn : ∀ u v, Ok b u → Ok b v → ¬ inf b < sz b u → ¬ inf b < sz b v → ∀ r, (if ht b u < ht b v then u else v) = r → ∀ W, Calls Try.prog 17 #[.int .u8 (fm b), .int .u64 u, .int .u64 v] W fun e w' => e = .returned (.tuple #[.int .u64 r, .int .i64 0]) ∧ Below W.heap.size W w' := by
                  intro u v hu hv cu cv r hr W
                  have := wMin0 (fm b) u v _ 0 (fun W => wExt b _ u v hu hv W) W
                  rw [ex_min cu cv, hr] at this
                  exact this
                have mx : ∀ u v, Ok b u → Ok b v → ¬ inf b < sz b u → ¬ inf b < sz b v → ∀ r, (if ht b v < ht b u then u else v) = r → ∀ W, Calls Try.prog 18 #[.int .u8 (fm b), .int .u64 u, .int .u64 v] W fun e w' => e = .returned (.tuple #[.int .u64 r, .int .i64 0]) ∧ Below W.heap.size W w' := by
                  intro u v hu hv cu cv r hr W
                  have := wMax0 (fm b) u v _ 0 (fun W => wExt b _ u v hu hv W) W
                  rw [ex_max cu cv, hr] at this
                  exact this
                have inj := fun {u v : Int} (hu : Ok b u) (hv : Ok b v) (cu : ¬ inf b < sz b u) (cv : ¬ inf b < sz b v) (h : ht b u = ht b v) => ht_inj hu hv cu cv h
                obtain ⟨q, hq⟩ : ∃ q, (if ht b y < ht b z then y else z) = q := ⟨_, rfl⟩
                have oq : Ok b q ∧ ¬ inf b < sz b q := by rw [← hq]; split <;> exact ⟨by assumption, by assumption⟩
                have K7 := mn y z hy hz c2 c3 q hq
                by_cases h : ht b x < ht b y ∨ x = y
                · have e1 : (if ht b x < ht b y then x else y) = x := by
                    rcases h with h | h
                    · rw [if_pos h]
                    · rw [h]; simp
                  have e2 : (if ht b y < ht b x then x else y) = y := by
                    rcases h with h | h
                    · rw [if_neg (by omega)]
                    · rw [h]; simp
                  have e3 : (if ht b y < ht b x then y else x) = x := by
                    rcases h with h | h
                    · rw [if_neg (by omega)]
                    · rw [h]; simp
                  have e4 : (if ht b x < ht b y then y else x) = y := by
                    rcases h with h | h
                    · rw [if_pos h]
                    · rw [h]; simp
                  have hle : ht b x ≤ ht b y := by
                    rcases h with h | h
                    · omega
                    · rw [h]; omega
                  have e8 : (if ht b x < ht b q then x else q) = (if ht b x < ht b z then x else z) := by
                    rw [← hq]
                    by_cases k : ht b y < ht b z
                    · rw [if_pos k]
                      rw [if_pos (show ht b x < ht b z by omega), e1]
                    · rw [if_neg k]
                  exact rl_a (fm b) x y z KO _ _ _ Cx (n5 x c1) Cy (n5 y c2) Cz (n5 z c3) _ _ q (mn x y hx hy c1 c2 x e1) (mx x y hx hy c1 c2 y e2) (mn y x hy hx c2 c1 x e3) (mx y x hy hx c2 c1 y e4) (fun W => wTotal b x y hx hy W) (by unfold sgn; split <;> (try split) <;> omega) (mn x z hx hz c1 c3 _ rfl) K7 (mn x q hx oq.1 c1 oq.2 _ e8) (mx x x hx hx c1 c1 x (by simp)) w
                · have hne : x ≠ y := fun q => h (.inr q)
                  have hgt : ht b y < ht b x := by
                    by_cases k : ht b x = ht b y
                    · exact absurd (inj hx hy c1 c2 k) hne
                    · have : ¬ ht b x < ht b y := fun q => h (.inl q)
                      omega
                  have e8 : (if ht b x < ht b q then x else q) = (if ht b y < ht b z then y else z) := by
                    rw [← hq]
                    by_cases k : ht b y < ht b z
                    · rw [if_pos k, if_neg (by omega)]
                    · rw [if_neg k, if_neg (by omega)]
                  exact rl_b (fm b) x y z KO _ _ _ Cx (n5 x c1) Cy (n5 y c2) Cz (n5 z c3) _ _ q (mn x y hx hy c1 c2 y (by rw [if_neg (by omega)])) (mx x y hx hy c1 c2 x (by rw [if_pos hgt])) (mn y x hy hx c2 c1 y (by rw [if_pos hgt])) (mx y x hy hx c2 c1 x (by rw [if_neg (by omega)])) (fun W => wTotal b y x hy hx W) (by unfold sgn; split <;> (try split) <;> omega) (mn y z hy hz c2 c3 _ rfl) K7 (mn x q hx oq.1 c1 oq.2 _ e8) (mx x y hx hy c1 c2 x (by rw [if_pos hgt])) (beq_eq_false_iff_ne.2 (Ne.symm hne)) w
        · exact rl_err (fm b) x y z 6 rfl (fun W g h => rOpens3_3 b x y z hx hy (by unfold Ok at hz; omega) z1 W g h) w
      · exact rl_err (fm b) x y z 6 rfl (fun W g h => rOpens3_2 b x y z hx (by unfold Ok at hy; omega) y1 W g h) w
    · exact rl_err (fm b) x y z 6 rfl (fun W g h => rOpens3_1 b x y z (by unfold Ok at hx; omega) x1 W g h) w
  · exact rl_err f x y z 4 rfl (fun W g h => rOpens_bad f hf _ W) w
end Go.Proofs.Ytgfpbmjknknflaa
