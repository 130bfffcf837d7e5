import Derived.Test.YteejaghimppcgaaDoorDyadClosesPart13
namespace Go.Proofs.YteejaghimppcgaaDoor
open Go.RowKit Go.Wd Go.Box
set_option linter.unusedVariables false
set_option maxRecDepth 3000
theorem supposeM {F G : Nat → Nat → World → Bool → List Int → Int → Option Addr → Nat → Prop} {T : Prop} (h : (∀ a b c d e f g i, F a b c d e f g i → G a b c d e f g i) → T) (k : ∀ a b c d e f g i, F a b c d e f g i → G a b c d e f g i) : T := h k
theorem no_digitX {w : World} {g : Nat} {n : Bool} {b : Option Addr} {k c : Nat} {x : Int} (hg : w.heap[g]? = some (DO n b k c x)) {j : Nat} {v : Int} (h : w.cell? ⟨g, j, none⟩ = some (.int .u32 v)) : False := by
  rw [cell_of_row w g j _ 36 (0, 0) hg] at h
  match j, h with
  | 0, h => injection h with h; injection h
  | 1, h => injection h with h; injection h
  | 2, h => injection h with h; injection h with h1 h2; injection h1
  | n + 3, h => simp at h
theorem lie_set3X {W : World} {g : Nat} {a b : Option Addr} {n : Bool} {k c : Nat} {x : Int} {zs : List Int} (hg : W.heap[g]? = some (DO n b k c x)) (v0 v1 v2 : Value) (l : Lie W a zs) :
    Lie (((W.setCell ⟨g, 0, none⟩ v0).setCell ⟨g, 1, none⟩ v1).setCell ⟨g, 2, none⟩ v2) a zs := by
  rcases l with h1 | ⟨b, o, h1, h2⟩
  · exact .inl h1
  · refine .inr ⟨b, o, h1, fun i hi => ?_⟩
    have k := h2 i hi
    rw [set3_cell (fun c => no_digitX hg (by rw [← c]; exact k))]
    exact k
theorem lie_row {W : World} {g : Nat} (h : W.heap[g]? = some (.cells #[.int .u32 1] 70 (0, 0))) : Lie W (some ⟨g, 0, none⟩) [1] := (show Blk W g [1] from h).lie (n := 1)
set_option maxHeartbeats 40000000 in
theorem within_eq (nq nb nl : Bool) (aq ab al : Option Addr) (cq cb cl : Nat) (zq zb zl : List Int) (xq xb xl bits : Int) (w : World) (lq : Lie w aq zq) (lb : Lie w ab zb) (ll : Lie w al zl) {uq ul p1 p2 ut : Int} (Nq : DN nq zq xq uq) (Nl : DN nl zl xl ul) (hT : Tab w) (hb1 : 1 ≤ bits) (hb2 : bits ≤ 8192) (s1 s2 : Hide (sgn uq 0 = 1 ∧ sgn ul 0 = 1))
    (HC : ∀ W, Lie W aq zq → Tab W → Calls Tryd.prog 46 #[dV nq aq zq.length cq xq, .int .i64 bits] W fun e w' => ∃ a' c' q', e = .returned (.tuple #[dV nq a' zq.length c' xq, .bool q', .int .i64 0]) ∧ Lie w' a' zq ∧ Below W.heap.size W w')
    (HT1 : ∀ W, Lie W aq zq → Lie W ab zb → Tab W → Calls Tryd.prog 98 #[dV nq aq zq.length cq xq, dV nb ab zb.length cb xb] W fun e w' => Nums W w' p1 e)
    (HK1 : Hide (sgn p1 ul = 0)) {T : Nat} (HTop : ∀ W, Lie W aq zq → Calls Tryd.prog 27 #[dV nq aq zq.length cq xq] W fun e w' => e = .returned (.int .i64 (T + xq)) ∧ Below W.heap.size W w') (hxt1 : -100000 ≤ T + xq - bits) (hxt2 : T + xq - bits ≤ 100000)
    (HA : ∀ W A, Lie W aq zq → Lie W A [1] → Tab W → Calls Tryd.prog 35 #[dV nq aq zq.length cq xq, dV false A 1 1 (T + xq - bits)] W fun e w' => Nums W w' ut e)
    (HT2 : ∀ W n z x a c, DN n z x ut → Lie W a z → Lie W ab zb → Tab W → Calls Tryd.prog 98 #[dV n a (List.length z) c x, dV nb ab zb.length cb xb] W fun e w' => Nums W w' p2 e)
    (HK2 : Hide (sgn p2 ul = 1)) :
    Calls Tryd.prog 55 #[dV nq aq zq.length cq xq, .bool false, .int .i64 bits, dV nb ab zb.length cb xb, dV nl al zl.length cl xl] w fun e w' => e = .returned (.bool true) ∧ Below w.heap.size w w' := by
  have B1 := (((Bx.nil w).push (DO nq aq zq.length cq xq)).push (DO nb ab zb.length cb xb)).push (DO nl al zl.length cl xl)
  rw [show ((w.alloc (DO nq aq zq.length cq xq)).alloc (DO nb ab zb.length cb xb)).heap.size = w.heap.size + 1 + 1 by simp, show (w.alloc (DO nq aq zq.length cq xq)).heap.size = w.heap.size + 1 by simp] at B1
  have hgq := (Nq.dg.lie lq)
  have hlen := hgq.len
  have hrng := hgq.rng
  clear hgq
  go_enter Tryd.func55, Tryd.ntmps55
  go_wp2_with fail
  generalize hw1 : ((w.alloc (DO nq aq zq.length cq xq)).alloc (DO nb ab zb.length cb xb)).alloc (DO nl al zl.length cl xl) = w1 at *
  clear hw1
  have BX := B1
  have HB := Below.refl w1.heap.size w1
  replace lq := lq.below BX.bel (Nat.le_refl _)
  replace lb := lb.below BX.bel (Nat.le_refl _)
  replace ll := ll.below BX.bel (Nat.le_refl _)
  clear B1
  refine (HC _ lq (hT.below BX.bel (Nat.le_refl _))).mono ?_
  rintro e uC ⟨aC, cC, qC, rfl, lC, hC⟩
  replace BX := BX.keep hC
  replace HB := below_then HB hC
  replace lq := lq.below hC (Nat.le_refl _)
  replace lb := lb.below hC (Nat.le_refl _)
  replace ll := ll.below hC (Nat.le_refl _)
  clear hC
  have haC := below_alloc uC (DO nq aC zq.length cC xq)
  replace BX := BX.push (DO nq aC zq.length cC xq)
  replace HB := below_then HB haC
  replace lq := lq.below haC (Nat.le_refl _)
  replace lb := lb.below haC (Nat.le_refl _)
  replace ll := ll.below haC (Nat.le_refl _)
  replace lC := lC.below haC (Nat.le_refl _)
  clear haC
  obtain ⟨⟨fq0, fq1, fq2⟩, _⟩ := cells3 BX w.heap.size _ _ _ _ (show (w.heap.size, DO nq aq zq.length cq xq) ∈ _ by simp)
  obtain ⟨⟨fd0, fd1, fd2⟩, _⟩ := cells3 BX (w.heap.size + 1) _ _ _ _ (show ((w.heap.size + 1), DO nb ab zb.length cb xb) ∈ _ by simp)
  go_wp2_with fail
  generalize hvC : uC.alloc (DO nq aC zq.length cC xq) = vC at *
  clear hvC
  refine (HT1 _ lq lb (hT.below BX.bel (Nat.le_refl _))).mono ?_
  rintro e uP ⟨nP, zP, xP, aP, cP, rfl, IP⟩
  have NP := IP.num
  have lP := IP.lie
  have hP := IP.bel
  clear IP
  replace BX := BX.keep hP
  replace HB := below_then HB hP
  replace lq := lq.below hP (Nat.le_refl _)
  replace lb := lb.below hP (Nat.le_refl _)
  replace ll := ll.below hP (Nat.le_refl _)
  replace lC := lC.below hP (Nat.le_refl _)
  clear hP
  have hgP0 : w.heap.size + 1 + 1 < uP.heap.size := BX.lt (p := ((w.heap.size + 1 + 1), DO nl al zl.length cl xl)) (by simp)
  have haP := below_alloc uP (DO nP aP zP.length cP xP)
  replace BX := BX.push (DO nP aP zP.length cP xP)
  replace HB := below_then HB haP
  replace lq := lq.below haP (Nat.le_refl _)
  replace lb := lb.below haP (Nat.le_refl _)
  replace ll := ll.below haP (Nat.le_refl _)
  replace lC := lC.below haP (Nat.le_refl _)
  replace lP := lP.below haP (Nat.le_refl _)
  clear haP
  obtain ⟨⟨fl0, fl1, fl2⟩, _⟩ := cells3 BX (w.heap.size + 1 + 1) _ _ _ _ (show ((w.heap.size + 1 + 1), DO nl al zl.length cl xl) ∈ _ by simp)
  go_wp2_with fail
  generalize hvP : uP.alloc (DO nP aP zP.length cP xP) = vP at *
  clear hvP
  refine (dcmp55 nP nl aP al cP cl zP zl xP xl _ lP ll NP Nl (hT.below BX.bel (Nat.le_refl _)) (0) HK1.out).mono ?_
  rintro e k1w ⟨rfl, k1⟩
  replace BX := BX.keep k1
  replace HB := below_then HB k1
  replace lq := lq.below k1 (Nat.le_refl _)
  replace lb := lb.below k1 (Nat.le_refl _)
  replace ll := ll.below k1 (Nat.le_refl _)
  replace lC := lC.below k1 (Nat.le_refl _)
  replace lP := lP.below k1 (Nat.le_refl _)
  clear k1
  go_wp2_with fail
  have HI := (BX.sub (L' := [(uC.heap.size, DO nq aC zq.length cC xq), ((w.heap.size + 1 + 1), DO nl al zl.length cl xl), (w.heap.size, DO nq aq zq.length cq xq)]) (by simp)).drew
  have sh := fun W (hW : Bx w [(uC.heap.size, DO nq aC zq.length cC xq), ((w.heap.size + 1 + 1), DO nl al zl.length cl xl), (w.heap.size, DO nq aq zq.length cq xq)] W) => And.intro (cells3 hW uC.heap.size _ _ _ _ (show (uC.heap.size, DO nq aC zq.length cC xq) ∈ _ by simp)).1 (And.intro (cells3 hW (w.heap.size + 1 + 1) _ _ _ _ (show ((w.heap.size + 1 + 1), DO nl al zl.length cl xl) ∈ _ by simp)).1 ((cells3 hW w.heap.size _ _ _ _ (show (w.heap.size, DO nq aq zq.length cq xq) ∈ _ by simp)).1))
  replace HB := Below.drew HB
  replace BX := BX.drew
  replace lq : Lie (World.drew _) _ _ := lq
  replace lb : Lie (World.drew _) _ _ := lb
  replace ll : Lie (World.drew _) _ _ := ll
  replace lC : Lie (World.drew _) _ _ := lC
  replace lP : Lie (World.drew _) _ _ := lP
  refine Drawn.enter (Bx w [(uC.heap.size, DO nq aC zq.length cC xq), ((w.heap.size + 1 + 1), DO nl al zl.length cl xl), (w.heap.size, DO nq aq zq.length cq xq)]) (by kernel_rfl) ?_
  refine Drawn.take (i := 0) (v := ?v0) rfl (by kernel_rfl) (by kernel_rfl) (by kernel_rfl) (fun _ _ _ h => h) (by kernel_rfl) (fun W hW => ?_) HI ?_
  rotate_left
  · have ⟨⟨sC0, sC1, sC2⟩, ⟨sl0, sl1, sl2⟩, sq0, sq1, sq2⟩ := sh W hW
    go_simp <;> exact rfl
  refine Drawn.take (i := 1) (v := ?v1) rfl (by kernel_rfl) (by kernel_rfl) (by kernel_rfl) (fun _ _ _ h => h) (by kernel_rfl) (fun W hW => ?_) HI ?_
  rotate_left
  · have ⟨⟨sC0, sC1, sC2⟩, ⟨sl0, sl1, sl2⟩, sq0, sq1, sq2⟩ := sh W hW
    go_simp <;> exact rfl
  refine Drawn.take (i := 2) (v := ?v2) rfl (by kernel_rfl) (by kernel_rfl) (by kernel_rfl) (fun _ _ _ h => h) (by kernel_rfl) (fun W hW => ?_) HI ?_
  rotate_left
  · have ⟨⟨sC0, sC1, sC2⟩, ⟨sl0, sl1, sl2⟩, sq0, sq1, sq2⟩ := sh W hW
    go_simp <;> exact rfl
  refine Drawn.take (i := 3) (v := ?v3) rfl (by kernel_rfl) (by kernel_rfl) (by kernel_rfl) (fun _ _ _ h => h) (by kernel_rfl) (fun W hW => ?_) HI ?_
  rotate_left
  · have ⟨⟨sC0, sC1, sC2⟩, ⟨sl0, sl1, sl2⟩, sq0, sq1, sq2⟩ := sh W hW
    go_simp <;> exact rfl
  refine Drawn.take (i := 4) (v := ?v4) rfl (by kernel_rfl) (by kernel_rfl) (by kernel_rfl) (fun _ _ _ h => h) (by kernel_rfl) (fun W hW => ?_) HI ?_
  rotate_left
  · have ⟨⟨sC0, sC1, sC2⟩, ⟨sl0, sl1, sl2⟩, sq0, sq1, sq2⟩ := sh W hW
    go_simp <;> exact rfl
  refine Drawn.take (i := 5) (v := ?v5) rfl (by kernel_rfl) (by kernel_rfl) (by kernel_rfl) (fun _ _ _ h => h) (by kernel_rfl) (fun W hW => ?_) HI ?_
  rotate_left
  · have ⟨⟨sC0, sC1, sC2⟩, ⟨sl0, sl1, sl2⟩, sq0, sq1, sq2⟩ := sh W hW
    go_simp <;> exact rfl
  refine Drawn.take (i := 6) (v := ?v6) rfl (by kernel_rfl) (by kernel_rfl) (by kernel_rfl) (fun _ _ _ h => h) (by kernel_rfl) (fun W hW => ?_) HI ?_
  rotate_left
  · have ⟨⟨sC0, sC1, sC2⟩, ⟨sl0, sl1, sl2⟩, sq0, sq1, sq2⟩ := sh W hW
    go_simp <;> exact rfl
  refine Drawn.take (i := 7) (v := ?v7) rfl (by kernel_rfl) (by kernel_rfl) (by kernel_rfl) (fun _ _ _ h => h) (by kernel_rfl) (fun W hW => ?_) HI ?_
  rotate_left
  · have ⟨⟨sC0, sC1, sC2⟩, ⟨sl0, sl1, sl2⟩, sq0, sq1, sq2⟩ := sh W hW
    go_simp <;> exact rfl
  refine Drawn.take (i := 8) (v := ?v8) rfl (by kernel_rfl) (by kernel_rfl) (by kernel_rfl) (fun _ _ _ h => h) (by kernel_rfl) (fun W hW => ?_) HI ?_
  rotate_left
  · have ⟨⟨sC0, sC1, sC2⟩, ⟨sl0, sl1, sl2⟩, sq0, sq1, sq2⟩ := sh W hW
    go_simp <;> exact rfl
  refine Drawn.take (i := 9) (v := ?v9) rfl (by kernel_rfl) (by kernel_rfl) (by kernel_rfl) (fun _ _ _ h => h) (by kernel_rfl) (fun W hW => ?_) HI ?_
  rotate_left
  · have ⟨⟨sC0, sC1, sC2⟩, ⟨sl0, sl1, sl2⟩, sq0, sq1, sq2⟩ := sh W hW
    go_simp <;> exact rfl
  refine Drawn.take (i := 10) (v := ?v10) rfl (by kernel_rfl) (by kernel_rfl) (by kernel_rfl) (fun _ _ _ h => h) (by kernel_rfl) (fun W hW => ?_) HI ?_
  rotate_left
  · have ⟨⟨sC0, sC1, sC2⟩, ⟨sl0, sl1, sl2⟩, sq0, sq1, sq2⟩ := sh W hW
    go_simp <;> exact rfl
  refine Drawn.take (i := 11) (v := ?v11) rfl (by kernel_rfl) (by kernel_rfl) (by kernel_rfl) (fun _ _ _ h => h) (by kernel_rfl) (fun W hW => ?_) HI ?_
  rotate_left
  · have ⟨⟨sC0, sC1, sC2⟩, ⟨sl0, sl1, sl2⟩, sq0, sq1, sq2⟩ := sh W hW
    go_simp <;> exact rfl
  refine Drawn.take (i := 12) (v := ?v12) rfl (by kernel_rfl) (by kernel_rfl) (by kernel_rfl) (fun _ _ _ h => h) (by kernel_rfl) (fun W hW => ?_) HI ?_
  rotate_left
  · have ⟨⟨sC0, sC1, sC2⟩, ⟨sl0, sl1, sl2⟩, sq0, sq1, sq2⟩ := sh W hW
    go_simp <;> exact rfl
  refine Drawn.one (j := 13) (by kernel_rfl) rfl (fun K hK => ?_)
  go_simp
  refine (dsame40 nq nq aC aq cC cq zq zq xq xq _ ⟨lC, hlen, hrng⟩ ⟨lq, hlen, hrng⟩ true (decide_eq_true ⟨rfl, rfl, rfl⟩)).mono ?_
  rintro e k2w ⟨rfl, k2⟩
  refine hK _ _ (HI.keep k2) ?_
  clear hK K
  replace HI := HI.keep k2
  replace BX := BX.keep k2
  replace HB := below_then HB k2
  replace lq := lq.below k2 (Nat.le_refl _)
  replace lb := lb.below k2 (Nat.le_refl _)
  replace ll := ll.below k2 (Nat.le_refl _)
  replace lC := lC.below k2 (Nat.le_refl _)
  replace lP := lP.below k2 (Nat.le_refl _)
  clear k2
  refine Drawn.take (i := 14) (v := .bool false) rfl (by kernel_rfl) (by kernel_rfl) (by kernel_rfl) (fun _ _ _ h => h) (by kernel_rfl) (fun W hW => ?_) HI ?_
  · have ⟨⟨sC0, sC1, sC2⟩, ⟨sl0, sl1, sl2⟩, sq0, sq1, sq2⟩ := sh W hW
    go_simp <;> (rfl)
  refine Drawn.take (i := 15) (v := ?v13) rfl (by kernel_rfl) (by kernel_rfl) (by kernel_rfl) (fun _ _ _ h => h) (by kernel_rfl) (fun W hW => ?_) HI ?_
  rotate_left
  · have ⟨⟨sC0, sC1, sC2⟩, ⟨sl0, sl1, sl2⟩, sq0, sq1, sq2⟩ := sh W hW
    go_simp <;> exact rfl
  refine Drawn.take (i := 16) (v := ?v14) rfl (by kernel_rfl) (by kernel_rfl) (by kernel_rfl) (fun _ _ _ h => h) (by kernel_rfl) (fun W hW => ?_) HI ?_
  rotate_left
  · have ⟨⟨sC0, sC1, sC2⟩, ⟨sl0, sl1, sl2⟩, sq0, sq1, sq2⟩ := sh W hW
    go_simp <;> exact rfl
  refine Drawn.take (i := 17) (v := ?v15) rfl (by kernel_rfl) (by kernel_rfl) (by kernel_rfl) (fun _ _ _ h => h) (by kernel_rfl) (fun W hW => ?_) HI ?_
  rotate_left
  · have ⟨⟨sC0, sC1, sC2⟩, ⟨sl0, sl1, sl2⟩, sq0, sq1, sq2⟩ := sh W hW
    go_simp <;> exact rfl
  refine Drawn.take (i := 18) (v := .bool false) rfl (by kernel_rfl) (by kernel_rfl) (by kernel_rfl) (fun _ _ _ h => h) (by kernel_rfl) (fun W hW => ?_) HI ?_
  · have ⟨⟨sC0, sC1, sC2⟩, ⟨sl0, sl1, sl2⟩, sq0, sq1, sq2⟩ := sh W hW
    go_simp <;> (first | rfl | decide | simp)
  refine Drawn.take (i := 19) (v := ?v16) rfl (by kernel_rfl) (by kernel_rfl) (by kernel_rfl) (fun _ _ _ h => h) (by kernel_rfl) (fun W hW => ?_) HI ?_
  rotate_left
  · have ⟨⟨sC0, sC1, sC2⟩, ⟨sl0, sl1, sl2⟩, sq0, sq1, sq2⟩ := sh W hW
    go_simp <;> exact rfl
  refine Drawn.take (i := 20) (v := ?v17) rfl (by kernel_rfl) (by kernel_rfl) (by kernel_rfl) (fun _ _ _ h => h) (by kernel_rfl) (fun W hW => ?_) HI ?_
  rotate_left
  · have ⟨⟨sC0, sC1, sC2⟩, ⟨sl0, sl1, sl2⟩, sq0, sq1, sq2⟩ := sh W hW
    go_simp <;> exact rfl
  refine Drawn.take (i := 21) (v := ?v18) rfl (by kernel_rfl) (by kernel_rfl) (by kernel_rfl) (fun _ _ _ h => h) (by kernel_rfl) (fun W hW => ?_) HI ?_
  rotate_left
  · have ⟨⟨sC0, sC1, sC2⟩, ⟨sl0, sl1, sl2⟩, sq0, sq1, sq2⟩ := sh W hW
    go_simp <;> exact rfl
  refine Drawn.take (i := 22) (v := ?v19) rfl (by kernel_rfl) (by kernel_rfl) (by kernel_rfl) (fun _ _ _ h => h) (by kernel_rfl) (fun W hW => ?_) HI ?_
  rotate_left
  · have ⟨⟨sC0, sC1, sC2⟩, ⟨sl0, sl1, sl2⟩, sq0, sq1, sq2⟩ := sh W hW
    go_simp <;> exact rfl
  refine Drawn.take (i := 23) (v := .bool false) rfl (by kernel_rfl) (by kernel_rfl) (by kernel_rfl) (fun _ _ _ h => h) (by kernel_rfl) (fun W hW => ?_) HI ?_
  · have ⟨⟨sC0, sC1, sC2⟩, ⟨sl0, sl1, sl2⟩, sq0, sq1, sq2⟩ := sh W hW
    go_simp <;> (first | rfl | decide | simp)
  refine Drawn.take (i := 24) (v := ?v20) rfl (by kernel_rfl) (by kernel_rfl) (by kernel_rfl) (fun _ _ _ h => h) (by kernel_rfl) (fun W hW => ?_) HI ?_
  rotate_left
  · have ⟨⟨sC0, sC1, sC2⟩, ⟨sl0, sl1, sl2⟩, sq0, sq1, sq2⟩ := sh W hW
    go_simp <;> exact rfl
  refine Drawn.take (i := 25) (v := ?v21) rfl (by kernel_rfl) (by kernel_rfl) (by kernel_rfl) (fun _ _ _ h => h) (by kernel_rfl) (fun W hW => ?_) HI ?_
  rotate_left
  · have ⟨⟨sC0, sC1, sC2⟩, ⟨sl0, sl1, sl2⟩, sq0, sq1, sq2⟩ := sh W hW
    go_simp <;> exact rfl
  refine Drawn.take (i := 26) (v := ?v22) rfl (by kernel_rfl) (by kernel_rfl) (by kernel_rfl) (fun _ _ _ h => h) (by kernel_rfl) (fun W hW => ?_) HI ?_
  rotate_left
  · have ⟨⟨sC0, sC1, sC2⟩, ⟨sl0, sl1, sl2⟩, sq0, sq1, sq2⟩ := sh W hW
    go_simp <;> exact rfl
  refine Drawn.take (i := 27) (v := ?v23) rfl (by kernel_rfl) (by kernel_rfl) (by kernel_rfl) (fun _ _ _ h => h) (by kernel_rfl) (fun W hW => ?_) HI ?_
  rotate_left
  · have ⟨⟨sC0, sC1, sC2⟩, ⟨sl0, sl1, sl2⟩, sq0, sq1, sq2⟩ := sh W hW
    go_simp <;> exact rfl
  refine Drawn.take (i := 30) (v := ?v24) rfl (by kernel_rfl) (by kernel_rfl) (by kernel_rfl) (fun _ _ _ h => h) (by kernel_rfl) (fun W hW => ?_) HI ?_
  rotate_left
  · have ⟨⟨sC0, sC1, sC2⟩, ⟨sl0, sl1, sl2⟩, sq0, sq1, sq2⟩ := sh W hW
    go_simp <;> exact rfl
  refine Drawn.one (j := 28) (by kernel_rfl) rfl (fun K hK => ?_)
  go_simp
  refine (dsign49 nq aq cq zq xq uq _ lq Nq 1 s1.out.1).mono ?_
  rintro e k3w ⟨rfl, k3⟩
  refine hK _ _ (HI.keep k3) ?_
  clear hK K
  replace HI := HI.keep k3
  replace BX := BX.keep k3
  replace HB := below_then HB k3
  replace lq := lq.below k3 (Nat.le_refl _)
  replace lb := lb.below k3 (Nat.le_refl _)
  replace ll := ll.below k3 (Nat.le_refl _)
  replace lC := lC.below k3 (Nat.le_refl _)
  replace lP := lP.below k3 (Nat.le_refl _)
  clear k3
  refine Drawn.take (i := 29) (v := ?v25) rfl (by kernel_rfl) (by kernel_rfl) (by kernel_rfl) (fun _ _ _ h => h) (by kernel_rfl) (fun W hW => ?_) HI ?_
  rotate_left
  · have ⟨⟨sC0, sC1, sC2⟩, ⟨sl0, sl1, sl2⟩, sq0, sq1, sq2⟩ := sh W hW
    go_simp <;> exact rfl
  refine Drawn.one (j := 31) (by kernel_rfl) rfl (fun K hK => ?_)
  go_simp
  refine (dsign49 nl al cl zl xl ul _ ll Nl 1 s1.out.2).mono ?_
  rintro e k4w ⟨rfl, k4⟩
  refine hK _ _ (HI.keep k4) ?_
  clear hK K
  replace HI := HI.keep k4
  replace BX := BX.keep k4
  replace HB := below_then HB k4
  replace lq := lq.below k4 (Nat.le_refl _)
  replace lb := lb.below k4 (Nat.le_refl _)
  replace ll := ll.below k4 (Nat.le_refl _)
  replace lC := lC.below k4 (Nat.le_refl _)
  replace lP := lP.below k4 (Nat.le_refl _)
  clear k4
  refine Drawn.take (i := 32) (v := ?v26) rfl (by kernel_rfl) (by kernel_rfl) (by kernel_rfl) (fun _ _ _ h => h) (by kernel_rfl) (fun W hW => ?_) HI ?_
  rotate_left
  · have ⟨⟨sC0, sC1, sC2⟩, ⟨sl0, sl1, sl2⟩, sq0, sq1, sq2⟩ := sh W hW
    go_simp <;> exact rfl
  refine Drawn.take (i := 33) (v := ?v27) rfl (by kernel_rfl) (by kernel_rfl) (by kernel_rfl) (fun _ _ _ h => h) (by kernel_rfl) (fun W hW => ?_) HI ?_
  rotate_left
  · have ⟨⟨sC0, sC1, sC2⟩, ⟨sl0, sl1, sl2⟩, sq0, sq1, sq2⟩ := sh W hW
    go_simp <;> exact rfl
  refine Drawn.take (i := 34) (v := ?v28) rfl (by kernel_rfl) (by kernel_rfl) (by kernel_rfl) (fun _ _ _ h => h) (by kernel_rfl) (fun W hW => ?_) HI ?_
  rotate_left
  · have ⟨⟨sC0, sC1, sC2⟩, ⟨sl0, sl1, sl2⟩, sq0, sq1, sq2⟩ := sh W hW
    go_simp <;> exact rfl
  refine Drawn.done (by kernel_rfl) ?_
  try go_simp
  clear HI sh
  obtain ⟨⟨fq0, fq1, fq2⟩, _⟩ := cells3 BX w.heap.size _ _ _ _ (show (w.heap.size, DO nq aq zq.length cq xq) ∈ _ by simp)
  go_wp2_with fail
  refine (dsign49 nq aq cq zq xq uq _ lq Nq 1 s1.out.1).mono ?_
  rintro e k5w ⟨rfl, k5⟩
  replace BX := BX.keep k5
  replace HB := below_then HB k5
  replace lq := lq.below k5 (Nat.le_refl _)
  replace lb := lb.below k5 (Nat.le_refl _)
  replace ll := ll.below k5 (Nat.le_refl _)
  replace lC := lC.below k5 (Nat.le_refl _)
  replace lP := lP.below k5 (Nat.le_refl _)
  clear k5
  go_wp2_with fail
  generalize hgP : uP.heap.size = gP at *
  clear hgP
  replace BX := BX.sub (L' := [(gP, DO nP aP zP.length cP xP), ((w.heap.size + 1 + 1), DO nl al zl.length cl xl), ((w.heap.size + 1), DO nb ab zb.length cb xb), (w.heap.size, DO nq aq zq.length cq xq)]) (by simp)
  have hTW := hT.below BX.bel (Nat.le_refl _)
  have HI := (BX.sub (L' := [(w.heap.size, DO nq aq zq.length cq xq)]) (by simp)).drew
  have sh := fun W (hW : Bx w [(w.heap.size, DO nq aq zq.length cq xq)] W) => (cells3 hW w.heap.size _ _ _ _ (show (w.heap.size, DO nq aq zq.length cq xq) ∈ _ by simp)).1
  replace HB := Below.drew HB
  replace BX := BX.drew
  replace lq : Lie (World.drew _) _ _ := lq
  replace lb : Lie (World.drew _) _ _ := lb
  replace ll : Lie (World.drew _) _ _ := ll
  refine Drawn.enter (Bx w [(w.heap.size, DO nq aq zq.length cq xq)]) (by kernel_rfl) ?_
  refine Drawn.take (i := 0) (v := ?v29) rfl (by kernel_rfl) (by kernel_rfl) (by kernel_rfl) (fun _ _ _ h => h) (by kernel_rfl) (fun W hW => ?_) HI ?_
  rotate_left
  · have ⟨sq0, sq1, sq2⟩ := sh W hW
    go_simp <;> exact rfl
  refine Drawn.take (i := 2) (v := ?v30) rfl (by kernel_rfl) (by kernel_rfl) (by kernel_rfl) (fun _ _ _ h => h) (by kernel_rfl) (fun W hW => ?_) HI ?_
  rotate_left
  · have ⟨sq0, sq1, sq2⟩ := sh W hW
    go_simp <;> exact rfl
  refine Drawn.take (i := 4) (v := ?v31) rfl (by kernel_rfl) (by kernel_rfl) (by kernel_rfl) (fun _ _ _ h => h) (by kernel_rfl) (fun W hW => ?_) HI ?_
  rotate_left
  · have ⟨sq0, sq1, sq2⟩ := sh W hW
    go_simp <;> exact rfl
  clear lC lP HC HT1 HK1 HB
  replace hTW : Tab (World.drew k5w) := hTW
  generalize hdr : World.drew k5w = W00 at *
  clear hdr
  have HF := BX
  clear BX
  refine supposeM (F := fun g18 g81 W nm zm xm am cm => Bx w ((g18, DO nm am zm.length cm xm) :: [(gP, DO nP aP zP.length cP xP), ((w.heap.size + 1 + 1), DO nl al zl.length cl xl), ((w.heap.size + 1), DO nb ab zb.length cb xb), (w.heap.size, DO nq aq zq.length cq xq)]) W ∧ Lie W am zm ∧ Lie W aq zq ∧ Lie W ab zb ∧ Lie W al zl ∧ DN nm zm xm ut) (G := ?G) (fun Rest => ?main) ?rest
  case main =>
    refine Drawn.trio (i := 1) (j := 3) (k := 11) (by kernel_rfl) rfl rfl rfl (fun K hK => ?_) (fun K hK => ?_) (fun K hK => ?_)
    · go_simp
      refine hK _ _ (HI.grown (.cells #[.int .u32 1] 70 (0, 0))) ?_
      clear hK K
      have o81 : gP < W00.heap.size := HF.lt (p := (gP, DO nP aP zP.length cP xP)) (by simp)
      replace HI := HI.grown (.cells #[.int .u32 1] 70 (0, 0))
      replace HF := HF.push (.cells #[.int .u32 1] 70 (0, 0))
      replace lq := lq.below (below_alloc W00 (.cells #[.int .u32 1] 70 (0, 0))) (Nat.le_refl _)
      replace lb := lb.below (below_alloc W00 (.cells #[.int .u32 1] 70 (0, 0))) (Nat.le_refl _)
      replace ll := ll.below (below_alloc W00 (.cells #[.int .u32 1] 70 (0, 0))) (Nat.le_refl _)
      replace hTW := hTW.below (below_alloc W00 (.cells #[.int .u32 1] 70 (0, 0))) (Nat.le_refl _)
      generalize hg : W00.alloc (.cells #[.int .u32 1] 70 (0, 0)) = W0 at *
      clear hg
      generalize hh : W00.heap.size = g81 at *
      clear hh
      refine Drawn.pair (i := 3) (j := 11) (by kernel_rfl) rfl rfl (fun K hK => ?_) (fun K hK => ?_)
      · go_simp
        refine (HTop _ lq).mono ?_
        rintro e W1 ⟨rfl, hn⟩
        refine hK _ _ (HI.keep hn) ?_
        clear hK K
        replace HI := HI.keep hn
        replace HF := HF.keep hn
        replace lq := lq.below hn (Nat.le_refl _)
        replace lb := lb.below hn (Nat.le_refl _)
        replace ll := ll.below hn (Nat.le_refl _)
        replace hTW := hTW.below hn (Nat.le_refl _)
        clear hn
        refine Drawn.take (i := 5) (v := .int .i64 (T + xq - bits)) rfl (by kernel_rfl) (by kernel_rfl) (by kernel_rfl) (fun _ _ _ h => h) (by kernel_rfl) (fun W hW => ?_) HI ?_
        · have ⟨sq0, sq1, sq2⟩ := sh W hW
          go_simp <;> (exact wrap_ok (by omega) (by omega))
        refine Drawn.take (i := 6) (v := ?v32) rfl (by kernel_rfl) (by kernel_rfl) (by kernel_rfl) (fun _ _ _ h => h) (by kernel_rfl) (fun W hW => ?_) HI ?_
        rotate_left
        · have ⟨sq0, sq1, sq2⟩ := sh W hW
          go_simp <;> exact rfl
        refine Drawn.pair (i := 7) (j := 11) (by kernel_rfl) rfl rfl (fun K hK => ?_) (fun K hK => ?_)
        · go_simp
          have lR := lie_row (HF.box (g81, (.cells #[.int .u32 1] 70 (0, 0))) (by simp))
          refine (HA _ _ lq lR hTW).mono ?_
          rintro e W2 ⟨nm, zm, xm, am, cm, rfl, IM⟩
          have hn := IM.bel
          have lm := IM.lie
          have Nm := IM.num
          clear IM lR
          refine hK _ _ (HI.keep hn) ?_
          clear hK K
          replace HI := HI.keep hn
          replace HF := HF.keep hn
          replace lq := lq.below hn (Nat.le_refl _)
          replace lb := lb.below hn (Nat.le_refl _)
          replace ll := ll.below hn (Nat.le_refl _)
          replace hTW := hTW.below hn (Nat.le_refl _)
          clear hn
          refine Drawn.take (i := 8) (v := ?v33) rfl (by kernel_rfl) (by kernel_rfl) (by kernel_rfl) (fun _ _ _ h => h) (by kernel_rfl) (fun W hW => ?_) HI ?_
          rotate_left
          · have ⟨sq0, sq1, sq2⟩ := sh W hW
            go_simp <;> exact rfl
          refine Drawn.take (i := 9) (v := ?v34) rfl (by kernel_rfl) (by kernel_rfl) (by kernel_rfl) (fun _ _ _ h => h) (by kernel_rfl) (fun W hW => ?_) HI ?_
          rotate_left
          · have ⟨sq0, sq1, sq2⟩ := sh W hW
            go_simp <;> exact rfl
          refine Drawn.take (i := 10) (v := ?v35) rfl (by kernel_rfl) (by kernel_rfl) (by kernel_rfl) (fun _ _ _ h => h) (by kernel_rfl) (fun W hW => ?_) HI ?_
          rotate_left
          · have ⟨sq0, sq1, sq2⟩ := sh W hW
            go_simp <;> exact rfl
          refine Drawn.one (j := 11) (by kernel_rfl) rfl (fun K hK => ?_)
          go_simp
          refine hK _ _ (HI.grown (DO false none 0 0 0)) ?_
          clear hK K
          have o18 : gP < W2.heap.size := HF.lt (p := (gP, DO nP aP zP.length cP xP)) (by simp)
          have o8 : g81 < W2.heap.size := HF.lt (p := (g81, (.cells #[.int .u32 1] 70 (0, 0)))) (by simp)
          replace HI := HI.grown (DO false none 0 0 0)
          replace HF := HF.push (DO false none 0 0 0)
          replace lq := lq.below (below_alloc W2 (DO false none 0 0 0)) (Nat.le_refl _)
          replace lb := lb.below (below_alloc W2 (DO false none 0 0 0)) (Nat.le_refl _)
          replace ll := ll.below (below_alloc W2 (DO false none 0 0 0)) (Nat.le_refl _)
          replace lm := lm.below (below_alloc W2 (DO false none 0 0 0)) (Nat.le_refl _)
          replace hTW := hTW.below (below_alloc W2 (DO false none 0 0 0)) (Nat.le_refl _)
          generalize hg : W2.alloc (DO false none 0 0 0) = W3 at *
          clear hg
          generalize hh : W2.heap.size = g18 at *
          clear hh
          replace HF := HF.sub (L' := (g18, (DO false none 0 0 0)) :: [(gP, DO nP aP zP.length cP xP), ((w.heap.size + 1 + 1), DO nl al zl.length cl xl), ((w.heap.size + 1), DO nb ab zb.length cb xb), (w.heap.size, DO nq aq zq.length cq xq)]) (by simp)
          have H5 := HF.head
          obtain ⟨⟨f0, f1, f2⟩, r0, r1, r2⟩ := cells3 HF g18 _ _ _ _ (.head _)
          replace lq := lie_set3 H5 (.bool nm) (.slice am zm.length cm) (.int .i64 xm) lq
          replace lb := lie_set3 H5 (.bool nm) (.slice am zm.length cm) (.int .i64 xm) lb
          replace ll := lie_set3 H5 (.bool nm) (.slice am zm.length cm) (.int .i64 xm) ll
          replace lm := lie_set3 H5 (.bool nm) (.slice am zm.length cm) (.int .i64 xm) lm
          replace HF := HF.fill3 (by omega) (by simp; omega) (.bool nm) (.slice am zm.length cm) (.int .i64 xm)
          refine Drawn.one (j := 12) (by kernel_rfl) rfl (fun K hK => ?_)
          go_simp
          refine hK _ _ (HF.sub (by simp)) ?_
          clear hK K f0 f1 f2 r0 r1 r2 H5
          replace HI := HF.sub (L' := [(w.heap.size, DO nq aq zq.length cq xq)]) (by simp)
          refine Drawn.take (i := 13) (v := ?v36) rfl (by kernel_rfl) (by kernel_rfl) (by kernel_rfl) (fun _ _ _ h => h) (by kernel_rfl) (fun W hW => ?_) HI ?_
          rotate_left
          · have ⟨sq0, sq1, sq2⟩ := sh W hW
            go_simp <;> exact rfl
          refine Drawn.done (by kernel_rfl) ?_
          try go_simp
          generalize hWf : (((W3.setCell ⟨g18, 0, none⟩ (.bool nm)).setCell ⟨g18, 1, none⟩ (.slice am zm.length cm)).setCell ⟨g18, 2, none⟩ (.int .i64 xm)) = Wf at *
          exact Rest g18 g81 Wf nm zm xm am cm ⟨HF, lm, lq, lb, ll, Nm⟩
        · go_simp
          refine hK _ _ (HI.grown (DO false none 0 0 0)) ?_
          clear hK K
          have o18 : gP < W1.heap.size := HF.lt (p := (gP, DO nP aP zP.length cP xP)) (by simp)
          have o8 : g81 < W1.heap.size := HF.lt (p := (g81, (.cells #[.int .u32 1] 70 (0, 0)))) (by simp)
          replace HI := HI.grown (DO false none 0 0 0)
          replace HF := HF.push (DO false none 0 0 0)
          replace lq := lq.below (below_alloc W1 (DO false none 0 0 0)) (Nat.le_refl _)
          replace lb := lb.below (below_alloc W1 (DO false none 0 0 0)) (Nat.le_refl _)
          replace ll := ll.below (below_alloc W1 (DO false none 0 0 0)) (Nat.le_refl _)
          replace hTW := hTW.below (below_alloc W1 (DO false none 0 0 0)) (Nat.le_refl _)
          generalize hg : W1.alloc (DO false none 0 0 0) = W4 at *
          clear hg
          generalize hh : W1.heap.size = g18 at *
          clear hh
          refine Drawn.one (j := 7) (by kernel_rfl) rfl (fun K hK => ?_)
          go_simp
          have lR := lie_row (HF.box (g81, (.cells #[.int .u32 1] 70 (0, 0))) (by simp))
          refine (HA _ _ lq lR hTW).mono ?_
          rintro e W5 ⟨nm, zm, xm, am, cm, rfl, IM⟩
          have hn := IM.bel
          have lm := IM.lie
          have Nm := IM.num
          clear IM lR
          refine hK _ _ (HI.keep hn) ?_
          clear hK K
          replace HI := HI.keep hn
          replace HF := HF.keep hn
          replace lq := lq.below hn (Nat.le_refl _)
          replace lb := lb.below hn (Nat.le_refl _)
          replace ll := ll.below hn (Nat.le_refl _)
          replace hTW := hTW.below hn (Nat.le_refl _)
          clear hn
          refine Drawn.take (i := 8) (v := ?v37) rfl (by kernel_rfl) (by kernel_rfl) (by kernel_rfl) (fun _ _ _ h => h) (by kernel_rfl) (fun W hW => ?_) HI ?_
          rotate_left
          · have ⟨sq0, sq1, sq2⟩ := sh W hW
            go_simp <;> exact rfl
          refine Drawn.take (i := 9) (v := ?v38) rfl (by kernel_rfl) (by kernel_rfl) (by kernel_rfl) (fun _ _ _ h => h) (by kernel_rfl) (fun W hW => ?_) HI ?_
          rotate_left
          · have ⟨sq0, sq1, sq2⟩ := sh W hW
            go_simp <;> exact rfl
          refine Drawn.take (i := 10) (v := ?v39) rfl (by kernel_rfl) (by kernel_rfl) (by kernel_rfl) (fun _ _ _ h => h) (by kernel_rfl) (fun W hW => ?_) HI ?_
          rotate_left
          · have ⟨sq0, sq1, sq2⟩ := sh W hW
            go_simp <;> exact rfl
          replace HF := HF.sub (L' := (g18, (DO false none 0 0 0)) :: [(gP, DO nP aP zP.length cP xP), ((w.heap.size + 1 + 1), DO nl al zl.length cl xl), ((w.heap.size + 1), DO nb ab zb.length cb xb), (w.heap.size, DO nq aq zq.length cq xq)]) (by simp)
          have H5 := HF.head
          obtain ⟨⟨f0, f1, f2⟩, r0, r1, r2⟩ := cells3 HF g18 _ _ _ _ (.head _)
          replace lq := lie_set3 H5 (.bool nm) (.slice am zm.length cm) (.int .i64 xm) lq
          replace lb := lie_set3 H5 (.bool nm) (.slice am zm.length cm) (.int .i64 xm) lb
          replace ll := lie_set3 H5 (.bool nm) (.slice am zm.length cm) (.int .i64 xm) ll
          replace lm := lie_set3 H5 (.bool nm) (.slice am zm.length cm) (.int .i64 xm) lm
          replace HF := HF.fill3 (by omega) (by simp; omega) (.bool nm) (.slice am zm.length cm) (.int .i64 xm)
          refine Drawn.one (j := 12) (by kernel_rfl) rfl (fun K hK => ?_)
          go_simp
          refine hK _ _ (HF.sub (by simp)) ?_
          clear hK K f0 f1 f2 r0 r1 r2 H5
          replace HI := HF.sub (L' := [(w.heap.size, DO nq aq zq.length cq xq)]) (by simp)
          refine Drawn.take (i := 13) (v := ?v40) rfl (by kernel_rfl) (by kernel_rfl) (by kernel_rfl) (fun _ _ _ h => h) (by kernel_rfl) (fun W hW => ?_) HI ?_
          rotate_left
          · have ⟨sq0, sq1, sq2⟩ := sh W hW
            go_simp <;> exact rfl
          refine Drawn.done (by kernel_rfl) ?_
          try go_simp
          generalize hWf : (((W5.setCell ⟨g18, 0, none⟩ (.bool nm)).setCell ⟨g18, 1, none⟩ (.slice am zm.length cm)).setCell ⟨g18, 2, none⟩ (.int .i64 xm)) = Wf at *
          exact Rest g18 g81 Wf nm zm xm am cm ⟨HF, lm, lq, lb, ll, Nm⟩
      · go_simp
        refine hK _ _ (HI.grown (DO false none 0 0 0)) ?_
        clear hK K
        have o18 : gP < W0.heap.size := HF.lt (p := (gP, DO nP aP zP.length cP xP)) (by simp)
        have o8 : g81 < W0.heap.size := HF.lt (p := (g81, (.cells #[.int .u32 1] 70 (0, 0)))) (by simp)
        replace HI := HI.grown (DO false none 0 0 0)
        replace HF := HF.push (DO false none 0 0 0)
        replace lq := lq.below (below_alloc W0 (DO false none 0 0 0)) (Nat.le_refl _)
        replace lb := lb.below (below_alloc W0 (DO false none 0 0 0)) (Nat.le_refl _)
        replace ll := ll.below (below_alloc W0 (DO false none 0 0 0)) (Nat.le_refl _)
        replace hTW := hTW.below (below_alloc W0 (DO false none 0 0 0)) (Nat.le_refl _)
        generalize hg : W0.alloc (DO false none 0 0 0) = W6 at *
        clear hg
        generalize hh : W0.heap.size = g18 at *
        clear hh
        refine Drawn.one (j := 3) (by kernel_rfl) rfl (fun K hK => ?_)
        go_simp
        refine (HTop _ lq).mono ?_
        rintro e W7 ⟨rfl, hn⟩
        refine hK _ _ (HI.keep hn) ?_
        clear hK K
        replace HI := HI.keep hn
        replace HF := HF.keep hn
        replace lq := lq.below hn (Nat.le_refl _)
        replace lb := lb.below hn (Nat.le_refl _)
        replace ll := ll.below hn (Nat.le_refl _)
        replace hTW := hTW.below hn (Nat.le_refl _)
        clear hn
        refine Drawn.take (i := 5) (v := .int .i64 (T + xq - bits)) rfl (by kernel_rfl) (by kernel_rfl) (by kernel_rfl) (fun _ _ _ h => h) (by kernel_rfl) (fun W hW => ?_) HI ?_
        · have ⟨sq0, sq1, sq2⟩ := sh W hW
          go_simp <;> (exact wrap_ok (by omega) (by omega))
        refine Drawn.take (i := 6) (v := ?v41) rfl (by kernel_rfl) (by kernel_rfl) (by kernel_rfl) (fun _ _ _ h => h) (by kernel_rfl) (fun W hW => ?_) HI ?_
        rotate_left
        · have ⟨sq0, sq1, sq2⟩ := sh W hW
          go_simp <;> exact rfl
        refine Drawn.one (j := 7) (by kernel_rfl) rfl (fun K hK => ?_)
        go_simp
        have lR := lie_row (HF.box (g81, (.cells #[.int .u32 1] 70 (0, 0))) (by simp))
        refine (HA _ _ lq lR hTW).mono ?_
        rintro e W8 ⟨nm, zm, xm, am, cm, rfl, IM⟩
        have hn := IM.bel
        have lm := IM.lie
        have Nm := IM.num
        clear IM lR
        refine hK _ _ (HI.keep hn) ?_
        clear hK K
        replace HI := HI.keep hn
        replace HF := HF.keep hn
        replace lq := lq.below hn (Nat.le_refl _)
        replace lb := lb.below hn (Nat.le_refl _)
        replace ll := ll.below hn (Nat.le_refl _)
        replace hTW := hTW.below hn (Nat.le_refl _)
        clear hn
        refine Drawn.take (i := 8) (v := ?v42) rfl (by kernel_rfl) (by kernel_rfl) (by kernel_rfl) (fun _ _ _ h => h) (by kernel_rfl) (fun W hW => ?_) HI ?_
        rotate_left
        · have ⟨sq0, sq1, sq2⟩ := sh W hW
          go_simp <;> exact rfl
        refine Drawn.take (i := 9) (v := ?v43) rfl (by kernel_rfl) (by kernel_rfl) (by kernel_rfl) (fun _ _ _ h => h) (by kernel_rfl) (fun W hW => ?_) HI ?_
        rotate_left
        · have ⟨sq0, sq1, sq2⟩ := sh W hW
          go_simp <;> exact rfl
        refine Drawn.take (i := 10) (v := ?v44) rfl (by kernel_rfl) (by kernel_rfl) (by kernel_rfl) (fun _ _ _ h => h) (by kernel_rfl) (fun W hW => ?_) HI ?_
        rotate_left
        · have ⟨sq0, sq1, sq2⟩ := sh W hW
          go_simp <;> exact rfl
        replace HF := HF.sub (L' := (g18, (DO false none 0 0 0)) :: [(gP, DO nP aP zP.length cP xP), ((w.heap.size + 1 + 1), DO nl al zl.length cl xl), ((w.heap.size + 1), DO nb ab zb.length cb xb), (w.heap.size, DO nq aq zq.length cq xq)]) (by simp)
        have H5 := HF.head
        obtain ⟨⟨f0, f1, f2⟩, r0, r1, r2⟩ := cells3 HF g18 _ _ _ _ (.head _)
        replace lq := lie_set3 H5 (.bool nm) (.slice am zm.length cm) (.int .i64 xm) lq
        replace lb := lie_set3 H5 (.bool nm) (.slice am zm.length cm) (.int .i64 xm) lb
        replace ll := lie_set3 H5 (.bool nm) (.slice am zm.length cm) (.int .i64 xm) ll
        replace lm := lie_set3 H5 (.bool nm) (.slice am zm.length cm) (.int .i64 xm) lm
        replace HF := HF.fill3 (by omega) (by simp; omega) (.bool nm) (.slice am zm.length cm) (.int .i64 xm)
        refine Drawn.one (j := 12) (by kernel_rfl) rfl (fun K hK => ?_)
        go_simp
        refine hK _ _ (HF.sub (by simp)) ?_
        clear hK K f0 f1 f2 r0 r1 r2 H5
        replace HI := HF.sub (L' := [(w.heap.size, DO nq aq zq.length cq xq)]) (by simp)
        refine Drawn.take (i := 13) (v := ?v45) rfl (by kernel_rfl) (by kernel_rfl) (by kernel_rfl) (fun _ _ _ h => h) (by kernel_rfl) (fun W hW => ?_) HI ?_
        rotate_left
        · have ⟨sq0, sq1, sq2⟩ := sh W hW
          go_simp <;> exact rfl
        refine Drawn.done (by kernel_rfl) ?_
        try go_simp
        generalize hWf : (((W8.setCell ⟨g18, 0, none⟩ (.bool nm)).setCell ⟨g18, 1, none⟩ (.slice am zm.length cm)).setCell ⟨g18, 2, none⟩ (.int .i64 xm)) = Wf at *
        exact Rest g18 g81 Wf nm zm xm am cm ⟨HF, lm, lq, lb, ll, Nm⟩
    · go_simp
      refine (HTop _ lq).mono ?_
      rintro e W9 ⟨rfl, hn⟩
      refine hK _ _ (HI.keep hn) ?_
      clear hK K
      replace HI := HI.keep hn
      replace HF := HF.keep hn
      replace lq := lq.below hn (Nat.le_refl _)
      replace lb := lb.below hn (Nat.le_refl _)
      replace ll := ll.below hn (Nat.le_refl _)
      replace hTW := hTW.below hn (Nat.le_refl _)
      clear hn
      refine Drawn.take (i := 5) (v := .int .i64 (T + xq - bits)) rfl (by kernel_rfl) (by kernel_rfl) (by kernel_rfl) (fun _ _ _ h => h) (by kernel_rfl) (fun W hW => ?_) HI ?_
      · have ⟨sq0, sq1, sq2⟩ := sh W hW
        go_simp <;> (exact wrap_ok (by omega) (by omega))
      refine Drawn.pair (i := 1) (j := 11) (by kernel_rfl) rfl rfl (fun K hK => ?_) (fun K hK => ?_)
      · go_simp
        refine hK _ _ (HI.grown (.cells #[.int .u32 1] 70 (0, 0))) ?_
        clear hK K
        have o81 : gP < W9.heap.size := HF.lt (p := (gP, DO nP aP zP.length cP xP)) (by simp)
        replace HI := HI.grown (.cells #[.int .u32 1] 70 (0, 0))
        replace HF := HF.push (.cells #[.int .u32 1] 70 (0, 0))
        replace lq := lq.below (below_alloc W9 (.cells #[.int .u32 1] 70 (0, 0))) (Nat.le_refl _)
        replace lb := lb.below (below_alloc W9 (.cells #[.int .u32 1] 70 (0, 0))) (Nat.le_refl _)
        replace ll := ll.below (below_alloc W9 (.cells #[.int .u32 1] 70 (0, 0))) (Nat.le_refl _)
        replace hTW := hTW.below (below_alloc W9 (.cells #[.int .u32 1] 70 (0, 0))) (Nat.le_refl _)
        generalize hg : W9.alloc (.cells #[.int .u32 1] 70 (0, 0)) = W10 at *
        clear hg
        generalize hh : W9.heap.size = g81 at *
        clear hh
        refine Drawn.take (i := 6) (v := ?v46) rfl (by kernel_rfl) (by kernel_rfl) (by kernel_rfl) (fun _ _ _ h => h) (by kernel_rfl) (fun W hW => ?_) HI ?_
        rotate_left
        · have ⟨sq0, sq1, sq2⟩ := sh W hW
          go_simp <;> exact rfl
        refine Drawn.pair (i := 7) (j := 11) (by kernel_rfl) rfl rfl (fun K hK => ?_) (fun K hK => ?_)
        · go_simp
          have lR := lie_row (HF.box (g81, (.cells #[.int .u32 1] 70 (0, 0))) (by simp))
          refine (HA _ _ lq lR hTW).mono ?_
          rintro e W11 ⟨nm, zm, xm, am, cm, rfl, IM⟩
          have hn := IM.bel
          have lm := IM.lie
          have Nm := IM.num
          clear IM lR
          refine hK _ _ (HI.keep hn) ?_
          clear hK K
          replace HI := HI.keep hn
          replace HF := HF.keep hn
          replace lq := lq.below hn (Nat.le_refl _)
          replace lb := lb.below hn (Nat.le_refl _)
          replace ll := ll.below hn (Nat.le_refl _)
          replace hTW := hTW.below hn (Nat.le_refl _)
          clear hn
          refine Drawn.take (i := 8) (v := ?v47) rfl (by kernel_rfl) (by kernel_rfl) (by kernel_rfl) (fun _ _ _ h => h) (by kernel_rfl) (fun W hW => ?_) HI ?_
          rotate_left
          · have ⟨sq0, sq1, sq2⟩ := sh W hW
            go_simp <;> exact rfl
          refine Drawn.take (i := 9) (v := ?v48) rfl (by kernel_rfl) (by kernel_rfl) (by kernel_rfl) (fun _ _ _ h => h) (by kernel_rfl) (fun W hW => ?_) HI ?_
          rotate_left
          · have ⟨sq0, sq1, sq2⟩ := sh W hW
            go_simp <;> exact rfl
          refine Drawn.take (i := 10) (v := ?v49) rfl (by kernel_rfl) (by kernel_rfl) (by kernel_rfl) (fun _ _ _ h => h) (by kernel_rfl) (fun W hW => ?_) HI ?_
          rotate_left
          · have ⟨sq0, sq1, sq2⟩ := sh W hW
            go_simp <;> exact rfl
          refine Drawn.one (j := 11) (by kernel_rfl) rfl (fun K hK => ?_)
          go_simp
          refine hK _ _ (HI.grown (DO false none 0 0 0)) ?_
          clear hK K
          have o18 : gP < W11.heap.size := HF.lt (p := (gP, DO nP aP zP.length cP xP)) (by simp)
          have o8 : g81 < W11.heap.size := HF.lt (p := (g81, (.cells #[.int .u32 1] 70 (0, 0)))) (by simp)
          replace HI := HI.grown (DO false none 0 0 0)
          replace HF := HF.push (DO false none 0 0 0)
          replace lq := lq.below (below_alloc W11 (DO false none 0 0 0)) (Nat.le_refl _)
          replace lb := lb.below (below_alloc W11 (DO false none 0 0 0)) (Nat.le_refl _)
          replace ll := ll.below (below_alloc W11 (DO false none 0 0 0)) (Nat.le_refl _)
          replace lm := lm.below (below_alloc W11 (DO false none 0 0 0)) (Nat.le_refl _)
          replace hTW := hTW.below (below_alloc W11 (DO false none 0 0 0)) (Nat.le_refl _)
          generalize hg : W11.alloc (DO false none 0 0 0) = W12 at *
          clear hg
          generalize hh : W11.heap.size = g18 at *
          clear hh
          replace HF := HF.sub (L' := (g18, (DO false none 0 0 0)) :: [(gP, DO nP aP zP.length cP xP), ((w.heap.size + 1 + 1), DO nl al zl.length cl xl), ((w.heap.size + 1), DO nb ab zb.length cb xb), (w.heap.size, DO nq aq zq.length cq xq)]) (by simp)
          have H5 := HF.head
          obtain ⟨⟨f0, f1, f2⟩, r0, r1, r2⟩ := cells3 HF g18 _ _ _ _ (.head _)
          replace lq := lie_set3 H5 (.bool nm) (.slice am zm.length cm) (.int .i64 xm) lq
          replace lb := lie_set3 H5 (.bool nm) (.slice am zm.length cm) (.int .i64 xm) lb
          replace ll := lie_set3 H5 (.bool nm) (.slice am zm.length cm) (.int .i64 xm) ll
          replace lm := lie_set3 H5 (.bool nm) (.slice am zm.length cm) (.int .i64 xm) lm
          replace HF := HF.fill3 (by omega) (by simp; omega) (.bool nm) (.slice am zm.length cm) (.int .i64 xm)
          refine Drawn.one (j := 12) (by kernel_rfl) rfl (fun K hK => ?_)
          go_simp
          refine hK _ _ (HF.sub (by simp)) ?_
          clear hK K f0 f1 f2 r0 r1 r2 H5
          replace HI := HF.sub (L' := [(w.heap.size, DO nq aq zq.length cq xq)]) (by simp)
          refine Drawn.take (i := 13) (v := ?v50) rfl (by kernel_rfl) (by kernel_rfl) (by kernel_rfl) (fun _ _ _ h => h) (by kernel_rfl) (fun W hW => ?_) HI ?_
          rotate_left
          · have ⟨sq0, sq1, sq2⟩ := sh W hW
            go_simp <;> exact rfl
          refine Drawn.done (by kernel_rfl) ?_
          try go_simp
          generalize hWf : (((W12.setCell ⟨g18, 0, none⟩ (.bool nm)).setCell ⟨g18, 1, none⟩ (.slice am zm.length cm)).setCell ⟨g18, 2, none⟩ (.int .i64 xm)) = Wf at *
          exact Rest g18 g81 Wf nm zm xm am cm ⟨HF, lm, lq, lb, ll, Nm⟩
        · go_simp
          refine hK _ _ (HI.grown (DO false none 0 0 0)) ?_
          clear hK K
          have o18 : gP < W10.heap.size := HF.lt (p := (gP, DO nP aP zP.length cP xP)) (by simp)
          have o8 : g81 < W10.heap.size := HF.lt (p := (g81, (.cells #[.int .u32 1] 70 (0, 0)))) (by simp)
          replace HI := HI.grown (DO false none 0 0 0)
          replace HF := HF.push (DO false none 0 0 0)
          replace lq := lq.below (below_alloc W10 (DO false none 0 0 0)) (Nat.le_refl _)
          replace lb := lb.below (below_alloc W10 (DO false none 0 0 0)) (Nat.le_refl _)
          replace ll := ll.below (below_alloc W10 (DO false none 0 0 0)) (Nat.le_refl _)
          replace hTW := hTW.below (below_alloc W10 (DO false none 0 0 0)) (Nat.le_refl _)
          generalize hg : W10.alloc (DO false none 0 0 0) = W13 at *
          clear hg
          generalize hh : W10.heap.size = g18 at *
          clear hh
          refine Drawn.one (j := 7) (by kernel_rfl) rfl (fun K hK => ?_)
          go_simp
          have lR := lie_row (HF.box (g81, (.cells #[.int .u32 1] 70 (0, 0))) (by simp))
          refine (HA _ _ lq lR hTW).mono ?_
          rintro e W14 ⟨nm, zm, xm, am, cm, rfl, IM⟩
          have hn := IM.bel
          have lm := IM.lie
          have Nm := IM.num
          clear IM lR
          refine hK _ _ (HI.keep hn) ?_
          clear hK K
          replace HI := HI.keep hn
          replace HF := HF.keep hn
          replace lq := lq.below hn (Nat.le_refl _)
          replace lb := lb.below hn (Nat.le_refl _)
          replace ll := ll.below hn (Nat.le_refl _)
          replace hTW := hTW.below hn (Nat.le_refl _)
          clear hn
          refine Drawn.take (i := 8) (v := ?v51) rfl (by kernel_rfl) (by kernel_rfl) (by kernel_rfl) (fun _ _ _ h => h) (by kernel_rfl) (fun W hW => ?_) HI ?_
          rotate_left
          · have ⟨sq0, sq1, sq2⟩ := sh W hW
            go_simp <;> exact rfl
          refine Drawn.take (i := 9) (v := ?v52) rfl (by kernel_rfl) (by kernel_rfl) (by kernel_rfl) (fun _ _ _ h => h) (by kernel_rfl) (fun W hW => ?_) HI ?_
          rotate_left
          · have ⟨sq0, sq1, sq2⟩ := sh W hW
            go_simp <;> exact rfl
          refine Drawn.take (i := 10) (v := ?v53) rfl (by kernel_rfl) (by kernel_rfl) (by kernel_rfl) (fun _ _ _ h => h) (by kernel_rfl) (fun W hW => ?_) HI ?_
          rotate_left
          · have ⟨sq0, sq1, sq2⟩ := sh W hW
            go_simp <;> exact rfl
          replace HF := HF.sub (L' := (g18, (DO false none 0 0 0)) :: [(gP, DO nP aP zP.length cP xP), ((w.heap.size + 1 + 1), DO nl al zl.length cl xl), ((w.heap.size + 1), DO nb ab zb.length cb xb), (w.heap.size, DO nq aq zq.length cq xq)]) (by simp)
          have H5 := HF.head
          obtain ⟨⟨f0, f1, f2⟩, r0, r1, r2⟩ := cells3 HF g18 _ _ _ _ (.head _)
          replace lq := lie_set3 H5 (.bool nm) (.slice am zm.length cm) (.int .i64 xm) lq
          replace lb := lie_set3 H5 (.bool nm) (.slice am zm.length cm) (.int .i64 xm) lb
          replace ll := lie_set3 H5 (.bool nm) (.slice am zm.length cm) (.int .i64 xm) ll
          replace lm := lie_set3 H5 (.bool nm) (.slice am zm.length cm) (.int .i64 xm) lm
          replace HF := HF.fill3 (by omega) (by simp; omega) (.bool nm) (.slice am zm.length cm) (.int .i64 xm)
          refine Drawn.one (j := 12) (by kernel_rfl) rfl (fun K hK => ?_)
          go_simp
          refine hK _ _ (HF.sub (by simp)) ?_
          clear hK K f0 f1 f2 r0 r1 r2 H5
          replace HI := HF.sub (L' := [(w.heap.size, DO nq aq zq.length cq xq)]) (by simp)
          refine Drawn.take (i := 13) (v := ?v54) rfl (by kernel_rfl) (by kernel_rfl) (by kernel_rfl) (fun _ _ _ h => h) (by kernel_rfl) (fun W hW => ?_) HI ?_
          rotate_left
          · have ⟨sq0, sq1, sq2⟩ := sh W hW
            go_simp <;> exact rfl
          refine Drawn.done (by kernel_rfl) ?_
          try go_simp
          generalize hWf : (((W14.setCell ⟨g18, 0, none⟩ (.bool nm)).setCell ⟨g18, 1, none⟩ (.slice am zm.length cm)).setCell ⟨g18, 2, none⟩ (.int .i64 xm)) = Wf at *
          exact Rest g18 g81 Wf nm zm xm am cm ⟨HF, lm, lq, lb, ll, Nm⟩
      · go_simp
        refine hK _ _ (HI.grown (DO false none 0 0 0)) ?_
        clear hK K
        have o18 : gP < W9.heap.size := HF.lt (p := (gP, DO nP aP zP.length cP xP)) (by simp)
        replace HI := HI.grown (DO false none 0 0 0)
        replace HF := HF.push (DO false none 0 0 0)
        replace lq := lq.below (below_alloc W9 (DO false none 0 0 0)) (Nat.le_refl _)
        replace lb := lb.below (below_alloc W9 (DO false none 0 0 0)) (Nat.le_refl _)
        replace ll := ll.below (below_alloc W9 (DO false none 0 0 0)) (Nat.le_refl _)
        replace hTW := hTW.below (below_alloc W9 (DO false none 0 0 0)) (Nat.le_refl _)
        generalize hg : W9.alloc (DO false none 0 0 0) = W15 at *
        clear hg
        generalize hh : W9.heap.size = g18 at *
        clear hh
        refine Drawn.one (j := 1) (by kernel_rfl) rfl (fun K hK => ?_)
        go_simp
        refine hK _ _ (HI.grown (.cells #[.int .u32 1] 70 (0, 0))) ?_
        clear hK K
        have o81 : gP < W15.heap.size := HF.lt (p := (gP, DO nP aP zP.length cP xP)) (by simp)
        have o8 : g18 < W15.heap.size := HF.lt (p := (g18, (DO false none 0 0 0))) (by simp)
        replace HI := HI.grown (.cells #[.int .u32 1] 70 (0, 0))
        replace HF := HF.push (.cells #[.int .u32 1] 70 (0, 0))
        replace lq := lq.below (below_alloc W15 (.cells #[.int .u32 1] 70 (0, 0))) (Nat.le_refl _)
        replace lb := lb.below (below_alloc W15 (.cells #[.int .u32 1] 70 (0, 0))) (Nat.le_refl _)
        replace ll := ll.below (below_alloc W15 (.cells #[.int .u32 1] 70 (0, 0))) (Nat.le_refl _)
        replace hTW := hTW.below (below_alloc W15 (.cells #[.int .u32 1] 70 (0, 0))) (Nat.le_refl _)
        generalize hg : W15.alloc (.cells #[.int .u32 1] 70 (0, 0)) = W16 at *
        clear hg
        generalize hh : W15.heap.size = g81 at *
        clear hh
        refine Drawn.take (i := 6) (v := ?v55) rfl (by kernel_rfl) (by kernel_rfl) (by kernel_rfl) (fun _ _ _ h => h) (by kernel_rfl) (fun W hW => ?_) HI ?_
        rotate_left
        · have ⟨sq0, sq1, sq2⟩ := sh W hW
          go_simp <;> exact rfl
        refine Drawn.one (j := 7) (by kernel_rfl) rfl (fun K hK => ?_)
        go_simp
        have lR := lie_row (HF.box (g81, (.cells #[.int .u32 1] 70 (0, 0))) (by simp))
        refine (HA _ _ lq lR hTW).mono ?_
        rintro e W17 ⟨nm, zm, xm, am, cm, rfl, IM⟩
        have hn := IM.bel
        have lm := IM.lie
        have Nm := IM.num
        clear IM lR
        refine hK _ _ (HI.keep hn) ?_
        clear hK K
        replace HI := HI.keep hn
        replace HF := HF.keep hn
        replace lq := lq.below hn (Nat.le_refl _)
        replace lb := lb.below hn (Nat.le_refl _)
        replace ll := ll.below hn (Nat.le_refl _)
        replace hTW := hTW.below hn (Nat.le_refl _)
        clear hn
        refine Drawn.take (i := 8) (v := ?v56) rfl (by kernel_rfl) (by kernel_rfl) (by kernel_rfl) (fun _ _ _ h => h) (by kernel_rfl) (fun W hW => ?_) HI ?_
        rotate_left
        · have ⟨sq0, sq1, sq2⟩ := sh W hW
          go_simp <;> exact rfl
        refine Drawn.take (i := 9) (v := ?v57) rfl (by kernel_rfl) (by kernel_rfl) (by kernel_rfl) (fun _ _ _ h => h) (by kernel_rfl) (fun W hW => ?_) HI ?_
        rotate_left
        · have ⟨sq0, sq1, sq2⟩ := sh W hW
          go_simp <;> exact rfl
        refine Drawn.take (i := 10) (v := ?v58) rfl (by kernel_rfl) (by kernel_rfl) (by kernel_rfl) (fun _ _ _ h => h) (by kernel_rfl) (fun W hW => ?_) HI ?_
        rotate_left
        · have ⟨sq0, sq1, sq2⟩ := sh W hW
          go_simp <;> exact rfl
        replace HF := HF.sub (L' := (g18, (DO false none 0 0 0)) :: [(gP, DO nP aP zP.length cP xP), ((w.heap.size + 1 + 1), DO nl al zl.length cl xl), ((w.heap.size + 1), DO nb ab zb.length cb xb), (w.heap.size, DO nq aq zq.length cq xq)]) (by simp)
        have H5 := HF.head
        obtain ⟨⟨f0, f1, f2⟩, r0, r1, r2⟩ := cells3 HF g18 _ _ _ _ (.head _)
        replace lq := lie_set3 H5 (.bool nm) (.slice am zm.length cm) (.int .i64 xm) lq
        replace lb := lie_set3 H5 (.bool nm) (.slice am zm.length cm) (.int .i64 xm) lb
        replace ll := lie_set3 H5 (.bool nm) (.slice am zm.length cm) (.int .i64 xm) ll
        replace lm := lie_set3 H5 (.bool nm) (.slice am zm.length cm) (.int .i64 xm) lm
        replace HF := HF.fill3 (by omega) (by simp; omega) (.bool nm) (.slice am zm.length cm) (.int .i64 xm)
        refine Drawn.one (j := 12) (by kernel_rfl) rfl (fun K hK => ?_)
        go_simp
        refine hK _ _ (HF.sub (by simp)) ?_
        clear hK K f0 f1 f2 r0 r1 r2 H5
        replace HI := HF.sub (L' := [(w.heap.size, DO nq aq zq.length cq xq)]) (by simp)
        refine Drawn.take (i := 13) (v := ?v59) rfl (by kernel_rfl) (by kernel_rfl) (by kernel_rfl) (fun _ _ _ h => h) (by kernel_rfl) (fun W hW => ?_) HI ?_
        rotate_left
        · have ⟨sq0, sq1, sq2⟩ := sh W hW
          go_simp <;> exact rfl
        refine Drawn.done (by kernel_rfl) ?_
        try go_simp
        generalize hWf : (((W17.setCell ⟨g18, 0, none⟩ (.bool nm)).setCell ⟨g18, 1, none⟩ (.slice am zm.length cm)).setCell ⟨g18, 2, none⟩ (.int .i64 xm)) = Wf at *
        exact Rest g18 g81 Wf nm zm xm am cm ⟨HF, lm, lq, lb, ll, Nm⟩
    · go_simp
      refine hK _ _ (HI.grown (DO false none 0 0 0)) ?_
      clear hK K
      have o18 : gP < W00.heap.size := HF.lt (p := (gP, DO nP aP zP.length cP xP)) (by simp)
      replace HI := HI.grown (DO false none 0 0 0)
      replace HF := HF.push (DO false none 0 0 0)
      replace lq := lq.below (below_alloc W00 (DO false none 0 0 0)) (Nat.le_refl _)
      replace lb := lb.below (below_alloc W00 (DO false none 0 0 0)) (Nat.le_refl _)
      replace ll := ll.below (below_alloc W00 (DO false none 0 0 0)) (Nat.le_refl _)
      replace hTW := hTW.below (below_alloc W00 (DO false none 0 0 0)) (Nat.le_refl _)
      generalize hg : W00.alloc (DO false none 0 0 0) = W18 at *
      clear hg
      generalize hh : W00.heap.size = g18 at *
      clear hh
      refine Drawn.pair (i := 1) (j := 3) (by kernel_rfl) rfl rfl (fun K hK => ?_) (fun K hK => ?_)
      · go_simp
        refine hK _ _ (HI.grown (.cells #[.int .u32 1] 70 (0, 0))) ?_
        clear hK K
        have o81 : gP < W18.heap.size := HF.lt (p := (gP, DO nP aP zP.length cP xP)) (by simp)
        have o8 : g18 < W18.heap.size := HF.lt (p := (g18, (DO false none 0 0 0))) (by simp)
        replace HI := HI.grown (.cells #[.int .u32 1] 70 (0, 0))
        replace HF := HF.push (.cells #[.int .u32 1] 70 (0, 0))
        replace lq := lq.below (below_alloc W18 (.cells #[.int .u32 1] 70 (0, 0))) (Nat.le_refl _)
        replace lb := lb.below (below_alloc W18 (.cells #[.int .u32 1] 70 (0, 0))) (Nat.le_refl _)
        replace ll := ll.below (below_alloc W18 (.cells #[.int .u32 1] 70 (0, 0))) (Nat.le_refl _)
        replace hTW := hTW.below (below_alloc W18 (.cells #[.int .u32 1] 70 (0, 0))) (Nat.le_refl _)
        generalize hg : W18.alloc (.cells #[.int .u32 1] 70 (0, 0)) = W19 at *
        clear hg
        generalize hh : W18.heap.size = g81 at *
        clear hh
        refine Drawn.one (j := 3) (by kernel_rfl) rfl (fun K hK => ?_)
        go_simp
        refine (HTop _ lq).mono ?_
        rintro e W20 ⟨rfl, hn⟩
        refine hK _ _ (HI.keep hn) ?_
        clear hK K
        replace HI := HI.keep hn
        replace HF := HF.keep hn
        replace lq := lq.below hn (Nat.le_refl _)
        replace lb := lb.below hn (Nat.le_refl _)
        replace ll := ll.below hn (Nat.le_refl _)
        replace hTW := hTW.below hn (Nat.le_refl _)
        clear hn
        refine Drawn.take (i := 5) (v := .int .i64 (T + xq - bits)) rfl (by kernel_rfl) (by kernel_rfl) (by kernel_rfl) (fun _ _ _ h => h) (by kernel_rfl) (fun W hW => ?_) HI ?_
        · have ⟨sq0, sq1, sq2⟩ := sh W hW
          go_simp <;> (exact wrap_ok (by omega) (by omega))
        refine Drawn.take (i := 6) (v := ?v60) rfl (by kernel_rfl) (by kernel_rfl) (by kernel_rfl) (fun _ _ _ h => h) (by kernel_rfl) (fun W hW => ?_) HI ?_
        rotate_left
        · have ⟨sq0, sq1, sq2⟩ := sh W hW
          go_simp <;> exact rfl
        refine Drawn.one (j := 7) (by kernel_rfl) rfl (fun K hK => ?_)
        go_simp
        have lR := lie_row (HF.box (g81, (.cells #[.int .u32 1] 70 (0, 0))) (by simp))
        refine (HA _ _ lq lR hTW).mono ?_
        rintro e W21 ⟨nm, zm, xm, am, cm, rfl, IM⟩
        have hn := IM.bel
        have lm := IM.lie
        have Nm := IM.num
        clear IM lR
        refine hK _ _ (HI.keep hn) ?_
        clear hK K
        replace HI := HI.keep hn
        replace HF := HF.keep hn
        replace lq := lq.below hn (Nat.le_refl _)
        replace lb := lb.below hn (Nat.le_refl _)
        replace ll := ll.below hn (Nat.le_refl _)
        replace hTW := hTW.below hn (Nat.le_refl _)
        clear hn
        refine Drawn.take (i := 8) (v := ?v61) rfl (by kernel_rfl) (by kernel_rfl) (by kernel_rfl) (fun _ _ _ h => h) (by kernel_rfl) (fun W hW => ?_) HI ?_
        rotate_left
        · have ⟨sq0, sq1, sq2⟩ := sh W hW
          go_simp <;> exact rfl
        refine Drawn.take (i := 9) (v := ?v62) rfl (by kernel_rfl) (by kernel_rfl) (by kernel_rfl) (fun _ _ _ h => h) (by kernel_rfl) (fun W hW => ?_) HI ?_
        rotate_left
        · have ⟨sq0, sq1, sq2⟩ := sh W hW
          go_simp <;> exact rfl
        refine Drawn.take (i := 10) (v := ?v63) rfl (by kernel_rfl) (by kernel_rfl) (by kernel_rfl) (fun _ _ _ h => h) (by kernel_rfl) (fun W hW => ?_) HI ?_
        rotate_left
        · have ⟨sq0, sq1, sq2⟩ := sh W hW
          go_simp <;> exact rfl
        replace HF := HF.sub (L' := (g18, (DO false none 0 0 0)) :: [(gP, DO nP aP zP.length cP xP), ((w.heap.size + 1 + 1), DO nl al zl.length cl xl), ((w.heap.size + 1), DO nb ab zb.length cb xb), (w.heap.size, DO nq aq zq.length cq xq)]) (by simp)
        have H5 := HF.head
        obtain ⟨⟨f0, f1, f2⟩, r0, r1, r2⟩ := cells3 HF g18 _ _ _ _ (.head _)
        replace lq := lie_set3 H5 (.bool nm) (.slice am zm.length cm) (.int .i64 xm) lq
        replace lb := lie_set3 H5 (.bool nm) (.slice am zm.length cm) (.int .i64 xm) lb
        replace ll := lie_set3 H5 (.bool nm) (.slice am zm.length cm) (.int .i64 xm) ll
        replace lm := lie_set3 H5 (.bool nm) (.slice am zm.length cm) (.int .i64 xm) lm
        replace HF := HF.fill3 (by omega) (by simp; omega) (.bool nm) (.slice am zm.length cm) (.int .i64 xm)
        refine Drawn.one (j := 12) (by kernel_rfl) rfl (fun K hK => ?_)
        go_simp
        refine hK _ _ (HF.sub (by simp)) ?_
        clear hK K f0 f1 f2 r0 r1 r2 H5
        replace HI := HF.sub (L' := [(w.heap.size, DO nq aq zq.length cq xq)]) (by simp)
        refine Drawn.take (i := 13) (v := ?v64) rfl (by kernel_rfl) (by kernel_rfl) (by kernel_rfl) (fun _ _ _ h => h) (by kernel_rfl) (fun W hW => ?_) HI ?_
        rotate_left
        · have ⟨sq0, sq1, sq2⟩ := sh W hW
          go_simp <;> exact rfl
        refine Drawn.done (by kernel_rfl) ?_
        try go_simp
        generalize hWf : (((W21.setCell ⟨g18, 0, none⟩ (.bool nm)).setCell ⟨g18, 1, none⟩ (.slice am zm.length cm)).setCell ⟨g18, 2, none⟩ (.int .i64 xm)) = Wf at *
        exact Rest g18 g81 Wf nm zm xm am cm ⟨HF, lm, lq, lb, ll, Nm⟩
      · go_simp
        refine (HTop _ lq).mono ?_
        rintro e W22 ⟨rfl, hn⟩
        refine hK _ _ (HI.keep hn) ?_
        clear hK K
        replace HI := HI.keep hn
        replace HF := HF.keep hn
        replace lq := lq.below hn (Nat.le_refl _)
        replace lb := lb.below hn (Nat.le_refl _)
        replace ll := ll.below hn (Nat.le_refl _)
        replace hTW := hTW.below hn (Nat.le_refl _)
        clear hn
        refine Drawn.take (i := 5) (v := .int .i64 (T + xq - bits)) rfl (by kernel_rfl) (by kernel_rfl) (by kernel_rfl) (fun _ _ _ h => h) (by kernel_rfl) (fun W hW => ?_) HI ?_
        · have ⟨sq0, sq1, sq2⟩ := sh W hW
          go_simp <;> (exact wrap_ok (by omega) (by omega))
        refine Drawn.one (j := 1) (by kernel_rfl) rfl (fun K hK => ?_)
        go_simp
        refine hK _ _ (HI.grown (.cells #[.int .u32 1] 70 (0, 0))) ?_
        clear hK K
        have o81 : gP < W22.heap.size := HF.lt (p := (gP, DO nP aP zP.length cP xP)) (by simp)
        have o8 : g18 < W22.heap.size := HF.lt (p := (g18, (DO false none 0 0 0))) (by simp)
        replace HI := HI.grown (.cells #[.int .u32 1] 70 (0, 0))
        replace HF := HF.push (.cells #[.int .u32 1] 70 (0, 0))
        replace lq := lq.below (below_alloc W22 (.cells #[.int .u32 1] 70 (0, 0))) (Nat.le_refl _)
        replace lb := lb.below (below_alloc W22 (.cells #[.int .u32 1] 70 (0, 0))) (Nat.le_refl _)
        replace ll := ll.below (below_alloc W22 (.cells #[.int .u32 1] 70 (0, 0))) (Nat.le_refl _)
        replace hTW := hTW.below (below_alloc W22 (.cells #[.int .u32 1] 70 (0, 0))) (Nat.le_refl _)
        generalize hg : W22.alloc (.cells #[.int .u32 1] 70 (0, 0)) = W23 at *
        clear hg
        generalize hh : W22.heap.size = g81 at *
        clear hh
        refine Drawn.take (i := 6) (v := ?v65) rfl (by kernel_rfl) (by kernel_rfl) (by kernel_rfl) (fun _ _ _ h => h) (by kernel_rfl) (fun W hW => ?_) HI ?_
        rotate_left
        · have ⟨sq0, sq1, sq2⟩ := sh W hW
          go_simp <;> exact rfl
        refine Drawn.one (j := 7) (by kernel_rfl) rfl (fun K hK => ?_)
        go_simp
        have lR := lie_row (HF.box (g81, (.cells #[.int .u32 1] 70 (0, 0))) (by simp))
        refine (HA _ _ lq lR hTW).mono ?_
        rintro e W24 ⟨nm, zm, xm, am, cm, rfl, IM⟩
        have hn := IM.bel
        have lm := IM.lie
        have Nm := IM.num
        clear IM lR
        refine hK _ _ (HI.keep hn) ?_
        clear hK K
        replace HI := HI.keep hn
        replace HF := HF.keep hn
        replace lq := lq.below hn (Nat.le_refl _)
        replace lb := lb.below hn (Nat.le_refl _)
        replace ll := ll.below hn (Nat.le_refl _)
        replace hTW := hTW.below hn (Nat.le_refl _)
        clear hn
        refine Drawn.take (i := 8) (v := ?v66) rfl (by kernel_rfl) (by kernel_rfl) (by kernel_rfl) (fun _ _ _ h => h) (by kernel_rfl) (fun W hW => ?_) HI ?_
        rotate_left
        · have ⟨sq0, sq1, sq2⟩ := sh W hW
          go_simp <;> exact rfl
        refine Drawn.take (i := 9) (v := ?v67) rfl (by kernel_rfl) (by kernel_rfl) (by kernel_rfl) (fun _ _ _ h => h) (by kernel_rfl) (fun W hW => ?_) HI ?_
        rotate_left
        · have ⟨sq0, sq1, sq2⟩ := sh W hW
          go_simp <;> exact rfl
        refine Drawn.take (i := 10) (v := ?v68) rfl (by kernel_rfl) (by kernel_rfl) (by kernel_rfl) (fun _ _ _ h => h) (by kernel_rfl) (fun W hW => ?_) HI ?_
        rotate_left
        · have ⟨sq0, sq1, sq2⟩ := sh W hW
          go_simp <;> exact rfl
        replace HF := HF.sub (L' := (g18, (DO false none 0 0 0)) :: [(gP, DO nP aP zP.length cP xP), ((w.heap.size + 1 + 1), DO nl al zl.length cl xl), ((w.heap.size + 1), DO nb ab zb.length cb xb), (w.heap.size, DO nq aq zq.length cq xq)]) (by simp)
        have H5 := HF.head
        obtain ⟨⟨f0, f1, f2⟩, r0, r1, r2⟩ := cells3 HF g18 _ _ _ _ (.head _)
        replace lq := lie_set3 H5 (.bool nm) (.slice am zm.length cm) (.int .i64 xm) lq
        replace lb := lie_set3 H5 (.bool nm) (.slice am zm.length cm) (.int .i64 xm) lb
        replace ll := lie_set3 H5 (.bool nm) (.slice am zm.length cm) (.int .i64 xm) ll
        replace lm := lie_set3 H5 (.bool nm) (.slice am zm.length cm) (.int .i64 xm) lm
        replace HF := HF.fill3 (by omega) (by simp; omega) (.bool nm) (.slice am zm.length cm) (.int .i64 xm)
        refine Drawn.one (j := 12) (by kernel_rfl) rfl (fun K hK => ?_)
        go_simp
        refine hK _ _ (HF.sub (by simp)) ?_
        clear hK K f0 f1 f2 r0 r1 r2 H5
        replace HI := HF.sub (L' := [(w.heap.size, DO nq aq zq.length cq xq)]) (by simp)
        refine Drawn.take (i := 13) (v := ?v69) rfl (by kernel_rfl) (by kernel_rfl) (by kernel_rfl) (fun _ _ _ h => h) (by kernel_rfl) (fun W hW => ?_) HI ?_
        rotate_left
        · have ⟨sq0, sq1, sq2⟩ := sh W hW
          go_simp <;> exact rfl
        refine Drawn.done (by kernel_rfl) ?_
        try go_simp
        generalize hWf : (((W24.setCell ⟨g18, 0, none⟩ (.bool nm)).setCell ⟨g18, 1, none⟩ (.slice am zm.length cm)).setCell ⟨g18, 2, none⟩ (.int .i64 xm)) = Wf at *
        exact Rest g18 g81 Wf nm zm xm am cm ⟨HF, lm, lq, lb, ll, Nm⟩
  case rest =>
    intro g18 g81 W nm zm xm am cm ⟨HF, lm, lq, lb, ll, Nm⟩
    have BX := HF
    clear HF
    have HB := Below.refl W.heap.size W
    obtain ⟨⟨fM0, fM1, fM2⟩, _⟩ := cells3 BX g18 _ _ _ _ (show (g18, DO nm am zm.length cm xm) ∈ _ by simp)
    obtain ⟨⟨fd0, fd1, fd2⟩, _⟩ := cells3 BX (w.heap.size + 1) _ _ _ _ (show ((w.heap.size + 1), DO nb ab zb.length cb xb) ∈ _ by simp)
    go_wp2_with fail
    refine (HT2 _ nm zm xm am cm Nm lm lb (hT.below BX.bel (Nat.le_refl _))).mono ?_
    rintro e uT ⟨nT, zT, xT, aT, cT, rfl, IT⟩
    have NT := IT.num
    have lT := IT.lie
    have hT9 := IT.bel
    clear IT
    replace BX := BX.keep hT9
    replace HB := below_then HB hT9
    replace lm := lm.below hT9 (Nat.le_refl _)
    replace lq := lq.below hT9 (Nat.le_refl _)
    replace lb := lb.below hT9 (Nat.le_refl _)
    replace ll := ll.below hT9 (Nat.le_refl _)
    clear hT9
    obtain ⟨⟨fP0, fP1, fP2⟩, rP0, rP1, rP2⟩ := cells3 BX gP _ _ _ _ (.tail _ (.head _))
    obtain ⟨⟨fl0, fl1, fl2⟩, _⟩ := cells3 BX (w.heap.size + 1 + 1) _ _ _ _ (show ((w.heap.size + 1 + 1), DO nl al zl.length cl xl) ∈ _ by simp)
    go_wp2_with fail
    skip
    have BP := (BX.sub (L' := [(gP, DO nP aP zP.length cP xP), (w.heap.size, DO nq aq zq.length cq xq)]) (by simp)).fill3 (by omega) (by simp; omega) (.bool nT) (.slice aT zT.length cT) (.int .i64 xT)
    have lT2 := lie_set3X (BX.sub (L' := [(gP, DO nP aP zP.length cP xP)]) (by simp)).head (.bool nT) (.slice aT zT.length cT) (.int .i64 xT) lT
    have ll2 := lie_set3X (BX.sub (L' := [(gP, DO nP aP zP.length cP xP)]) (by simp)).head (.bool nT) (.slice aT zT.length cT) (.int .i64 xT) ll
    refine (dcmp55 nT nl aT al cT cl zT zl xT xl _ lT2 ll2 NT Nl (hT.below BP.bel (Nat.le_refl _)) 1 HK2.out).mono ?_
    rintro e wZ ⟨rfl, hZ⟩
    replace BP := BP.keep hZ
    go_wp2
    go_ret
    exact ⟨rfl, BP.bel⟩
set_option maxHeartbeats 40000000 in
theorem within_lt (nq nb nl : Bool) (aq ab al : Option Addr) (cq cb cl : Nat) (zq zb zl : List Int) (xq xb xl bits : Int) (w : World) (lq : Lie w aq zq) (lb : Lie w ab zb) (ll : Lie w al zl) {uq ul p1 p2 ut : Int} (Nq : DN nq zq xq uq) (Nl : DN nl zl xl ul) (hT : Tab w) (hb1 : 1 ≤ bits) (hb2 : bits ≤ 8192) (s1 s2 : Hide (sgn uq 0 = 1 ∧ sgn ul 0 = 1))
    (HC : ∀ W, Lie W aq zq → Tab W → Calls Tryd.prog 46 #[dV nq aq zq.length cq xq, .int .i64 bits] W fun e w' => ∃ a' c' q', e = .returned (.tuple #[dV nq a' zq.length c' xq, .bool q', .int .i64 0]) ∧ Lie w' a' zq ∧ Below W.heap.size W w')
    (HT1 : ∀ W, Lie W aq zq → Lie W ab zb → Tab W → Calls Tryd.prog 98 #[dV nq aq zq.length cq xq, dV nb ab zb.length cb xb] W fun e w' => Nums W w' p1 e)
    (HK1 : Hide (sgn p1 ul = -1)) {T : Nat} (HTop : ∀ W, Lie W aq zq → Calls Tryd.prog 27 #[dV nq aq zq.length cq xq] W fun e w' => e = .returned (.int .i64 (T + xq)) ∧ Below W.heap.size W w') (hxt1 : -100000 ≤ T + xq - bits) (hxt2 : T + xq - bits ≤ 100000)
    (HA : ∀ W A, Lie W aq zq → Lie W A [1] → Tab W → Calls Tryd.prog 35 #[dV nq aq zq.length cq xq, dV false A 1 1 (T + xq - bits)] W fun e w' => Nums W w' ut e)
    (HT2 : ∀ W n z x a c, DN n z x ut → Lie W a z → Lie W ab zb → Tab W → Calls Tryd.prog 98 #[dV n a (List.length z) c x, dV nb ab zb.length cb xb] W fun e w' => Nums W w' p2 e)
    (HK2 : Hide (sgn p2 ul = 1)) :
    Calls Tryd.prog 55 #[dV nq aq zq.length cq xq, .bool true, .int .i64 bits, dV nb ab zb.length cb xb, dV nl al zl.length cl xl] w fun e w' => e = .returned (.bool true) ∧ Below w.heap.size w w' := by
  have B1 := (((Bx.nil w).push (DO nq aq zq.length cq xq)).push (DO nb ab zb.length cb xb)).push (DO nl al zl.length cl xl)
  rw [show ((w.alloc (DO nq aq zq.length cq xq)).alloc (DO nb ab zb.length cb xb)).heap.size = w.heap.size + 1 + 1 by simp, show (w.alloc (DO nq aq zq.length cq xq)).heap.size = w.heap.size + 1 by simp] at B1
  have hgq := (Nq.dg.lie lq)
  have hlen := hgq.len
  have hrng := hgq.rng
  clear hgq
  go_enter Tryd.func55, Tryd.ntmps55
  go_wp2_with fail
  generalize hw1 : ((w.alloc (DO nq aq zq.length cq xq)).alloc (DO nb ab zb.length cb xb)).alloc (DO nl al zl.length cl xl) = w1 at *
  clear hw1
  have BX := B1
  have HB := Below.refl w1.heap.size w1
  replace lq := lq.below BX.bel (Nat.le_refl _)
  replace lb := lb.below BX.bel (Nat.le_refl _)
  replace ll := ll.below BX.bel (Nat.le_refl _)
  clear B1
  refine (HC _ lq (hT.below BX.bel (Nat.le_refl _))).mono ?_
  rintro e uC ⟨aC, cC, qC, rfl, lC, hC⟩
  replace BX := BX.keep hC
  replace HB := below_then HB hC
  replace lq := lq.below hC (Nat.le_refl _)
  replace lb := lb.below hC (Nat.le_refl _)
  replace ll := ll.below hC (Nat.le_refl _)
  clear hC
  have haC := below_alloc uC (DO nq aC zq.length cC xq)
  replace BX := BX.push (DO nq aC zq.length cC xq)
  replace HB := below_then HB haC
  replace lq := lq.below haC (Nat.le_refl _)
  replace lb := lb.below haC (Nat.le_refl _)
  replace ll := ll.below haC (Nat.le_refl _)
  replace lC := lC.below haC (Nat.le_refl _)
  clear haC
  obtain ⟨⟨fq0, fq1, fq2⟩, _⟩ := cells3 BX w.heap.size _ _ _ _ (show (w.heap.size, DO nq aq zq.length cq xq) ∈ _ by simp)
  obtain ⟨⟨fd0, fd1, fd2⟩, _⟩ := cells3 BX (w.heap.size + 1) _ _ _ _ (show ((w.heap.size + 1), DO nb ab zb.length cb xb) ∈ _ by simp)
  go_wp2_with fail
  generalize hvC : uC.alloc (DO nq aC zq.length cC xq) = vC at *
  clear hvC
  refine (HT1 _ lq lb (hT.below BX.bel (Nat.le_refl _))).mono ?_
  rintro e uP ⟨nP, zP, xP, aP, cP, rfl, IP⟩
  have NP := IP.num
  have lP := IP.lie
  have hP := IP.bel
  clear IP
  replace BX := BX.keep hP
  replace HB := below_then HB hP
  replace lq := lq.below hP (Nat.le_refl _)
  replace lb := lb.below hP (Nat.le_refl _)
  replace ll := ll.below hP (Nat.le_refl _)
  replace lC := lC.below hP (Nat.le_refl _)
  clear hP
  have hgP0 : w.heap.size + 1 + 1 < uP.heap.size := BX.lt (p := ((w.heap.size + 1 + 1), DO nl al zl.length cl xl)) (by simp)
  have haP := below_alloc uP (DO nP aP zP.length cP xP)
  replace BX := BX.push (DO nP aP zP.length cP xP)
  replace HB := below_then HB haP
  replace lq := lq.below haP (Nat.le_refl _)
  replace lb := lb.below haP (Nat.le_refl _)
  replace ll := ll.below haP (Nat.le_refl _)
  replace lC := lC.below haP (Nat.le_refl _)
  replace lP := lP.below haP (Nat.le_refl _)
  clear haP
  obtain ⟨⟨fl0, fl1, fl2⟩, _⟩ := cells3 BX (w.heap.size + 1 + 1) _ _ _ _ (show ((w.heap.size + 1 + 1), DO nl al zl.length cl xl) ∈ _ by simp)
  go_wp2_with fail
  generalize hvP : uP.alloc (DO nP aP zP.length cP xP) = vP at *
  clear hvP
  refine (dcmp55 nP nl aP al cP cl zP zl xP xl _ lP ll NP Nl (hT.below BX.bel (Nat.le_refl _)) (-1) HK1.out).mono ?_
  rintro e k1w ⟨rfl, k1⟩
  replace BX := BX.keep k1
  replace HB := below_then HB k1
  replace lq := lq.below k1 (Nat.le_refl _)
  replace lb := lb.below k1 (Nat.le_refl _)
  replace ll := ll.below k1 (Nat.le_refl _)
  replace lC := lC.below k1 (Nat.le_refl _)
  replace lP := lP.below k1 (Nat.le_refl _)
  clear k1
  go_wp2_with fail
  have HI := (BX.sub (L' := [(uC.heap.size, DO nq aC zq.length cC xq), ((w.heap.size + 1 + 1), DO nl al zl.length cl xl), (w.heap.size, DO nq aq zq.length cq xq)]) (by simp)).drew
  have sh := fun W (hW : Bx w [(uC.heap.size, DO nq aC zq.length cC xq), ((w.heap.size + 1 + 1), DO nl al zl.length cl xl), (w.heap.size, DO nq aq zq.length cq xq)] W) => And.intro (cells3 hW uC.heap.size _ _ _ _ (show (uC.heap.size, DO nq aC zq.length cC xq) ∈ _ by simp)).1 (And.intro (cells3 hW (w.heap.size + 1 + 1) _ _ _ _ (show ((w.heap.size + 1 + 1), DO nl al zl.length cl xl) ∈ _ by simp)).1 ((cells3 hW w.heap.size _ _ _ _ (show (w.heap.size, DO nq aq zq.length cq xq) ∈ _ by simp)).1))
  replace HB := Below.drew HB
  replace BX := BX.drew
  replace lq : Lie (World.drew _) _ _ := lq
  replace lb : Lie (World.drew _) _ _ := lb
  replace ll : Lie (World.drew _) _ _ := ll
  replace lC : Lie (World.drew _) _ _ := lC
  replace lP : Lie (World.drew _) _ _ := lP
  refine Drawn.enter (Bx w [(uC.heap.size, DO nq aC zq.length cC xq), ((w.heap.size + 1 + 1), DO nl al zl.length cl xl), (w.heap.size, DO nq aq zq.length cq xq)]) (by kernel_rfl) ?_
  refine Drawn.take (i := 0) (v := ?v70) rfl (by kernel_rfl) (by kernel_rfl) (by kernel_rfl) (fun _ _ _ h => h) (by kernel_rfl) (fun W hW => ?_) HI ?_
  rotate_left
  · have ⟨⟨sC0, sC1, sC2⟩, ⟨sl0, sl1, sl2⟩, sq0, sq1, sq2⟩ := sh W hW
    go_simp <;> exact rfl
  refine Drawn.take (i := 1) (v := ?v71) rfl (by kernel_rfl) (by kernel_rfl) (by kernel_rfl) (fun _ _ _ h => h) (by kernel_rfl) (fun W hW => ?_) HI ?_
  rotate_left
  · have ⟨⟨sC0, sC1, sC2⟩, ⟨sl0, sl1, sl2⟩, sq0, sq1, sq2⟩ := sh W hW
    go_simp <;> exact rfl
  refine Drawn.take (i := 2) (v := ?v72) rfl (by kernel_rfl) (by kernel_rfl) (by kernel_rfl) (fun _ _ _ h => h) (by kernel_rfl) (fun W hW => ?_) HI ?_
  rotate_left
  · have ⟨⟨sC0, sC1, sC2⟩, ⟨sl0, sl1, sl2⟩, sq0, sq1, sq2⟩ := sh W hW
    go_simp <;> exact rfl
  refine Drawn.take (i := 3) (v := ?v73) rfl (by kernel_rfl) (by kernel_rfl) (by kernel_rfl) (fun _ _ _ h => h) (by kernel_rfl) (fun W hW => ?_) HI ?_
  rotate_left
  · have ⟨⟨sC0, sC1, sC2⟩, ⟨sl0, sl1, sl2⟩, sq0, sq1, sq2⟩ := sh W hW
    go_simp <;> exact rfl
  refine Drawn.take (i := 4) (v := ?v74) rfl (by kernel_rfl) (by kernel_rfl) (by kernel_rfl) (fun _ _ _ h => h) (by kernel_rfl) (fun W hW => ?_) HI ?_
  rotate_left
  · have ⟨⟨sC0, sC1, sC2⟩, ⟨sl0, sl1, sl2⟩, sq0, sq1, sq2⟩ := sh W hW
    go_simp <;> exact rfl
  refine Drawn.take (i := 5) (v := ?v75) rfl (by kernel_rfl) (by kernel_rfl) (by kernel_rfl) (fun _ _ _ h => h) (by kernel_rfl) (fun W hW => ?_) HI ?_
  rotate_left
  · have ⟨⟨sC0, sC1, sC2⟩, ⟨sl0, sl1, sl2⟩, sq0, sq1, sq2⟩ := sh W hW
    go_simp <;> exact rfl
  refine Drawn.take (i := 6) (v := ?v76) rfl (by kernel_rfl) (by kernel_rfl) (by kernel_rfl) (fun _ _ _ h => h) (by kernel_rfl) (fun W hW => ?_) HI ?_
  rotate_left
  · have ⟨⟨sC0, sC1, sC2⟩, ⟨sl0, sl1, sl2⟩, sq0, sq1, sq2⟩ := sh W hW
    go_simp <;> exact rfl
  refine Drawn.take (i := 7) (v := ?v77) rfl (by kernel_rfl) (by kernel_rfl) (by kernel_rfl) (fun _ _ _ h => h) (by kernel_rfl) (fun W hW => ?_) HI ?_
  rotate_left
  · have ⟨⟨sC0, sC1, sC2⟩, ⟨sl0, sl1, sl2⟩, sq0, sq1, sq2⟩ := sh W hW
    go_simp <;> exact rfl
  refine Drawn.take (i := 8) (v := ?v78) rfl (by kernel_rfl) (by kernel_rfl) (by kernel_rfl) (fun _ _ _ h => h) (by kernel_rfl) (fun W hW => ?_) HI ?_
  rotate_left
  · have ⟨⟨sC0, sC1, sC2⟩, ⟨sl0, sl1, sl2⟩, sq0, sq1, sq2⟩ := sh W hW
    go_simp <;> exact rfl
  refine Drawn.take (i := 9) (v := ?v79) rfl (by kernel_rfl) (by kernel_rfl) (by kernel_rfl) (fun _ _ _ h => h) (by kernel_rfl) (fun W hW => ?_) HI ?_
  rotate_left
  · have ⟨⟨sC0, sC1, sC2⟩, ⟨sl0, sl1, sl2⟩, sq0, sq1, sq2⟩ := sh W hW
    go_simp <;> exact rfl
  refine Drawn.take (i := 10) (v := ?v80) rfl (by kernel_rfl) (by kernel_rfl) (by kernel_rfl) (fun _ _ _ h => h) (by kernel_rfl) (fun W hW => ?_) HI ?_
  rotate_left
  · have ⟨⟨sC0, sC1, sC2⟩, ⟨sl0, sl1, sl2⟩, sq0, sq1, sq2⟩ := sh W hW
    go_simp <;> exact rfl
  refine Drawn.take (i := 11) (v := ?v81) rfl (by kernel_rfl) (by kernel_rfl) (by kernel_rfl) (fun _ _ _ h => h) (by kernel_rfl) (fun W hW => ?_) HI ?_
  rotate_left
  · have ⟨⟨sC0, sC1, sC2⟩, ⟨sl0, sl1, sl2⟩, sq0, sq1, sq2⟩ := sh W hW
    go_simp <;> exact rfl
  refine Drawn.take (i := 12) (v := ?v82) rfl (by kernel_rfl) (by kernel_rfl) (by kernel_rfl) (fun _ _ _ h => h) (by kernel_rfl) (fun W hW => ?_) HI ?_
  rotate_left
  · have ⟨⟨sC0, sC1, sC2⟩, ⟨sl0, sl1, sl2⟩, sq0, sq1, sq2⟩ := sh W hW
    go_simp <;> exact rfl
  refine Drawn.one (j := 13) (by kernel_rfl) rfl (fun K hK => ?_)
  go_simp
  refine (dsame40 nq nq aC aq cC cq zq zq xq xq _ ⟨lC, hlen, hrng⟩ ⟨lq, hlen, hrng⟩ true (decide_eq_true ⟨rfl, rfl, rfl⟩)).mono ?_
  rintro e k2w ⟨rfl, k2⟩
  refine hK _ _ (HI.keep k2) ?_
  clear hK K
  replace HI := HI.keep k2
  replace BX := BX.keep k2
  replace HB := below_then HB k2
  replace lq := lq.below k2 (Nat.le_refl _)
  replace lb := lb.below k2 (Nat.le_refl _)
  replace ll := ll.below k2 (Nat.le_refl _)
  replace lC := lC.below k2 (Nat.le_refl _)
  replace lP := lP.below k2 (Nat.le_refl _)
  clear k2
  refine Drawn.take (i := 14) (v := .bool false) rfl (by kernel_rfl) (by kernel_rfl) (by kernel_rfl) (fun _ _ _ h => h) (by kernel_rfl) (fun W hW => ?_) HI ?_
  · have ⟨⟨sC0, sC1, sC2⟩, ⟨sl0, sl1, sl2⟩, sq0, sq1, sq2⟩ := sh W hW
    go_simp <;> (rfl)
  refine Drawn.take (i := 15) (v := ?v83) rfl (by kernel_rfl) (by kernel_rfl) (by kernel_rfl) (fun _ _ _ h => h) (by kernel_rfl) (fun W hW => ?_) HI ?_
  rotate_left
  · have ⟨⟨sC0, sC1, sC2⟩, ⟨sl0, sl1, sl2⟩, sq0, sq1, sq2⟩ := sh W hW
    go_simp <;> exact rfl
  refine Drawn.take (i := 16) (v := ?v84) rfl (by kernel_rfl) (by kernel_rfl) (by kernel_rfl) (fun _ _ _ h => h) (by kernel_rfl) (fun W hW => ?_) HI ?_
  rotate_left
  · have ⟨⟨sC0, sC1, sC2⟩, ⟨sl0, sl1, sl2⟩, sq0, sq1, sq2⟩ := sh W hW
    go_simp <;> exact rfl
  refine Drawn.take (i := 17) (v := ?v85) rfl (by kernel_rfl) (by kernel_rfl) (by kernel_rfl) (fun _ _ _ h => h) (by kernel_rfl) (fun W hW => ?_) HI ?_
  rotate_left
  · have ⟨⟨sC0, sC1, sC2⟩, ⟨sl0, sl1, sl2⟩, sq0, sq1, sq2⟩ := sh W hW
    go_simp <;> exact rfl
  refine Drawn.take (i := 18) (v := .bool false) rfl (by kernel_rfl) (by kernel_rfl) (by kernel_rfl) (fun _ _ _ h => h) (by kernel_rfl) (fun W hW => ?_) HI ?_
  · have ⟨⟨sC0, sC1, sC2⟩, ⟨sl0, sl1, sl2⟩, sq0, sq1, sq2⟩ := sh W hW
    go_simp <;> (first | rfl | decide | simp)
  refine Drawn.take (i := 19) (v := ?v86) rfl (by kernel_rfl) (by kernel_rfl) (by kernel_rfl) (fun _ _ _ h => h) (by kernel_rfl) (fun W hW => ?_) HI ?_
  rotate_left
  · have ⟨⟨sC0, sC1, sC2⟩, ⟨sl0, sl1, sl2⟩, sq0, sq1, sq2⟩ := sh W hW
    go_simp <;> exact rfl
  refine Drawn.take (i := 20) (v := ?v87) rfl (by kernel_rfl) (by kernel_rfl) (by kernel_rfl) (fun _ _ _ h => h) (by kernel_rfl) (fun W hW => ?_) HI ?_
  rotate_left
  · have ⟨⟨sC0, sC1, sC2⟩, ⟨sl0, sl1, sl2⟩, sq0, sq1, sq2⟩ := sh W hW
    go_simp <;> exact rfl
  refine Drawn.take (i := 21) (v := ?v88) rfl (by kernel_rfl) (by kernel_rfl) (by kernel_rfl) (fun _ _ _ h => h) (by kernel_rfl) (fun W hW => ?_) HI ?_
  rotate_left
  · have ⟨⟨sC0, sC1, sC2⟩, ⟨sl0, sl1, sl2⟩, sq0, sq1, sq2⟩ := sh W hW
    go_simp <;> exact rfl
  refine Drawn.take (i := 22) (v := ?v89) rfl (by kernel_rfl) (by kernel_rfl) (by kernel_rfl) (fun _ _ _ h => h) (by kernel_rfl) (fun W hW => ?_) HI ?_
  rotate_left
  · have ⟨⟨sC0, sC1, sC2⟩, ⟨sl0, sl1, sl2⟩, sq0, sq1, sq2⟩ := sh W hW
    go_simp <;> exact rfl
  refine Drawn.take (i := 23) (v := .bool true) rfl (by kernel_rfl) (by kernel_rfl) (by kernel_rfl) (fun _ _ _ h => h) (by kernel_rfl) (fun W hW => ?_) HI ?_
  · have ⟨⟨sC0, sC1, sC2⟩, ⟨sl0, sl1, sl2⟩, sq0, sq1, sq2⟩ := sh W hW
    go_simp <;> (first | rfl | decide | simp)
  refine Drawn.take (i := 24) (v := ?v90) rfl (by kernel_rfl) (by kernel_rfl) (by kernel_rfl) (fun _ _ _ h => h) (by kernel_rfl) (fun W hW => ?_) HI ?_
  rotate_left
  · have ⟨⟨sC0, sC1, sC2⟩, ⟨sl0, sl1, sl2⟩, sq0, sq1, sq2⟩ := sh W hW
    go_simp <;> exact rfl
  refine Drawn.take (i := 25) (v := ?v91) rfl (by kernel_rfl) (by kernel_rfl) (by kernel_rfl) (fun _ _ _ h => h) (by kernel_rfl) (fun W hW => ?_) HI ?_
  rotate_left
  · have ⟨⟨sC0, sC1, sC2⟩, ⟨sl0, sl1, sl2⟩, sq0, sq1, sq2⟩ := sh W hW
    go_simp <;> exact rfl
  refine Drawn.take (i := 26) (v := ?v92) rfl (by kernel_rfl) (by kernel_rfl) (by kernel_rfl) (fun _ _ _ h => h) (by kernel_rfl) (fun W hW => ?_) HI ?_
  rotate_left
  · have ⟨⟨sC0, sC1, sC2⟩, ⟨sl0, sl1, sl2⟩, sq0, sq1, sq2⟩ := sh W hW
    go_simp <;> exact rfl
  refine Drawn.take (i := 27) (v := ?v93) rfl (by kernel_rfl) (by kernel_rfl) (by kernel_rfl) (fun _ _ _ h => h) (by kernel_rfl) (fun W hW => ?_) HI ?_
  rotate_left
  · have ⟨⟨sC0, sC1, sC2⟩, ⟨sl0, sl1, sl2⟩, sq0, sq1, sq2⟩ := sh W hW
    go_simp <;> exact rfl
  refine Drawn.take (i := 30) (v := ?v94) rfl (by kernel_rfl) (by kernel_rfl) (by kernel_rfl) (fun _ _ _ h => h) (by kernel_rfl) (fun W hW => ?_) HI ?_
  rotate_left
  · have ⟨⟨sC0, sC1, sC2⟩, ⟨sl0, sl1, sl2⟩, sq0, sq1, sq2⟩ := sh W hW
    go_simp <;> exact rfl
  refine Drawn.one (j := 28) (by kernel_rfl) rfl (fun K hK => ?_)
  go_simp
  refine (dsign49 nq aq cq zq xq uq _ lq Nq 1 s1.out.1).mono ?_
  rintro e k3w ⟨rfl, k3⟩
  refine hK _ _ (HI.keep k3) ?_
  clear hK K
  replace HI := HI.keep k3
  replace BX := BX.keep k3
  replace HB := below_then HB k3
  replace lq := lq.below k3 (Nat.le_refl _)
  replace lb := lb.below k3 (Nat.le_refl _)
  replace ll := ll.below k3 (Nat.le_refl _)
  replace lC := lC.below k3 (Nat.le_refl _)
  replace lP := lP.below k3 (Nat.le_refl _)
  clear k3
  refine Drawn.take (i := 29) (v := ?v95) rfl (by kernel_rfl) (by kernel_rfl) (by kernel_rfl) (fun _ _ _ h => h) (by kernel_rfl) (fun W hW => ?_) HI ?_
  rotate_left
  · have ⟨⟨sC0, sC1, sC2⟩, ⟨sl0, sl1, sl2⟩, sq0, sq1, sq2⟩ := sh W hW
    go_simp <;> exact rfl
  refine Drawn.one (j := 31) (by kernel_rfl) rfl (fun K hK => ?_)
  go_simp
  refine (dsign49 nl al cl zl xl ul _ ll Nl 1 s1.out.2).mono ?_
  rintro e k4w ⟨rfl, k4⟩
  refine hK _ _ (HI.keep k4) ?_
  clear hK K
  replace HI := HI.keep k4
  replace BX := BX.keep k4
  replace HB := below_then HB k4
  replace lq := lq.below k4 (Nat.le_refl _)
  replace lb := lb.below k4 (Nat.le_refl _)
  replace ll := ll.below k4 (Nat.le_refl _)
  replace lC := lC.below k4 (Nat.le_refl _)
  replace lP := lP.below k4 (Nat.le_refl _)
  clear k4
  refine Drawn.take (i := 32) (v := ?v96) rfl (by kernel_rfl) (by kernel_rfl) (by kernel_rfl) (fun _ _ _ h => h) (by kernel_rfl) (fun W hW => ?_) HI ?_
  rotate_left
  · have ⟨⟨sC0, sC1, sC2⟩, ⟨sl0, sl1, sl2⟩, sq0, sq1, sq2⟩ := sh W hW
    go_simp <;> exact rfl
  refine Drawn.take (i := 33) (v := ?v97) rfl (by kernel_rfl) (by kernel_rfl) (by kernel_rfl) (fun _ _ _ h => h) (by kernel_rfl) (fun W hW => ?_) HI ?_
  rotate_left
  · have ⟨⟨sC0, sC1, sC2⟩, ⟨sl0, sl1, sl2⟩, sq0, sq1, sq2⟩ := sh W hW
    go_simp <;> exact rfl
  refine Drawn.take (i := 34) (v := ?v98) rfl (by kernel_rfl) (by kernel_rfl) (by kernel_rfl) (fun _ _ _ h => h) (by kernel_rfl) (fun W hW => ?_) HI ?_
  rotate_left
  · have ⟨⟨sC0, sC1, sC2⟩, ⟨sl0, sl1, sl2⟩, sq0, sq1, sq2⟩ := sh W hW
    go_simp <;> exact rfl
  refine Drawn.done (by kernel_rfl) ?_
  try go_simp
  clear HI sh
  obtain ⟨⟨fq0, fq1, fq2⟩, _⟩ := cells3 BX w.heap.size _ _ _ _ (show (w.heap.size, DO nq aq zq.length cq xq) ∈ _ by simp)
  go_wp2_with fail
  refine (dsign49 nq aq cq zq xq uq _ lq Nq 1 s1.out.1).mono ?_
  rintro e k5w ⟨rfl, k5⟩
  replace BX := BX.keep k5
  replace HB := below_then HB k5
  replace lq := lq.below k5 (Nat.le_refl _)
  replace lb := lb.below k5 (Nat.le_refl _)
  replace ll := ll.below k5 (Nat.le_refl _)
  replace lC := lC.below k5 (Nat.le_refl _)
  replace lP := lP.below k5 (Nat.le_refl _)
  clear k5
  go_wp2_with fail
  generalize hgP : uP.heap.size = gP at *
  clear hgP
  replace BX := BX.sub (L' := [(gP, DO nP aP zP.length cP xP), ((w.heap.size + 1 + 1), DO nl al zl.length cl xl), ((w.heap.size + 1), DO nb ab zb.length cb xb), (w.heap.size, DO nq aq zq.length cq xq)]) (by simp)
  have hTW := hT.below BX.bel (Nat.le_refl _)
  have HI := (BX.sub (L' := [(w.heap.size, DO nq aq zq.length cq xq)]) (by simp)).drew
  have sh := fun W (hW : Bx w [(w.heap.size, DO nq aq zq.length cq xq)] W) => (cells3 hW w.heap.size _ _ _ _ (show (w.heap.size, DO nq aq zq.length cq xq) ∈ _ by simp)).1
  replace HB := Below.drew HB
  replace BX := BX.drew
  replace lq : Lie (World.drew _) _ _ := lq
  replace lb : Lie (World.drew _) _ _ := lb
  replace ll : Lie (World.drew _) _ _ := ll
  refine Drawn.enter (Bx w [(w.heap.size, DO nq aq zq.length cq xq)]) (by kernel_rfl) ?_
  refine Drawn.take (i := 0) (v := ?v99) rfl (by kernel_rfl) (by kernel_rfl) (by kernel_rfl) (fun _ _ _ h => h) (by kernel_rfl) (fun W hW => ?_) HI ?_
  rotate_left
  · have ⟨sq0, sq1, sq2⟩ := sh W hW
    go_simp <;> exact rfl
  refine Drawn.take (i := 2) (v := ?v100) rfl (by kernel_rfl) (by kernel_rfl) (by kernel_rfl) (fun _ _ _ h => h) (by kernel_rfl) (fun W hW => ?_) HI ?_
  rotate_left
  · have ⟨sq0, sq1, sq2⟩ := sh W hW
    go_simp <;> exact rfl
  refine Drawn.take (i := 4) (v := ?v101) rfl (by kernel_rfl) (by kernel_rfl) (by kernel_rfl) (fun _ _ _ h => h) (by kernel_rfl) (fun W hW => ?_) HI ?_
  rotate_left
  · have ⟨sq0, sq1, sq2⟩ := sh W hW
    go_simp <;> exact rfl
  clear lC lP HC HT1 HK1 HB
  replace hTW : Tab (World.drew k5w) := hTW
  generalize hdr : World.drew k5w = W00 at *
  clear hdr
  have HF := BX
  clear BX
  refine supposeM (F := fun g18 g81 W nm zm xm am cm => Bx w ((g18, DO nm am zm.length cm xm) :: [(gP, DO nP aP zP.length cP xP), ((w.heap.size + 1 + 1), DO nl al zl.length cl xl), ((w.heap.size + 1), DO nb ab zb.length cb xb), (w.heap.size, DO nq aq zq.length cq xq)]) W ∧ Lie W am zm ∧ Lie W aq zq ∧ Lie W ab zb ∧ Lie W al zl ∧ DN nm zm xm ut) (G := ?G) (fun Rest => ?main) ?rest
  case main =>
    refine Drawn.trio (i := 1) (j := 3) (k := 11) (by kernel_rfl) rfl rfl rfl (fun K hK => ?_) (fun K hK => ?_) (fun K hK => ?_)
    · go_simp
      refine hK _ _ (HI.grown (.cells #[.int .u32 1] 70 (0, 0))) ?_
      clear hK K
      have o81 : gP < W00.heap.size := HF.lt (p := (gP, DO nP aP zP.length cP xP)) (by simp)
      replace HI := HI.grown (.cells #[.int .u32 1] 70 (0, 0))
      replace HF := HF.push (.cells #[.int .u32 1] 70 (0, 0))
      replace lq := lq.below (below_alloc W00 (.cells #[.int .u32 1] 70 (0, 0))) (Nat.le_refl _)
      replace lb := lb.below (below_alloc W00 (.cells #[.int .u32 1] 70 (0, 0))) (Nat.le_refl _)
      replace ll := ll.below (below_alloc W00 (.cells #[.int .u32 1] 70 (0, 0))) (Nat.le_refl _)
      replace hTW := hTW.below (below_alloc W00 (.cells #[.int .u32 1] 70 (0, 0))) (Nat.le_refl _)
      generalize hg : W00.alloc (.cells #[.int .u32 1] 70 (0, 0)) = W0 at *
      clear hg
      generalize hh : W00.heap.size = g81 at *
      clear hh
      refine Drawn.pair (i := 3) (j := 11) (by kernel_rfl) rfl rfl (fun K hK => ?_) (fun K hK => ?_)
      · go_simp
        refine (HTop _ lq).mono ?_
        rintro e W1 ⟨rfl, hn⟩
        refine hK _ _ (HI.keep hn) ?_
        clear hK K
        replace HI := HI.keep hn
        replace HF := HF.keep hn
        replace lq := lq.below hn (Nat.le_refl _)
        replace lb := lb.below hn (Nat.le_refl _)
        replace ll := ll.below hn (Nat.le_refl _)
        replace hTW := hTW.below hn (Nat.le_refl _)
        clear hn
        refine Drawn.take (i := 5) (v := .int .i64 (T + xq - bits)) rfl (by kernel_rfl) (by kernel_rfl) (by kernel_rfl) (fun _ _ _ h => h) (by kernel_rfl) (fun W hW => ?_) HI ?_
        · have ⟨sq0, sq1, sq2⟩ := sh W hW
          go_simp <;> (exact wrap_ok (by omega) (by omega))
        refine Drawn.take (i := 6) (v := ?v102) rfl (by kernel_rfl) (by kernel_rfl) (by kernel_rfl) (fun _ _ _ h => h) (by kernel_rfl) (fun W hW => ?_) HI ?_
        rotate_left
        · have ⟨sq0, sq1, sq2⟩ := sh W hW
          go_simp <;> exact rfl
        refine Drawn.pair (i := 7) (j := 11) (by kernel_rfl) rfl rfl (fun K hK => ?_) (fun K hK => ?_)
        · go_simp
          have lR := lie_row (HF.box (g81, (.cells #[.int .u32 1] 70 (0, 0))) (by simp))
          refine (HA _ _ lq lR hTW).mono ?_
          rintro e W2 ⟨nm, zm, xm, am, cm, rfl, IM⟩
          have hn := IM.bel
          have lm := IM.lie
          have Nm := IM.num
          clear IM lR
          refine hK _ _ (HI.keep hn) ?_
          clear hK K
          replace HI := HI.keep hn
          replace HF := HF.keep hn
          replace lq := lq.below hn (Nat.le_refl _)
          replace lb := lb.below hn (Nat.le_refl _)
          replace ll := ll.below hn (Nat.le_refl _)
          replace hTW := hTW.below hn (Nat.le_refl _)
          clear hn
          refine Drawn.take (i := 8) (v := ?v103) rfl (by kernel_rfl) (by kernel_rfl) (by kernel_rfl) (fun _ _ _ h => h) (by kernel_rfl) (fun W hW => ?_) HI ?_
          rotate_left
          · have ⟨sq0, sq1, sq2⟩ := sh W hW
            go_simp <;> exact rfl
          refine Drawn.take (i := 9) (v := ?v104) rfl (by kernel_rfl) (by kernel_rfl) (by kernel_rfl) (fun _ _ _ h => h) (by kernel_rfl) (fun W hW => ?_) HI ?_
          rotate_left
          · have ⟨sq0, sq1, sq2⟩ := sh W hW
            go_simp <;> exact rfl
          refine Drawn.take (i := 10) (v := ?v105) rfl (by kernel_rfl) (by kernel_rfl) (by kernel_rfl) (fun _ _ _ h => h) (by kernel_rfl) (fun W hW => ?_) HI ?_
          rotate_left
          · have ⟨sq0, sq1, sq2⟩ := sh W hW
            go_simp <;> exact rfl
          refine Drawn.one (j := 11) (by kernel_rfl) rfl (fun K hK => ?_)
          go_simp
          refine hK _ _ (HI.grown (DO false none 0 0 0)) ?_
          clear hK K
          have o18 : gP < W2.heap.size := HF.lt (p := (gP, DO nP aP zP.length cP xP)) (by simp)
          have o8 : g81 < W2.heap.size := HF.lt (p := (g81, (.cells #[.int .u32 1] 70 (0, 0)))) (by simp)
          replace HI := HI.grown (DO false none 0 0 0)
          replace HF := HF.push (DO false none 0 0 0)
          replace lq := lq.below (below_alloc W2 (DO false none 0 0 0)) (Nat.le_refl _)
          replace lb := lb.below (below_alloc W2 (DO false none 0 0 0)) (Nat.le_refl _)
          replace ll := ll.below (below_alloc W2 (DO false none 0 0 0)) (Nat.le_refl _)
          replace lm := lm.below (below_alloc W2 (DO false none 0 0 0)) (Nat.le_refl _)
          replace hTW := hTW.below (below_alloc W2 (DO false none 0 0 0)) (Nat.le_refl _)
          generalize hg : W2.alloc (DO false none 0 0 0) = W3 at *
          clear hg
          generalize hh : W2.heap.size = g18 at *
          clear hh
          replace HF := HF.sub (L' := (g18, (DO false none 0 0 0)) :: [(gP, DO nP aP zP.length cP xP), ((w.heap.size + 1 + 1), DO nl al zl.length cl xl), ((w.heap.size + 1), DO nb ab zb.length cb xb), (w.heap.size, DO nq aq zq.length cq xq)]) (by simp)
          have H5 := HF.head
          obtain ⟨⟨f0, f1, f2⟩, r0, r1, r2⟩ := cells3 HF g18 _ _ _ _ (.head _)
          replace lq := lie_set3 H5 (.bool nm) (.slice am zm.length cm) (.int .i64 xm) lq
          replace lb := lie_set3 H5 (.bool nm) (.slice am zm.length cm) (.int .i64 xm) lb
          replace ll := lie_set3 H5 (.bool nm) (.slice am zm.length cm) (.int .i64 xm) ll
          replace lm := lie_set3 H5 (.bool nm) (.slice am zm.length cm) (.int .i64 xm) lm
          replace HF := HF.fill3 (by omega) (by simp; omega) (.bool nm) (.slice am zm.length cm) (.int .i64 xm)
          refine Drawn.one (j := 12) (by kernel_rfl) rfl (fun K hK => ?_)
          go_simp
          refine hK _ _ (HF.sub (by simp)) ?_
          clear hK K f0 f1 f2 r0 r1 r2 H5
          replace HI := HF.sub (L' := [(w.heap.size, DO nq aq zq.length cq xq)]) (by simp)
          refine Drawn.take (i := 13) (v := ?v106) rfl (by kernel_rfl) (by kernel_rfl) (by kernel_rfl) (fun _ _ _ h => h) (by kernel_rfl) (fun W hW => ?_) HI ?_
          rotate_left
          · have ⟨sq0, sq1, sq2⟩ := sh W hW
            go_simp <;> exact rfl
          refine Drawn.done (by kernel_rfl) ?_
          try go_simp
          generalize hWf : (((W3.setCell ⟨g18, 0, none⟩ (.bool nm)).setCell ⟨g18, 1, none⟩ (.slice am zm.length cm)).setCell ⟨g18, 2, none⟩ (.int .i64 xm)) = Wf at *
          exact Rest g18 g81 Wf nm zm xm am cm ⟨HF, lm, lq, lb, ll, Nm⟩
        · go_simp
          refine hK _ _ (HI.grown (DO false none 0 0 0)) ?_
          clear hK K
          have o18 : gP < W1.heap.size := HF.lt (p := (gP, DO nP aP zP.length cP xP)) (by simp)
          have o8 : g81 < W1.heap.size := HF.lt (p := (g81, (.cells #[.int .u32 1] 70 (0, 0)))) (by simp)
          replace HI := HI.grown (DO false none 0 0 0)
          replace HF := HF.push (DO false none 0 0 0)
          replace lq := lq.below (below_alloc W1 (DO false none 0 0 0)) (Nat.le_refl _)
          replace lb := lb.below (below_alloc W1 (DO false none 0 0 0)) (Nat.le_refl _)
          replace ll := ll.below (below_alloc W1 (DO false none 0 0 0)) (Nat.le_refl _)
          replace hTW := hTW.below (below_alloc W1 (DO false none 0 0 0)) (Nat.le_refl _)
          generalize hg : W1.alloc (DO false none 0 0 0) = W4 at *
          clear hg
          generalize hh : W1.heap.size = g18 at *
          clear hh
          refine Drawn.one (j := 7) (by kernel_rfl) rfl (fun K hK => ?_)
          go_simp
          have lR := lie_row (HF.box (g81, (.cells #[.int .u32 1] 70 (0, 0))) (by simp))
          refine (HA _ _ lq lR hTW).mono ?_
          rintro e W5 ⟨nm, zm, xm, am, cm, rfl, IM⟩
          have hn := IM.bel
          have lm := IM.lie
          have Nm := IM.num
          clear IM lR
          refine hK _ _ (HI.keep hn) ?_
          clear hK K
          replace HI := HI.keep hn
          replace HF := HF.keep hn
          replace lq := lq.below hn (Nat.le_refl _)
          replace lb := lb.below hn (Nat.le_refl _)
          replace ll := ll.below hn (Nat.le_refl _)
          replace hTW := hTW.below hn (Nat.le_refl _)
          clear hn
          refine Drawn.take (i := 8) (v := ?v107) rfl (by kernel_rfl) (by kernel_rfl) (by kernel_rfl) (fun _ _ _ h => h) (by kernel_rfl) (fun W hW => ?_) HI ?_
          rotate_left
          · have ⟨sq0, sq1, sq2⟩ := sh W hW
            go_simp <;> exact rfl
          refine Drawn.take (i := 9) (v := ?v108) rfl (by kernel_rfl) (by kernel_rfl) (by kernel_rfl) (fun _ _ _ h => h) (by kernel_rfl) (fun W hW => ?_) HI ?_
          rotate_left
          · have ⟨sq0, sq1, sq2⟩ := sh W hW
            go_simp <;> exact rfl
          refine Drawn.take (i := 10) (v := ?v109) rfl (by kernel_rfl) (by kernel_rfl) (by kernel_rfl) (fun _ _ _ h => h) (by kernel_rfl) (fun W hW => ?_) HI ?_
          rotate_left
          · have ⟨sq0, sq1, sq2⟩ := sh W hW
            go_simp <;> exact rfl
          replace HF := HF.sub (L' := (g18, (DO false none 0 0 0)) :: [(gP, DO nP aP zP.length cP xP), ((w.heap.size + 1 + 1), DO nl al zl.length cl xl), ((w.heap.size + 1), DO nb ab zb.length cb xb), (w.heap.size, DO nq aq zq.length cq xq)]) (by simp)
          have H5 := HF.head
          obtain ⟨⟨f0, f1, f2⟩, r0, r1, r2⟩ := cells3 HF g18 _ _ _ _ (.head _)
          replace lq := lie_set3 H5 (.bool nm) (.slice am zm.length cm) (.int .i64 xm) lq
          replace lb := lie_set3 H5 (.bool nm) (.slice am zm.length cm) (.int .i64 xm) lb
          replace ll := lie_set3 H5 (.bool nm) (.slice am zm.length cm) (.int .i64 xm) ll
          replace lm := lie_set3 H5 (.bool nm) (.slice am zm.length cm) (.int .i64 xm) lm
          replace HF := HF.fill3 (by omega) (by simp; omega) (.bool nm) (.slice am zm.length cm) (.int .i64 xm)
          refine Drawn.one (j := 12) (by kernel_rfl) rfl (fun K hK => ?_)
          go_simp
          refine hK _ _ (HF.sub (by simp)) ?_
          clear hK K f0 f1 f2 r0 r1 r2 H5
          replace HI := HF.sub (L' := [(w.heap.size, DO nq aq zq.length cq xq)]) (by simp)
          refine Drawn.take (i := 13) (v := ?v110) rfl (by kernel_rfl) (by kernel_rfl) (by kernel_rfl) (fun _ _ _ h => h) (by kernel_rfl) (fun W hW => ?_) HI ?_
          rotate_left
          · have ⟨sq0, sq1, sq2⟩ := sh W hW
            go_simp <;> exact rfl
          refine Drawn.done (by kernel_rfl) ?_
          try go_simp
          generalize hWf : (((W5.setCell ⟨g18, 0, none⟩ (.bool nm)).setCell ⟨g18, 1, none⟩ (.slice am zm.length cm)).setCell ⟨g18, 2, none⟩ (.int .i64 xm)) = Wf at *
          exact Rest g18 g81 Wf nm zm xm am cm ⟨HF, lm, lq, lb, ll, Nm⟩
      · go_simp
        refine hK _ _ (HI.grown (DO false none 0 0 0)) ?_
        clear hK K
        have o18 : gP < W0.heap.size := HF.lt (p := (gP, DO nP aP zP.length cP xP)) (by simp)
        have o8 : g81 < W0.heap.size := HF.lt (p := (g81, (.cells #[.int .u32 1] 70 (0, 0)))) (by simp)
        replace HI := HI.grown (DO false none 0 0 0)
        replace HF := HF.push (DO false none 0 0 0)
        replace lq := lq.below (below_alloc W0 (DO false none 0 0 0)) (Nat.le_refl _)
        replace lb := lb.below (below_alloc W0 (DO false none 0 0 0)) (Nat.le_refl _)
        replace ll := ll.below (below_alloc W0 (DO false none 0 0 0)) (Nat.le_refl _)
        replace hTW := hTW.below (below_alloc W0 (DO false none 0 0 0)) (Nat.le_refl _)
        generalize hg : W0.alloc (DO false none 0 0 0) = W6 at *
        clear hg
        generalize hh : W0.heap.size = g18 at *
        clear hh
        refine Drawn.one (j := 3) (by kernel_rfl) rfl (fun K hK => ?_)
        go_simp
        refine (HTop _ lq).mono ?_
        rintro e W7 ⟨rfl, hn⟩
        refine hK _ _ (HI.keep hn) ?_
        clear hK K
        replace HI := HI.keep hn
        replace HF := HF.keep hn
        replace lq := lq.below hn (Nat.le_refl _)
        replace lb := lb.below hn (Nat.le_refl _)
        replace ll := ll.below hn (Nat.le_refl _)
        replace hTW := hTW.below hn (Nat.le_refl _)
        clear hn
        refine Drawn.take (i := 5) (v := .int .i64 (T + xq - bits)) rfl (by kernel_rfl) (by kernel_rfl) (by kernel_rfl) (fun _ _ _ h => h) (by kernel_rfl) (fun W hW => ?_) HI ?_
        · have ⟨sq0, sq1, sq2⟩ := sh W hW
          go_simp <;> (exact wrap_ok (by omega) (by omega))
        refine Drawn.take (i := 6) (v := ?v111) rfl (by kernel_rfl) (by kernel_rfl) (by kernel_rfl) (fun _ _ _ h => h) (by kernel_rfl) (fun W hW => ?_) HI ?_
        rotate_left
        · have ⟨sq0, sq1, sq2⟩ := sh W hW
          go_simp <;> exact rfl
        refine Drawn.one (j := 7) (by kernel_rfl) rfl (fun K hK => ?_)
        go_simp
        have lR := lie_row (HF.box (g81, (.cells #[.int .u32 1] 70 (0, 0))) (by simp))
        refine (HA _ _ lq lR hTW).mono ?_
        rintro e W8 ⟨nm, zm, xm, am, cm, rfl, IM⟩
        have hn := IM.bel
        have lm := IM.lie
        have Nm := IM.num
        clear IM lR
        refine hK _ _ (HI.keep hn) ?_
        clear hK K
        replace HI := HI.keep hn
        replace HF := HF.keep hn
        replace lq := lq.below hn (Nat.le_refl _)
        replace lb := lb.below hn (Nat.le_refl _)
        replace ll := ll.below hn (Nat.le_refl _)
        replace hTW := hTW.below hn (Nat.le_refl _)
        clear hn
        refine Drawn.take (i := 8) (v := ?v112) rfl (by kernel_rfl) (by kernel_rfl) (by kernel_rfl) (fun _ _ _ h => h) (by kernel_rfl) (fun W hW => ?_) HI ?_
        rotate_left
        · have ⟨sq0, sq1, sq2⟩ := sh W hW
          go_simp <;> exact rfl
        refine Drawn.take (i := 9) (v := ?v113) rfl (by kernel_rfl) (by kernel_rfl) (by kernel_rfl) (fun _ _ _ h => h) (by kernel_rfl) (fun W hW => ?_) HI ?_
        rotate_left
        · have ⟨sq0, sq1, sq2⟩ := sh W hW
          go_simp <;> exact rfl
        refine Drawn.take (i := 10) (v := ?v114) rfl (by kernel_rfl) (by kernel_rfl) (by kernel_rfl) (fun _ _ _ h => h) (by kernel_rfl) (fun W hW => ?_) HI ?_
        rotate_left
        · have ⟨sq0, sq1, sq2⟩ := sh W hW
          go_simp <;> exact rfl
        replace HF := HF.sub (L' := (g18, (DO false none 0 0 0)) :: [(gP, DO nP aP zP.length cP xP), ((w.heap.size + 1 + 1), DO nl al zl.length cl xl), ((w.heap.size + 1), DO nb ab zb.length cb xb), (w.heap.size, DO nq aq zq.length cq xq)]) (by simp)
        have H5 := HF.head
        obtain ⟨⟨f0, f1, f2⟩, r0, r1, r2⟩ := cells3 HF g18 _ _ _ _ (.head _)
        replace lq := lie_set3 H5 (.bool nm) (.slice am zm.length cm) (.int .i64 xm) lq
        replace lb := lie_set3 H5 (.bool nm) (.slice am zm.length cm) (.int .i64 xm) lb
        replace ll := lie_set3 H5 (.bool nm) (.slice am zm.length cm) (.int .i64 xm) ll
        replace lm := lie_set3 H5 (.bool nm) (.slice am zm.length cm) (.int .i64 xm) lm
        replace HF := HF.fill3 (by omega) (by simp; omega) (.bool nm) (.slice am zm.length cm) (.int .i64 xm)
        refine Drawn.one (j := 12) (by kernel_rfl) rfl (fun K hK => ?_)
        go_simp
        refine hK _ _ (HF.sub (by simp)) ?_
        clear hK K f0 f1 f2 r0 r1 r2 H5
        replace HI := HF.sub (L' := [(w.heap.size, DO nq aq zq.length cq xq)]) (by simp)
        refine Drawn.take (i := 13) (v := ?v115) rfl (by kernel_rfl) (by kernel_rfl) (by kernel_rfl) (fun _ _ _ h => h) (by kernel_rfl) (fun W hW => ?_) HI ?_
        rotate_left
        · have ⟨sq0, sq1, sq2⟩ := sh W hW
          go_simp <;> exact rfl
        refine Drawn.done (by kernel_rfl) ?_
        try go_simp
        generalize hWf : (((W8.setCell ⟨g18, 0, none⟩ (.bool nm)).setCell ⟨g18, 1, none⟩ (.slice am zm.length cm)).setCell ⟨g18, 2, none⟩ (.int .i64 xm)) = Wf at *
        exact Rest g18 g81 Wf nm zm xm am cm ⟨HF, lm, lq, lb, ll, Nm⟩
    · go_simp
      refine (HTop _ lq).mono ?_
      rintro e W9 ⟨rfl, hn⟩
      refine hK _ _ (HI.keep hn) ?_
      clear hK K
      replace HI := HI.keep hn
      replace HF := HF.keep hn
      replace lq := lq.below hn (Nat.le_refl _)
      replace lb := lb.below hn (Nat.le_refl _)
      replace ll := ll.below hn (Nat.le_refl _)
      replace hTW := hTW.below hn (Nat.le_refl _)
      clear hn
      refine Drawn.take (i := 5) (v := .int .i64 (T + xq - bits)) rfl (by kernel_rfl) (by kernel_rfl) (by kernel_rfl) (fun _ _ _ h => h) (by kernel_rfl) (fun W hW => ?_) HI ?_
      · have ⟨sq0, sq1, sq2⟩ := sh W hW
        go_simp <;> (exact wrap_ok (by omega) (by omega))
      refine Drawn.pair (i := 1) (j := 11) (by kernel_rfl) rfl rfl (fun K hK => ?_) (fun K hK => ?_)
      · go_simp
        refine hK _ _ (HI.grown (.cells #[.int .u32 1] 70 (0, 0))) ?_
        clear hK K
        have o81 : gP < W9.heap.size := HF.lt (p := (gP, DO nP aP zP.length cP xP)) (by simp)
        replace HI := HI.grown (.cells #[.int .u32 1] 70 (0, 0))
        replace HF := HF.push (.cells #[.int .u32 1] 70 (0, 0))
        replace lq := lq.below (below_alloc W9 (.cells #[.int .u32 1] 70 (0, 0))) (Nat.le_refl _)
        replace lb := lb.below (below_alloc W9 (.cells #[.int .u32 1] 70 (0, 0))) (Nat.le_refl _)
        replace ll := ll.below (below_alloc W9 (.cells #[.int .u32 1] 70 (0, 0))) (Nat.le_refl _)
        replace hTW := hTW.below (below_alloc W9 (.cells #[.int .u32 1] 70 (0, 0))) (Nat.le_refl _)
        generalize hg : W9.alloc (.cells #[.int .u32 1] 70 (0, 0)) = W10 at *
        clear hg
        generalize hh : W9.heap.size = g81 at *
        clear hh
        refine Drawn.take (i := 6) (v := ?v116) rfl (by kernel_rfl) (by kernel_rfl) (by kernel_rfl) (fun _ _ _ h => h) (by kernel_rfl) (fun W hW => ?_) HI ?_
        rotate_left
        · have ⟨sq0, sq1, sq2⟩ := sh W hW
          go_simp <;> exact rfl
        refine Drawn.pair (i := 7) (j := 11) (by kernel_rfl) rfl rfl (fun K hK => ?_) (fun K hK => ?_)
        · go_simp
          have lR := lie_row (HF.box (g81, (.cells #[.int .u32 1] 70 (0, 0))) (by simp))
          refine (HA _ _ lq lR hTW).mono ?_
          rintro e W11 ⟨nm, zm, xm, am, cm, rfl, IM⟩
          have hn := IM.bel
          have lm := IM.lie
          have Nm := IM.num
          clear IM lR
          refine hK _ _ (HI.keep hn) ?_
          clear hK K
          replace HI := HI.keep hn
          replace HF := HF.keep hn
          replace lq := lq.below hn (Nat.le_refl _)
          replace lb := lb.below hn (Nat.le_refl _)
          replace ll := ll.below hn (Nat.le_refl _)
          replace hTW := hTW.below hn (Nat.le_refl _)
          clear hn
          refine Drawn.take (i := 8) (v := ?v117) rfl (by kernel_rfl) (by kernel_rfl) (by kernel_rfl) (fun _ _ _ h => h) (by kernel_rfl) (fun W hW => ?_) HI ?_
          rotate_left
          · have ⟨sq0, sq1, sq2⟩ := sh W hW
            go_simp <;> exact rfl
          refine Drawn.take (i := 9) (v := ?v118) rfl (by kernel_rfl) (by kernel_rfl) (by kernel_rfl) (fun _ _ _ h => h) (by kernel_rfl) (fun W hW => ?_) HI ?_
          rotate_left
          · have ⟨sq0, sq1, sq2⟩ := sh W hW
            go_simp <;> exact rfl
          refine Drawn.take (i := 10) (v := ?v119) rfl (by kernel_rfl) (by kernel_rfl) (by kernel_rfl) (fun _ _ _ h => h) (by kernel_rfl) (fun W hW => ?_) HI ?_
          rotate_left
          · have ⟨sq0, sq1, sq2⟩ := sh W hW
            go_simp <;> exact rfl
          refine Drawn.one (j := 11) (by kernel_rfl) rfl (fun K hK => ?_)
          go_simp
          refine hK _ _ (HI.grown (DO false none 0 0 0)) ?_
          clear hK K
          have o18 : gP < W11.heap.size := HF.lt (p := (gP, DO nP aP zP.length cP xP)) (by simp)
          have o8 : g81 < W11.heap.size := HF.lt (p := (g81, (.cells #[.int .u32 1] 70 (0, 0)))) (by simp)
          replace HI := HI.grown (DO false none 0 0 0)
          replace HF := HF.push (DO false none 0 0 0)
          replace lq := lq.below (below_alloc W11 (DO false none 0 0 0)) (Nat.le_refl _)
          replace lb := lb.below (below_alloc W11 (DO false none 0 0 0)) (Nat.le_refl _)
          replace ll := ll.below (below_alloc W11 (DO false none 0 0 0)) (Nat.le_refl _)
          replace lm := lm.below (below_alloc W11 (DO false none 0 0 0)) (Nat.le_refl _)
          replace hTW := hTW.below (below_alloc W11 (DO false none 0 0 0)) (Nat.le_refl _)
          generalize hg : W11.alloc (DO false none 0 0 0) = W12 at *
          clear hg
          generalize hh : W11.heap.size = g18 at *
          clear hh
          replace HF := HF.sub (L' := (g18, (DO false none 0 0 0)) :: [(gP, DO nP aP zP.length cP xP), ((w.heap.size + 1 + 1), DO nl al zl.length cl xl), ((w.heap.size + 1), DO nb ab zb.length cb xb), (w.heap.size, DO nq aq zq.length cq xq)]) (by simp)
          have H5 := HF.head
          obtain ⟨⟨f0, f1, f2⟩, r0, r1, r2⟩ := cells3 HF g18 _ _ _ _ (.head _)
          replace lq := lie_set3 H5 (.bool nm) (.slice am zm.length cm) (.int .i64 xm) lq
          replace lb := lie_set3 H5 (.bool nm) (.slice am zm.length cm) (.int .i64 xm) lb
          replace ll := lie_set3 H5 (.bool nm) (.slice am zm.length cm) (.int .i64 xm) ll
          replace lm := lie_set3 H5 (.bool nm) (.slice am zm.length cm) (.int .i64 xm) lm
          replace HF := HF.fill3 (by omega) (by simp; omega) (.bool nm) (.slice am zm.length cm) (.int .i64 xm)
          refine Drawn.one (j := 12) (by kernel_rfl) rfl (fun K hK => ?_)
          go_simp
          refine hK _ _ (HF.sub (by simp)) ?_
          clear hK K f0 f1 f2 r0 r1 r2 H5
          replace HI := HF.sub (L' := [(w.heap.size, DO nq aq zq.length cq xq)]) (by simp)
          refine Drawn.take (i := 13) (v := ?v120) rfl (by kernel_rfl) (by kernel_rfl) (by kernel_rfl) (fun _ _ _ h => h) (by kernel_rfl) (fun W hW => ?_) HI ?_
          rotate_left
          · have ⟨sq0, sq1, sq2⟩ := sh W hW
            go_simp <;> exact rfl
          refine Drawn.done (by kernel_rfl) ?_
          try go_simp
          generalize hWf : (((W12.setCell ⟨g18, 0, none⟩ (.bool nm)).setCell ⟨g18, 1, none⟩ (.slice am zm.length cm)).setCell ⟨g18, 2, none⟩ (.int .i64 xm)) = Wf at *
          exact Rest g18 g81 Wf nm zm xm am cm ⟨HF, lm, lq, lb, ll, Nm⟩
        · go_simp
          refine hK _ _ (HI.grown (DO false none 0 0 0)) ?_
          clear hK K
          have o18 : gP < W10.heap.size := HF.lt (p := (gP, DO nP aP zP.length cP xP)) (by simp)
          have o8 : g81 < W10.heap.size := HF.lt (p := (g81, (.cells #[.int .u32 1] 70 (0, 0)))) (by simp)
          replace HI := HI.grown (DO false none 0 0 0)
          replace HF := HF.push (DO false none 0 0 0)
          replace lq := lq.below (below_alloc W10 (DO false none 0 0 0)) (Nat.le_refl _)
          replace lb := lb.below (below_alloc W10 (DO false none 0 0 0)) (Nat.le_refl _)
          replace ll := ll.below (below_alloc W10 (DO false none 0 0 0)) (Nat.le_refl _)
          replace hTW := hTW.below (below_alloc W10 (DO false none 0 0 0)) (Nat.le_refl _)
          generalize hg : W10.alloc (DO false none 0 0 0) = W13 at *
          clear hg
          generalize hh : W10.heap.size = g18 at *
          clear hh
          refine Drawn.one (j := 7) (by kernel_rfl) rfl (fun K hK => ?_)
          go_simp
          have lR := lie_row (HF.box (g81, (.cells #[.int .u32 1] 70 (0, 0))) (by simp))
          refine (HA _ _ lq lR hTW).mono ?_
          rintro e W14 ⟨nm, zm, xm, am, cm, rfl, IM⟩
          have hn := IM.bel
          have lm := IM.lie
          have Nm := IM.num
          clear IM lR
          refine hK _ _ (HI.keep hn) ?_
          clear hK K
          replace HI := HI.keep hn
          replace HF := HF.keep hn
          replace lq := lq.below hn (Nat.le_refl _)
          replace lb := lb.below hn (Nat.le_refl _)
          replace ll := ll.below hn (Nat.le_refl _)
          replace hTW := hTW.below hn (Nat.le_refl _)
          clear hn
          refine Drawn.take (i := 8) (v := ?v121) rfl (by kernel_rfl) (by kernel_rfl) (by kernel_rfl) (fun _ _ _ h => h) (by kernel_rfl) (fun W hW => ?_) HI ?_
          rotate_left
          · have ⟨sq0, sq1, sq2⟩ := sh W hW
            go_simp <;> exact rfl
          refine Drawn.take (i := 9) (v := ?v122) rfl (by kernel_rfl) (by kernel_rfl) (by kernel_rfl) (fun _ _ _ h => h) (by kernel_rfl) (fun W hW => ?_) HI ?_
          rotate_left
          · have ⟨sq0, sq1, sq2⟩ := sh W hW
            go_simp <;> exact rfl
          refine Drawn.take (i := 10) (v := ?v123) rfl (by kernel_rfl) (by kernel_rfl) (by kernel_rfl) (fun _ _ _ h => h) (by kernel_rfl) (fun W hW => ?_) HI ?_
          rotate_left
          · have ⟨sq0, sq1, sq2⟩ := sh W hW
            go_simp <;> exact rfl
          replace HF := HF.sub (L' := (g18, (DO false none 0 0 0)) :: [(gP, DO nP aP zP.length cP xP), ((w.heap.size + 1 + 1), DO nl al zl.length cl xl), ((w.heap.size + 1), DO nb ab zb.length cb xb), (w.heap.size, DO nq aq zq.length cq xq)]) (by simp)
          have H5 := HF.head
          obtain ⟨⟨f0, f1, f2⟩, r0, r1, r2⟩ := cells3 HF g18 _ _ _ _ (.head _)
          replace lq := lie_set3 H5 (.bool nm) (.slice am zm.length cm) (.int .i64 xm) lq
          replace lb := lie_set3 H5 (.bool nm) (.slice am zm.length cm) (.int .i64 xm) lb
          replace ll := lie_set3 H5 (.bool nm) (.slice am zm.length cm) (.int .i64 xm) ll
          replace lm := lie_set3 H5 (.bool nm) (.slice am zm.length cm) (.int .i64 xm) lm
          replace HF := HF.fill3 (by omega) (by simp; omega) (.bool nm) (.slice am zm.length cm) (.int .i64 xm)
          refine Drawn.one (j := 12) (by kernel_rfl) rfl (fun K hK => ?_)
          go_simp
          refine hK _ _ (HF.sub (by simp)) ?_
          clear hK K f0 f1 f2 r0 r1 r2 H5
          replace HI := HF.sub (L' := [(w.heap.size, DO nq aq zq.length cq xq)]) (by simp)
          refine Drawn.take (i := 13) (v := ?v124) rfl (by kernel_rfl) (by kernel_rfl) (by kernel_rfl) (fun _ _ _ h => h) (by kernel_rfl) (fun W hW => ?_) HI ?_
          rotate_left
          · have ⟨sq0, sq1, sq2⟩ := sh W hW
            go_simp <;> exact rfl
          refine Drawn.done (by kernel_rfl) ?_
          try go_simp
          generalize hWf : (((W14.setCell ⟨g18, 0, none⟩ (.bool nm)).setCell ⟨g18, 1, none⟩ (.slice am zm.length cm)).setCell ⟨g18, 2, none⟩ (.int .i64 xm)) = Wf at *
          exact Rest g18 g81 Wf nm zm xm am cm ⟨HF, lm, lq, lb, ll, Nm⟩
      · go_simp
        refine hK _ _ (HI.grown (DO false none 0 0 0)) ?_
        clear hK K
        have o18 : gP < W9.heap.size := HF.lt (p := (gP, DO nP aP zP.length cP xP)) (by simp)
        replace HI := HI.grown (DO false none 0 0 0)
        replace HF := HF.push (DO false none 0 0 0)
        replace lq := lq.below (below_alloc W9 (DO false none 0 0 0)) (Nat.le_refl _)
        replace lb := lb.below (below_alloc W9 (DO false none 0 0 0)) (Nat.le_refl _)
        replace ll := ll.below (below_alloc W9 (DO false none 0 0 0)) (Nat.le_refl _)
        replace hTW := hTW.below (below_alloc W9 (DO false none 0 0 0)) (Nat.le_refl _)
        generalize hg : W9.alloc (DO false none 0 0 0) = W15 at *
        clear hg
        generalize hh : W9.heap.size = g18 at *
        clear hh
        refine Drawn.one (j := 1) (by kernel_rfl) rfl (fun K hK => ?_)
        go_simp
        refine hK _ _ (HI.grown (.cells #[.int .u32 1] 70 (0, 0))) ?_
        clear hK K
        have o81 : gP < W15.heap.size := HF.lt (p := (gP, DO nP aP zP.length cP xP)) (by simp)
        have o8 : g18 < W15.heap.size := HF.lt (p := (g18, (DO false none 0 0 0))) (by simp)
        replace HI := HI.grown (.cells #[.int .u32 1] 70 (0, 0))
        replace HF := HF.push (.cells #[.int .u32 1] 70 (0, 0))
        replace lq := lq.below (below_alloc W15 (.cells #[.int .u32 1] 70 (0, 0))) (Nat.le_refl _)
        replace lb := lb.below (below_alloc W15 (.cells #[.int .u32 1] 70 (0, 0))) (Nat.le_refl _)
        replace ll := ll.below (below_alloc W15 (.cells #[.int .u32 1] 70 (0, 0))) (Nat.le_refl _)
        replace hTW := hTW.below (below_alloc W15 (.cells #[.int .u32 1] 70 (0, 0))) (Nat.le_refl _)
        generalize hg : W15.alloc (.cells #[.int .u32 1] 70 (0, 0)) = W16 at *
        clear hg
        generalize hh : W15.heap.size = g81 at *
        clear hh
        refine Drawn.take (i := 6) (v := ?v125) rfl (by kernel_rfl) (by kernel_rfl) (by kernel_rfl) (fun _ _ _ h => h) (by kernel_rfl) (fun W hW => ?_) HI ?_
        rotate_left
        · have ⟨sq0, sq1, sq2⟩ := sh W hW
          go_simp <;> exact rfl
        refine Drawn.one (j := 7) (by kernel_rfl) rfl (fun K hK => ?_)
        go_simp
        have lR := lie_row (HF.box (g81, (.cells #[.int .u32 1] 70 (0, 0))) (by simp))
        refine (HA _ _ lq lR hTW).mono ?_
        rintro e W17 ⟨nm, zm, xm, am, cm, rfl, IM⟩
        have hn := IM.bel
        have lm := IM.lie
        have Nm := IM.num
        clear IM lR
        refine hK _ _ (HI.keep hn) ?_
        clear hK K
        replace HI := HI.keep hn
        replace HF := HF.keep hn
        replace lq := lq.below hn (Nat.le_refl _)
        replace lb := lb.below hn (Nat.le_refl _)
        replace ll := ll.below hn (Nat.le_refl _)
        replace hTW := hTW.below hn (Nat.le_refl _)
        clear hn
        refine Drawn.take (i := 8) (v := ?v126) rfl (by kernel_rfl) (by kernel_rfl) (by kernel_rfl) (fun _ _ _ h => h) (by kernel_rfl) (fun W hW => ?_) HI ?_
        rotate_left
        · have ⟨sq0, sq1, sq2⟩ := sh W hW
          go_simp <;> exact rfl
        refine Drawn.take (i := 9) (v := ?v127) rfl (by kernel_rfl) (by kernel_rfl) (by kernel_rfl) (fun _ _ _ h => h) (by kernel_rfl) (fun W hW => ?_) HI ?_
        rotate_left
        · have ⟨sq0, sq1, sq2⟩ := sh W hW
          go_simp <;> exact rfl
        refine Drawn.take (i := 10) (v := ?v128) rfl (by kernel_rfl) (by kernel_rfl) (by kernel_rfl) (fun _ _ _ h => h) (by kernel_rfl) (fun W hW => ?_) HI ?_
        rotate_left
        · have ⟨sq0, sq1, sq2⟩ := sh W hW
          go_simp <;> exact rfl
        replace HF := HF.sub (L' := (g18, (DO false none 0 0 0)) :: [(gP, DO nP aP zP.length cP xP), ((w.heap.size + 1 + 1), DO nl al zl.length cl xl), ((w.heap.size + 1), DO nb ab zb.length cb xb), (w.heap.size, DO nq aq zq.length cq xq)]) (by simp)
        have H5 := HF.head
        obtain ⟨⟨f0, f1, f2⟩, r0, r1, r2⟩ := cells3 HF g18 _ _ _ _ (.head _)
        replace lq := lie_set3 H5 (.bool nm) (.slice am zm.length cm) (.int .i64 xm) lq
        replace lb := lie_set3 H5 (.bool nm) (.slice am zm.length cm) (.int .i64 xm) lb
        replace ll := lie_set3 H5 (.bool nm) (.slice am zm.length cm) (.int .i64 xm) ll
        replace lm := lie_set3 H5 (.bool nm) (.slice am zm.length cm) (.int .i64 xm) lm
        replace HF := HF.fill3 (by omega) (by simp; omega) (.bool nm) (.slice am zm.length cm) (.int .i64 xm)
        refine Drawn.one (j := 12) (by kernel_rfl) rfl (fun K hK => ?_)
        go_simp
        refine hK _ _ (HF.sub (by simp)) ?_
        clear hK K f0 f1 f2 r0 r1 r2 H5
        replace HI := HF.sub (L' := [(w.heap.size, DO nq aq zq.length cq xq)]) (by simp)
        refine Drawn.take (i := 13) (v := ?v129) rfl (by kernel_rfl) (by kernel_rfl) (by kernel_rfl) (fun _ _ _ h => h) (by kernel_rfl) (fun W hW => ?_) HI ?_
        rotate_left
        · have ⟨sq0, sq1, sq2⟩ := sh W hW
          go_simp <;> exact rfl
        refine Drawn.done (by kernel_rfl) ?_
        try go_simp
        generalize hWf : (((W17.setCell ⟨g18, 0, none⟩ (.bool nm)).setCell ⟨g18, 1, none⟩ (.slice am zm.length cm)).setCell ⟨g18, 2, none⟩ (.int .i64 xm)) = Wf at *
        exact Rest g18 g81 Wf nm zm xm am cm ⟨HF, lm, lq, lb, ll, Nm⟩
    · go_simp
      refine hK _ _ (HI.grown (DO false none 0 0 0)) ?_
      clear hK K
      have o18 : gP < W00.heap.size := HF.lt (p := (gP, DO nP aP zP.length cP xP)) (by simp)
      replace HI := HI.grown (DO false none 0 0 0)
      replace HF := HF.push (DO false none 0 0 0)
      replace lq := lq.below (below_alloc W00 (DO false none 0 0 0)) (Nat.le_refl _)
      replace lb := lb.below (below_alloc W00 (DO false none 0 0 0)) (Nat.le_refl _)
      replace ll := ll.below (below_alloc W00 (DO false none 0 0 0)) (Nat.le_refl _)
      replace hTW := hTW.below (below_alloc W00 (DO false none 0 0 0)) (Nat.le_refl _)
      generalize hg : W00.alloc (DO false none 0 0 0) = W18 at *
      clear hg
      generalize hh : W00.heap.size = g18 at *
      clear hh
      refine Drawn.pair (i := 1) (j := 3) (by kernel_rfl) rfl rfl (fun K hK => ?_) (fun K hK => ?_)
      · go_simp
        refine hK _ _ (HI.grown (.cells #[.int .u32 1] 70 (0, 0))) ?_
        clear hK K
        have o81 : gP < W18.heap.size := HF.lt (p := (gP, DO nP aP zP.length cP xP)) (by simp)
        have o8 : g18 < W18.heap.size := HF.lt (p := (g18, (DO false none 0 0 0))) (by simp)
        replace HI := HI.grown (.cells #[.int .u32 1] 70 (0, 0))
        replace HF := HF.push (.cells #[.int .u32 1] 70 (0, 0))
        replace lq := lq.below (below_alloc W18 (.cells #[.int .u32 1] 70 (0, 0))) (Nat.le_refl _)
        replace lb := lb.below (below_alloc W18 (.cells #[.int .u32 1] 70 (0, 0))) (Nat.le_refl _)
        replace ll := ll.below (below_alloc W18 (.cells #[.int .u32 1] 70 (0, 0))) (Nat.le_refl _)
        replace hTW := hTW.below (below_alloc W18 (.cells #[.int .u32 1] 70 (0, 0))) (Nat.le_refl _)
        generalize hg : W18.alloc (.cells #[.int .u32 1] 70 (0, 0)) = W19 at *
        clear hg
        generalize hh : W18.heap.size = g81 at *
        clear hh
        refine Drawn.one (j := 3) (by kernel_rfl) rfl (fun K hK => ?_)
        go_simp
        refine (HTop _ lq).mono ?_
        rintro e W20 ⟨rfl, hn⟩
        refine hK _ _ (HI.keep hn) ?_
        clear hK K
        replace HI := HI.keep hn
        replace HF := HF.keep hn
        replace lq := lq.below hn (Nat.le_refl _)
        replace lb := lb.below hn (Nat.le_refl _)
        replace ll := ll.below hn (Nat.le_refl _)
        replace hTW := hTW.below hn (Nat.le_refl _)
        clear hn
        refine Drawn.take (i := 5) (v := .int .i64 (T + xq - bits)) rfl (by kernel_rfl) (by kernel_rfl) (by kernel_rfl) (fun _ _ _ h => h) (by kernel_rfl) (fun W hW => ?_) HI ?_
        · have ⟨sq0, sq1, sq2⟩ := sh W hW
          go_simp <;> (exact wrap_ok (by omega) (by omega))
        refine Drawn.take (i := 6) (v := ?v130) rfl (by kernel_rfl) (by kernel_rfl) (by kernel_rfl) (fun _ _ _ h => h) (by kernel_rfl) (fun W hW => ?_) HI ?_
        rotate_left
        · have ⟨sq0, sq1, sq2⟩ := sh W hW
          go_simp <;> exact rfl
        refine Drawn.one (j := 7) (by kernel_rfl) rfl (fun K hK => ?_)
        go_simp
        have lR := lie_row (HF.box (g81, (.cells #[.int .u32 1] 70 (0, 0))) (by simp))
        refine (HA _ _ lq lR hTW).mono ?_
        rintro e W21 ⟨nm, zm, xm, am, cm, rfl, IM⟩
        have hn := IM.bel
        have lm := IM.lie
        have Nm := IM.num
        clear IM lR
        refine hK _ _ (HI.keep hn) ?_
        clear hK K
        replace HI := HI.keep hn
        replace HF := HF.keep hn
        replace lq := lq.below hn (Nat.le_refl _)
        replace lb := lb.below hn (Nat.le_refl _)
        replace ll := ll.below hn (Nat.le_refl _)
        replace hTW := hTW.below hn (Nat.le_refl _)
        clear hn
        refine Drawn.take (i := 8) (v := ?v131) rfl (by kernel_rfl) (by kernel_rfl) (by kernel_rfl) (fun _ _ _ h => h) (by kernel_rfl) (fun W hW => ?_) HI ?_
        rotate_left
        · have ⟨sq0, sq1, sq2⟩ := sh W hW
          go_simp <;> exact rfl
        refine Drawn.take (i := 9) (v := ?v132) rfl (by kernel_rfl) (by kernel_rfl) (by kernel_rfl) (fun _ _ _ h => h) (by kernel_rfl) (fun W hW => ?_) HI ?_
        rotate_left
        · have ⟨sq0, sq1, sq2⟩ := sh W hW
          go_simp <;> exact rfl
        refine Drawn.take (i := 10) (v := ?v133) rfl (by kernel_rfl) (by kernel_rfl) (by kernel_rfl) (fun _ _ _ h => h) (by kernel_rfl) (fun W hW => ?_) HI ?_
        rotate_left
        · have ⟨sq0, sq1, sq2⟩ := sh W hW
          go_simp <;> exact rfl
        replace HF := HF.sub (L' := (g18, (DO false none 0 0 0)) :: [(gP, DO nP aP zP.length cP xP), ((w.heap.size + 1 + 1), DO nl al zl.length cl xl), ((w.heap.size + 1), DO nb ab zb.length cb xb), (w.heap.size, DO nq aq zq.length cq xq)]) (by simp)
        have H5 := HF.head
        obtain ⟨⟨f0, f1, f2⟩, r0, r1, r2⟩ := cells3 HF g18 _ _ _ _ (.head _)
        replace lq := lie_set3 H5 (.bool nm) (.slice am zm.length cm) (.int .i64 xm) lq
        replace lb := lie_set3 H5 (.bool nm) (.slice am zm.length cm) (.int .i64 xm) lb
        replace ll := lie_set3 H5 (.bool nm) (.slice am zm.length cm) (.int .i64 xm) ll
        replace lm := lie_set3 H5 (.bool nm) (.slice am zm.length cm) (.int .i64 xm) lm
        replace HF := HF.fill3 (by omega) (by simp; omega) (.bool nm) (.slice am zm.length cm) (.int .i64 xm)
        refine Drawn.one (j := 12) (by kernel_rfl) rfl (fun K hK => ?_)
        go_simp
        refine hK _ _ (HF.sub (by simp)) ?_
        clear hK K f0 f1 f2 r0 r1 r2 H5
        replace HI := HF.sub (L' := [(w.heap.size, DO nq aq zq.length cq xq)]) (by simp)
        refine Drawn.take (i := 13) (v := ?v134) rfl (by kernel_rfl) (by kernel_rfl) (by kernel_rfl) (fun _ _ _ h => h) (by kernel_rfl) (fun W hW => ?_) HI ?_
        rotate_left
        · have ⟨sq0, sq1, sq2⟩ := sh W hW
          go_simp <;> exact rfl
        refine Drawn.done (by kernel_rfl) ?_
        try go_simp
        generalize hWf : (((W21.setCell ⟨g18, 0, none⟩ (.bool nm)).setCell ⟨g18, 1, none⟩ (.slice am zm.length cm)).setCell ⟨g18, 2, none⟩ (.int .i64 xm)) = Wf at *
        exact Rest g18 g81 Wf nm zm xm am cm ⟨HF, lm, lq, lb, ll, Nm⟩
      · go_simp
        refine (HTop _ lq).mono ?_
        rintro e W22 ⟨rfl, hn⟩
        refine hK _ _ (HI.keep hn) ?_
        clear hK K
        replace HI := HI.keep hn
        replace HF := HF.keep hn
        replace lq := lq.below hn (Nat.le_refl _)
        replace lb := lb.below hn (Nat.le_refl _)
        replace ll := ll.below hn (Nat.le_refl _)
        replace hTW := hTW.below hn (Nat.le_refl _)
        clear hn
        refine Drawn.take (i := 5) (v := .int .i64 (T + xq - bits)) rfl (by kernel_rfl) (by kernel_rfl) (by kernel_rfl) (fun _ _ _ h => h) (by kernel_rfl) (fun W hW => ?_) HI ?_
        · have ⟨sq0, sq1, sq2⟩ := sh W hW
          go_simp <;> (exact wrap_ok (by omega) (by omega))
        refine Drawn.one (j := 1) (by kernel_rfl) rfl (fun K hK => ?_)
        go_simp
        refine hK _ _ (HI.grown (.cells #[.int .u32 1] 70 (0, 0))) ?_
        clear hK K
        have o81 : gP < W22.heap.size := HF.lt (p := (gP, DO nP aP zP.length cP xP)) (by simp)
        have o8 : g18 < W22.heap.size := HF.lt (p := (g18, (DO false none 0 0 0))) (by simp)
        replace HI := HI.grown (.cells #[.int .u32 1] 70 (0, 0))
        replace HF := HF.push (.cells #[.int .u32 1] 70 (0, 0))
        replace lq := lq.below (below_alloc W22 (.cells #[.int .u32 1] 70 (0, 0))) (Nat.le_refl _)
        replace lb := lb.below (below_alloc W22 (.cells #[.int .u32 1] 70 (0, 0))) (Nat.le_refl _)
        replace ll := ll.below (below_alloc W22 (.cells #[.int .u32 1] 70 (0, 0))) (Nat.le_refl _)
        replace hTW := hTW.below (below_alloc W22 (.cells #[.int .u32 1] 70 (0, 0))) (Nat.le_refl _)
        generalize hg : W22.alloc (.cells #[.int .u32 1] 70 (0, 0)) = W23 at *
        clear hg
        generalize hh : W22.heap.size = g81 at *
        clear hh
        refine Drawn.take (i := 6) (v := ?v135) rfl (by kernel_rfl) (by kernel_rfl) (by kernel_rfl) (fun _ _ _ h => h) (by kernel_rfl) (fun W hW => ?_) HI ?_
        rotate_left
        · have ⟨sq0, sq1, sq2⟩ := sh W hW
          go_simp <;> exact rfl
        refine Drawn.one (j := 7) (by kernel_rfl) rfl (fun K hK => ?_)
        go_simp
        have lR := lie_row (HF.box (g81, (.cells #[.int .u32 1] 70 (0, 0))) (by simp))
        refine (HA _ _ lq lR hTW).mono ?_
        rintro e W24 ⟨nm, zm, xm, am, cm, rfl, IM⟩
        have hn := IM.bel
        have lm := IM.lie
        have Nm := IM.num
        clear IM lR
        refine hK _ _ (HI.keep hn) ?_
        clear hK K
        replace HI := HI.keep hn
        replace HF := HF.keep hn
        replace lq := lq.below hn (Nat.le_refl _)
        replace lb := lb.below hn (Nat.le_refl _)
        replace ll := ll.below hn (Nat.le_refl _)
        replace hTW := hTW.below hn (Nat.le_refl _)
        clear hn
        refine Drawn.take (i := 8) (v := ?v136) rfl (by kernel_rfl) (by kernel_rfl) (by kernel_rfl) (fun _ _ _ h => h) (by kernel_rfl) (fun W hW => ?_) HI ?_
        rotate_left
        · have ⟨sq0, sq1, sq2⟩ := sh W hW
          go_simp <;> exact rfl
        refine Drawn.take (i := 9) (v := ?v137) rfl (by kernel_rfl) (by kernel_rfl) (by kernel_rfl) (fun _ _ _ h => h) (by kernel_rfl) (fun W hW => ?_) HI ?_
        rotate_left
        · have ⟨sq0, sq1, sq2⟩ := sh W hW
          go_simp <;> exact rfl
        refine Drawn.take (i := 10) (v := ?v138) rfl (by kernel_rfl) (by kernel_rfl) (by kernel_rfl) (fun _ _ _ h => h) (by kernel_rfl) (fun W hW => ?_) HI ?_
        rotate_left
        · have ⟨sq0, sq1, sq2⟩ := sh W hW
          go_simp <;> exact rfl
        replace HF := HF.sub (L' := (g18, (DO false none 0 0 0)) :: [(gP, DO nP aP zP.length cP xP), ((w.heap.size + 1 + 1), DO nl al zl.length cl xl), ((w.heap.size + 1), DO nb ab zb.length cb xb), (w.heap.size, DO nq aq zq.length cq xq)]) (by simp)
        have H5 := HF.head
        obtain ⟨⟨f0, f1, f2⟩, r0, r1, r2⟩ := cells3 HF g18 _ _ _ _ (.head _)
        replace lq := lie_set3 H5 (.bool nm) (.slice am zm.length cm) (.int .i64 xm) lq
        replace lb := lie_set3 H5 (.bool nm) (.slice am zm.length cm) (.int .i64 xm) lb
        replace ll := lie_set3 H5 (.bool nm) (.slice am zm.length cm) (.int .i64 xm) ll
        replace lm := lie_set3 H5 (.bool nm) (.slice am zm.length cm) (.int .i64 xm) lm
        replace HF := HF.fill3 (by omega) (by simp; omega) (.bool nm) (.slice am zm.length cm) (.int .i64 xm)
        refine Drawn.one (j := 12) (by kernel_rfl) rfl (fun K hK => ?_)
        go_simp
        refine hK _ _ (HF.sub (by simp)) ?_
        clear hK K f0 f1 f2 r0 r1 r2 H5
        replace HI := HF.sub (L' := [(w.heap.size, DO nq aq zq.length cq xq)]) (by simp)
        refine Drawn.take (i := 13) (v := ?v139) rfl (by kernel_rfl) (by kernel_rfl) (by kernel_rfl) (fun _ _ _ h => h) (by kernel_rfl) (fun W hW => ?_) HI ?_
        rotate_left
        · have ⟨sq0, sq1, sq2⟩ := sh W hW
          go_simp <;> exact rfl
        refine Drawn.done (by kernel_rfl) ?_
        try go_simp
        generalize hWf : (((W24.setCell ⟨g18, 0, none⟩ (.bool nm)).setCell ⟨g18, 1, none⟩ (.slice am zm.length cm)).setCell ⟨g18, 2, none⟩ (.int .i64 xm)) = Wf at *
        exact Rest g18 g81 Wf nm zm xm am cm ⟨HF, lm, lq, lb, ll, Nm⟩
  case rest =>
    intro g18 g81 W nm zm xm am cm ⟨HF, lm, lq, lb, ll, Nm⟩
    have BX := HF
    clear HF
    have HB := Below.refl W.heap.size W
    obtain ⟨⟨fM0, fM1, fM2⟩, _⟩ := cells3 BX g18 _ _ _ _ (show (g18, DO nm am zm.length cm xm) ∈ _ by simp)
    obtain ⟨⟨fd0, fd1, fd2⟩, _⟩ := cells3 BX (w.heap.size + 1) _ _ _ _ (show ((w.heap.size + 1), DO nb ab zb.length cb xb) ∈ _ by simp)
    go_wp2_with fail
    refine (HT2 _ nm zm xm am cm Nm lm lb (hT.below BX.bel (Nat.le_refl _))).mono ?_
    rintro e uT ⟨nT, zT, xT, aT, cT, rfl, IT⟩
    have NT := IT.num
    have lT := IT.lie
    have hT9 := IT.bel
    clear IT
    replace BX := BX.keep hT9
    replace HB := below_then HB hT9
    replace lm := lm.below hT9 (Nat.le_refl _)
    replace lq := lq.below hT9 (Nat.le_refl _)
    replace lb := lb.below hT9 (Nat.le_refl _)
    replace ll := ll.below hT9 (Nat.le_refl _)
    clear hT9
    obtain ⟨⟨fP0, fP1, fP2⟩, rP0, rP1, rP2⟩ := cells3 BX gP _ _ _ _ (.tail _ (.head _))
    obtain ⟨⟨fl0, fl1, fl2⟩, _⟩ := cells3 BX (w.heap.size + 1 + 1) _ _ _ _ (show ((w.heap.size + 1 + 1), DO nl al zl.length cl xl) ∈ _ by simp)
    go_wp2_with fail
    skip
    have BP := (BX.sub (L' := [(gP, DO nP aP zP.length cP xP), (w.heap.size, DO nq aq zq.length cq xq)]) (by simp)).fill3 (by omega) (by simp; omega) (.bool nT) (.slice aT zT.length cT) (.int .i64 xT)
    have lT2 := lie_set3X (BX.sub (L' := [(gP, DO nP aP zP.length cP xP)]) (by simp)).head (.bool nT) (.slice aT zT.length cT) (.int .i64 xT) lT
    have ll2 := lie_set3X (BX.sub (L' := [(gP, DO nP aP zP.length cP xP)]) (by simp)).head (.bool nT) (.slice aT zT.length cT) (.int .i64 xT) ll
    refine (dcmp55 nT nl aT al cT cl zT zl xT xl _ lT2 ll2 NT Nl (hT.below BP.bel (Nat.le_refl _)) 1 HK2.out).mono ?_
    rintro e wZ ⟨rfl, hZ⟩
    replace BP := BP.keep hZ
    go_wp2
    go_ret
    exact ⟨rfl, BP.bel⟩
end Go.Proofs.YteejaghimppcgaaDoor
