import Derived.Test.YtiamdmfhkhlppaaDoorYA
namespace Go.Drawn
open Go
section
variable {P : Program} {ops : Array Oper} {Q : Exit → Act → World → Prop} {md : Region.Mode} {I : World → Prop}
/-- Three operations are ready. -/
theorem trio {i j k : Nat} {oi oj ok : Oper} {n : Nat} {listed : Array Bool} {a : Act} {w : World} (hr : Region.ready md ops listed = [i, j, k]) (hi : ops[i]? = some oi) (hj : ops[j]? = some oj) (hk : ops[k]? = some ok)
    (h1 : ∀ K : Act → World → Prop, (∀ a w, I w → wpIn P md ops Q I n (listed.setIfInBounds i true) a w → K a w) → if Region.wanted oi (yielded ops a.tmps) = true then Oper.wp P oi a w K Q else K (a.put oi.dst undef) w)
    (h2 : ∀ K : Act → World → Prop, (∀ a w, I w → wpIn P md ops Q I n (listed.setIfInBounds j true) a w → K a w) → if Region.wanted oj (yielded ops a.tmps) = true then Oper.wp P oj a w K Q else K (a.put oj.dst undef) w)
    (h3 : ∀ K : Act → World → Prop, (∀ a w, I w → wpIn P md ops Q I n (listed.setIfInBounds k true) a w → K a w) → if Region.wanted ok (yielded ops a.tmps) = true then Oper.wp P ok a w K Q else K (a.put ok.dst undef) w) :
    wpIn P md ops Q I (n + 1) listed a w := by
  refine ⟨fun h0 => absurd (hr.symm.trans h0) (by simp), fun m hm => ?_⟩
  rw [hr] at hm
  rcases List.mem_cons.1 hm with rfl | hm
  · exact wpOp_step hi (fun K hK => h1 K fun a w k1 k2 => hK a w ⟨k1, k2⟩)
  · rcases List.mem_cons.1 hm with rfl | hm
    · exact wpOp_step hj (fun K hK => h2 K fun a w k1 k2 => hK a w ⟨k1, k2⟩)
    · obtain rfl := List.mem_singleton.1 hm
      exact wpOp_step hk (fun K hK => h3 K fun a w k1 k2 => hK a w ⟨k1, k2⟩)
end
end Go.Drawn
namespace Go.Box
open Go
theorem Bx.grown {w W : World} {L : List (Nat × Obj)} (h : Bx w L W) (o : Obj) : Bx w L (W.alloc o) := (h.push o).tail
end Go.Box
namespace Go.Proofs.YtiamdmfhkhlppaaDoor
open Go.RowKit Go.Wd Go.Box
set_option linter.unusedVariables false
set_option maxRecDepth 3000
/-- What is the same whatever the order was is shown once. -/
theorem suppose7 {F G : Nat → Nat → World → Option Addr → Nat → Option Addr → Nat → Prop} {T : Prop} (h : (∀ a b c d e f g, F a b c d e f g → G a b c d e f g) → T) (k : ∀ a b c d e f g, F a b c d e f g → G a b c d e f g) : T := h k
theorem lie_set3 {W : World} {g : Nat} {a : Option Addr} {zs : List Int} (hg : W.heap[g]? = some (DO false none 0 0 0)) (v0 v1 v2 : Value) (l : Lie W a zs) :
    Lie (((W.setCell ⟨g, 0, none⟩ v0).setCell ⟨g, 1, none⟩ v1).setCell ⟨g, 2, none⟩ v2) a zs :=
  (Live.set3 (g := g) ⟨hg, rfl⟩ v0 v1 v2 (Live.one l)).all (a, zs) (.head _)
theorem mark2 (B : Nat) (w : World) (n0 : Bool) (a0 : Option Addr) (c0 : Nat) (z0 : List Int) (x0 : Int) (r0 : WrA B w a0 z0.length) (h0 : z0.length ≤ 1000000) (n1 : Bool) (a1 : Option Addr) (c1 : Nat) (z1 : List Int) (x1 : Int) (r1 : WrA B w a1 z1.length) (h1 : z1.length ≤ 1000000) :
    Calls Tryd.prog 33 #[.slice (some ⟨w.heap.size, 0, none⟩) 2 2] (w.alloc (.cells #[.bool n0, .slice a0 z0.length c0, .int .i64 x0, .bool n1, .slice a1 z1.length c1, .int .i64 x1] 36)) fun e w' => e = .returned (.tuple #[]) ∧ Below B (w.alloc (.cells #[.bool n0, .slice a0 z0.length c0, .int .i64 x0, .bool n1, .slice a1 z1.length c1, .int .i64 x1] 36)) w' := by
  have bm := below_alloc w (.cells #[.bool n0, .slice a0 z0.length c0, .int .i64 x0, .bool n1, .slice a1 z1.length c1, .int .i64 x1] 36)
  refine dmark42 B w.heap.size #[.bool n0, .slice a0 z0.length c0, .int .i64 x0, .bool n1, .slice a1 z1.length c1, .int .i64 x1] [⟨n0, a0, c0, z0, x0⟩, ⟨n1, a1, c1, z1, x1⟩] _ ⟨Below.refl _ _, heap_alloc_new _ _, ?_⟩ ?_ (by simp) ?_
  · intro i x hx
    match i, hx with
    | 0, hx => cases hx; exact r0.below (C := 0) bm
    | 1, hx => cases hx; exact r1.below (C := 0) bm
  · intro i x hx
    match i, hx with
    | 0, hx => cases hx; rfl
    | 1, hx => cases hx; rfl
  · intro i x hx
    match i, hx with
    | 0, hx => cases hx; exact h0
    | 1, hx => cases hx; exact h1
theorem mark3 (B : Nat) (w : World) (n0 : Bool) (a0 : Option Addr) (c0 : Nat) (z0 : List Int) (x0 : Int) (r0 : WrA B w a0 z0.length) (h0 : z0.length ≤ 1000000) (n1 : Bool) (a1 : Option Addr) (c1 : Nat) (z1 : List Int) (x1 : Int) (r1 : WrA B w a1 z1.length) (h1 : z1.length ≤ 1000000) (n2 : Bool) (a2 : Option Addr) (c2 : Nat) (z2 : List Int) (x2 : Int) (r2 : WrA B w a2 z2.length) (h2 : z2.length ≤ 1000000) :
    Calls Tryd.prog 33 #[.slice (some ⟨w.heap.size, 0, none⟩) 3 3] (w.alloc (.cells #[.bool n0, .slice a0 z0.length c0, .int .i64 x0, .bool n1, .slice a1 z1.length c1, .int .i64 x1, .bool n2, .slice a2 z2.length c2, .int .i64 x2] 36)) fun e w' => e = .returned (.tuple #[]) ∧ Below B (w.alloc (.cells #[.bool n0, .slice a0 z0.length c0, .int .i64 x0, .bool n1, .slice a1 z1.length c1, .int .i64 x1, .bool n2, .slice a2 z2.length c2, .int .i64 x2] 36)) w' := by
  have bm := below_alloc w (.cells #[.bool n0, .slice a0 z0.length c0, .int .i64 x0, .bool n1, .slice a1 z1.length c1, .int .i64 x1, .bool n2, .slice a2 z2.length c2, .int .i64 x2] 36)
  refine dmark42 B w.heap.size #[.bool n0, .slice a0 z0.length c0, .int .i64 x0, .bool n1, .slice a1 z1.length c1, .int .i64 x1, .bool n2, .slice a2 z2.length c2, .int .i64 x2] [⟨n0, a0, c0, z0, x0⟩, ⟨n1, a1, c1, z1, x1⟩, ⟨n2, a2, c2, z2, x2⟩] _ ⟨Below.refl _ _, heap_alloc_new _ _, ?_⟩ ?_ (by simp) ?_
  · intro i x hx
    match i, hx with
    | 0, hx => cases hx; exact r0.below (C := 0) bm
    | 1, hx => cases hx; exact r1.below (C := 0) bm
    | 2, hx => cases hx; exact r2.below (C := 0) bm
  · intro i x hx
    match i, hx with
    | 0, hx => cases hx; rfl
    | 1, hx => cases hx; rfl
    | 2, hx => cases hx; rfl
  · intro i x hx
    match i, hx with
    | 0, hx => cases hx; exact h0
    | 1, hx => cases hx; exact h1
    | 2, hx => cases hx; exact h2
theorem DV.list {w w' : World} {s E : Int} {ng : Bool} {a : Option Addr} {k c : Nat} {ex code : Int} (h : DV w w' s E ng a k c ex code) : ∃ zs : List Int, k = zs.length ∧ zs.length ≤ 4096 ∧ WrA w.heap.size w' a zs.length := by
  rcases h.all with ⟨_, _, _, rfl, _⟩ | ⟨_, t, _, ⟨_, _, _, _, _, zs, rfl, j6, j7⟩ | ⟨_, _, _, rfl, _⟩ | ⟨_, _, _, _, rfl, _⟩⟩
  · exact ⟨[], rfl, by simp, .inl rfl⟩
  · exact ⟨zs, rfl, j6.len, j7.wrA⟩
  · exact ⟨[], rfl, by simp, .inl rfl⟩
  · exact ⟨[], rfl, by simp, .inl rfl⟩
theorem WrA.weak {B C : Nat} {w : World} {a : Option Addr} {n : Nat} (h : WrA C w a n) (hB : B ≤ C) : WrA B w a n := by
  rcases h with h | ⟨g, cur, h1, h2, h3, h4⟩
  · exact .inl h
  · exact .inr ⟨g, cur, h1, by omega, h3, h4⟩
theorem dsign_bad (n : Bool) (a : Option Addr) (c : Nat) (zs : List Int) (ex : Int) (w : World) (u : DLie w a zs) (hq : dmayB n zs ex = false) :
    Calls Tryd.prog 26 #[dV n a zs.length c ex] w fun e w' => e = .returned (.int .i64 0) ∧ Below w.heap.size w w' := by
  have B1 := (Bx.nil w).push (DO n a zs.length c ex)
  go_enter Tryd.func26, Tryd.ntmps26
  go_wp2_with fail
  refine (u.may n c ex false hq _ B1.bel).mono ?_
  rintro e w2 ⟨rfl, h2⟩
  have B2 := B1.keep h2
  clear h2 B1 u
  go_wp2
  go_ret
  exact ⟨rfl, B2.bel⟩
theorem dtop_bad (n : Bool) (a : Option Addr) (c : Nat) (zs : List Int) (ex : Int) (w : World) (u : DLie w a zs) (hq : dmayB n zs ex = false) :
    Calls Tryd.prog 27 #[dV n a zs.length c ex] w fun e w' => e = .returned (.int .i64 0) ∧ Below w.heap.size w w' := by
  have B1 := (Bx.nil w).push (DO n a zs.length c ex)
  go_enter Tryd.func27, Tryd.ntmps27
  go_wp2_with fail
  refine (u.may n c ex false hq _ B1.bel).mono ?_
  rintro e w2 ⟨rfl, h2⟩
  have B2 := B1.keep h2
  clear h2 B1 u
  go_wp2
  go_ret
  exact ⟨rfl, B2.bel⟩
theorem noWr (B : Nat) (w : World) : WrA B w none ([] : List Int).length := .inl rfl
set_option maxHeartbeats 40000000 in
theorem sums_all (n1 n2 : Bool) (a1 a2 : Option Addr) (c1 c2 : Nat) (z1 z2 : List Int) (e1 e2 : Int) (w : World) (u1 : DLie w a1 z1) (u2 : DLie w a2 z2) (hl1 : (z1.length : Int) ≤ 4100) (hl2 : (z2.length : Int) ≤ 4100) (hp : (z1.length : Int) * (z2.length : Int) ≤ 1048576) (hp0 : 0 ≤ (z1.length : Int) * (z2.length : Int)) (hm1 : z1.length ≤ 1000000) (hm2 : z2.length ≤ 1000000) (hn1 : a1 = none → c1 = 0) (hn2 : a2 = none → c2 = 0) (hT : Tab w) :
    Calls Tryd.prog 5 #[dV n1 a1 z1.length c1 e1, dV n2 a2 z2.length c2 e2] w fun e w' => e = .returned (.bool true) ∧ Below w.heap.size w w' := by
  have l1 := u1.lie
  have l2 := u2.lie
  have B1 := ((Bx.nil w).push (DO n1 a1 z1.length c1 e1)).push (DO n2 a2 z2.length c2 e2)
  go_enter Tryd.func5, Tryd.ntmps5
  go_wp2_with fail
  rw [show (w.alloc (DO n1 a1 z1.length c1 e1)).heap.size = w.heap.size + 1 by simp] at B1
  generalize hw1 : (w.alloc (DO n1 a1 z1.length c1 e1)).alloc (DO n2 a2 z2.length c2 e2) = w1 at *
  clear hw1
  have HF := B1.drew
  have HI := HF
  have sh := fun W (hW : Bx w [(w.heap.size + 1, DO n2 a2 z2.length c2 e2), (w.heap.size, DO n1 a1 z1.length c1 e1)] W) => And.intro (cells3 hW (w.heap.size + 1) _ _ _ _ (.head _)).1 (cells3 hW w.heap.size _ _ _ _ (.tail _ (.head _))).1
  refine Drawn.enter (Bx w [(w.heap.size + 1, DO n2 a2 z2.length c2 e2), (w.heap.size, DO n1 a1 z1.length c1 e1)]) (by kernel_rfl) ?_
  refine Drawn.take (i := 0) (v := ?v0) rfl (by kernel_rfl) (by kernel_rfl) (by kernel_rfl) (fun _ _ _ h => h) (by kernel_rfl) (fun W hW => ?_) HI ?_
  rotate_left
  · have ⟨⟨s0, s1, s2⟩, q0, q3, q4⟩ := sh W hW
    go_simp <;> exact rfl
  refine Drawn.take (i := 2) (v := ?v1) rfl (by kernel_rfl) (by kernel_rfl) (by kernel_rfl) (fun _ _ _ h => h) (by kernel_rfl) (fun W hW => ?_) HI ?_
  rotate_left
  · have ⟨⟨s0, s1, s2⟩, q0, q3, q4⟩ := sh W hW
    go_simp <;> exact rfl
  generalize hdr : w1.drew = W00 at *
  clear hdr
  refine suppose7 (F := fun g5 g6 W ax cx ay cy => Bx w [(g6, DO n2 ay z2.length cy e2), (g5, DO n1 ax z1.length cx e1), (w.heap.size + 1, DO n2 a2 z2.length c2 e2), (w.heap.size, DO n1 a1 z1.length c1 e1)] W ∧ Lie W ax z1 ∧ Lie W ay z2) (G := ?G) (fun Rest => ?main) ?rest
  case main =>
    refine Drawn.trio (i := 1) (j := 4) (k := 5) (by kernel_rfl) rfl rfl rfl (fun K hK => ?_) (fun K hK => ?_) (fun K hK => ?_)
    · go_simp
      refine (dlent35 n1 a1 c1 z1 e1 _ (l1.below HF.bel (Nat.le_refl _)) hm1 hn1).mono ?_
      rintro e W0 ⟨ax, cx, rfl, lx, hn, _⟩
      refine hK _ _ (HI.keep hn) ?_
      clear hK K
      replace HI := HI.keep hn
      replace HF := HF.keep hn
      clear hn
      refine Drawn.trio (i := 3) (j := 4) (k := 5) (by kernel_rfl) rfl rfl rfl (fun K hK => ?_) (fun K hK => ?_) (fun K hK => ?_)
      · go_simp
        refine (dlent35 n2 a2 c2 z2 e2 _ (l2.below HF.bel (Nat.le_refl _)) hm2 hn2).mono ?_
        rintro e W1 ⟨ay, cy, rfl, ly, hn, _⟩
        refine hK _ _ (HI.keep hn) ?_
        clear hK K
        replace HI := HI.keep hn
        replace HF := HF.keep hn
        replace lx := lx.below hn (Nat.le_refl _)
        clear hn
        refine Drawn.pair (i := 4) (j := 5) (by kernel_rfl) rfl rfl (fun K hK => ?_) (fun K hK => ?_)
        · go_simp
          refine hK _ _ (HI.grown (DO false none 0 0 0)) ?_
          clear hK K
          have o5 : w.heap.size + 1 < W1.heap.size := HF.lt (p := (w.heap.size + 1, DO n2 a2 z2.length c2 e2)) (by simp)
          replace HI := HI.grown (DO false none 0 0 0)
          replace HF := HF.push (DO false none 0 0 0)
          replace lx := lx.below (below_alloc W1 (DO false none 0 0 0)) (Nat.le_refl _)
          replace ly := ly.below (below_alloc W1 (DO false none 0 0 0)) (Nat.le_refl _)
          generalize hg5 : W1.alloc (DO false none 0 0 0) = W2 at *
          clear hg5
          generalize hh5 : W1.heap.size = g5 at *
          clear hh5
          refine Drawn.one (j := 5) (by kernel_rfl) rfl (fun K hK => ?_)
          go_simp
          refine hK _ _ (HI.grown (DO false none 0 0 0)) ?_
          clear hK K
          have o6 : w.heap.size + 1 < W2.heap.size := HF.lt (p := (w.heap.size + 1, DO n2 a2 z2.length c2 e2)) (by simp)
          have o56 : g5 < W2.heap.size := HF.lt (p := (g5, DO false none 0 0 0)) (by simp)
          replace HI := HI.grown (DO false none 0 0 0)
          replace HF := HF.push (DO false none 0 0 0)
          replace lx := lx.below (below_alloc W2 (DO false none 0 0 0)) (Nat.le_refl _)
          replace ly := ly.below (below_alloc W2 (DO false none 0 0 0)) (Nat.le_refl _)
          generalize hg6 : W2.alloc (DO false none 0 0 0) = W3 at *
          clear hg6
          generalize hh6 : W2.heap.size = g6 at *
          clear hh6
          replace HF := HF.sub (L' := [(g5, DO false none 0 0 0), (g6, DO false none 0 0 0), (w.heap.size + 1, DO n2 a2 z2.length c2 e2), (w.heap.size, DO n1 a1 z1.length c1 e1)]) (by simp)
          have H5 := HF.head
          obtain ⟨⟨f0, f1, f2⟩, r0, r1, r2⟩ := cells3 HF g5 _ _ _ _ (.head _)
          replace lx := lie_set3 H5 (.bool n1) (.slice ax z1.length cx) (.int .i64 e1) lx
          replace ly := lie_set3 H5 (.bool n1) (.slice ax z1.length cx) (.int .i64 e1) ly
          replace HF := HF.fill3 (by omega) (by simp; omega) (.bool n1) (.slice ax z1.length cx) (.int .i64 e1)
          refine Drawn.one (j := 6) (by kernel_rfl) rfl (fun K hK => ?_)
          go_simp
          refine hK _ _ (HF.sub (by simp)) ?_
          clear hK K f0 f1 f2 r0 r1 r2 H5
          replace HF := HF.sub (L' := [(g6, DO false none 0 0 0), (g5, DO n1 ax z1.length cx e1), (w.heap.size + 1, DO n2 a2 z2.length c2 e2), (w.heap.size, DO n1 a1 z1.length c1 e1)]) (by simp)
          have H5 := HF.head
          obtain ⟨⟨f0, f1, f2⟩, r0, r1, r2⟩ := cells3 HF g6 _ _ _ _ (.head _)
          replace lx := lie_set3 H5 (.bool n2) (.slice ay z2.length cy) (.int .i64 e2) lx
          replace ly := lie_set3 H5 (.bool n2) (.slice ay z2.length cy) (.int .i64 e2) ly
          replace HF := HF.fill3 (by omega) (by simp; omega) (.bool n2) (.slice ay z2.length cy) (.int .i64 e2)
          refine Drawn.one (j := 7) (by kernel_rfl) rfl (fun K hK => ?_)
          go_simp
          refine hK _ _ (HF.sub (by simp)) ?_
          clear hK K f0 f1 f2 r0 r1 r2 H5
          refine Drawn.done (by kernel_rfl) ?_
          try go_simp
          generalize hWf : ((((((W3.setCell ⟨g5, 0, none⟩ (.bool n1)).setCell ⟨g5, 1, none⟩ (.slice ax z1.length cx)).setCell ⟨g5, 2, none⟩ (.int .i64 e1)).setCell ⟨g6, 0, none⟩ (.bool n2)).setCell ⟨g6, 1, none⟩ (.slice ay z2.length cy)).setCell ⟨g6, 2, none⟩ (.int .i64 e2)) = Wf at *
          exact Rest g5 g6 Wf ax cx ay cy ⟨HF, lx, ly⟩
        · go_simp
          refine hK _ _ (HI.grown (DO false none 0 0 0)) ?_
          clear hK K
          have o6 : w.heap.size + 1 < W1.heap.size := HF.lt (p := (w.heap.size + 1, DO n2 a2 z2.length c2 e2)) (by simp)
          replace HI := HI.grown (DO false none 0 0 0)
          replace HF := HF.push (DO false none 0 0 0)
          replace lx := lx.below (below_alloc W1 (DO false none 0 0 0)) (Nat.le_refl _)
          replace ly := ly.below (below_alloc W1 (DO false none 0 0 0)) (Nat.le_refl _)
          generalize hg6 : W1.alloc (DO false none 0 0 0) = W4 at *
          clear hg6
          generalize hh6 : W1.heap.size = g6 at *
          clear hh6
          refine Drawn.one (j := 4) (by kernel_rfl) rfl (fun K hK => ?_)
          go_simp
          refine hK _ _ (HI.grown (DO false none 0 0 0)) ?_
          clear hK K
          have o5 : w.heap.size + 1 < W4.heap.size := HF.lt (p := (w.heap.size + 1, DO n2 a2 z2.length c2 e2)) (by simp)
          have o56 : g6 < W4.heap.size := HF.lt (p := (g6, DO false none 0 0 0)) (by simp)
          replace HI := HI.grown (DO false none 0 0 0)
          replace HF := HF.push (DO false none 0 0 0)
          replace lx := lx.below (below_alloc W4 (DO false none 0 0 0)) (Nat.le_refl _)
          replace ly := ly.below (below_alloc W4 (DO false none 0 0 0)) (Nat.le_refl _)
          generalize hg5 : W4.alloc (DO false none 0 0 0) = W5 at *
          clear hg5
          generalize hh5 : W4.heap.size = g5 at *
          clear hh5
          replace HF := HF.sub (L' := [(g5, DO false none 0 0 0), (g6, DO false none 0 0 0), (w.heap.size + 1, DO n2 a2 z2.length c2 e2), (w.heap.size, DO n1 a1 z1.length c1 e1)]) (by simp)
          have H5 := HF.head
          obtain ⟨⟨f0, f1, f2⟩, r0, r1, r2⟩ := cells3 HF g5 _ _ _ _ (.head _)
          replace lx := lie_set3 H5 (.bool n1) (.slice ax z1.length cx) (.int .i64 e1) lx
          replace ly := lie_set3 H5 (.bool n1) (.slice ax z1.length cx) (.int .i64 e1) ly
          replace HF := HF.fill3 (by omega) (by simp; omega) (.bool n1) (.slice ax z1.length cx) (.int .i64 e1)
          refine Drawn.one (j := 6) (by kernel_rfl) rfl (fun K hK => ?_)
          go_simp
          refine hK _ _ (HF.sub (by simp)) ?_
          clear hK K f0 f1 f2 r0 r1 r2 H5
          replace HF := HF.sub (L' := [(g6, DO false none 0 0 0), (g5, DO n1 ax z1.length cx e1), (w.heap.size + 1, DO n2 a2 z2.length c2 e2), (w.heap.size, DO n1 a1 z1.length c1 e1)]) (by simp)
          have H5 := HF.head
          obtain ⟨⟨f0, f1, f2⟩, r0, r1, r2⟩ := cells3 HF g6 _ _ _ _ (.head _)
          replace lx := lie_set3 H5 (.bool n2) (.slice ay z2.length cy) (.int .i64 e2) lx
          replace ly := lie_set3 H5 (.bool n2) (.slice ay z2.length cy) (.int .i64 e2) ly
          replace HF := HF.fill3 (by omega) (by simp; omega) (.bool n2) (.slice ay z2.length cy) (.int .i64 e2)
          refine Drawn.one (j := 7) (by kernel_rfl) rfl (fun K hK => ?_)
          go_simp
          refine hK _ _ (HF.sub (by simp)) ?_
          clear hK K f0 f1 f2 r0 r1 r2 H5
          refine Drawn.done (by kernel_rfl) ?_
          try go_simp
          generalize hWf : ((((((W5.setCell ⟨g5, 0, none⟩ (.bool n1)).setCell ⟨g5, 1, none⟩ (.slice ax z1.length cx)).setCell ⟨g5, 2, none⟩ (.int .i64 e1)).setCell ⟨g6, 0, none⟩ (.bool n2)).setCell ⟨g6, 1, none⟩ (.slice ay z2.length cy)).setCell ⟨g6, 2, none⟩ (.int .i64 e2)) = Wf at *
          exact Rest g5 g6 Wf ax cx ay cy ⟨HF, lx, ly⟩
      · go_simp
        refine hK _ _ (HI.grown (DO false none 0 0 0)) ?_
        clear hK K
        have o5 : w.heap.size + 1 < W0.heap.size := HF.lt (p := (w.heap.size + 1, DO n2 a2 z2.length c2 e2)) (by simp)
        replace HI := HI.grown (DO false none 0 0 0)
        replace HF := HF.push (DO false none 0 0 0)
        replace lx := lx.below (below_alloc W0 (DO false none 0 0 0)) (Nat.le_refl _)
        generalize hg5 : W0.alloc (DO false none 0 0 0) = W6 at *
        clear hg5
        generalize hh5 : W0.heap.size = g5 at *
        clear hh5
        refine Drawn.pair (i := 3) (j := 5) (by kernel_rfl) rfl rfl (fun K hK => ?_) (fun K hK => ?_)
        · go_simp
          refine (dlent35 n2 a2 c2 z2 e2 _ (l2.below HF.bel (Nat.le_refl _)) hm2 hn2).mono ?_
          rintro e W7 ⟨ay, cy, rfl, ly, hn, _⟩
          refine hK _ _ (HI.keep hn) ?_
          clear hK K
          replace HI := HI.keep hn
          replace HF := HF.keep hn
          replace lx := lx.below hn (Nat.le_refl _)
          clear hn
          refine Drawn.one (j := 5) (by kernel_rfl) rfl (fun K hK => ?_)
          go_simp
          refine hK _ _ (HI.grown (DO false none 0 0 0)) ?_
          clear hK K
          have o6 : w.heap.size + 1 < W7.heap.size := HF.lt (p := (w.heap.size + 1, DO n2 a2 z2.length c2 e2)) (by simp)
          have o56 : g5 < W7.heap.size := HF.lt (p := (g5, DO false none 0 0 0)) (by simp)
          replace HI := HI.grown (DO false none 0 0 0)
          replace HF := HF.push (DO false none 0 0 0)
          replace lx := lx.below (below_alloc W7 (DO false none 0 0 0)) (Nat.le_refl _)
          replace ly := ly.below (below_alloc W7 (DO false none 0 0 0)) (Nat.le_refl _)
          generalize hg6 : W7.alloc (DO false none 0 0 0) = W8 at *
          clear hg6
          generalize hh6 : W7.heap.size = g6 at *
          clear hh6
          replace HF := HF.sub (L' := [(g5, DO false none 0 0 0), (g6, DO false none 0 0 0), (w.heap.size + 1, DO n2 a2 z2.length c2 e2), (w.heap.size, DO n1 a1 z1.length c1 e1)]) (by simp)
          have H5 := HF.head
          obtain ⟨⟨f0, f1, f2⟩, r0, r1, r2⟩ := cells3 HF g5 _ _ _ _ (.head _)
          replace lx := lie_set3 H5 (.bool n1) (.slice ax z1.length cx) (.int .i64 e1) lx
          replace ly := lie_set3 H5 (.bool n1) (.slice ax z1.length cx) (.int .i64 e1) ly
          replace HF := HF.fill3 (by omega) (by simp; omega) (.bool n1) (.slice ax z1.length cx) (.int .i64 e1)
          refine Drawn.one (j := 6) (by kernel_rfl) rfl (fun K hK => ?_)
          go_simp
          refine hK _ _ (HF.sub (by simp)) ?_
          clear hK K f0 f1 f2 r0 r1 r2 H5
          replace HF := HF.sub (L' := [(g6, DO false none 0 0 0), (g5, DO n1 ax z1.length cx e1), (w.heap.size + 1, DO n2 a2 z2.length c2 e2), (w.heap.size, DO n1 a1 z1.length c1 e1)]) (by simp)
          have H5 := HF.head
          obtain ⟨⟨f0, f1, f2⟩, r0, r1, r2⟩ := cells3 HF g6 _ _ _ _ (.head _)
          replace lx := lie_set3 H5 (.bool n2) (.slice ay z2.length cy) (.int .i64 e2) lx
          replace ly := lie_set3 H5 (.bool n2) (.slice ay z2.length cy) (.int .i64 e2) ly
          replace HF := HF.fill3 (by omega) (by simp; omega) (.bool n2) (.slice ay z2.length cy) (.int .i64 e2)
          refine Drawn.one (j := 7) (by kernel_rfl) rfl (fun K hK => ?_)
          go_simp
          refine hK _ _ (HF.sub (by simp)) ?_
          clear hK K f0 f1 f2 r0 r1 r2 H5
          refine Drawn.done (by kernel_rfl) ?_
          try go_simp
          generalize hWf : ((((((W8.setCell ⟨g5, 0, none⟩ (.bool n1)).setCell ⟨g5, 1, none⟩ (.slice ax z1.length cx)).setCell ⟨g5, 2, none⟩ (.int .i64 e1)).setCell ⟨g6, 0, none⟩ (.bool n2)).setCell ⟨g6, 1, none⟩ (.slice ay z2.length cy)).setCell ⟨g6, 2, none⟩ (.int .i64 e2)) = Wf at *
          exact Rest g5 g6 Wf ax cx ay cy ⟨HF, lx, ly⟩
        · go_simp
          refine hK _ _ (HI.grown (DO false none 0 0 0)) ?_
          clear hK K
          have o6 : w.heap.size + 1 < W6.heap.size := HF.lt (p := (w.heap.size + 1, DO n2 a2 z2.length c2 e2)) (by simp)
          have o56 : g5 < W6.heap.size := HF.lt (p := (g5, DO false none 0 0 0)) (by simp)
          replace HI := HI.grown (DO false none 0 0 0)
          replace HF := HF.push (DO false none 0 0 0)
          replace lx := lx.below (below_alloc W6 (DO false none 0 0 0)) (Nat.le_refl _)
          generalize hg6 : W6.alloc (DO false none 0 0 0) = W9 at *
          clear hg6
          generalize hh6 : W6.heap.size = g6 at *
          clear hh6
          refine Drawn.one (j := 3) (by kernel_rfl) rfl (fun K hK => ?_)
          go_simp
          refine (dlent35 n2 a2 c2 z2 e2 _ (l2.below HF.bel (Nat.le_refl _)) hm2 hn2).mono ?_
          rintro e W10 ⟨ay, cy, rfl, ly, hn, _⟩
          refine hK _ _ (HI.keep hn) ?_
          clear hK K
          replace HI := HI.keep hn
          replace HF := HF.keep hn
          replace lx := lx.below hn (Nat.le_refl _)
          clear hn
          replace HF := HF.sub (L' := [(g5, DO false none 0 0 0), (g6, DO false none 0 0 0), (w.heap.size + 1, DO n2 a2 z2.length c2 e2), (w.heap.size, DO n1 a1 z1.length c1 e1)]) (by simp)
          have H5 := HF.head
          obtain ⟨⟨f0, f1, f2⟩, r0, r1, r2⟩ := cells3 HF g5 _ _ _ _ (.head _)
          replace lx := lie_set3 H5 (.bool n1) (.slice ax z1.length cx) (.int .i64 e1) lx
          replace ly := lie_set3 H5 (.bool n1) (.slice ax z1.length cx) (.int .i64 e1) ly
          replace HF := HF.fill3 (by omega) (by simp; omega) (.bool n1) (.slice ax z1.length cx) (.int .i64 e1)
          refine Drawn.one (j := 6) (by kernel_rfl) rfl (fun K hK => ?_)
          go_simp
          refine hK _ _ (HF.sub (by simp)) ?_
          clear hK K f0 f1 f2 r0 r1 r2 H5
          replace HF := HF.sub (L' := [(g6, DO false none 0 0 0), (g5, DO n1 ax z1.length cx e1), (w.heap.size + 1, DO n2 a2 z2.length c2 e2), (w.heap.size, DO n1 a1 z1.length c1 e1)]) (by simp)
          have H5 := HF.head
          obtain ⟨⟨f0, f1, f2⟩, r0, r1, r2⟩ := cells3 HF g6 _ _ _ _ (.head _)
          replace lx := lie_set3 H5 (.bool n2) (.slice ay z2.length cy) (.int .i64 e2) lx
          replace ly := lie_set3 H5 (.bool n2) (.slice ay z2.length cy) (.int .i64 e2) ly
          replace HF := HF.fill3 (by omega) (by simp; omega) (.bool n2) (.slice ay z2.length cy) (.int .i64 e2)
          refine Drawn.one (j := 7) (by kernel_rfl) rfl (fun K hK => ?_)
          go_simp
          refine hK _ _ (HF.sub (by simp)) ?_
          clear hK K f0 f1 f2 r0 r1 r2 H5
          refine Drawn.done (by kernel_rfl) ?_
          try go_simp
          generalize hWf : ((((((W10.setCell ⟨g5, 0, none⟩ (.bool n1)).setCell ⟨g5, 1, none⟩ (.slice ax z1.length cx)).setCell ⟨g5, 2, none⟩ (.int .i64 e1)).setCell ⟨g6, 0, none⟩ (.bool n2)).setCell ⟨g6, 1, none⟩ (.slice ay z2.length cy)).setCell ⟨g6, 2, none⟩ (.int .i64 e2)) = Wf at *
          exact Rest g5 g6 Wf ax cx ay cy ⟨HF, lx, ly⟩
      · go_simp
        refine hK _ _ (HI.grown (DO false none 0 0 0)) ?_
        clear hK K
        have o6 : w.heap.size + 1 < W0.heap.size := HF.lt (p := (w.heap.size + 1, DO n2 a2 z2.length c2 e2)) (by simp)
        replace HI := HI.grown (DO false none 0 0 0)
        replace HF := HF.push (DO false none 0 0 0)
        replace lx := lx.below (below_alloc W0 (DO false none 0 0 0)) (Nat.le_refl _)
        generalize hg6 : W0.alloc (DO false none 0 0 0) = W11 at *
        clear hg6
        generalize hh6 : W0.heap.size = g6 at *
        clear hh6
        refine Drawn.pair (i := 3) (j := 4) (by kernel_rfl) rfl rfl (fun K hK => ?_) (fun K hK => ?_)
        · go_simp
          refine (dlent35 n2 a2 c2 z2 e2 _ (l2.below HF.bel (Nat.le_refl _)) hm2 hn2).mono ?_
          rintro e W12 ⟨ay, cy, rfl, ly, hn, _⟩
          refine hK _ _ (HI.keep hn) ?_
          clear hK K
          replace HI := HI.keep hn
          replace HF := HF.keep hn
          replace lx := lx.below hn (Nat.le_refl _)
          clear hn
          refine Drawn.one (j := 4) (by kernel_rfl) rfl (fun K hK => ?_)
          go_simp
          refine hK _ _ (HI.grown (DO false none 0 0 0)) ?_
          clear hK K
          have o5 : w.heap.size + 1 < W12.heap.size := HF.lt (p := (w.heap.size + 1, DO n2 a2 z2.length c2 e2)) (by simp)
          have o56 : g6 < W12.heap.size := HF.lt (p := (g6, DO false none 0 0 0)) (by simp)
          replace HI := HI.grown (DO false none 0 0 0)
          replace HF := HF.push (DO false none 0 0 0)
          replace lx := lx.below (below_alloc W12 (DO false none 0 0 0)) (Nat.le_refl _)
          replace ly := ly.below (below_alloc W12 (DO false none 0 0 0)) (Nat.le_refl _)
          generalize hg5 : W12.alloc (DO false none 0 0 0) = W13 at *
          clear hg5
          generalize hh5 : W12.heap.size = g5 at *
          clear hh5
          replace HF := HF.sub (L' := [(g5, DO false none 0 0 0), (g6, DO false none 0 0 0), (w.heap.size + 1, DO n2 a2 z2.length c2 e2), (w.heap.size, DO n1 a1 z1.length c1 e1)]) (by simp)
          have H5 := HF.head
          obtain ⟨⟨f0, f1, f2⟩, r0, r1, r2⟩ := cells3 HF g5 _ _ _ _ (.head _)
          replace lx := lie_set3 H5 (.bool n1) (.slice ax z1.length cx) (.int .i64 e1) lx
          replace ly := lie_set3 H5 (.bool n1) (.slice ax z1.length cx) (.int .i64 e1) ly
          replace HF := HF.fill3 (by omega) (by simp; omega) (.bool n1) (.slice ax z1.length cx) (.int .i64 e1)
          refine Drawn.one (j := 6) (by kernel_rfl) rfl (fun K hK => ?_)
          go_simp
          refine hK _ _ (HF.sub (by simp)) ?_
          clear hK K f0 f1 f2 r0 r1 r2 H5
          replace HF := HF.sub (L' := [(g6, DO false none 0 0 0), (g5, DO n1 ax z1.length cx e1), (w.heap.size + 1, DO n2 a2 z2.length c2 e2), (w.heap.size, DO n1 a1 z1.length c1 e1)]) (by simp)
          have H5 := HF.head
          obtain ⟨⟨f0, f1, f2⟩, r0, r1, r2⟩ := cells3 HF g6 _ _ _ _ (.head _)
          replace lx := lie_set3 H5 (.bool n2) (.slice ay z2.length cy) (.int .i64 e2) lx
          replace ly := lie_set3 H5 (.bool n2) (.slice ay z2.length cy) (.int .i64 e2) ly
          replace HF := HF.fill3 (by omega) (by simp; omega) (.bool n2) (.slice ay z2.length cy) (.int .i64 e2)
          refine Drawn.one (j := 7) (by kernel_rfl) rfl (fun K hK => ?_)
          go_simp
          refine hK _ _ (HF.sub (by simp)) ?_
          clear hK K f0 f1 f2 r0 r1 r2 H5
          refine Drawn.done (by kernel_rfl) ?_
          try go_simp
          generalize hWf : ((((((W13.setCell ⟨g5, 0, none⟩ (.bool n1)).setCell ⟨g5, 1, none⟩ (.slice ax z1.length cx)).setCell ⟨g5, 2, none⟩ (.int .i64 e1)).setCell ⟨g6, 0, none⟩ (.bool n2)).setCell ⟨g6, 1, none⟩ (.slice ay z2.length cy)).setCell ⟨g6, 2, none⟩ (.int .i64 e2)) = Wf at *
          exact Rest g5 g6 Wf ax cx ay cy ⟨HF, lx, ly⟩
        · go_simp
          refine hK _ _ (HI.grown (DO false none 0 0 0)) ?_
          clear hK K
          have o5 : w.heap.size + 1 < W11.heap.size := HF.lt (p := (w.heap.size + 1, DO n2 a2 z2.length c2 e2)) (by simp)
          have o56 : g6 < W11.heap.size := HF.lt (p := (g6, DO false none 0 0 0)) (by simp)
          replace HI := HI.grown (DO false none 0 0 0)
          replace HF := HF.push (DO false none 0 0 0)
          replace lx := lx.below (below_alloc W11 (DO false none 0 0 0)) (Nat.le_refl _)
          generalize hg5 : W11.alloc (DO false none 0 0 0) = W14 at *
          clear hg5
          generalize hh5 : W11.heap.size = g5 at *
          clear hh5
          refine Drawn.one (j := 3) (by kernel_rfl) rfl (fun K hK => ?_)
          go_simp
          refine (dlent35 n2 a2 c2 z2 e2 _ (l2.below HF.bel (Nat.le_refl _)) hm2 hn2).mono ?_
          rintro e W15 ⟨ay, cy, rfl, ly, hn, _⟩
          refine hK _ _ (HI.keep hn) ?_
          clear hK K
          replace HI := HI.keep hn
          replace HF := HF.keep hn
          replace lx := lx.below hn (Nat.le_refl _)
          clear hn
          replace HF := HF.sub (L' := [(g5, DO false none 0 0 0), (g6, DO false none 0 0 0), (w.heap.size + 1, DO n2 a2 z2.length c2 e2), (w.heap.size, DO n1 a1 z1.length c1 e1)]) (by simp)
          have H5 := HF.head
          obtain ⟨⟨f0, f1, f2⟩, r0, r1, r2⟩ := cells3 HF g5 _ _ _ _ (.head _)
          replace lx := lie_set3 H5 (.bool n1) (.slice ax z1.length cx) (.int .i64 e1) lx
          replace ly := lie_set3 H5 (.bool n1) (.slice ax z1.length cx) (.int .i64 e1) ly
          replace HF := HF.fill3 (by omega) (by simp; omega) (.bool n1) (.slice ax z1.length cx) (.int .i64 e1)
          refine Drawn.one (j := 6) (by kernel_rfl) rfl (fun K hK => ?_)
          go_simp
          refine hK _ _ (HF.sub (by simp)) ?_
          clear hK K f0 f1 f2 r0 r1 r2 H5
          replace HF := HF.sub (L' := [(g6, DO false none 0 0 0), (g5, DO n1 ax z1.length cx e1), (w.heap.size + 1, DO n2 a2 z2.length c2 e2), (w.heap.size, DO n1 a1 z1.length c1 e1)]) (by simp)
          have H5 := HF.head
          obtain ⟨⟨f0, f1, f2⟩, r0, r1, r2⟩ := cells3 HF g6 _ _ _ _ (.head _)
          replace lx := lie_set3 H5 (.bool n2) (.slice ay z2.length cy) (.int .i64 e2) lx
          replace ly := lie_set3 H5 (.bool n2) (.slice ay z2.length cy) (.int .i64 e2) ly
          replace HF := HF.fill3 (by omega) (by simp; omega) (.bool n2) (.slice ay z2.length cy) (.int .i64 e2)
          refine Drawn.one (j := 7) (by kernel_rfl) rfl (fun K hK => ?_)
          go_simp
          refine hK _ _ (HF.sub (by simp)) ?_
          clear hK K f0 f1 f2 r0 r1 r2 H5
          refine Drawn.done (by kernel_rfl) ?_
          try go_simp
          generalize hWf : ((((((W15.setCell ⟨g5, 0, none⟩ (.bool n1)).setCell ⟨g5, 1, none⟩ (.slice ax z1.length cx)).setCell ⟨g5, 2, none⟩ (.int .i64 e1)).setCell ⟨g6, 0, none⟩ (.bool n2)).setCell ⟨g6, 1, none⟩ (.slice ay z2.length cy)).setCell ⟨g6, 2, none⟩ (.int .i64 e2)) = Wf at *
          exact Rest g5 g6 Wf ax cx ay cy ⟨HF, lx, ly⟩
    · go_simp
      refine hK _ _ (HI.grown (DO false none 0 0 0)) ?_
      clear hK K
      have o5 : w.heap.size + 1 < W00.heap.size := HF.lt (p := (w.heap.size + 1, DO n2 a2 z2.length c2 e2)) (by simp)
      replace HI := HI.grown (DO false none 0 0 0)
      replace HF := HF.push (DO false none 0 0 0)
      generalize hg5 : W00.alloc (DO false none 0 0 0) = W16 at *
      clear hg5
      generalize hh5 : W00.heap.size = g5 at *
      clear hh5
      refine Drawn.pair (i := 1) (j := 5) (by kernel_rfl) rfl rfl (fun K hK => ?_) (fun K hK => ?_)
      · go_simp
        refine (dlent35 n1 a1 c1 z1 e1 _ (l1.below HF.bel (Nat.le_refl _)) hm1 hn1).mono ?_
        rintro e W17 ⟨ax, cx, rfl, lx, hn, _⟩
        refine hK _ _ (HI.keep hn) ?_
        clear hK K
        replace HI := HI.keep hn
        replace HF := HF.keep hn
        clear hn
        refine Drawn.pair (i := 3) (j := 5) (by kernel_rfl) rfl rfl (fun K hK => ?_) (fun K hK => ?_)
        · go_simp
          refine (dlent35 n2 a2 c2 z2 e2 _ (l2.below HF.bel (Nat.le_refl _)) hm2 hn2).mono ?_
          rintro e W18 ⟨ay, cy, rfl, ly, hn, _⟩
          refine hK _ _ (HI.keep hn) ?_
          clear hK K
          replace HI := HI.keep hn
          replace HF := HF.keep hn
          replace lx := lx.below hn (Nat.le_refl _)
          clear hn
          refine Drawn.one (j := 5) (by kernel_rfl) rfl (fun K hK => ?_)
          go_simp
          refine hK _ _ (HI.grown (DO false none 0 0 0)) ?_
          clear hK K
          have o6 : w.heap.size + 1 < W18.heap.size := HF.lt (p := (w.heap.size + 1, DO n2 a2 z2.length c2 e2)) (by simp)
          have o56 : g5 < W18.heap.size := HF.lt (p := (g5, DO false none 0 0 0)) (by simp)
          replace HI := HI.grown (DO false none 0 0 0)
          replace HF := HF.push (DO false none 0 0 0)
          replace lx := lx.below (below_alloc W18 (DO false none 0 0 0)) (Nat.le_refl _)
          replace ly := ly.below (below_alloc W18 (DO false none 0 0 0)) (Nat.le_refl _)
          generalize hg6 : W18.alloc (DO false none 0 0 0) = W19 at *
          clear hg6
          generalize hh6 : W18.heap.size = g6 at *
          clear hh6
          replace HF := HF.sub (L' := [(g5, DO false none 0 0 0), (g6, DO false none 0 0 0), (w.heap.size + 1, DO n2 a2 z2.length c2 e2), (w.heap.size, DO n1 a1 z1.length c1 e1)]) (by simp)
          have H5 := HF.head
          obtain ⟨⟨f0, f1, f2⟩, r0, r1, r2⟩ := cells3 HF g5 _ _ _ _ (.head _)
          replace lx := lie_set3 H5 (.bool n1) (.slice ax z1.length cx) (.int .i64 e1) lx
          replace ly := lie_set3 H5 (.bool n1) (.slice ax z1.length cx) (.int .i64 e1) ly
          replace HF := HF.fill3 (by omega) (by simp; omega) (.bool n1) (.slice ax z1.length cx) (.int .i64 e1)
          refine Drawn.one (j := 6) (by kernel_rfl) rfl (fun K hK => ?_)
          go_simp
          refine hK _ _ (HF.sub (by simp)) ?_
          clear hK K f0 f1 f2 r0 r1 r2 H5
          replace HF := HF.sub (L' := [(g6, DO false none 0 0 0), (g5, DO n1 ax z1.length cx e1), (w.heap.size + 1, DO n2 a2 z2.length c2 e2), (w.heap.size, DO n1 a1 z1.length c1 e1)]) (by simp)
          have H5 := HF.head
          obtain ⟨⟨f0, f1, f2⟩, r0, r1, r2⟩ := cells3 HF g6 _ _ _ _ (.head _)
          replace lx := lie_set3 H5 (.bool n2) (.slice ay z2.length cy) (.int .i64 e2) lx
          replace ly := lie_set3 H5 (.bool n2) (.slice ay z2.length cy) (.int .i64 e2) ly
          replace HF := HF.fill3 (by omega) (by simp; omega) (.bool n2) (.slice ay z2.length cy) (.int .i64 e2)
          refine Drawn.one (j := 7) (by kernel_rfl) rfl (fun K hK => ?_)
          go_simp
          refine hK _ _ (HF.sub (by simp)) ?_
          clear hK K f0 f1 f2 r0 r1 r2 H5
          refine Drawn.done (by kernel_rfl) ?_
          try go_simp
          generalize hWf : ((((((W19.setCell ⟨g5, 0, none⟩ (.bool n1)).setCell ⟨g5, 1, none⟩ (.slice ax z1.length cx)).setCell ⟨g5, 2, none⟩ (.int .i64 e1)).setCell ⟨g6, 0, none⟩ (.bool n2)).setCell ⟨g6, 1, none⟩ (.slice ay z2.length cy)).setCell ⟨g6, 2, none⟩ (.int .i64 e2)) = Wf at *
          exact Rest g5 g6 Wf ax cx ay cy ⟨HF, lx, ly⟩
        · go_simp
          refine hK _ _ (HI.grown (DO false none 0 0 0)) ?_
          clear hK K
          have o6 : w.heap.size + 1 < W17.heap.size := HF.lt (p := (w.heap.size + 1, DO n2 a2 z2.length c2 e2)) (by simp)
          have o56 : g5 < W17.heap.size := HF.lt (p := (g5, DO false none 0 0 0)) (by simp)
          replace HI := HI.grown (DO false none 0 0 0)
          replace HF := HF.push (DO false none 0 0 0)
          replace lx := lx.below (below_alloc W17 (DO false none 0 0 0)) (Nat.le_refl _)
          generalize hg6 : W17.alloc (DO false none 0 0 0) = W20 at *
          clear hg6
          generalize hh6 : W17.heap.size = g6 at *
          clear hh6
          refine Drawn.one (j := 3) (by kernel_rfl) rfl (fun K hK => ?_)
          go_simp
          refine (dlent35 n2 a2 c2 z2 e2 _ (l2.below HF.bel (Nat.le_refl _)) hm2 hn2).mono ?_
          rintro e W21 ⟨ay, cy, rfl, ly, hn, _⟩
          refine hK _ _ (HI.keep hn) ?_
          clear hK K
          replace HI := HI.keep hn
          replace HF := HF.keep hn
          replace lx := lx.below hn (Nat.le_refl _)
          clear hn
          replace HF := HF.sub (L' := [(g5, DO false none 0 0 0), (g6, DO false none 0 0 0), (w.heap.size + 1, DO n2 a2 z2.length c2 e2), (w.heap.size, DO n1 a1 z1.length c1 e1)]) (by simp)
          have H5 := HF.head
          obtain ⟨⟨f0, f1, f2⟩, r0, r1, r2⟩ := cells3 HF g5 _ _ _ _ (.head _)
          replace lx := lie_set3 H5 (.bool n1) (.slice ax z1.length cx) (.int .i64 e1) lx
          replace ly := lie_set3 H5 (.bool n1) (.slice ax z1.length cx) (.int .i64 e1) ly
          replace HF := HF.fill3 (by omega) (by simp; omega) (.bool n1) (.slice ax z1.length cx) (.int .i64 e1)
          refine Drawn.one (j := 6) (by kernel_rfl) rfl (fun K hK => ?_)
          go_simp
          refine hK _ _ (HF.sub (by simp)) ?_
          clear hK K f0 f1 f2 r0 r1 r2 H5
          replace HF := HF.sub (L' := [(g6, DO false none 0 0 0), (g5, DO n1 ax z1.length cx e1), (w.heap.size + 1, DO n2 a2 z2.length c2 e2), (w.heap.size, DO n1 a1 z1.length c1 e1)]) (by simp)
          have H5 := HF.head
          obtain ⟨⟨f0, f1, f2⟩, r0, r1, r2⟩ := cells3 HF g6 _ _ _ _ (.head _)
          replace lx := lie_set3 H5 (.bool n2) (.slice ay z2.length cy) (.int .i64 e2) lx
          replace ly := lie_set3 H5 (.bool n2) (.slice ay z2.length cy) (.int .i64 e2) ly
          replace HF := HF.fill3 (by omega) (by simp; omega) (.bool n2) (.slice ay z2.length cy) (.int .i64 e2)
          refine Drawn.one (j := 7) (by kernel_rfl) rfl (fun K hK => ?_)
          go_simp
          refine hK _ _ (HF.sub (by simp)) ?_
          clear hK K f0 f1 f2 r0 r1 r2 H5
          refine Drawn.done (by kernel_rfl) ?_
          try go_simp
          generalize hWf : ((((((W21.setCell ⟨g5, 0, none⟩ (.bool n1)).setCell ⟨g5, 1, none⟩ (.slice ax z1.length cx)).setCell ⟨g5, 2, none⟩ (.int .i64 e1)).setCell ⟨g6, 0, none⟩ (.bool n2)).setCell ⟨g6, 1, none⟩ (.slice ay z2.length cy)).setCell ⟨g6, 2, none⟩ (.int .i64 e2)) = Wf at *
          exact Rest g5 g6 Wf ax cx ay cy ⟨HF, lx, ly⟩
      · go_simp
        refine hK _ _ (HI.grown (DO false none 0 0 0)) ?_
        clear hK K
        have o6 : w.heap.size + 1 < W16.heap.size := HF.lt (p := (w.heap.size + 1, DO n2 a2 z2.length c2 e2)) (by simp)
        have o56 : g5 < W16.heap.size := HF.lt (p := (g5, DO false none 0 0 0)) (by simp)
        replace HI := HI.grown (DO false none 0 0 0)
        replace HF := HF.push (DO false none 0 0 0)
        generalize hg6 : W16.alloc (DO false none 0 0 0) = W22 at *
        clear hg6
        generalize hh6 : W16.heap.size = g6 at *
        clear hh6
        refine Drawn.one (j := 1) (by kernel_rfl) rfl (fun K hK => ?_)
        go_simp
        refine (dlent35 n1 a1 c1 z1 e1 _ (l1.below HF.bel (Nat.le_refl _)) hm1 hn1).mono ?_
        rintro e W23 ⟨ax, cx, rfl, lx, hn, _⟩
        refine hK _ _ (HI.keep hn) ?_
        clear hK K
        replace HI := HI.keep hn
        replace HF := HF.keep hn
        clear hn
        refine Drawn.one (j := 3) (by kernel_rfl) rfl (fun K hK => ?_)
        go_simp
        refine (dlent35 n2 a2 c2 z2 e2 _ (l2.below HF.bel (Nat.le_refl _)) hm2 hn2).mono ?_
        rintro e W24 ⟨ay, cy, rfl, ly, hn, _⟩
        refine hK _ _ (HI.keep hn) ?_
        clear hK K
        replace HI := HI.keep hn
        replace HF := HF.keep hn
        replace lx := lx.below hn (Nat.le_refl _)
        clear hn
        replace HF := HF.sub (L' := [(g5, DO false none 0 0 0), (g6, DO false none 0 0 0), (w.heap.size + 1, DO n2 a2 z2.length c2 e2), (w.heap.size, DO n1 a1 z1.length c1 e1)]) (by simp)
        have H5 := HF.head
        obtain ⟨⟨f0, f1, f2⟩, r0, r1, r2⟩ := cells3 HF g5 _ _ _ _ (.head _)
        replace lx := lie_set3 H5 (.bool n1) (.slice ax z1.length cx) (.int .i64 e1) lx
        replace ly := lie_set3 H5 (.bool n1) (.slice ax z1.length cx) (.int .i64 e1) ly
        replace HF := HF.fill3 (by omega) (by simp; omega) (.bool n1) (.slice ax z1.length cx) (.int .i64 e1)
        refine Drawn.one (j := 6) (by kernel_rfl) rfl (fun K hK => ?_)
        go_simp
        refine hK _ _ (HF.sub (by simp)) ?_
        clear hK K f0 f1 f2 r0 r1 r2 H5
        replace HF := HF.sub (L' := [(g6, DO false none 0 0 0), (g5, DO n1 ax z1.length cx e1), (w.heap.size + 1, DO n2 a2 z2.length c2 e2), (w.heap.size, DO n1 a1 z1.length c1 e1)]) (by simp)
        have H5 := HF.head
        obtain ⟨⟨f0, f1, f2⟩, r0, r1, r2⟩ := cells3 HF g6 _ _ _ _ (.head _)
        replace lx := lie_set3 H5 (.bool n2) (.slice ay z2.length cy) (.int .i64 e2) lx
        replace ly := lie_set3 H5 (.bool n2) (.slice ay z2.length cy) (.int .i64 e2) ly
        replace HF := HF.fill3 (by omega) (by simp; omega) (.bool n2) (.slice ay z2.length cy) (.int .i64 e2)
        refine Drawn.one (j := 7) (by kernel_rfl) rfl (fun K hK => ?_)
        go_simp
        refine hK _ _ (HF.sub (by simp)) ?_
        clear hK K f0 f1 f2 r0 r1 r2 H5
        refine Drawn.done (by kernel_rfl) ?_
        try go_simp
        generalize hWf : ((((((W24.setCell ⟨g5, 0, none⟩ (.bool n1)).setCell ⟨g5, 1, none⟩ (.slice ax z1.length cx)).setCell ⟨g5, 2, none⟩ (.int .i64 e1)).setCell ⟨g6, 0, none⟩ (.bool n2)).setCell ⟨g6, 1, none⟩ (.slice ay z2.length cy)).setCell ⟨g6, 2, none⟩ (.int .i64 e2)) = Wf at *
        exact Rest g5 g6 Wf ax cx ay cy ⟨HF, lx, ly⟩
    · go_simp
      refine hK _ _ (HI.grown (DO false none 0 0 0)) ?_
      clear hK K
      have o6 : w.heap.size + 1 < W00.heap.size := HF.lt (p := (w.heap.size + 1, DO n2 a2 z2.length c2 e2)) (by simp)
      replace HI := HI.grown (DO false none 0 0 0)
      replace HF := HF.push (DO false none 0 0 0)
      generalize hg6 : W00.alloc (DO false none 0 0 0) = W25 at *
      clear hg6
      generalize hh6 : W00.heap.size = g6 at *
      clear hh6
      refine Drawn.pair (i := 1) (j := 4) (by kernel_rfl) rfl rfl (fun K hK => ?_) (fun K hK => ?_)
      · go_simp
        refine (dlent35 n1 a1 c1 z1 e1 _ (l1.below HF.bel (Nat.le_refl _)) hm1 hn1).mono ?_
        rintro e W26 ⟨ax, cx, rfl, lx, hn, _⟩
        refine hK _ _ (HI.keep hn) ?_
        clear hK K
        replace HI := HI.keep hn
        replace HF := HF.keep hn
        clear hn
        refine Drawn.pair (i := 3) (j := 4) (by kernel_rfl) rfl rfl (fun K hK => ?_) (fun K hK => ?_)
        · go_simp
          refine (dlent35 n2 a2 c2 z2 e2 _ (l2.below HF.bel (Nat.le_refl _)) hm2 hn2).mono ?_
          rintro e W27 ⟨ay, cy, rfl, ly, hn, _⟩
          refine hK _ _ (HI.keep hn) ?_
          clear hK K
          replace HI := HI.keep hn
          replace HF := HF.keep hn
          replace lx := lx.below hn (Nat.le_refl _)
          clear hn
          refine Drawn.one (j := 4) (by kernel_rfl) rfl (fun K hK => ?_)
          go_simp
          refine hK _ _ (HI.grown (DO false none 0 0 0)) ?_
          clear hK K
          have o5 : w.heap.size + 1 < W27.heap.size := HF.lt (p := (w.heap.size + 1, DO n2 a2 z2.length c2 e2)) (by simp)
          have o56 : g6 < W27.heap.size := HF.lt (p := (g6, DO false none 0 0 0)) (by simp)
          replace HI := HI.grown (DO false none 0 0 0)
          replace HF := HF.push (DO false none 0 0 0)
          replace lx := lx.below (below_alloc W27 (DO false none 0 0 0)) (Nat.le_refl _)
          replace ly := ly.below (below_alloc W27 (DO false none 0 0 0)) (Nat.le_refl _)
          generalize hg5 : W27.alloc (DO false none 0 0 0) = W28 at *
          clear hg5
          generalize hh5 : W27.heap.size = g5 at *
          clear hh5
          replace HF := HF.sub (L' := [(g5, DO false none 0 0 0), (g6, DO false none 0 0 0), (w.heap.size + 1, DO n2 a2 z2.length c2 e2), (w.heap.size, DO n1 a1 z1.length c1 e1)]) (by simp)
          have H5 := HF.head
          obtain ⟨⟨f0, f1, f2⟩, r0, r1, r2⟩ := cells3 HF g5 _ _ _ _ (.head _)
          replace lx := lie_set3 H5 (.bool n1) (.slice ax z1.length cx) (.int .i64 e1) lx
          replace ly := lie_set3 H5 (.bool n1) (.slice ax z1.length cx) (.int .i64 e1) ly
          replace HF := HF.fill3 (by omega) (by simp; omega) (.bool n1) (.slice ax z1.length cx) (.int .i64 e1)
          refine Drawn.one (j := 6) (by kernel_rfl) rfl (fun K hK => ?_)
          go_simp
          refine hK _ _ (HF.sub (by simp)) ?_
          clear hK K f0 f1 f2 r0 r1 r2 H5
          replace HF := HF.sub (L' := [(g6, DO false none 0 0 0), (g5, DO n1 ax z1.length cx e1), (w.heap.size + 1, DO n2 a2 z2.length c2 e2), (w.heap.size, DO n1 a1 z1.length c1 e1)]) (by simp)
          have H5 := HF.head
          obtain ⟨⟨f0, f1, f2⟩, r0, r1, r2⟩ := cells3 HF g6 _ _ _ _ (.head _)
          replace lx := lie_set3 H5 (.bool n2) (.slice ay z2.length cy) (.int .i64 e2) lx
          replace ly := lie_set3 H5 (.bool n2) (.slice ay z2.length cy) (.int .i64 e2) ly
          replace HF := HF.fill3 (by omega) (by simp; omega) (.bool n2) (.slice ay z2.length cy) (.int .i64 e2)
          refine Drawn.one (j := 7) (by kernel_rfl) rfl (fun K hK => ?_)
          go_simp
          refine hK _ _ (HF.sub (by simp)) ?_
          clear hK K f0 f1 f2 r0 r1 r2 H5
          refine Drawn.done (by kernel_rfl) ?_
          try go_simp
          generalize hWf : ((((((W28.setCell ⟨g5, 0, none⟩ (.bool n1)).setCell ⟨g5, 1, none⟩ (.slice ax z1.length cx)).setCell ⟨g5, 2, none⟩ (.int .i64 e1)).setCell ⟨g6, 0, none⟩ (.bool n2)).setCell ⟨g6, 1, none⟩ (.slice ay z2.length cy)).setCell ⟨g6, 2, none⟩ (.int .i64 e2)) = Wf at *
          exact Rest g5 g6 Wf ax cx ay cy ⟨HF, lx, ly⟩
        · go_simp
          refine hK _ _ (HI.grown (DO false none 0 0 0)) ?_
          clear hK K
          have o5 : w.heap.size + 1 < W26.heap.size := HF.lt (p := (w.heap.size + 1, DO n2 a2 z2.length c2 e2)) (by simp)
          have o56 : g6 < W26.heap.size := HF.lt (p := (g6, DO false none 0 0 0)) (by simp)
          replace HI := HI.grown (DO false none 0 0 0)
          replace HF := HF.push (DO false none 0 0 0)
          replace lx := lx.below (below_alloc W26 (DO false none 0 0 0)) (Nat.le_refl _)
          generalize hg5 : W26.alloc (DO false none 0 0 0) = W29 at *
          clear hg5
          generalize hh5 : W26.heap.size = g5 at *
          clear hh5
          refine Drawn.one (j := 3) (by kernel_rfl) rfl (fun K hK => ?_)
          go_simp
          refine (dlent35 n2 a2 c2 z2 e2 _ (l2.below HF.bel (Nat.le_refl _)) hm2 hn2).mono ?_
          rintro e W30 ⟨ay, cy, rfl, ly, hn, _⟩
          refine hK _ _ (HI.keep hn) ?_
          clear hK K
          replace HI := HI.keep hn
          replace HF := HF.keep hn
          replace lx := lx.below hn (Nat.le_refl _)
          clear hn
          replace HF := HF.sub (L' := [(g5, DO false none 0 0 0), (g6, DO false none 0 0 0), (w.heap.size + 1, DO n2 a2 z2.length c2 e2), (w.heap.size, DO n1 a1 z1.length c1 e1)]) (by simp)
          have H5 := HF.head
          obtain ⟨⟨f0, f1, f2⟩, r0, r1, r2⟩ := cells3 HF g5 _ _ _ _ (.head _)
          replace lx := lie_set3 H5 (.bool n1) (.slice ax z1.length cx) (.int .i64 e1) lx
          replace ly := lie_set3 H5 (.bool n1) (.slice ax z1.length cx) (.int .i64 e1) ly
          replace HF := HF.fill3 (by omega) (by simp; omega) (.bool n1) (.slice ax z1.length cx) (.int .i64 e1)
          refine Drawn.one (j := 6) (by kernel_rfl) rfl (fun K hK => ?_)
          go_simp
          refine hK _ _ (HF.sub (by simp)) ?_
          clear hK K f0 f1 f2 r0 r1 r2 H5
          replace HF := HF.sub (L' := [(g6, DO false none 0 0 0), (g5, DO n1 ax z1.length cx e1), (w.heap.size + 1, DO n2 a2 z2.length c2 e2), (w.heap.size, DO n1 a1 z1.length c1 e1)]) (by simp)
          have H5 := HF.head
          obtain ⟨⟨f0, f1, f2⟩, r0, r1, r2⟩ := cells3 HF g6 _ _ _ _ (.head _)
          replace lx := lie_set3 H5 (.bool n2) (.slice ay z2.length cy) (.int .i64 e2) lx
          replace ly := lie_set3 H5 (.bool n2) (.slice ay z2.length cy) (.int .i64 e2) ly
          replace HF := HF.fill3 (by omega) (by simp; omega) (.bool n2) (.slice ay z2.length cy) (.int .i64 e2)
          refine Drawn.one (j := 7) (by kernel_rfl) rfl (fun K hK => ?_)
          go_simp
          refine hK _ _ (HF.sub (by simp)) ?_
          clear hK K f0 f1 f2 r0 r1 r2 H5
          refine Drawn.done (by kernel_rfl) ?_
          try go_simp
          generalize hWf : ((((((W30.setCell ⟨g5, 0, none⟩ (.bool n1)).setCell ⟨g5, 1, none⟩ (.slice ax z1.length cx)).setCell ⟨g5, 2, none⟩ (.int .i64 e1)).setCell ⟨g6, 0, none⟩ (.bool n2)).setCell ⟨g6, 1, none⟩ (.slice ay z2.length cy)).setCell ⟨g6, 2, none⟩ (.int .i64 e2)) = Wf at *
          exact Rest g5 g6 Wf ax cx ay cy ⟨HF, lx, ly⟩
      · go_simp
        refine hK _ _ (HI.grown (DO false none 0 0 0)) ?_
        clear hK K
        have o5 : w.heap.size + 1 < W25.heap.size := HF.lt (p := (w.heap.size + 1, DO n2 a2 z2.length c2 e2)) (by simp)
        have o56 : g6 < W25.heap.size := HF.lt (p := (g6, DO false none 0 0 0)) (by simp)
        replace HI := HI.grown (DO false none 0 0 0)
        replace HF := HF.push (DO false none 0 0 0)
        generalize hg5 : W25.alloc (DO false none 0 0 0) = W31 at *
        clear hg5
        generalize hh5 : W25.heap.size = g5 at *
        clear hh5
        refine Drawn.one (j := 1) (by kernel_rfl) rfl (fun K hK => ?_)
        go_simp
        refine (dlent35 n1 a1 c1 z1 e1 _ (l1.below HF.bel (Nat.le_refl _)) hm1 hn1).mono ?_
        rintro e W32 ⟨ax, cx, rfl, lx, hn, _⟩
        refine hK _ _ (HI.keep hn) ?_
        clear hK K
        replace HI := HI.keep hn
        replace HF := HF.keep hn
        clear hn
        refine Drawn.one (j := 3) (by kernel_rfl) rfl (fun K hK => ?_)
        go_simp
        refine (dlent35 n2 a2 c2 z2 e2 _ (l2.below HF.bel (Nat.le_refl _)) hm2 hn2).mono ?_
        rintro e W33 ⟨ay, cy, rfl, ly, hn, _⟩
        refine hK _ _ (HI.keep hn) ?_
        clear hK K
        replace HI := HI.keep hn
        replace HF := HF.keep hn
        replace lx := lx.below hn (Nat.le_refl _)
        clear hn
        replace HF := HF.sub (L' := [(g5, DO false none 0 0 0), (g6, DO false none 0 0 0), (w.heap.size + 1, DO n2 a2 z2.length c2 e2), (w.heap.size, DO n1 a1 z1.length c1 e1)]) (by simp)
        have H5 := HF.head
        obtain ⟨⟨f0, f1, f2⟩, r0, r1, r2⟩ := cells3 HF g5 _ _ _ _ (.head _)
        replace lx := lie_set3 H5 (.bool n1) (.slice ax z1.length cx) (.int .i64 e1) lx
        replace ly := lie_set3 H5 (.bool n1) (.slice ax z1.length cx) (.int .i64 e1) ly
        replace HF := HF.fill3 (by omega) (by simp; omega) (.bool n1) (.slice ax z1.length cx) (.int .i64 e1)
        refine Drawn.one (j := 6) (by kernel_rfl) rfl (fun K hK => ?_)
        go_simp
        refine hK _ _ (HF.sub (by simp)) ?_
        clear hK K f0 f1 f2 r0 r1 r2 H5
        replace HF := HF.sub (L' := [(g6, DO false none 0 0 0), (g5, DO n1 ax z1.length cx e1), (w.heap.size + 1, DO n2 a2 z2.length c2 e2), (w.heap.size, DO n1 a1 z1.length c1 e1)]) (by simp)
        have H5 := HF.head
        obtain ⟨⟨f0, f1, f2⟩, r0, r1, r2⟩ := cells3 HF g6 _ _ _ _ (.head _)
        replace lx := lie_set3 H5 (.bool n2) (.slice ay z2.length cy) (.int .i64 e2) lx
        replace ly := lie_set3 H5 (.bool n2) (.slice ay z2.length cy) (.int .i64 e2) ly
        replace HF := HF.fill3 (by omega) (by simp; omega) (.bool n2) (.slice ay z2.length cy) (.int .i64 e2)
        refine Drawn.one (j := 7) (by kernel_rfl) rfl (fun K hK => ?_)
        go_simp
        refine hK _ _ (HF.sub (by simp)) ?_
        clear hK K f0 f1 f2 r0 r1 r2 H5
        refine Drawn.done (by kernel_rfl) ?_
        try go_simp
        generalize hWf : ((((((W33.setCell ⟨g5, 0, none⟩ (.bool n1)).setCell ⟨g5, 1, none⟩ (.slice ax z1.length cx)).setCell ⟨g5, 2, none⟩ (.int .i64 e1)).setCell ⟨g6, 0, none⟩ (.bool n2)).setCell ⟨g6, 1, none⟩ (.slice ay z2.length cy)).setCell ⟨g6, 2, none⟩ (.int .i64 e2)) = Wf at *
        exact Rest g5 g6 Wf ax cx ay cy ⟨HF, lx, ly⟩
  case rest =>
    intro g5 g6 W ax cx ay cy ⟨HF, lx, ly⟩
    have BX := HF
    have HB := Below.refl W.heap.size W
    have la := l1.below HF.bel (Nat.le_refl _)
    have lb := l2.below HF.bel (Nat.le_refl _)
    have lx0 := lx
    have ly0 := ly
    have la0 := la
    have lb0 := lb
    have hTW := hT.below HF.bel (Nat.le_refl _)
    have HC : (∃ u v, DN n1 z1 e1 u ∧ DN n2 z2 e2 v ∧ (∀ w, Lie w a1 z1 → Lie w a2 z2 → Calls Tryd.prog 41 #[dV n1 a1 z1.length c1 e1, dV n2 a2 z2.length c2 e2] w fun e w' => e = .returned (.bool false) ∧ Below w.heap.size w w') ∧ (0 < z1.length → 0 < z2.length → e1 - e2 ≤ 150000 ∧ e2 - e1 ≤ 150000)) ∨ (∃ u v, DN n1 z1 e1 u ∧ DN n2 z2 e2 v ∧ (∀ w, Lie w a1 z1 → Lie w a2 z2 → Calls Tryd.prog 41 #[dV n1 a1 z1.length c1 e1, dV n2 a2 z2.length c2 e2] w fun e w' => e = .returned (.bool true) ∧ Below w.heap.size w w') ∧ Big (u + v) ∧ Big (u - v)) ∨ (∃ u, DN n1 z1 e1 u ∧ dmayB n2 z2 e2 = false) ∨ dmayB n1 z1 e1 = false := by
      by_cases m1 : dmayB n1 z1 e1 = true
      · have N1 : DN n1 z1 e1 (dv n1 z1 e1) := ⟨DG.of u1.rng m1, rfl⟩
        by_cases m2 : dmayB n2 z2 e2 = true
        · have N2 : DN n2 z2 e2 (dv n2 z2 e2) := ⟨DG.of u2.rng m2, rfl⟩
          rcases farD n1 n2 a1 a2 c1 c2 z1 z2 e1 e2 N1 N2 with h | h
          · exact .inl ⟨_, _, N1, N2, h.1, h.2⟩
          · exact .inr (.inl ⟨_, _, N1, N2, h.1, h.2.1, h.2.2⟩)
        · exact .inr (.inr (.inl ⟨_, N1, by simpa using m2⟩))
      · exact .inr (.inr (.inr (by simpa using m1)))
    rcases HC with HC | HC | HC | HC
    · obtain ⟨u, v, N1, N2, HFar, hnear⟩ := HC
      have g2 := N2.dg
      obtain ⟨sc, hsc⟩ : ∃ s, sgn u v = s := ⟨_, rfl⟩
      have g1 := N1.dg
      obtain ⟨sx, hsx⟩ : ∃ s, sgn u 0 = s := ⟨_, rfl⟩
      obtain ⟨T, hTop⟩ := bitLen_ex g1.good.nonneg
      obtain ⟨⟨fx0, fx1, fx2⟩, _⟩ := cells3 BX g5 _ _ _ _ (show (g5, DO n1 ax z1.length cx e1) ∈ _ by simp)
      go_wp2_with fail
      refine (dneg47 n1 ax cx z1 e1 _ lx g1 (hTW.below HB (Nat.le_refl _))).mono ?_
      rintro e uN ⟨nN, aN, mN, cN, xN, dN, rfl, vN0⟩
      have hN := vN0.bel
      obtain ⟨rfl, rfl, rfl, rfl, iN⟩ := vN0.isD (by rw [N1.val]; exact rn_num N1)
      have wN := iN.own.wrA.weak HB.size
      have lN := iN.lie
      clear iN vN0
      replace BX := BX.keep hN
      replace HB := below_then HB hN
      replace la := la.below hN (Nat.le_refl _)
      replace lb := lb.below hN (Nat.le_refl _)
      replace lx := lx.below hN (Nat.le_refl _)
      replace ly := ly.below hN (Nat.le_refl _)
      clear hN
      have haN := below_alloc uN (DO (rn n1 z1) aN z1.length cN e1)
      replace BX := BX.push (DO (rn n1 z1) aN z1.length cN e1)
      replace HB := below_then HB haN
      replace la := la.below haN (Nat.le_refl _)
      replace lb := lb.below haN (Nat.le_refl _)
      replace lx := lx.below haN (Nat.le_refl _)
      replace ly := ly.below haN (Nat.le_refl _)
      replace lN := lN.below haN (Nat.le_refl _)
      replace wN := wN.below (C := 0) haN
      clear haN
      obtain ⟨⟨fx0, fx1, fx2⟩, _⟩ := cells3 BX g5 _ _ _ _ (show (g5, DO n1 ax z1.length cx e1) ∈ _ by simp)
      go_wp2_with fail
      generalize hvN : uN.alloc (DO (rn n1 z1) aN z1.length cN e1) = vN at *
      clear hvN
      refine (dabs48 n1 ax cx z1 e1 _ lx g1 (hTW.below HB (Nat.le_refl _))).mono ?_
      rintro e uA ⟨nA, aA, mA, cA, xA, dA, rfl, vA0⟩
      have hA := vA0.bel
      obtain ⟨rfl, rfl, rfl, rfl, iA⟩ := vA0.isD (abs_num N1)
      have wA := iA.own.wrA.weak HB.size
      have lA := iA.lie
      clear iA vA0
      replace BX := BX.keep hA
      replace HB := below_then HB hA
      replace la := la.below hA (Nat.le_refl _)
      replace lb := lb.below hA (Nat.le_refl _)
      replace lx := lx.below hA (Nat.le_refl _)
      replace ly := ly.below hA (Nat.le_refl _)
      replace lN := lN.below hA (Nat.le_refl _)
      replace wN := wN.below (C := 0) hA
      clear hA
      have haA := below_alloc uA (DO false aA z1.length cA e1)
      replace BX := BX.push (DO false aA z1.length cA e1)
      replace HB := below_then HB haA
      replace la := la.below haA (Nat.le_refl _)
      replace lb := lb.below haA (Nat.le_refl _)
      replace lx := lx.below haA (Nat.le_refl _)
      replace ly := ly.below haA (Nat.le_refl _)
      replace lN := lN.below haA (Nat.le_refl _)
      replace lA := lA.below haA (Nat.le_refl _)
      replace wN := wN.below (C := 0) haA
      replace wA := wA.below (C := 0) haA
      clear haA
      obtain ⟨⟨fa0, fa1, fa2⟩, _⟩ := cells3 BX w.heap.size _ _ _ _ (show (w.heap.size, DO n1 a1 z1.length c1 e1) ∈ _ by simp)
      go_wp2_with fail
      generalize hvA : uA.alloc (DO false aA z1.length cA e1) = vA at *
      clear hvA
      refine (drefmay37 n1 a1 c1 z1 e1 _ ⟨la, u1.len, u1.rng⟩ true g1.may).mono ?_
      rintro e k1w ⟨rfl, k1⟩
      replace BX := BX.keep k1
      replace HB := below_then HB k1
      replace la := la.below k1 (Nat.le_refl _)
      replace lb := lb.below k1 (Nat.le_refl _)
      replace lx := lx.below k1 (Nat.le_refl _)
      replace ly := ly.below k1 (Nat.le_refl _)
      replace lN := lN.below k1 (Nat.le_refl _)
      replace lA := lA.below k1 (Nat.le_refl _)
      replace wN := wN.below (C := 0) k1
      replace wA := wA.below (C := 0) k1
      clear k1
      go_wp2_with fail
      have HI := (BX.sub (L' := [(uA.heap.size, DO false aA z1.length cA e1), (uN.heap.size, DO (rn n1 z1) aN z1.length cN e1), (g5, DO n1 ax z1.length cx e1), (w.heap.size, DO n1 a1 z1.length c1 e1)]) (by simp)).drew
      have sh := fun W (hW : Bx w [(uA.heap.size, DO false aA z1.length cA e1), (uN.heap.size, DO (rn n1 z1) aN z1.length cN e1), (g5, DO n1 ax z1.length cx e1), (w.heap.size, DO n1 a1 z1.length c1 e1)] W) => And.intro (cells3 hW uA.heap.size _ _ _ _ (show (uA.heap.size, DO false aA z1.length cA e1) ∈ _ by simp)).1 (And.intro (cells3 hW uN.heap.size _ _ _ _ (show (uN.heap.size, DO (rn n1 z1) aN z1.length cN e1) ∈ _ by simp)).1 (And.intro (cells3 hW g5 _ _ _ _ (show (g5, DO n1 ax z1.length cx e1) ∈ _ by simp)).1 ((cells3 hW w.heap.size _ _ _ _ (show (w.heap.size, DO n1 a1 z1.length c1 e1) ∈ _ by simp)).1)))
      replace HB := Below.drew HB
      replace BX := BX.drew
      replace la : Lie (World.drew _) _ _ := la
      replace lb : Lie (World.drew _) _ _ := lb
      replace lx : Lie (World.drew _) _ _ := lx
      replace ly : Lie (World.drew _) _ _ := ly
      replace lN : Lie (World.drew _) _ _ := lN
      replace lA : Lie (World.drew _) _ _ := lA
      replace wN : WrA _ (World.drew _) _ _ := wN
      replace wA : WrA _ (World.drew _) _ _ := wA
      refine Drawn.enter (Bx w [(uA.heap.size, DO false aA z1.length cA e1), (uN.heap.size, DO (rn n1 z1) aN z1.length cN e1), (g5, DO n1 ax z1.length cx e1), (w.heap.size, DO n1 a1 z1.length c1 e1)]) (by kernel_rfl) ?_
      refine Drawn.take (i := 0) (v := ?v2) rfl (by kernel_rfl) (by kernel_rfl) (by kernel_rfl) (fun _ _ _ h => h) (by kernel_rfl) (fun W hW => ?_) HI ?_
      rotate_left
      · have ⟨⟨sA0, sA1, sA2⟩, ⟨sN0, sN1, sN2⟩, ⟨sx0, sx1, sx2⟩, sa0, sa1, sa2⟩ := sh W hW
        go_simp <;> exact rfl
      refine Drawn.take (i := 1) (v := ?v3) rfl (by kernel_rfl) (by kernel_rfl) (by kernel_rfl) (fun _ _ _ h => h) (by kernel_rfl) (fun W hW => ?_) HI ?_
      rotate_left
      · have ⟨⟨sA0, sA1, sA2⟩, ⟨sN0, sN1, sN2⟩, ⟨sx0, sx1, sx2⟩, sa0, sa1, sa2⟩ := sh W hW
        go_simp <;> exact rfl
      refine Drawn.one (j := 2) (by kernel_rfl) rfl (fun K hK => ?_)
      go_simp
      refine (rNegD n1 a1 c1 z1 e1 _).mono ?_
      rintro e k2w ⟨rfl, k2⟩
      refine hK _ _ (HI.keep k2) ?_
      clear hK K
      replace HI := HI.keep k2
      replace BX := BX.keep k2
      replace HB := below_then HB k2
      replace la := la.below k2 (Nat.le_refl _)
      replace lb := lb.below k2 (Nat.le_refl _)
      replace lx := lx.below k2 (Nat.le_refl _)
      replace ly := ly.below k2 (Nat.le_refl _)
      replace lN := lN.below k2 (Nat.le_refl _)
      replace lA := lA.below k2 (Nat.le_refl _)
      replace wN := wN.below (C := 0) k2
      replace wA := wA.below (C := 0) k2
      clear k2
      refine Drawn.one (j := 3) (by kernel_rfl) rfl (fun K hK => ?_)
      go_simp
      refine (sameD _ _ aN a1 cN c1 z1 z1 e1 e1 _ (rn_num N1) (rn_num N1) lN la).mono ?_
      rintro e k3w ⟨rfl, k3⟩
      refine hK _ _ (HI.keep k3) ?_
      clear hK K
      replace HI := HI.keep k3
      replace BX := BX.keep k3
      replace HB := below_then HB k3
      replace la := la.below k3 (Nat.le_refl _)
      replace lb := lb.below k3 (Nat.le_refl _)
      replace lx := lx.below k3 (Nat.le_refl _)
      replace ly := ly.below k3 (Nat.le_refl _)
      replace lN := lN.below k3 (Nat.le_refl _)
      replace lA := lA.below k3 (Nat.le_refl _)
      replace wN := wN.below (C := 0) k3
      replace wA := wA.below (C := 0) k3
      clear k3
      refine Drawn.take (i := 4) (v := .bool false) rfl (by kernel_rfl) (by kernel_rfl) (by kernel_rfl) (fun _ _ _ h => h) (by kernel_rfl) (fun W hW => ?_) HI ?_
      · have ⟨⟨sA0, sA1, sA2⟩, ⟨sN0, sN1, sN2⟩, ⟨sx0, sx1, sx2⟩, sa0, sa1, sa2⟩ := sh W hW
        go_simp <;> (rfl)
      refine Drawn.take (i := 5) (v := ?v4) rfl (by kernel_rfl) (by kernel_rfl) (by kernel_rfl) (fun _ _ _ h => h) (by kernel_rfl) (fun W hW => ?_) HI ?_
      rotate_left
      · have ⟨⟨sA0, sA1, sA2⟩, ⟨sN0, sN1, sN2⟩, ⟨sx0, sx1, sx2⟩, sa0, sa1, sa2⟩ := sh W hW
        go_simp <;> exact rfl
      refine Drawn.take (i := 6) (v := ?v5) rfl (by kernel_rfl) (by kernel_rfl) (by kernel_rfl) (fun _ _ _ h => h) (by kernel_rfl) (fun W hW => ?_) HI ?_
      rotate_left
      · have ⟨⟨sA0, sA1, sA2⟩, ⟨sN0, sN1, sN2⟩, ⟨sx0, sx1, sx2⟩, sa0, sa1, sa2⟩ := sh W hW
        go_simp <;> exact rfl
      refine Drawn.take (i := 7) (v := ?v6) rfl (by kernel_rfl) (by kernel_rfl) (by kernel_rfl) (fun _ _ _ h => h) (by kernel_rfl) (fun W hW => ?_) HI ?_
      rotate_left
      · have ⟨⟨sA0, sA1, sA2⟩, ⟨sN0, sN1, sN2⟩, ⟨sx0, sx1, sx2⟩, sa0, sa1, sa2⟩ := sh W hW
        go_simp <;> exact rfl
      refine Drawn.take (i := 8) (v := ?v7) rfl (by kernel_rfl) (by kernel_rfl) (by kernel_rfl) (fun _ _ _ h => h) (by kernel_rfl) (fun W hW => ?_) HI ?_
      rotate_left
      · have ⟨⟨sA0, sA1, sA2⟩, ⟨sN0, sN1, sN2⟩, ⟨sx0, sx1, sx2⟩, sa0, sa1, sa2⟩ := sh W hW
        go_simp <;> exact rfl
      refine Drawn.take (i := 9) (v := ?v8) rfl (by kernel_rfl) (by kernel_rfl) (by kernel_rfl) (fun _ _ _ h => h) (by kernel_rfl) (fun W hW => ?_) HI ?_
      rotate_left
      · have ⟨⟨sA0, sA1, sA2⟩, ⟨sN0, sN1, sN2⟩, ⟨sx0, sx1, sx2⟩, sa0, sa1, sa2⟩ := sh W hW
        go_simp <;> exact rfl
      refine Drawn.take (i := 10) (v := ?v9) rfl (by kernel_rfl) (by kernel_rfl) (by kernel_rfl) (fun _ _ _ h => h) (by kernel_rfl) (fun W hW => ?_) HI ?_
      rotate_left
      · have ⟨⟨sA0, sA1, sA2⟩, ⟨sN0, sN1, sN2⟩, ⟨sx0, sx1, sx2⟩, sa0, sa1, sa2⟩ := sh W hW
        go_simp <;> exact rfl
      refine Drawn.take (i := 11) (v := ?v10) rfl (by kernel_rfl) (by kernel_rfl) (by kernel_rfl) (fun _ _ _ h => h) (by kernel_rfl) (fun W hW => ?_) HI ?_
      rotate_left
      · have ⟨⟨sA0, sA1, sA2⟩, ⟨sN0, sN1, sN2⟩, ⟨sx0, sx1, sx2⟩, sa0, sa1, sa2⟩ := sh W hW
        go_simp <;> exact rfl
      refine Drawn.one (j := 12) (by kernel_rfl) rfl (fun K hK => ?_)
      go_simp
      refine (rAbsD n1 a1 c1 z1.length e1 _).mono ?_
      rintro e k4w ⟨rfl, k4⟩
      refine hK _ _ (HI.keep k4) ?_
      clear hK K
      replace HI := HI.keep k4
      replace BX := BX.keep k4
      replace HB := below_then HB k4
      replace la := la.below k4 (Nat.le_refl _)
      replace lb := lb.below k4 (Nat.le_refl _)
      replace lx := lx.below k4 (Nat.le_refl _)
      replace ly := ly.below k4 (Nat.le_refl _)
      replace lN := lN.below k4 (Nat.le_refl _)
      replace lA := lA.below k4 (Nat.le_refl _)
      replace wN := wN.below (C := 0) k4
      replace wA := wA.below (C := 0) k4
      clear k4
      refine Drawn.one (j := 13) (by kernel_rfl) rfl (fun K hK => ?_)
      go_simp
      refine (sameD _ _ aA a1 cA c1 z1 z1 e1 e1 _ (abs_num N1) (abs_num N1) lA la).mono ?_
      rintro e k5w ⟨rfl, k5⟩
      refine hK _ _ (HI.keep k5) ?_
      clear hK K
      replace HI := HI.keep k5
      replace BX := BX.keep k5
      replace HB := below_then HB k5
      replace la := la.below k5 (Nat.le_refl _)
      replace lb := lb.below k5 (Nat.le_refl _)
      replace lx := lx.below k5 (Nat.le_refl _)
      replace ly := ly.below k5 (Nat.le_refl _)
      replace lN := lN.below k5 (Nat.le_refl _)
      replace lA := lA.below k5 (Nat.le_refl _)
      replace wN := wN.below (C := 0) k5
      replace wA := wA.below (C := 0) k5
      clear k5
      refine Drawn.take (i := 14) (v := .bool false) rfl (by kernel_rfl) (by kernel_rfl) (by kernel_rfl) (fun _ _ _ h => h) (by kernel_rfl) (fun W hW => ?_) HI ?_
      · have ⟨⟨sA0, sA1, sA2⟩, ⟨sN0, sN1, sN2⟩, ⟨sx0, sx1, sx2⟩, sa0, sa1, sa2⟩ := sh W hW
        go_simp <;> (rfl)
      refine Drawn.take (i := 15) (v := ?v11) rfl (by kernel_rfl) (by kernel_rfl) (by kernel_rfl) (fun _ _ _ h => h) (by kernel_rfl) (fun W hW => ?_) HI ?_
      rotate_left
      · have ⟨⟨sA0, sA1, sA2⟩, ⟨sN0, sN1, sN2⟩, ⟨sx0, sx1, sx2⟩, sa0, sa1, sa2⟩ := sh W hW
        go_simp <;> exact rfl
      refine Drawn.take (i := 16) (v := ?v12) rfl (by kernel_rfl) (by kernel_rfl) (by kernel_rfl) (fun _ _ _ h => h) (by kernel_rfl) (fun W hW => ?_) HI ?_
      rotate_left
      · have ⟨⟨sA0, sA1, sA2⟩, ⟨sN0, sN1, sN2⟩, ⟨sx0, sx1, sx2⟩, sa0, sa1, sa2⟩ := sh W hW
        go_simp <;> exact rfl
      refine Drawn.take (i := 17) (v := ?v13) rfl (by kernel_rfl) (by kernel_rfl) (by kernel_rfl) (fun _ _ _ h => h) (by kernel_rfl) (fun W hW => ?_) HI ?_
      rotate_left
      · have ⟨⟨sA0, sA1, sA2⟩, ⟨sN0, sN1, sN2⟩, ⟨sx0, sx1, sx2⟩, sa0, sa1, sa2⟩ := sh W hW
        go_simp <;> exact rfl
      refine Drawn.take (i := 18) (v := ?v14) rfl (by kernel_rfl) (by kernel_rfl) (by kernel_rfl) (fun _ _ _ h => h) (by kernel_rfl) (fun W hW => ?_) HI ?_
      rotate_left
      · have ⟨⟨sA0, sA1, sA2⟩, ⟨sN0, sN1, sN2⟩, ⟨sx0, sx1, sx2⟩, sa0, sa1, sa2⟩ := sh W hW
        go_simp <;> exact rfl
      refine Drawn.take (i := 19) (v := ?v15) rfl (by kernel_rfl) (by kernel_rfl) (by kernel_rfl) (fun _ _ _ h => h) (by kernel_rfl) (fun W hW => ?_) HI ?_
      rotate_left
      · have ⟨⟨sA0, sA1, sA2⟩, ⟨sN0, sN1, sN2⟩, ⟨sx0, sx1, sx2⟩, sa0, sa1, sa2⟩ := sh W hW
        go_simp <;> exact rfl
      refine Drawn.take (i := 20) (v := ?v16) rfl (by kernel_rfl) (by kernel_rfl) (by kernel_rfl) (fun _ _ _ h => h) (by kernel_rfl) (fun W hW => ?_) HI ?_
      rotate_left
      · have ⟨⟨sA0, sA1, sA2⟩, ⟨sN0, sN1, sN2⟩, ⟨sx0, sx1, sx2⟩, sa0, sa1, sa2⟩ := sh W hW
        go_simp <;> exact rfl
      refine Drawn.take (i := 21) (v := ?v17) rfl (by kernel_rfl) (by kernel_rfl) (by kernel_rfl) (fun _ _ _ h => h) (by kernel_rfl) (fun W hW => ?_) HI ?_
      rotate_left
      · have ⟨⟨sA0, sA1, sA2⟩, ⟨sN0, sN1, sN2⟩, ⟨sx0, sx1, sx2⟩, sa0, sa1, sa2⟩ := sh W hW
        go_simp <;> exact rfl
      refine Drawn.take (i := 23) (v := ?v18) rfl (by kernel_rfl) (by kernel_rfl) (by kernel_rfl) (fun _ _ _ h => h) (by kernel_rfl) (fun W hW => ?_) HI ?_
      rotate_left
      · have ⟨⟨sA0, sA1, sA2⟩, ⟨sN0, sN1, sN2⟩, ⟨sx0, sx1, sx2⟩, sa0, sa1, sa2⟩ := sh W hW
        go_simp <;> exact rfl
      refine Drawn.one (j := 22) (by kernel_rfl) rfl (fun K hK => ?_)
      go_simp
      refine (dsign49 n1 ax cx z1 e1 u _ lx N1 sx hsx).mono ?_
      rintro e k6w ⟨rfl, k6⟩
      refine hK _ _ (HI.keep k6) ?_
      clear hK K
      replace HI := HI.keep k6
      replace BX := BX.keep k6
      replace HB := below_then HB k6
      replace la := la.below k6 (Nat.le_refl _)
      replace lb := lb.below k6 (Nat.le_refl _)
      replace lx := lx.below k6 (Nat.le_refl _)
      replace ly := ly.below k6 (Nat.le_refl _)
      replace lN := lN.below k6 (Nat.le_refl _)
      replace lA := lA.below k6 (Nat.le_refl _)
      replace wN := wN.below (C := 0) k6
      replace wA := wA.below (C := 0) k6
      clear k6
      refine Drawn.one (j := 24) (by kernel_rfl) rfl (fun K hK => ?_)
      go_simp
      refine (rSignD n1 a1 c1 z1 e1 N1 sx hsx _).mono ?_
      rintro e k7w ⟨rfl, k7⟩
      refine hK _ _ (HI.keep k7) ?_
      clear hK K
      replace HI := HI.keep k7
      replace BX := BX.keep k7
      replace HB := below_then HB k7
      replace la := la.below k7 (Nat.le_refl _)
      replace lb := lb.below k7 (Nat.le_refl _)
      replace lx := lx.below k7 (Nat.le_refl _)
      replace ly := ly.below k7 (Nat.le_refl _)
      replace lN := lN.below k7 (Nat.le_refl _)
      replace lA := lA.below k7 (Nat.le_refl _)
      replace wN := wN.below (C := 0) k7
      replace wA := wA.below (C := 0) k7
      clear k7
      refine Drawn.take (i := 25) (v := .bool false) rfl (by kernel_rfl) (by kernel_rfl) (by kernel_rfl) (fun _ _ _ h => h) (by kernel_rfl) (fun W hW => ?_) HI ?_
      · have ⟨⟨sA0, sA1, sA2⟩, ⟨sN0, sN1, sN2⟩, ⟨sx0, sx1, sx2⟩, sa0, sa1, sa2⟩ := sh W hW
        go_simp <;> (simp)
      refine Drawn.take (i := 26) (v := ?v19) rfl (by kernel_rfl) (by kernel_rfl) (by kernel_rfl) (fun _ _ _ h => h) (by kernel_rfl) (fun W hW => ?_) HI ?_
      rotate_left
      · have ⟨⟨sA0, sA1, sA2⟩, ⟨sN0, sN1, sN2⟩, ⟨sx0, sx1, sx2⟩, sa0, sa1, sa2⟩ := sh W hW
        go_simp <;> exact rfl
      refine Drawn.take (i := 27) (v := ?v20) rfl (by kernel_rfl) (by kernel_rfl) (by kernel_rfl) (fun _ _ _ h => h) (by kernel_rfl) (fun W hW => ?_) HI ?_
      rotate_left
      · have ⟨⟨sA0, sA1, sA2⟩, ⟨sN0, sN1, sN2⟩, ⟨sx0, sx1, sx2⟩, sa0, sa1, sa2⟩ := sh W hW
        go_simp <;> exact rfl
      refine Drawn.take (i := 28) (v := ?v21) rfl (by kernel_rfl) (by kernel_rfl) (by kernel_rfl) (fun _ _ _ h => h) (by kernel_rfl) (fun W hW => ?_) HI ?_
      rotate_left
      · have ⟨⟨sA0, sA1, sA2⟩, ⟨sN0, sN1, sN2⟩, ⟨sx0, sx1, sx2⟩, sa0, sa1, sa2⟩ := sh W hW
        go_simp <;> exact rfl
      refine Drawn.take (i := 30) (v := ?v22) rfl (by kernel_rfl) (by kernel_rfl) (by kernel_rfl) (fun _ _ _ h => h) (by kernel_rfl) (fun W hW => ?_) HI ?_
      rotate_left
      · have ⟨⟨sA0, sA1, sA2⟩, ⟨sN0, sN1, sN2⟩, ⟨sx0, sx1, sx2⟩, sa0, sa1, sa2⟩ := sh W hW
        go_simp <;> exact rfl
      refine Drawn.one (j := 29) (by kernel_rfl) rfl (fun K hK => ?_)
      go_simp
      refine (dTop n1 ax cx z1 e1 _ lx g1).mono ?_
      rintro e k8w ⟨T9, rfl, hT9, _, k8⟩
      refine hK _ _ (HI.keep k8) ?_
      clear hK K
      replace HI := HI.keep k8
      replace BX := BX.keep k8
      replace HB := below_then HB k8
      replace la := la.below k8 (Nat.le_refl _)
      replace lb := lb.below k8 (Nat.le_refl _)
      replace lx := lx.below k8 (Nat.le_refl _)
      replace ly := ly.below k8 (Nat.le_refl _)
      replace lN := lN.below k8 (Nat.le_refl _)
      replace lA := lA.below k8 (Nat.le_refl _)
      replace wN := wN.below (C := 0) k8
      replace wA := wA.below (C := 0) k8
      clear k8
      obtain rfl := hT9.unique hTop
      clear hT9
      refine Drawn.one (j := 31) (by kernel_rfl) rfl (fun K hK => ?_)
      go_simp
      refine (rTopD n1 a1 c1 z1 e1 _ la g1 hTop).mono ?_
      rintro e k9w ⟨rfl, k9⟩
      refine hK _ _ (HI.keep k9) ?_
      clear hK K
      replace HI := HI.keep k9
      replace BX := BX.keep k9
      replace HB := below_then HB k9
      replace la := la.below k9 (Nat.le_refl _)
      replace lb := lb.below k9 (Nat.le_refl _)
      replace lx := lx.below k9 (Nat.le_refl _)
      replace ly := ly.below k9 (Nat.le_refl _)
      replace lN := lN.below k9 (Nat.le_refl _)
      replace lA := lA.below k9 (Nat.le_refl _)
      replace wN := wN.below (C := 0) k9
      replace wA := wA.below (C := 0) k9
      clear k9
      refine Drawn.take (i := 32) (v := .bool false) rfl (by kernel_rfl) (by kernel_rfl) (by kernel_rfl) (fun _ _ _ h => h) (by kernel_rfl) (fun W hW => ?_) HI ?_
      · have ⟨⟨sA0, sA1, sA2⟩, ⟨sN0, sN1, sN2⟩, ⟨sx0, sx1, sx2⟩, sa0, sa1, sa2⟩ := sh W hW
        go_simp <;> (simp)
      refine Drawn.take (i := 33) (v := ?v23) rfl (by kernel_rfl) (by kernel_rfl) (by kernel_rfl) (fun _ _ _ h => h) (by kernel_rfl) (fun W hW => ?_) HI ?_
      rotate_left
      · have ⟨⟨sA0, sA1, sA2⟩, ⟨sN0, sN1, sN2⟩, ⟨sx0, sx1, sx2⟩, sa0, sa1, sa2⟩ := sh W hW
        go_simp <;> exact rfl
      refine Drawn.done (by kernel_rfl) ?_
      try go_simp
      clear HI sh
      obtain ⟨⟨fN0, fN1, fN2⟩, _⟩ := cells3 BX uN.heap.size _ _ _ _ (show (uN.heap.size, DO (rn n1 z1) aN z1.length cN e1) ∈ _ by simp)
      obtain ⟨⟨fA0, fA1, fA2⟩, _⟩ := cells3 BX uA.heap.size _ _ _ _ (show (uA.heap.size, DO false aA z1.length cA e1) ∈ _ by simp)
      go_wp2_with fail
      refine (mark2 W.heap.size _ _ aN cN z1 _ wN (by have := g1.len; omega) _ aA cA z1 _ wA (by have := g1.len; omega)).mono ?_
      rintro e W2 ⟨rfl, hk⟩
      have HC := (below_then HB (below_alloc _ _)).trans hk
      replace BX := HF.keep HC
      replace lx := lx0.below HC (Nat.le_refl _)
      replace ly := ly0.below HC (Nat.le_refl _)
      replace la := la0.below HC (Nat.le_refl _)
      replace lb := lb0.below HC (Nat.le_refl _)
      replace hTW := hTW.below HC (Nat.le_refl _)
      clear HC hk HB wN wA lN lA
      have HF2 := BX
      have lx2 := lx
      have ly2 := ly
      have la2 := la
      have lb2 := lb
      have HB := Below.refl W2.heap.size W2
      obtain ⟨⟨fx0, fx1, fx2⟩, _⟩ := cells3 BX g5 _ _ _ _ (show (g5, DO n1 ax z1.length cx e1) ∈ _ by simp)
      obtain ⟨⟨fy0, fy1, fy2⟩, _⟩ := cells3 BX g6 _ _ _ _ (show (g6, DO n2 ay z2.length cy e2) ∈ _ by simp)
      go_wp2_with fail
      refine (dcmp55 n1 n2 ax ay cx cy z1 z2 e1 e2 _ lx ly N1 N2 (hTW.below HB (Nat.le_refl _)) sc hsc).mono ?_
      rintro e k10w ⟨rfl, k10⟩
      replace BX := BX.keep k10
      replace HB := below_then HB k10
      replace la := la.below k10 (Nat.le_refl _)
      replace lb := lb.below k10 (Nat.le_refl _)
      replace lx := lx.below k10 (Nat.le_refl _)
      replace ly := ly.below k10 (Nat.le_refl _)
      clear k10
      obtain ⟨⟨fx0, fx1, fx2⟩, _⟩ := cells3 BX g5 _ _ _ _ (show (g5, DO n1 ax z1.length cx e1) ∈ _ by simp)
      obtain ⟨⟨fy0, fy1, fy2⟩, _⟩ := cells3 BX g6 _ _ _ _ (show (g6, DO n2 ay z2.length cy e2) ∈ _ by simp)
      go_wp2_with fail
      refine (dadd56 n1 n2 ax ay cx cy z1 z2 e1 e2 _ lx ly g1 g2 (hTW.below HB (Nat.le_refl _))).mono ?_
      rintro e uS ⟨nS, aS, mS, cS, xS, dS, rfl, vS0⟩
      have hS := vS0.bel
      obtain ⟨zS, rfl, yS, wS⟩ := vS0.list
      replace wS := wS.weak HB.size
      have AS := vS0.ans
      clear vS0
      replace BX := BX.keep hS
      replace HB := below_then HB hS
      replace la := la.below hS (Nat.le_refl _)
      replace lb := lb.below hS (Nat.le_refl _)
      replace lx := lx.below hS (Nat.le_refl _)
      replace ly := ly.below hS (Nat.le_refl _)
      clear hS
      have haS := below_alloc uS (DO nS aS zS.length cS xS)
      replace BX := BX.push (DO nS aS zS.length cS xS)
      replace HB := below_then HB haS
      replace la := la.below haS (Nat.le_refl _)
      replace lb := lb.below haS (Nat.le_refl _)
      replace lx := lx.below haS (Nat.le_refl _)
      replace ly := ly.below haS (Nat.le_refl _)
      replace wS := wS.below (C := 0) haS
      replace AS := AS.below haS
      clear haS
      obtain ⟨⟨fx0, fx1, fx2⟩, _⟩ := cells3 BX g5 _ _ _ _ (show (g5, DO n1 ax z1.length cx e1) ∈ _ by simp)
      obtain ⟨⟨fy0, fy1, fy2⟩, _⟩ := cells3 BX g6 _ _ _ _ (show (g6, DO n2 ay z2.length cy e2) ∈ _ by simp)
      go_wp2_with fail
      generalize hvS : uS.alloc (DO nS aS zS.length cS xS) = vS at *
      clear hvS
      refine (dsub57 n1 n2 ax ay cx cy z1 z2 e1 e2 _ lx ly g1 g2 (hTW.below HB (Nat.le_refl _))).mono ?_
      rintro e uD ⟨nD, aD, mD, cD, xD, dD, rfl, vD0⟩
      have hD := vD0.bel
      obtain ⟨zD, rfl, yD, wD⟩ := vD0.list
      replace wD := wD.weak HB.size
      have AD := vD0.ans
      clear vD0
      replace BX := BX.keep hD
      replace HB := below_then HB hD
      replace la := la.below hD (Nat.le_refl _)
      replace lb := lb.below hD (Nat.le_refl _)
      replace lx := lx.below hD (Nat.le_refl _)
      replace ly := ly.below hD (Nat.le_refl _)
      replace wS := wS.below (C := 0) hD
      replace AS := AS.below hD
      clear hD
      have haD := below_alloc uD (DO nD aD zD.length cD xD)
      replace BX := BX.push (DO nD aD zD.length cD xD)
      replace HB := below_then HB haD
      replace la := la.below haD (Nat.le_refl _)
      replace lb := lb.below haD (Nat.le_refl _)
      replace lx := lx.below haD (Nat.le_refl _)
      replace ly := ly.below haD (Nat.le_refl _)
      replace wS := wS.below (C := 0) haD
      replace wD := wD.below (C := 0) haD
      replace AS := AS.below haD
      replace AD := AD.below haD
      clear haD
      obtain ⟨⟨fx0, fx1, fx2⟩, _⟩ := cells3 BX g5 _ _ _ _ (show (g5, DO n1 ax z1.length cx e1) ∈ _ by simp)
      obtain ⟨⟨fy0, fy1, fy2⟩, _⟩ := cells3 BX g6 _ _ _ _ (show (g6, DO n2 ay z2.length cy e2) ∈ _ by simp)
      go_wp2_with fail
      generalize hvD : uD.alloc (DO nD aD zD.length cD xD) = vD at *
      clear hvD
      refine (dmul58 n1 n2 ax ay cx cy z1 z2 e1 e2 _ lx ly g1 g2 (hTW.below HB (Nat.le_refl _))).mono ?_
      rintro e uM ⟨nM, aM, mM, cM, xM, dM, rfl, vM0⟩
      have hM := vM0.bel
      obtain ⟨zM, rfl, yM, wM⟩ := vM0.list
      replace wM := wM.weak HB.size
      have AM := vM0.ans
      clear vM0
      replace BX := BX.keep hM
      replace HB := below_then HB hM
      replace la := la.below hM (Nat.le_refl _)
      replace lb := lb.below hM (Nat.le_refl _)
      replace lx := lx.below hM (Nat.le_refl _)
      replace ly := ly.below hM (Nat.le_refl _)
      replace wS := wS.below (C := 0) hM
      replace wD := wD.below (C := 0) hM
      replace AS := AS.below hM
      replace AD := AD.below hM
      clear hM
      have haM := below_alloc uM (DO nM aM zM.length cM xM)
      replace BX := BX.push (DO nM aM zM.length cM xM)
      replace HB := below_then HB haM
      replace la := la.below haM (Nat.le_refl _)
      replace lb := lb.below haM (Nat.le_refl _)
      replace lx := lx.below haM (Nat.le_refl _)
      replace ly := ly.below haM (Nat.le_refl _)
      replace wS := wS.below (C := 0) haM
      replace wD := wD.below (C := 0) haM
      replace wM := wM.below (C := 0) haM
      replace AS := AS.below haM
      replace AD := AD.below haM
      replace AM := AM.below haM
      clear haM
      obtain ⟨⟨fa0, fa1, fa2⟩, _⟩ := cells3 BX w.heap.size _ _ _ _ (show (w.heap.size, DO n1 a1 z1.length c1 e1) ∈ _ by simp)
      go_wp2_with fail
      generalize hvM : uM.alloc (DO nM aM zM.length cM xM) = vM at *
      clear hvM
      refine (drefmay37 n1 a1 c1 z1 e1 _ ⟨la, u1.len, u1.rng⟩ true g1.may).mono ?_
      rintro e k11w ⟨rfl, k11⟩
      replace BX := BX.keep k11
      replace HB := below_then HB k11
      replace la := la.below k11 (Nat.le_refl _)
      replace lb := lb.below k11 (Nat.le_refl _)
      replace lx := lx.below k11 (Nat.le_refl _)
      replace ly := ly.below k11 (Nat.le_refl _)
      replace wS := wS.below (C := 0) k11
      replace wD := wD.below (C := 0) k11
      replace wM := wM.below (C := 0) k11
      replace AS := AS.below k11
      replace AD := AD.below k11
      replace AM := AM.below k11
      clear k11
      obtain ⟨⟨fb0, fb1, fb2⟩, _⟩ := cells3 BX (w.heap.size + 1) _ _ _ _ (show ((w.heap.size + 1), DO n2 a2 z2.length c2 e2) ∈ _ by simp)
      go_wp2_with fail
      refine (drefmay37 n2 a2 c2 z2 e2 _ ⟨lb, u2.len, u2.rng⟩ true g2.may).mono ?_
      rintro e k12w ⟨rfl, k12⟩
      replace BX := BX.keep k12
      replace HB := below_then HB k12
      replace la := la.below k12 (Nat.le_refl _)
      replace lb := lb.below k12 (Nat.le_refl _)
      replace lx := lx.below k12 (Nat.le_refl _)
      replace ly := ly.below k12 (Nat.le_refl _)
      replace wS := wS.below (C := 0) k12
      replace wD := wD.below (C := 0) k12
      replace wM := wM.below (C := 0) k12
      replace AS := AS.below k12
      replace AD := AD.below k12
      replace AM := AM.below k12
      clear k12
      go_wp2_with fail
      have HI := (BX.sub (L' := [(uM.heap.size, DO nM aM zM.length cM xM), ((w.heap.size + 1), DO n2 a2 z2.length c2 e2), (w.heap.size, DO n1 a1 z1.length c1 e1)]) (by simp)).drew
      have sh := fun W (hW : Bx w [(uM.heap.size, DO nM aM zM.length cM xM), ((w.heap.size + 1), DO n2 a2 z2.length c2 e2), (w.heap.size, DO n1 a1 z1.length c1 e1)] W) => And.intro (cells3 hW uM.heap.size _ _ _ _ (show (uM.heap.size, DO nM aM zM.length cM xM) ∈ _ by simp)).1 (And.intro (cells3 hW (w.heap.size + 1) _ _ _ _ (show ((w.heap.size + 1), DO n2 a2 z2.length c2 e2) ∈ _ by simp)).1 ((cells3 hW w.heap.size _ _ _ _ (show (w.heap.size, DO n1 a1 z1.length c1 e1) ∈ _ by simp)).1))
      replace HB := Below.drew HB
      replace BX := BX.drew
      replace la : Lie (World.drew _) _ _ := la
      replace lb : Lie (World.drew _) _ _ := lb
      replace lx : Lie (World.drew _) _ _ := lx
      replace ly : Lie (World.drew _) _ _ := ly
      replace wS : WrA _ (World.drew _) _ _ := wS
      replace wD : WrA _ (World.drew _) _ _ := wD
      replace wM : WrA _ (World.drew _) _ _ := wM
      replace AS : Ans (World.drew _) _ _ _ _ _ _ _ _ := AS
      replace AD : Ans (World.drew _) _ _ _ _ _ _ _ _ := AD
      replace AM : Ans (World.drew _) _ _ _ _ _ _ _ _ := AM
      refine Drawn.enter (Bx w [(uM.heap.size, DO nM aM zM.length cM xM), ((w.heap.size + 1), DO n2 a2 z2.length c2 e2), (w.heap.size, DO n1 a1 z1.length c1 e1)]) (by kernel_rfl) ?_
      refine Drawn.take (i := 0) (v := ?v24) rfl (by kernel_rfl) (by kernel_rfl) (by kernel_rfl) (fun _ _ _ h => h) (by kernel_rfl) (fun W hW => ?_) HI ?_
      rotate_left
      · have ⟨⟨sM0, sM1, sM2⟩, ⟨sb0, sb1, sb2⟩, sa0, sa1, sa2⟩ := sh W hW
        go_simp <;> exact rfl
      refine Drawn.take (i := 1) (v := ?v25) rfl (by kernel_rfl) (by kernel_rfl) (by kernel_rfl) (fun _ _ _ h => h) (by kernel_rfl) (fun W hW => ?_) HI ?_
      rotate_left
      · have ⟨⟨sM0, sM1, sM2⟩, ⟨sb0, sb1, sb2⟩, sa0, sa1, sa2⟩ := sh W hW
        go_simp <;> exact rfl
      refine Drawn.take (i := 2) (v := ?v26) rfl (by kernel_rfl) (by kernel_rfl) (by kernel_rfl) (fun _ _ _ h => h) (by kernel_rfl) (fun W hW => ?_) HI ?_
      rotate_left
      · have ⟨⟨sM0, sM1, sM2⟩, ⟨sb0, sb1, sb2⟩, sa0, sa1, sa2⟩ := sh W hW
        go_simp <;> exact rfl
      refine Drawn.one (j := 3) (by kernel_rfl) rfl (fun K hK => ?_)
      go_simp
      refine (cmpX n1 n2 a1 a2 c1 c2 z1 z2 e1 e2 _ la lb N1 N2 sc hsc).mono ?_
      rintro e k13w ⟨rfl, k13⟩
      refine hK _ _ (HI.keep k13) ?_
      clear hK K
      replace HI := HI.keep k13
      replace BX := BX.keep k13
      replace HB := below_then HB k13
      replace la := la.below k13 (Nat.le_refl _)
      replace lb := lb.below k13 (Nat.le_refl _)
      replace lx := lx.below k13 (Nat.le_refl _)
      replace ly := ly.below k13 (Nat.le_refl _)
      replace wS := wS.below (C := 0) k13
      replace wD := wD.below (C := 0) k13
      replace wM := wM.below (C := 0) k13
      replace AS := AS.below k13
      replace AD := AD.below k13
      replace AM := AM.below k13
      clear k13
      refine Drawn.take (i := 4) (v := .bool false) rfl (by kernel_rfl) (by kernel_rfl) (by kernel_rfl) (fun _ _ _ h => h) (by kernel_rfl) (fun W hW => ?_) HI ?_
      · have ⟨⟨sM0, sM1, sM2⟩, ⟨sb0, sb1, sb2⟩, sa0, sa1, sa2⟩ := sh W hW
        go_simp <;> (simp)
      refine Drawn.take (i := 5) (v := ?v27) rfl (by kernel_rfl) (by kernel_rfl) (by kernel_rfl) (fun _ _ _ h => h) (by kernel_rfl) (fun W hW => ?_) HI ?_
      rotate_left
      · have ⟨⟨sM0, sM1, sM2⟩, ⟨sb0, sb1, sb2⟩, sa0, sa1, sa2⟩ := sh W hW
        go_simp <;> exact rfl
      refine Drawn.take (i := 6) (v := ?v28) rfl (by kernel_rfl) (by kernel_rfl) (by kernel_rfl) (fun _ _ _ h => h) (by kernel_rfl) (fun W hW => ?_) HI ?_
      rotate_left
      · have ⟨⟨sM0, sM1, sM2⟩, ⟨sb0, sb1, sb2⟩, sa0, sa1, sa2⟩ := sh W hW
        go_simp <;> exact rfl
      refine Drawn.take (i := 7) (v := ?v29) rfl (by kernel_rfl) (by kernel_rfl) (by kernel_rfl) (fun _ _ _ h => h) (by kernel_rfl) (fun W hW => ?_) HI ?_
      rotate_left
      · have ⟨⟨sM0, sM1, sM2⟩, ⟨sb0, sb1, sb2⟩, sa0, sa1, sa2⟩ := sh W hW
        go_simp <;> exact rfl
      refine Drawn.take (i := 8) (v := ?v30) rfl (by kernel_rfl) (by kernel_rfl) (by kernel_rfl) (fun _ _ _ h => h) (by kernel_rfl) (fun W hW => ?_) HI ?_
      rotate_left
      · have ⟨⟨sM0, sM1, sM2⟩, ⟨sb0, sb1, sb2⟩, sa0, sa1, sa2⟩ := sh W hW
        go_simp <;> exact rfl
      refine Drawn.take (i := 9) (v := ?v31) rfl (by kernel_rfl) (by kernel_rfl) (by kernel_rfl) (fun _ _ _ h => h) (by kernel_rfl) (fun W hW => ?_) HI ?_
      rotate_left
      · have ⟨⟨sM0, sM1, sM2⟩, ⟨sb0, sb1, sb2⟩, sa0, sa1, sa2⟩ := sh W hW
        go_simp <;> exact rfl
      refine Drawn.take (i := 10) (v := ?v32) rfl (by kernel_rfl) (by kernel_rfl) (by kernel_rfl) (fun _ _ _ h => h) (by kernel_rfl) (fun W hW => ?_) HI ?_
      rotate_left
      · have ⟨⟨sM0, sM1, sM2⟩, ⟨sb0, sb1, sb2⟩, sa0, sa1, sa2⟩ := sh W hW
        go_simp <;> exact rfl
      refine Drawn.take (i := 11) (v := ?v33) rfl (by kernel_rfl) (by kernel_rfl) (by kernel_rfl) (fun _ _ _ h => h) (by kernel_rfl) (fun W hW => ?_) HI ?_
      rotate_left
      · have ⟨⟨sM0, sM1, sM2⟩, ⟨sb0, sb1, sb2⟩, sa0, sa1, sa2⟩ := sh W hW
        go_simp <;> exact rfl
      refine Drawn.take (i := 12) (v := ?v34) rfl (by kernel_rfl) (by kernel_rfl) (by kernel_rfl) (fun _ _ _ h => h) (by kernel_rfl) (fun W hW => ?_) HI ?_
      rotate_left
      · have ⟨⟨sM0, sM1, sM2⟩, ⟨sb0, sb1, sb2⟩, sa0, sa1, sa2⟩ := sh W hW
        go_simp <;> exact rfl
      refine Drawn.take (i := 13) (v := ?v35) rfl (by kernel_rfl) (by kernel_rfl) (by kernel_rfl) (fun _ _ _ h => h) (by kernel_rfl) (fun W hW => ?_) HI ?_
      rotate_left
      · have ⟨⟨sM0, sM1, sM2⟩, ⟨sb0, sb1, sb2⟩, sa0, sa1, sa2⟩ := sh W hW
        go_simp <;> exact rfl
      refine Drawn.one (j := 14) (by kernel_rfl) rfl (fun K hK => ?_)
      go_simp
      refine (mulD n1 n2 a1 a2 c1 c2 z1 z2 e1 e2 _ la lb g1 g2).mono ?_
      rintro e k14w ⟨nR, zR, xR, aR, cR, rfl, FR, lR, k14⟩
      refine hK _ _ (HI.keep k14) ?_
      clear hK K
      replace HI := HI.keep k14
      replace BX := BX.keep k14
      replace HB := below_then HB k14
      replace la := la.below k14 (Nat.le_refl _)
      replace lb := lb.below k14 (Nat.le_refl _)
      replace lx := lx.below k14 (Nat.le_refl _)
      replace ly := ly.below k14 (Nat.le_refl _)
      replace wS := wS.below (C := 0) k14
      replace wD := wD.below (C := 0) k14
      replace wM := wM.below (C := 0) k14
      replace AS := AS.below k14
      replace AD := AD.below k14
      replace AM := AM.below k14
      clear k14
      refine Drawn.one (j := 15) (by kernel_rfl) rfl (fun K hK => ?_)
      go_simp
      refine (boundX _ AM FR lR).mono ?_
      rintro e k15w ⟨rfl, k15⟩
      refine hK _ _ (HI.keep k15) ?_
      clear hK K
      replace HI := HI.keep k15
      replace BX := BX.keep k15
      replace HB := below_then HB k15
      replace la := la.below k15 (Nat.le_refl _)
      replace lb := lb.below k15 (Nat.le_refl _)
      replace lx := lx.below k15 (Nat.le_refl _)
      replace ly := ly.below k15 (Nat.le_refl _)
      replace wS := wS.below (C := 0) k15
      replace wD := wD.below (C := 0) k15
      replace wM := wM.below (C := 0) k15
      replace AS := AS.below k15
      replace AD := AD.below k15
      replace AM := AM.below k15
      clear k15
      clear FR lR AM
      refine Drawn.take (i := 16) (v := .bool false) rfl (by kernel_rfl) (by kernel_rfl) (by kernel_rfl) (fun _ _ _ h => h) (by kernel_rfl) (fun W hW => ?_) HI ?_
      · have ⟨⟨sM0, sM1, sM2⟩, ⟨sb0, sb1, sb2⟩, sa0, sa1, sa2⟩ := sh W hW
        go_simp <;> (rfl)
      refine Drawn.take (i := 17) (v := ?v36) rfl (by kernel_rfl) (by kernel_rfl) (by kernel_rfl) (fun _ _ _ h => h) (by kernel_rfl) (fun W hW => ?_) HI ?_
      rotate_left
      · have ⟨⟨sM0, sM1, sM2⟩, ⟨sb0, sb1, sb2⟩, sa0, sa1, sa2⟩ := sh W hW
        go_simp <;> exact rfl
      refine Drawn.done (by kernel_rfl) ?_
      try go_simp
      clear HI sh
      obtain ⟨⟨fa0, fa1, fa2⟩, _⟩ := cells3 BX w.heap.size _ _ _ _ (show (w.heap.size, DO n1 a1 z1.length c1 e1) ∈ _ by simp)
      obtain ⟨⟨fb0, fb1, fb2⟩, _⟩ := cells3 BX (w.heap.size + 1) _ _ _ _ (show ((w.heap.size + 1), DO n2 a2 z2.length c2 e2) ∈ _ by simp)
      go_wp2_with fail
      refine (HFar _ la lb).mono ?_
      rintro e k16w ⟨rfl, k16⟩
      replace BX := BX.keep k16
      replace HB := below_then HB k16
      replace la := la.below k16 (Nat.le_refl _)
      replace lb := lb.below k16 (Nat.le_refl _)
      replace lx := lx.below k16 (Nat.le_refl _)
      replace ly := ly.below k16 (Nat.le_refl _)
      replace wS := wS.below (C := 0) k16
      replace wD := wD.below (C := 0) k16
      replace wM := wM.below (C := 0) k16
      replace AS := AS.below k16
      replace AD := AD.below k16
      clear k16
      go_wp2_with fail
      have HI := (BX.sub (L' := [(uD.heap.size, DO nD aD zD.length cD xD), (uS.heap.size, DO nS aS zS.length cS xS), ((w.heap.size + 1), DO n2 a2 z2.length c2 e2), (w.heap.size, DO n1 a1 z1.length c1 e1)]) (by simp)).drew
      have sh := fun W (hW : Bx w [(uD.heap.size, DO nD aD zD.length cD xD), (uS.heap.size, DO nS aS zS.length cS xS), ((w.heap.size + 1), DO n2 a2 z2.length c2 e2), (w.heap.size, DO n1 a1 z1.length c1 e1)] W) => And.intro (cells3 hW uD.heap.size _ _ _ _ (show (uD.heap.size, DO nD aD zD.length cD xD) ∈ _ by simp)).1 (And.intro (cells3 hW uS.heap.size _ _ _ _ (show (uS.heap.size, DO nS aS zS.length cS xS) ∈ _ by simp)).1 (And.intro (cells3 hW (w.heap.size + 1) _ _ _ _ (show ((w.heap.size + 1), DO n2 a2 z2.length c2 e2) ∈ _ by simp)).1 ((cells3 hW w.heap.size _ _ _ _ (show (w.heap.size, DO n1 a1 z1.length c1 e1) ∈ _ by simp)).1)))
      replace HB := Below.drew HB
      replace BX := BX.drew
      replace la : Lie (World.drew _) _ _ := la
      replace lb : Lie (World.drew _) _ _ := lb
      replace lx : Lie (World.drew _) _ _ := lx
      replace ly : Lie (World.drew _) _ _ := ly
      replace wS : WrA _ (World.drew _) _ _ := wS
      replace wD : WrA _ (World.drew _) _ _ := wD
      replace wM : WrA _ (World.drew _) _ _ := wM
      replace AS : Ans (World.drew _) _ _ _ _ _ _ _ _ := AS
      replace AD : Ans (World.drew _) _ _ _ _ _ _ _ _ := AD
      refine Drawn.enter (Bx w [(uD.heap.size, DO nD aD zD.length cD xD), (uS.heap.size, DO nS aS zS.length cS xS), ((w.heap.size + 1), DO n2 a2 z2.length c2 e2), (w.heap.size, DO n1 a1 z1.length c1 e1)]) (by kernel_rfl) ?_
      refine Drawn.take (i := 0) (v := ?v37) rfl (by kernel_rfl) (by kernel_rfl) (by kernel_rfl) (fun _ _ _ h => h) (by kernel_rfl) (fun W hW => ?_) HI ?_
      rotate_left
      · have ⟨⟨sD0, sD1, sD2⟩, ⟨sS0, sS1, sS2⟩, ⟨sb0, sb1, sb2⟩, sa0, sa1, sa2⟩ := sh W hW
        go_simp <;> exact rfl
      refine Drawn.take (i := 1) (v := ?v38) rfl (by kernel_rfl) (by kernel_rfl) (by kernel_rfl) (fun _ _ _ h => h) (by kernel_rfl) (fun W hW => ?_) HI ?_
      rotate_left
      · have ⟨⟨sD0, sD1, sD2⟩, ⟨sS0, sS1, sS2⟩, ⟨sb0, sb1, sb2⟩, sa0, sa1, sa2⟩ := sh W hW
        go_simp <;> exact rfl
      refine Drawn.take (i := 2) (v := ?v39) rfl (by kernel_rfl) (by kernel_rfl) (by kernel_rfl) (fun _ _ _ h => h) (by kernel_rfl) (fun W hW => ?_) HI ?_
      rotate_left
      · have ⟨⟨sD0, sD1, sD2⟩, ⟨sS0, sS1, sS2⟩, ⟨sb0, sb1, sb2⟩, sa0, sa1, sa2⟩ := sh W hW
        go_simp <;> exact rfl
      refine Drawn.take (i := 3) (v := ?v40) rfl (by kernel_rfl) (by kernel_rfl) (by kernel_rfl) (fun _ _ _ h => h) (by kernel_rfl) (fun W hW => ?_) HI ?_
      rotate_left
      · have ⟨⟨sD0, sD1, sD2⟩, ⟨sS0, sS1, sS2⟩, ⟨sb0, sb1, sb2⟩, sa0, sa1, sa2⟩ := sh W hW
        go_simp <;> exact rfl
      refine Drawn.one (j := 4) (by kernel_rfl) rfl (fun K hK => ?_)
      go_simp
      refine (addD n1 n2 a1 a2 c1 c2 z1 z2 e1 e2 _ la lb N1 N2 hnear).mono ?_
      rintro e k17w ⟨nR, zR, xR, aR, cR, rfl, FR, lR, k17⟩
      refine hK _ _ (HI.keep k17) ?_
      clear hK K
      replace HI := HI.keep k17
      replace BX := BX.keep k17
      replace HB := below_then HB k17
      replace la := la.below k17 (Nat.le_refl _)
      replace lb := lb.below k17 (Nat.le_refl _)
      replace lx := lx.below k17 (Nat.le_refl _)
      replace ly := ly.below k17 (Nat.le_refl _)
      replace wS := wS.below (C := 0) k17
      replace wD := wD.below (C := 0) k17
      replace wM := wM.below (C := 0) k17
      replace AS := AS.below k17
      replace AD := AD.below k17
      clear k17
      refine Drawn.one (j := 5) (by kernel_rfl) rfl (fun K hK => ?_)
      go_simp
      refine (boundX _ (by rw [N1.val, N2.val] at AS; exact AS) FR lR).mono ?_
      rintro e k18w ⟨rfl, k18⟩
      refine hK _ _ (HI.keep k18) ?_
      clear hK K
      replace HI := HI.keep k18
      replace BX := BX.keep k18
      replace HB := below_then HB k18
      replace la := la.below k18 (Nat.le_refl _)
      replace lb := lb.below k18 (Nat.le_refl _)
      replace lx := lx.below k18 (Nat.le_refl _)
      replace ly := ly.below k18 (Nat.le_refl _)
      replace wS := wS.below (C := 0) k18
      replace wD := wD.below (C := 0) k18
      replace wM := wM.below (C := 0) k18
      replace AS := AS.below k18
      replace AD := AD.below k18
      clear k18
      clear FR lR AS
      refine Drawn.take (i := 6) (v := ?v41) rfl (by kernel_rfl) (by kernel_rfl) (by kernel_rfl) (fun _ _ _ h => h) (by kernel_rfl) (fun W hW => ?_) HI ?_
      rotate_left
      · have ⟨⟨sD0, sD1, sD2⟩, ⟨sS0, sS1, sS2⟩, ⟨sb0, sb1, sb2⟩, sa0, sa1, sa2⟩ := sh W hW
        go_simp <;> exact rfl
      refine Drawn.take (i := 7) (v := ?v42) rfl (by kernel_rfl) (by kernel_rfl) (by kernel_rfl) (fun _ _ _ h => h) (by kernel_rfl) (fun W hW => ?_) HI ?_
      rotate_left
      · have ⟨⟨sD0, sD1, sD2⟩, ⟨sS0, sS1, sS2⟩, ⟨sb0, sb1, sb2⟩, sa0, sa1, sa2⟩ := sh W hW
        go_simp <;> exact rfl
      refine Drawn.take (i := 8) (v := ?v43) rfl (by kernel_rfl) (by kernel_rfl) (by kernel_rfl) (fun _ _ _ h => h) (by kernel_rfl) (fun W hW => ?_) HI ?_
      rotate_left
      · have ⟨⟨sD0, sD1, sD2⟩, ⟨sS0, sS1, sS2⟩, ⟨sb0, sb1, sb2⟩, sa0, sa1, sa2⟩ := sh W hW
        go_simp <;> exact rfl
      refine Drawn.take (i := 9) (v := ?v44) rfl (by kernel_rfl) (by kernel_rfl) (by kernel_rfl) (fun _ _ _ h => h) (by kernel_rfl) (fun W hW => ?_) HI ?_
      rotate_left
      · have ⟨⟨sD0, sD1, sD2⟩, ⟨sS0, sS1, sS2⟩, ⟨sb0, sb1, sb2⟩, sa0, sa1, sa2⟩ := sh W hW
        go_simp <;> exact rfl
      refine Drawn.take (i := 10) (v := ?v45) rfl (by kernel_rfl) (by kernel_rfl) (by kernel_rfl) (fun _ _ _ h => h) (by kernel_rfl) (fun W hW => ?_) HI ?_
      rotate_left
      · have ⟨⟨sD0, sD1, sD2⟩, ⟨sS0, sS1, sS2⟩, ⟨sb0, sb1, sb2⟩, sa0, sa1, sa2⟩ := sh W hW
        go_simp <;> exact rfl
      refine Drawn.one (j := 11) (by kernel_rfl) rfl (fun K hK => ?_)
      go_simp
      refine (subF n1 n2 a1 a2 c1 c2 z1 z2 e1 e2 _ la lb N1 N2 hnear).mono ?_
      rintro e k19w ⟨nR, zR, xR, aR, cR, rfl, FR, lR, k19⟩
      refine hK _ _ (HI.keep k19) ?_
      clear hK K
      replace HI := HI.keep k19
      replace BX := BX.keep k19
      replace HB := below_then HB k19
      replace la := la.below k19 (Nat.le_refl _)
      replace lb := lb.below k19 (Nat.le_refl _)
      replace lx := lx.below k19 (Nat.le_refl _)
      replace ly := ly.below k19 (Nat.le_refl _)
      replace wS := wS.below (C := 0) k19
      replace wD := wD.below (C := 0) k19
      replace wM := wM.below (C := 0) k19
      replace AD := AD.below k19
      clear k19
      refine Drawn.one (j := 12) (by kernel_rfl) rfl (fun K hK => ?_)
      go_simp
      refine (boundX _ (by rw [N1.val, N2.val] at AD; exact AD) FR lR).mono ?_
      rintro e k20w ⟨rfl, k20⟩
      refine hK _ _ (HI.keep k20) ?_
      clear hK K
      replace HI := HI.keep k20
      replace BX := BX.keep k20
      replace HB := below_then HB k20
      replace la := la.below k20 (Nat.le_refl _)
      replace lb := lb.below k20 (Nat.le_refl _)
      replace lx := lx.below k20 (Nat.le_refl _)
      replace ly := ly.below k20 (Nat.le_refl _)
      replace wS := wS.below (C := 0) k20
      replace wD := wD.below (C := 0) k20
      replace wM := wM.below (C := 0) k20
      replace AD := AD.below k20
      clear k20
      clear FR lR AD
      refine Drawn.take (i := 13) (v := ?v46) rfl (by kernel_rfl) (by kernel_rfl) (by kernel_rfl) (fun _ _ _ h => h) (by kernel_rfl) (fun W hW => ?_) HI ?_
      rotate_left
      · have ⟨⟨sD0, sD1, sD2⟩, ⟨sS0, sS1, sS2⟩, ⟨sb0, sb1, sb2⟩, sa0, sa1, sa2⟩ := sh W hW
        go_simp <;> exact rfl
      refine Drawn.take (i := 14) (v := ?v47) rfl (by kernel_rfl) (by kernel_rfl) (by kernel_rfl) (fun _ _ _ h => h) (by kernel_rfl) (fun W hW => ?_) HI ?_
      rotate_left
      · have ⟨⟨sD0, sD1, sD2⟩, ⟨sS0, sS1, sS2⟩, ⟨sb0, sb1, sb2⟩, sa0, sa1, sa2⟩ := sh W hW
        go_simp <;> exact rfl
      refine Drawn.done (by kernel_rfl) ?_
      try go_simp
      clear HI sh
      obtain ⟨⟨fS0, fS1, fS2⟩, _⟩ := cells3 BX uS.heap.size _ _ _ _ (show (uS.heap.size, DO nS aS zS.length cS xS) ∈ _ by simp)
      obtain ⟨⟨fD0, fD1, fD2⟩, _⟩ := cells3 BX uD.heap.size _ _ _ _ (show (uD.heap.size, DO nD aD zD.length cD xD) ∈ _ by simp)
      obtain ⟨⟨fM0, fM1, fM2⟩, _⟩ := cells3 BX uM.heap.size _ _ _ _ (show (uM.heap.size, DO nM aM zM.length cM xM) ∈ _ by simp)
      go_wp2_with fail
      refine (mark3 W2.heap.size _ _ aS cS zS _ wS (by omega) _ aD cD zD _ wD (by omega) _ aM cM zM _ wM (by omega)).mono ?_
      rintro e W3 ⟨rfl, hk⟩
      have HC := (below_then HB (below_alloc _ _)).trans hk
      replace BX := HF2.keep HC
      replace lx := lx2.below HC (Nat.le_refl _)
      replace ly := ly2.below HC (Nat.le_refl _)
      replace la := la2.below HC (Nat.le_refl _)
      replace lb := lb2.below HC (Nat.le_refl _)
      clear HC hk HB wS wD wM
      have HB := Below.refl W3.heap.size W3
      obtain ⟨⟨fx0, fx1, fx2⟩, _⟩ := cells3 BX g5 _ _ _ _ (show (g5, DO n1 ax z1.length cx e1) ∈ _ by simp)
      obtain ⟨⟨fa0, fa1, fa2⟩, _⟩ := cells3 BX w.heap.size _ _ _ _ (show (w.heap.size, DO n1 a1 z1.length c1 e1) ∈ _ by simp)
      go_wp2_with fail
      refine (sameD _ _ ax a1 cx c1 z1 z1 e1 e1 _ N1 N1 lx la).mono ?_
      rintro e k21w ⟨rfl, k21⟩
      replace BX := BX.keep k21
      replace HB := below_then HB k21
      replace la := la.below k21 (Nat.le_refl _)
      replace lb := lb.below k21 (Nat.le_refl _)
      replace lx := lx.below k21 (Nat.le_refl _)
      replace ly := ly.below k21 (Nat.le_refl _)
      clear k21
      obtain ⟨⟨fy0, fy1, fy2⟩, _⟩ := cells3 BX g6 _ _ _ _ (show (g6, DO n2 ay z2.length cy e2) ∈ _ by simp)
      obtain ⟨⟨fb0, fb1, fb2⟩, _⟩ := cells3 BX (w.heap.size + 1) _ _ _ _ (show ((w.heap.size + 1), DO n2 a2 z2.length c2 e2) ∈ _ by simp)
      go_wp2_with fail
      refine (sameD _ _ ay a2 cy c2 z2 z2 e2 e2 _ N2 N2 ly lb).mono ?_
      rintro e k22w ⟨rfl, k22⟩
      replace BX := BX.keep k22
      replace HB := below_then HB k22
      replace la := la.below k22 (Nat.le_refl _)
      replace lb := lb.below k22 (Nat.le_refl _)
      replace lx := lx.below k22 (Nat.le_refl _)
      replace ly := ly.below k22 (Nat.le_refl _)
      clear k22
      go_wp2_with fail
      refine (dknown34 _ (hT.below BX.bel (Nat.le_refl _))).mono ?_
      rintro e k23w ⟨rfl, k23⟩
      replace BX := BX.keep k23
      replace HB := below_then HB k23
      replace la := la.below k23 (Nat.le_refl _)
      replace lb := lb.below k23 (Nat.le_refl _)
      replace lx := lx.below k23 (Nat.le_refl _)
      replace ly := ly.below k23 (Nat.le_refl _)
      clear k23
      go_wp2
      go_ret
      exact ⟨rfl, BX.bel⟩
    · obtain ⟨u, v, N1, N2, HFar, hb1, hb2⟩ := HC
      have g2 := N2.dg
      obtain ⟨sc, hsc⟩ : ∃ s, sgn u v = s := ⟨_, rfl⟩
      have g1 := N1.dg
      obtain ⟨sx, hsx⟩ : ∃ s, sgn u 0 = s := ⟨_, rfl⟩
      obtain ⟨T, hTop⟩ := bitLen_ex g1.good.nonneg
      obtain ⟨⟨fx0, fx1, fx2⟩, _⟩ := cells3 BX g5 _ _ _ _ (show (g5, DO n1 ax z1.length cx e1) ∈ _ by simp)
      go_wp2_with fail
      refine (dneg47 n1 ax cx z1 e1 _ lx g1 (hTW.below HB (Nat.le_refl _))).mono ?_
      rintro e uN ⟨nN, aN, mN, cN, xN, dN, rfl, vN0⟩
      have hN := vN0.bel
      obtain ⟨rfl, rfl, rfl, rfl, iN⟩ := vN0.isD (by rw [N1.val]; exact rn_num N1)
      have wN := iN.own.wrA.weak HB.size
      have lN := iN.lie
      clear iN vN0
      replace BX := BX.keep hN
      replace HB := below_then HB hN
      replace la := la.below hN (Nat.le_refl _)
      replace lb := lb.below hN (Nat.le_refl _)
      replace lx := lx.below hN (Nat.le_refl _)
      replace ly := ly.below hN (Nat.le_refl _)
      clear hN
      have haN := below_alloc uN (DO (rn n1 z1) aN z1.length cN e1)
      replace BX := BX.push (DO (rn n1 z1) aN z1.length cN e1)
      replace HB := below_then HB haN
      replace la := la.below haN (Nat.le_refl _)
      replace lb := lb.below haN (Nat.le_refl _)
      replace lx := lx.below haN (Nat.le_refl _)
      replace ly := ly.below haN (Nat.le_refl _)
      replace lN := lN.below haN (Nat.le_refl _)
      replace wN := wN.below (C := 0) haN
      clear haN
      obtain ⟨⟨fx0, fx1, fx2⟩, _⟩ := cells3 BX g5 _ _ _ _ (show (g5, DO n1 ax z1.length cx e1) ∈ _ by simp)
      go_wp2_with fail
      generalize hvN : uN.alloc (DO (rn n1 z1) aN z1.length cN e1) = vN at *
      clear hvN
      refine (dabs48 n1 ax cx z1 e1 _ lx g1 (hTW.below HB (Nat.le_refl _))).mono ?_
      rintro e uA ⟨nA, aA, mA, cA, xA, dA, rfl, vA0⟩
      have hA := vA0.bel
      obtain ⟨rfl, rfl, rfl, rfl, iA⟩ := vA0.isD (abs_num N1)
      have wA := iA.own.wrA.weak HB.size
      have lA := iA.lie
      clear iA vA0
      replace BX := BX.keep hA
      replace HB := below_then HB hA
      replace la := la.below hA (Nat.le_refl _)
      replace lb := lb.below hA (Nat.le_refl _)
      replace lx := lx.below hA (Nat.le_refl _)
      replace ly := ly.below hA (Nat.le_refl _)
      replace lN := lN.below hA (Nat.le_refl _)
      replace wN := wN.below (C := 0) hA
      clear hA
      have haA := below_alloc uA (DO false aA z1.length cA e1)
      replace BX := BX.push (DO false aA z1.length cA e1)
      replace HB := below_then HB haA
      replace la := la.below haA (Nat.le_refl _)
      replace lb := lb.below haA (Nat.le_refl _)
      replace lx := lx.below haA (Nat.le_refl _)
      replace ly := ly.below haA (Nat.le_refl _)
      replace lN := lN.below haA (Nat.le_refl _)
      replace lA := lA.below haA (Nat.le_refl _)
      replace wN := wN.below (C := 0) haA
      replace wA := wA.below (C := 0) haA
      clear haA
      obtain ⟨⟨fa0, fa1, fa2⟩, _⟩ := cells3 BX w.heap.size _ _ _ _ (show (w.heap.size, DO n1 a1 z1.length c1 e1) ∈ _ by simp)
      go_wp2_with fail
      generalize hvA : uA.alloc (DO false aA z1.length cA e1) = vA at *
      clear hvA
      refine (drefmay37 n1 a1 c1 z1 e1 _ ⟨la, u1.len, u1.rng⟩ true g1.may).mono ?_
      rintro e k1w ⟨rfl, k1⟩
      replace BX := BX.keep k1
      replace HB := below_then HB k1
      replace la := la.below k1 (Nat.le_refl _)
      replace lb := lb.below k1 (Nat.le_refl _)
      replace lx := lx.below k1 (Nat.le_refl _)
      replace ly := ly.below k1 (Nat.le_refl _)
      replace lN := lN.below k1 (Nat.le_refl _)
      replace lA := lA.below k1 (Nat.le_refl _)
      replace wN := wN.below (C := 0) k1
      replace wA := wA.below (C := 0) k1
      clear k1
      go_wp2_with fail
      have HI := (BX.sub (L' := [(uA.heap.size, DO false aA z1.length cA e1), (uN.heap.size, DO (rn n1 z1) aN z1.length cN e1), (g5, DO n1 ax z1.length cx e1), (w.heap.size, DO n1 a1 z1.length c1 e1)]) (by simp)).drew
      have sh := fun W (hW : Bx w [(uA.heap.size, DO false aA z1.length cA e1), (uN.heap.size, DO (rn n1 z1) aN z1.length cN e1), (g5, DO n1 ax z1.length cx e1), (w.heap.size, DO n1 a1 z1.length c1 e1)] W) => And.intro (cells3 hW uA.heap.size _ _ _ _ (show (uA.heap.size, DO false aA z1.length cA e1) ∈ _ by simp)).1 (And.intro (cells3 hW uN.heap.size _ _ _ _ (show (uN.heap.size, DO (rn n1 z1) aN z1.length cN e1) ∈ _ by simp)).1 (And.intro (cells3 hW g5 _ _ _ _ (show (g5, DO n1 ax z1.length cx e1) ∈ _ by simp)).1 ((cells3 hW w.heap.size _ _ _ _ (show (w.heap.size, DO n1 a1 z1.length c1 e1) ∈ _ by simp)).1)))
      replace HB := Below.drew HB
      replace BX := BX.drew
      replace la : Lie (World.drew _) _ _ := la
      replace lb : Lie (World.drew _) _ _ := lb
      replace lx : Lie (World.drew _) _ _ := lx
      replace ly : Lie (World.drew _) _ _ := ly
      replace lN : Lie (World.drew _) _ _ := lN
      replace lA : Lie (World.drew _) _ _ := lA
      replace wN : WrA _ (World.drew _) _ _ := wN
      replace wA : WrA _ (World.drew _) _ _ := wA
      refine Drawn.enter (Bx w [(uA.heap.size, DO false aA z1.length cA e1), (uN.heap.size, DO (rn n1 z1) aN z1.length cN e1), (g5, DO n1 ax z1.length cx e1), (w.heap.size, DO n1 a1 z1.length c1 e1)]) (by kernel_rfl) ?_
      refine Drawn.take (i := 0) (v := ?v48) rfl (by kernel_rfl) (by kernel_rfl) (by kernel_rfl) (fun _ _ _ h => h) (by kernel_rfl) (fun W hW => ?_) HI ?_
      rotate_left
      · have ⟨⟨sA0, sA1, sA2⟩, ⟨sN0, sN1, sN2⟩, ⟨sx0, sx1, sx2⟩, sa0, sa1, sa2⟩ := sh W hW
        go_simp <;> exact rfl
      refine Drawn.take (i := 1) (v := ?v49) rfl (by kernel_rfl) (by kernel_rfl) (by kernel_rfl) (fun _ _ _ h => h) (by kernel_rfl) (fun W hW => ?_) HI ?_
      rotate_left
      · have ⟨⟨sA0, sA1, sA2⟩, ⟨sN0, sN1, sN2⟩, ⟨sx0, sx1, sx2⟩, sa0, sa1, sa2⟩ := sh W hW
        go_simp <;> exact rfl
      refine Drawn.one (j := 2) (by kernel_rfl) rfl (fun K hK => ?_)
      go_simp
      refine (rNegD n1 a1 c1 z1 e1 _).mono ?_
      rintro e k2w ⟨rfl, k2⟩
      refine hK _ _ (HI.keep k2) ?_
      clear hK K
      replace HI := HI.keep k2
      replace BX := BX.keep k2
      replace HB := below_then HB k2
      replace la := la.below k2 (Nat.le_refl _)
      replace lb := lb.below k2 (Nat.le_refl _)
      replace lx := lx.below k2 (Nat.le_refl _)
      replace ly := ly.below k2 (Nat.le_refl _)
      replace lN := lN.below k2 (Nat.le_refl _)
      replace lA := lA.below k2 (Nat.le_refl _)
      replace wN := wN.below (C := 0) k2
      replace wA := wA.below (C := 0) k2
      clear k2
      refine Drawn.one (j := 3) (by kernel_rfl) rfl (fun K hK => ?_)
      go_simp
      refine (sameD _ _ aN a1 cN c1 z1 z1 e1 e1 _ (rn_num N1) (rn_num N1) lN la).mono ?_
      rintro e k3w ⟨rfl, k3⟩
      refine hK _ _ (HI.keep k3) ?_
      clear hK K
      replace HI := HI.keep k3
      replace BX := BX.keep k3
      replace HB := below_then HB k3
      replace la := la.below k3 (Nat.le_refl _)
      replace lb := lb.below k3 (Nat.le_refl _)
      replace lx := lx.below k3 (Nat.le_refl _)
      replace ly := ly.below k3 (Nat.le_refl _)
      replace lN := lN.below k3 (Nat.le_refl _)
      replace lA := lA.below k3 (Nat.le_refl _)
      replace wN := wN.below (C := 0) k3
      replace wA := wA.below (C := 0) k3
      clear k3
      refine Drawn.take (i := 4) (v := .bool false) rfl (by kernel_rfl) (by kernel_rfl) (by kernel_rfl) (fun _ _ _ h => h) (by kernel_rfl) (fun W hW => ?_) HI ?_
      · have ⟨⟨sA0, sA1, sA2⟩, ⟨sN0, sN1, sN2⟩, ⟨sx0, sx1, sx2⟩, sa0, sa1, sa2⟩ := sh W hW
        go_simp <;> (rfl)
      refine Drawn.take (i := 5) (v := ?v50) rfl (by kernel_rfl) (by kernel_rfl) (by kernel_rfl) (fun _ _ _ h => h) (by kernel_rfl) (fun W hW => ?_) HI ?_
      rotate_left
      · have ⟨⟨sA0, sA1, sA2⟩, ⟨sN0, sN1, sN2⟩, ⟨sx0, sx1, sx2⟩, sa0, sa1, sa2⟩ := sh W hW
        go_simp <;> exact rfl
      refine Drawn.take (i := 6) (v := ?v51) rfl (by kernel_rfl) (by kernel_rfl) (by kernel_rfl) (fun _ _ _ h => h) (by kernel_rfl) (fun W hW => ?_) HI ?_
      rotate_left
      · have ⟨⟨sA0, sA1, sA2⟩, ⟨sN0, sN1, sN2⟩, ⟨sx0, sx1, sx2⟩, sa0, sa1, sa2⟩ := sh W hW
        go_simp <;> exact rfl
      refine Drawn.take (i := 7) (v := ?v52) rfl (by kernel_rfl) (by kernel_rfl) (by kernel_rfl) (fun _ _ _ h => h) (by kernel_rfl) (fun W hW => ?_) HI ?_
      rotate_left
      · have ⟨⟨sA0, sA1, sA2⟩, ⟨sN0, sN1, sN2⟩, ⟨sx0, sx1, sx2⟩, sa0, sa1, sa2⟩ := sh W hW
        go_simp <;> exact rfl
      refine Drawn.take (i := 8) (v := ?v53) rfl (by kernel_rfl) (by kernel_rfl) (by kernel_rfl) (fun _ _ _ h => h) (by kernel_rfl) (fun W hW => ?_) HI ?_
      rotate_left
      · have ⟨⟨sA0, sA1, sA2⟩, ⟨sN0, sN1, sN2⟩, ⟨sx0, sx1, sx2⟩, sa0, sa1, sa2⟩ := sh W hW
        go_simp <;> exact rfl
      refine Drawn.take (i := 9) (v := ?v54) rfl (by kernel_rfl) (by kernel_rfl) (by kernel_rfl) (fun _ _ _ h => h) (by kernel_rfl) (fun W hW => ?_) HI ?_
      rotate_left
      · have ⟨⟨sA0, sA1, sA2⟩, ⟨sN0, sN1, sN2⟩, ⟨sx0, sx1, sx2⟩, sa0, sa1, sa2⟩ := sh W hW
        go_simp <;> exact rfl
      refine Drawn.take (i := 10) (v := ?v55) rfl (by kernel_rfl) (by kernel_rfl) (by kernel_rfl) (fun _ _ _ h => h) (by kernel_rfl) (fun W hW => ?_) HI ?_
      rotate_left
      · have ⟨⟨sA0, sA1, sA2⟩, ⟨sN0, sN1, sN2⟩, ⟨sx0, sx1, sx2⟩, sa0, sa1, sa2⟩ := sh W hW
        go_simp <;> exact rfl
      refine Drawn.take (i := 11) (v := ?v56) rfl (by kernel_rfl) (by kernel_rfl) (by kernel_rfl) (fun _ _ _ h => h) (by kernel_rfl) (fun W hW => ?_) HI ?_
      rotate_left
      · have ⟨⟨sA0, sA1, sA2⟩, ⟨sN0, sN1, sN2⟩, ⟨sx0, sx1, sx2⟩, sa0, sa1, sa2⟩ := sh W hW
        go_simp <;> exact rfl
      refine Drawn.one (j := 12) (by kernel_rfl) rfl (fun K hK => ?_)
      go_simp
      refine (rAbsD n1 a1 c1 z1.length e1 _).mono ?_
      rintro e k4w ⟨rfl, k4⟩
      refine hK _ _ (HI.keep k4) ?_
      clear hK K
      replace HI := HI.keep k4
      replace BX := BX.keep k4
      replace HB := below_then HB k4
      replace la := la.below k4 (Nat.le_refl _)
      replace lb := lb.below k4 (Nat.le_refl _)
      replace lx := lx.below k4 (Nat.le_refl _)
      replace ly := ly.below k4 (Nat.le_refl _)
      replace lN := lN.below k4 (Nat.le_refl _)
      replace lA := lA.below k4 (Nat.le_refl _)
      replace wN := wN.below (C := 0) k4
      replace wA := wA.below (C := 0) k4
      clear k4
      refine Drawn.one (j := 13) (by kernel_rfl) rfl (fun K hK => ?_)
      go_simp
      refine (sameD _ _ aA a1 cA c1 z1 z1 e1 e1 _ (abs_num N1) (abs_num N1) lA la).mono ?_
      rintro e k5w ⟨rfl, k5⟩
      refine hK _ _ (HI.keep k5) ?_
      clear hK K
      replace HI := HI.keep k5
      replace BX := BX.keep k5
      replace HB := below_then HB k5
      replace la := la.below k5 (Nat.le_refl _)
      replace lb := lb.below k5 (Nat.le_refl _)
      replace lx := lx.below k5 (Nat.le_refl _)
      replace ly := ly.below k5 (Nat.le_refl _)
      replace lN := lN.below k5 (Nat.le_refl _)
      replace lA := lA.below k5 (Nat.le_refl _)
      replace wN := wN.below (C := 0) k5
      replace wA := wA.below (C := 0) k5
      clear k5
      refine Drawn.take (i := 14) (v := .bool false) rfl (by kernel_rfl) (by kernel_rfl) (by kernel_rfl) (fun _ _ _ h => h) (by kernel_rfl) (fun W hW => ?_) HI ?_
      · have ⟨⟨sA0, sA1, sA2⟩, ⟨sN0, sN1, sN2⟩, ⟨sx0, sx1, sx2⟩, sa0, sa1, sa2⟩ := sh W hW
        go_simp <;> (rfl)
      refine Drawn.take (i := 15) (v := ?v57) rfl (by kernel_rfl) (by kernel_rfl) (by kernel_rfl) (fun _ _ _ h => h) (by kernel_rfl) (fun W hW => ?_) HI ?_
      rotate_left
      · have ⟨⟨sA0, sA1, sA2⟩, ⟨sN0, sN1, sN2⟩, ⟨sx0, sx1, sx2⟩, sa0, sa1, sa2⟩ := sh W hW
        go_simp <;> exact rfl
      refine Drawn.take (i := 16) (v := ?v58) rfl (by kernel_rfl) (by kernel_rfl) (by kernel_rfl) (fun _ _ _ h => h) (by kernel_rfl) (fun W hW => ?_) HI ?_
      rotate_left
      · have ⟨⟨sA0, sA1, sA2⟩, ⟨sN0, sN1, sN2⟩, ⟨sx0, sx1, sx2⟩, sa0, sa1, sa2⟩ := sh W hW
        go_simp <;> exact rfl
      refine Drawn.take (i := 17) (v := ?v59) rfl (by kernel_rfl) (by kernel_rfl) (by kernel_rfl) (fun _ _ _ h => h) (by kernel_rfl) (fun W hW => ?_) HI ?_
      rotate_left
      · have ⟨⟨sA0, sA1, sA2⟩, ⟨sN0, sN1, sN2⟩, ⟨sx0, sx1, sx2⟩, sa0, sa1, sa2⟩ := sh W hW
        go_simp <;> exact rfl
      refine Drawn.take (i := 18) (v := ?v60) rfl (by kernel_rfl) (by kernel_rfl) (by kernel_rfl) (fun _ _ _ h => h) (by kernel_rfl) (fun W hW => ?_) HI ?_
      rotate_left
      · have ⟨⟨sA0, sA1, sA2⟩, ⟨sN0, sN1, sN2⟩, ⟨sx0, sx1, sx2⟩, sa0, sa1, sa2⟩ := sh W hW
        go_simp <;> exact rfl
      refine Drawn.take (i := 19) (v := ?v61) rfl (by kernel_rfl) (by kernel_rfl) (by kernel_rfl) (fun _ _ _ h => h) (by kernel_rfl) (fun W hW => ?_) HI ?_
      rotate_left
      · have ⟨⟨sA0, sA1, sA2⟩, ⟨sN0, sN1, sN2⟩, ⟨sx0, sx1, sx2⟩, sa0, sa1, sa2⟩ := sh W hW
        go_simp <;> exact rfl
      refine Drawn.take (i := 20) (v := ?v62) rfl (by kernel_rfl) (by kernel_rfl) (by kernel_rfl) (fun _ _ _ h => h) (by kernel_rfl) (fun W hW => ?_) HI ?_
      rotate_left
      · have ⟨⟨sA0, sA1, sA2⟩, ⟨sN0, sN1, sN2⟩, ⟨sx0, sx1, sx2⟩, sa0, sa1, sa2⟩ := sh W hW
        go_simp <;> exact rfl
      refine Drawn.take (i := 21) (v := ?v63) rfl (by kernel_rfl) (by kernel_rfl) (by kernel_rfl) (fun _ _ _ h => h) (by kernel_rfl) (fun W hW => ?_) HI ?_
      rotate_left
      · have ⟨⟨sA0, sA1, sA2⟩, ⟨sN0, sN1, sN2⟩, ⟨sx0, sx1, sx2⟩, sa0, sa1, sa2⟩ := sh W hW
        go_simp <;> exact rfl
      refine Drawn.take (i := 23) (v := ?v64) rfl (by kernel_rfl) (by kernel_rfl) (by kernel_rfl) (fun _ _ _ h => h) (by kernel_rfl) (fun W hW => ?_) HI ?_
      rotate_left
      · have ⟨⟨sA0, sA1, sA2⟩, ⟨sN0, sN1, sN2⟩, ⟨sx0, sx1, sx2⟩, sa0, sa1, sa2⟩ := sh W hW
        go_simp <;> exact rfl
      refine Drawn.one (j := 22) (by kernel_rfl) rfl (fun K hK => ?_)
      go_simp
      refine (dsign49 n1 ax cx z1 e1 u _ lx N1 sx hsx).mono ?_
      rintro e k6w ⟨rfl, k6⟩
      refine hK _ _ (HI.keep k6) ?_
      clear hK K
      replace HI := HI.keep k6
      replace BX := BX.keep k6
      replace HB := below_then HB k6
      replace la := la.below k6 (Nat.le_refl _)
      replace lb := lb.below k6 (Nat.le_refl _)
      replace lx := lx.below k6 (Nat.le_refl _)
      replace ly := ly.below k6 (Nat.le_refl _)
      replace lN := lN.below k6 (Nat.le_refl _)
      replace lA := lA.below k6 (Nat.le_refl _)
      replace wN := wN.below (C := 0) k6
      replace wA := wA.below (C := 0) k6
      clear k6
      refine Drawn.one (j := 24) (by kernel_rfl) rfl (fun K hK => ?_)
      go_simp
      refine (rSignD n1 a1 c1 z1 e1 N1 sx hsx _).mono ?_
      rintro e k7w ⟨rfl, k7⟩
      refine hK _ _ (HI.keep k7) ?_
      clear hK K
      replace HI := HI.keep k7
      replace BX := BX.keep k7
      replace HB := below_then HB k7
      replace la := la.below k7 (Nat.le_refl _)
      replace lb := lb.below k7 (Nat.le_refl _)
      replace lx := lx.below k7 (Nat.le_refl _)
      replace ly := ly.below k7 (Nat.le_refl _)
      replace lN := lN.below k7 (Nat.le_refl _)
      replace lA := lA.below k7 (Nat.le_refl _)
      replace wN := wN.below (C := 0) k7
      replace wA := wA.below (C := 0) k7
      clear k7
      refine Drawn.take (i := 25) (v := .bool false) rfl (by kernel_rfl) (by kernel_rfl) (by kernel_rfl) (fun _ _ _ h => h) (by kernel_rfl) (fun W hW => ?_) HI ?_
      · have ⟨⟨sA0, sA1, sA2⟩, ⟨sN0, sN1, sN2⟩, ⟨sx0, sx1, sx2⟩, sa0, sa1, sa2⟩ := sh W hW
        go_simp <;> (simp)
      refine Drawn.take (i := 26) (v := ?v65) rfl (by kernel_rfl) (by kernel_rfl) (by kernel_rfl) (fun _ _ _ h => h) (by kernel_rfl) (fun W hW => ?_) HI ?_
      rotate_left
      · have ⟨⟨sA0, sA1, sA2⟩, ⟨sN0, sN1, sN2⟩, ⟨sx0, sx1, sx2⟩, sa0, sa1, sa2⟩ := sh W hW
        go_simp <;> exact rfl
      refine Drawn.take (i := 27) (v := ?v66) rfl (by kernel_rfl) (by kernel_rfl) (by kernel_rfl) (fun _ _ _ h => h) (by kernel_rfl) (fun W hW => ?_) HI ?_
      rotate_left
      · have ⟨⟨sA0, sA1, sA2⟩, ⟨sN0, sN1, sN2⟩, ⟨sx0, sx1, sx2⟩, sa0, sa1, sa2⟩ := sh W hW
        go_simp <;> exact rfl
      refine Drawn.take (i := 28) (v := ?v67) rfl (by kernel_rfl) (by kernel_rfl) (by kernel_rfl) (fun _ _ _ h => h) (by kernel_rfl) (fun W hW => ?_) HI ?_
      rotate_left
      · have ⟨⟨sA0, sA1, sA2⟩, ⟨sN0, sN1, sN2⟩, ⟨sx0, sx1, sx2⟩, sa0, sa1, sa2⟩ := sh W hW
        go_simp <;> exact rfl
      refine Drawn.take (i := 30) (v := ?v68) rfl (by kernel_rfl) (by kernel_rfl) (by kernel_rfl) (fun _ _ _ h => h) (by kernel_rfl) (fun W hW => ?_) HI ?_
      rotate_left
      · have ⟨⟨sA0, sA1, sA2⟩, ⟨sN0, sN1, sN2⟩, ⟨sx0, sx1, sx2⟩, sa0, sa1, sa2⟩ := sh W hW
        go_simp <;> exact rfl
      refine Drawn.one (j := 29) (by kernel_rfl) rfl (fun K hK => ?_)
      go_simp
      refine (dTop n1 ax cx z1 e1 _ lx g1).mono ?_
      rintro e k8w ⟨T9, rfl, hT9, _, k8⟩
      refine hK _ _ (HI.keep k8) ?_
      clear hK K
      replace HI := HI.keep k8
      replace BX := BX.keep k8
      replace HB := below_then HB k8
      replace la := la.below k8 (Nat.le_refl _)
      replace lb := lb.below k8 (Nat.le_refl _)
      replace lx := lx.below k8 (Nat.le_refl _)
      replace ly := ly.below k8 (Nat.le_refl _)
      replace lN := lN.below k8 (Nat.le_refl _)
      replace lA := lA.below k8 (Nat.le_refl _)
      replace wN := wN.below (C := 0) k8
      replace wA := wA.below (C := 0) k8
      clear k8
      obtain rfl := hT9.unique hTop
      clear hT9
      refine Drawn.one (j := 31) (by kernel_rfl) rfl (fun K hK => ?_)
      go_simp
      refine (rTopD n1 a1 c1 z1 e1 _ la g1 hTop).mono ?_
      rintro e k9w ⟨rfl, k9⟩
      refine hK _ _ (HI.keep k9) ?_
      clear hK K
      replace HI := HI.keep k9
      replace BX := BX.keep k9
      replace HB := below_then HB k9
      replace la := la.below k9 (Nat.le_refl _)
      replace lb := lb.below k9 (Nat.le_refl _)
      replace lx := lx.below k9 (Nat.le_refl _)
      replace ly := ly.below k9 (Nat.le_refl _)
      replace lN := lN.below k9 (Nat.le_refl _)
      replace lA := lA.below k9 (Nat.le_refl _)
      replace wN := wN.below (C := 0) k9
      replace wA := wA.below (C := 0) k9
      clear k9
      refine Drawn.take (i := 32) (v := .bool false) rfl (by kernel_rfl) (by kernel_rfl) (by kernel_rfl) (fun _ _ _ h => h) (by kernel_rfl) (fun W hW => ?_) HI ?_
      · have ⟨⟨sA0, sA1, sA2⟩, ⟨sN0, sN1, sN2⟩, ⟨sx0, sx1, sx2⟩, sa0, sa1, sa2⟩ := sh W hW
        go_simp <;> (simp)
      refine Drawn.take (i := 33) (v := ?v69) rfl (by kernel_rfl) (by kernel_rfl) (by kernel_rfl) (fun _ _ _ h => h) (by kernel_rfl) (fun W hW => ?_) HI ?_
      rotate_left
      · have ⟨⟨sA0, sA1, sA2⟩, ⟨sN0, sN1, sN2⟩, ⟨sx0, sx1, sx2⟩, sa0, sa1, sa2⟩ := sh W hW
        go_simp <;> exact rfl
      refine Drawn.done (by kernel_rfl) ?_
      try go_simp
      clear HI sh
      obtain ⟨⟨fN0, fN1, fN2⟩, _⟩ := cells3 BX uN.heap.size _ _ _ _ (show (uN.heap.size, DO (rn n1 z1) aN z1.length cN e1) ∈ _ by simp)
      obtain ⟨⟨fA0, fA1, fA2⟩, _⟩ := cells3 BX uA.heap.size _ _ _ _ (show (uA.heap.size, DO false aA z1.length cA e1) ∈ _ by simp)
      go_wp2_with fail
      refine (mark2 W.heap.size _ _ aN cN z1 _ wN (by have := g1.len; omega) _ aA cA z1 _ wA (by have := g1.len; omega)).mono ?_
      rintro e W2 ⟨rfl, hk⟩
      have HC := (below_then HB (below_alloc _ _)).trans hk
      replace BX := HF.keep HC
      replace lx := lx0.below HC (Nat.le_refl _)
      replace ly := ly0.below HC (Nat.le_refl _)
      replace la := la0.below HC (Nat.le_refl _)
      replace lb := lb0.below HC (Nat.le_refl _)
      replace hTW := hTW.below HC (Nat.le_refl _)
      clear HC hk HB wN wA lN lA
      have HF2 := BX
      have lx2 := lx
      have ly2 := ly
      have la2 := la
      have lb2 := lb
      have HB := Below.refl W2.heap.size W2
      obtain ⟨⟨fx0, fx1, fx2⟩, _⟩ := cells3 BX g5 _ _ _ _ (show (g5, DO n1 ax z1.length cx e1) ∈ _ by simp)
      obtain ⟨⟨fy0, fy1, fy2⟩, _⟩ := cells3 BX g6 _ _ _ _ (show (g6, DO n2 ay z2.length cy e2) ∈ _ by simp)
      go_wp2_with fail
      refine (dcmp55 n1 n2 ax ay cx cy z1 z2 e1 e2 _ lx ly N1 N2 (hTW.below HB (Nat.le_refl _)) sc hsc).mono ?_
      rintro e k10w ⟨rfl, k10⟩
      replace BX := BX.keep k10
      replace HB := below_then HB k10
      replace la := la.below k10 (Nat.le_refl _)
      replace lb := lb.below k10 (Nat.le_refl _)
      replace lx := lx.below k10 (Nat.le_refl _)
      replace ly := ly.below k10 (Nat.le_refl _)
      clear k10
      obtain ⟨⟨fx0, fx1, fx2⟩, _⟩ := cells3 BX g5 _ _ _ _ (show (g5, DO n1 ax z1.length cx e1) ∈ _ by simp)
      obtain ⟨⟨fy0, fy1, fy2⟩, _⟩ := cells3 BX g6 _ _ _ _ (show (g6, DO n2 ay z2.length cy e2) ∈ _ by simp)
      go_wp2_with fail
      refine (dadd56 n1 n2 ax ay cx cy z1 z2 e1 e2 _ lx ly g1 g2 (hTW.below HB (Nat.le_refl _))).mono ?_
      rintro e uS ⟨nS, aS, mS, cS, xS, dS, rfl, vS0⟩
      have hS := vS0.bel
      obtain ⟨rfl, rfl, rfl, rfl, rfl, rfl⟩ := vS0.big (by rw [N1.val, N2.val]; exact hb1)
      clear vS0
      replace BX := BX.keep hS
      replace HB := below_then HB hS
      replace la := la.below hS (Nat.le_refl _)
      replace lb := lb.below hS (Nat.le_refl _)
      replace lx := lx.below hS (Nat.le_refl _)
      replace ly := ly.below hS (Nat.le_refl _)
      clear hS
      have haS := below_alloc uS (DO false none 0 0 0)
      replace BX := BX.push (DO false none 0 0 0)
      replace HB := below_then HB haS
      replace la := la.below haS (Nat.le_refl _)
      replace lb := lb.below haS (Nat.le_refl _)
      replace lx := lx.below haS (Nat.le_refl _)
      replace ly := ly.below haS (Nat.le_refl _)
      clear haS
      obtain ⟨⟨fx0, fx1, fx2⟩, _⟩ := cells3 BX g5 _ _ _ _ (show (g5, DO n1 ax z1.length cx e1) ∈ _ by simp)
      obtain ⟨⟨fy0, fy1, fy2⟩, _⟩ := cells3 BX g6 _ _ _ _ (show (g6, DO n2 ay z2.length cy e2) ∈ _ by simp)
      go_wp2_with fail
      generalize hvS : uS.alloc (DO false none 0 0 0) = vS at *
      clear hvS
      refine (dsub57 n1 n2 ax ay cx cy z1 z2 e1 e2 _ lx ly g1 g2 (hTW.below HB (Nat.le_refl _))).mono ?_
      rintro e uD ⟨nD, aD, mD, cD, xD, dD, rfl, vD0⟩
      have hD := vD0.bel
      obtain ⟨rfl, rfl, rfl, rfl, rfl, rfl⟩ := vD0.big (by rw [N1.val, N2.val]; exact hb2)
      clear vD0
      replace BX := BX.keep hD
      replace HB := below_then HB hD
      replace la := la.below hD (Nat.le_refl _)
      replace lb := lb.below hD (Nat.le_refl _)
      replace lx := lx.below hD (Nat.le_refl _)
      replace ly := ly.below hD (Nat.le_refl _)
      clear hD
      have haD := below_alloc uD (DO false none 0 0 0)
      replace BX := BX.push (DO false none 0 0 0)
      replace HB := below_then HB haD
      replace la := la.below haD (Nat.le_refl _)
      replace lb := lb.below haD (Nat.le_refl _)
      replace lx := lx.below haD (Nat.le_refl _)
      replace ly := ly.below haD (Nat.le_refl _)
      clear haD
      obtain ⟨⟨fx0, fx1, fx2⟩, _⟩ := cells3 BX g5 _ _ _ _ (show (g5, DO n1 ax z1.length cx e1) ∈ _ by simp)
      obtain ⟨⟨fy0, fy1, fy2⟩, _⟩ := cells3 BX g6 _ _ _ _ (show (g6, DO n2 ay z2.length cy e2) ∈ _ by simp)
      go_wp2_with fail
      generalize hvD : uD.alloc (DO false none 0 0 0) = vD at *
      clear hvD
      refine (dmul58 n1 n2 ax ay cx cy z1 z2 e1 e2 _ lx ly g1 g2 (hTW.below HB (Nat.le_refl _))).mono ?_
      rintro e uM ⟨nM, aM, mM, cM, xM, dM, rfl, vM0⟩
      have hM := vM0.bel
      obtain ⟨zM, rfl, yM, wM⟩ := vM0.list
      replace wM := wM.weak HB.size
      have AM := vM0.ans
      clear vM0
      replace BX := BX.keep hM
      replace HB := below_then HB hM
      replace la := la.below hM (Nat.le_refl _)
      replace lb := lb.below hM (Nat.le_refl _)
      replace lx := lx.below hM (Nat.le_refl _)
      replace ly := ly.below hM (Nat.le_refl _)
      clear hM
      have haM := below_alloc uM (DO nM aM zM.length cM xM)
      replace BX := BX.push (DO nM aM zM.length cM xM)
      replace HB := below_then HB haM
      replace la := la.below haM (Nat.le_refl _)
      replace lb := lb.below haM (Nat.le_refl _)
      replace lx := lx.below haM (Nat.le_refl _)
      replace ly := ly.below haM (Nat.le_refl _)
      replace wM := wM.below (C := 0) haM
      replace AM := AM.below haM
      clear haM
      obtain ⟨⟨fa0, fa1, fa2⟩, _⟩ := cells3 BX w.heap.size _ _ _ _ (show (w.heap.size, DO n1 a1 z1.length c1 e1) ∈ _ by simp)
      go_wp2_with fail
      generalize hvM : uM.alloc (DO nM aM zM.length cM xM) = vM at *
      clear hvM
      refine (drefmay37 n1 a1 c1 z1 e1 _ ⟨la, u1.len, u1.rng⟩ true g1.may).mono ?_
      rintro e k11w ⟨rfl, k11⟩
      replace BX := BX.keep k11
      replace HB := below_then HB k11
      replace la := la.below k11 (Nat.le_refl _)
      replace lb := lb.below k11 (Nat.le_refl _)
      replace lx := lx.below k11 (Nat.le_refl _)
      replace ly := ly.below k11 (Nat.le_refl _)
      replace wM := wM.below (C := 0) k11
      replace AM := AM.below k11
      clear k11
      obtain ⟨⟨fb0, fb1, fb2⟩, _⟩ := cells3 BX (w.heap.size + 1) _ _ _ _ (show ((w.heap.size + 1), DO n2 a2 z2.length c2 e2) ∈ _ by simp)
      go_wp2_with fail
      refine (drefmay37 n2 a2 c2 z2 e2 _ ⟨lb, u2.len, u2.rng⟩ true g2.may).mono ?_
      rintro e k12w ⟨rfl, k12⟩
      replace BX := BX.keep k12
      replace HB := below_then HB k12
      replace la := la.below k12 (Nat.le_refl _)
      replace lb := lb.below k12 (Nat.le_refl _)
      replace lx := lx.below k12 (Nat.le_refl _)
      replace ly := ly.below k12 (Nat.le_refl _)
      replace wM := wM.below (C := 0) k12
      replace AM := AM.below k12
      clear k12
      go_wp2_with fail
      have HI := (BX.sub (L' := [(uM.heap.size, DO nM aM zM.length cM xM), ((w.heap.size + 1), DO n2 a2 z2.length c2 e2), (w.heap.size, DO n1 a1 z1.length c1 e1)]) (by simp)).drew
      have sh := fun W (hW : Bx w [(uM.heap.size, DO nM aM zM.length cM xM), ((w.heap.size + 1), DO n2 a2 z2.length c2 e2), (w.heap.size, DO n1 a1 z1.length c1 e1)] W) => And.intro (cells3 hW uM.heap.size _ _ _ _ (show (uM.heap.size, DO nM aM zM.length cM xM) ∈ _ by simp)).1 (And.intro (cells3 hW (w.heap.size + 1) _ _ _ _ (show ((w.heap.size + 1), DO n2 a2 z2.length c2 e2) ∈ _ by simp)).1 ((cells3 hW w.heap.size _ _ _ _ (show (w.heap.size, DO n1 a1 z1.length c1 e1) ∈ _ by simp)).1))
      replace HB := Below.drew HB
      replace BX := BX.drew
      replace la : Lie (World.drew _) _ _ := la
      replace lb : Lie (World.drew _) _ _ := lb
      replace lx : Lie (World.drew _) _ _ := lx
      replace ly : Lie (World.drew _) _ _ := ly
      replace wM : WrA _ (World.drew _) _ _ := wM
      replace AM : Ans (World.drew _) _ _ _ _ _ _ _ _ := AM
      refine Drawn.enter (Bx w [(uM.heap.size, DO nM aM zM.length cM xM), ((w.heap.size + 1), DO n2 a2 z2.length c2 e2), (w.heap.size, DO n1 a1 z1.length c1 e1)]) (by kernel_rfl) ?_
      refine Drawn.take (i := 0) (v := ?v70) rfl (by kernel_rfl) (by kernel_rfl) (by kernel_rfl) (fun _ _ _ h => h) (by kernel_rfl) (fun W hW => ?_) HI ?_
      rotate_left
      · have ⟨⟨sM0, sM1, sM2⟩, ⟨sb0, sb1, sb2⟩, sa0, sa1, sa2⟩ := sh W hW
        go_simp <;> exact rfl
      refine Drawn.take (i := 1) (v := ?v71) rfl (by kernel_rfl) (by kernel_rfl) (by kernel_rfl) (fun _ _ _ h => h) (by kernel_rfl) (fun W hW => ?_) HI ?_
      rotate_left
      · have ⟨⟨sM0, sM1, sM2⟩, ⟨sb0, sb1, sb2⟩, sa0, sa1, sa2⟩ := sh W hW
        go_simp <;> exact rfl
      refine Drawn.take (i := 2) (v := ?v72) rfl (by kernel_rfl) (by kernel_rfl) (by kernel_rfl) (fun _ _ _ h => h) (by kernel_rfl) (fun W hW => ?_) HI ?_
      rotate_left
      · have ⟨⟨sM0, sM1, sM2⟩, ⟨sb0, sb1, sb2⟩, sa0, sa1, sa2⟩ := sh W hW
        go_simp <;> exact rfl
      refine Drawn.one (j := 3) (by kernel_rfl) rfl (fun K hK => ?_)
      go_simp
      refine (cmpX n1 n2 a1 a2 c1 c2 z1 z2 e1 e2 _ la lb N1 N2 sc hsc).mono ?_
      rintro e k13w ⟨rfl, k13⟩
      refine hK _ _ (HI.keep k13) ?_
      clear hK K
      replace HI := HI.keep k13
      replace BX := BX.keep k13
      replace HB := below_then HB k13
      replace la := la.below k13 (Nat.le_refl _)
      replace lb := lb.below k13 (Nat.le_refl _)
      replace lx := lx.below k13 (Nat.le_refl _)
      replace ly := ly.below k13 (Nat.le_refl _)
      replace wM := wM.below (C := 0) k13
      replace AM := AM.below k13
      clear k13
      refine Drawn.take (i := 4) (v := .bool false) rfl (by kernel_rfl) (by kernel_rfl) (by kernel_rfl) (fun _ _ _ h => h) (by kernel_rfl) (fun W hW => ?_) HI ?_
      · have ⟨⟨sM0, sM1, sM2⟩, ⟨sb0, sb1, sb2⟩, sa0, sa1, sa2⟩ := sh W hW
        go_simp <;> (simp)
      refine Drawn.take (i := 5) (v := ?v73) rfl (by kernel_rfl) (by kernel_rfl) (by kernel_rfl) (fun _ _ _ h => h) (by kernel_rfl) (fun W hW => ?_) HI ?_
      rotate_left
      · have ⟨⟨sM0, sM1, sM2⟩, ⟨sb0, sb1, sb2⟩, sa0, sa1, sa2⟩ := sh W hW
        go_simp <;> exact rfl
      refine Drawn.take (i := 6) (v := ?v74) rfl (by kernel_rfl) (by kernel_rfl) (by kernel_rfl) (fun _ _ _ h => h) (by kernel_rfl) (fun W hW => ?_) HI ?_
      rotate_left
      · have ⟨⟨sM0, sM1, sM2⟩, ⟨sb0, sb1, sb2⟩, sa0, sa1, sa2⟩ := sh W hW
        go_simp <;> exact rfl
      refine Drawn.take (i := 7) (v := ?v75) rfl (by kernel_rfl) (by kernel_rfl) (by kernel_rfl) (fun _ _ _ h => h) (by kernel_rfl) (fun W hW => ?_) HI ?_
      rotate_left
      · have ⟨⟨sM0, sM1, sM2⟩, ⟨sb0, sb1, sb2⟩, sa0, sa1, sa2⟩ := sh W hW
        go_simp <;> exact rfl
      refine Drawn.take (i := 8) (v := ?v76) rfl (by kernel_rfl) (by kernel_rfl) (by kernel_rfl) (fun _ _ _ h => h) (by kernel_rfl) (fun W hW => ?_) HI ?_
      rotate_left
      · have ⟨⟨sM0, sM1, sM2⟩, ⟨sb0, sb1, sb2⟩, sa0, sa1, sa2⟩ := sh W hW
        go_simp <;> exact rfl
      refine Drawn.take (i := 9) (v := ?v77) rfl (by kernel_rfl) (by kernel_rfl) (by kernel_rfl) (fun _ _ _ h => h) (by kernel_rfl) (fun W hW => ?_) HI ?_
      rotate_left
      · have ⟨⟨sM0, sM1, sM2⟩, ⟨sb0, sb1, sb2⟩, sa0, sa1, sa2⟩ := sh W hW
        go_simp <;> exact rfl
      refine Drawn.take (i := 10) (v := ?v78) rfl (by kernel_rfl) (by kernel_rfl) (by kernel_rfl) (fun _ _ _ h => h) (by kernel_rfl) (fun W hW => ?_) HI ?_
      rotate_left
      · have ⟨⟨sM0, sM1, sM2⟩, ⟨sb0, sb1, sb2⟩, sa0, sa1, sa2⟩ := sh W hW
        go_simp <;> exact rfl
      refine Drawn.take (i := 11) (v := ?v79) rfl (by kernel_rfl) (by kernel_rfl) (by kernel_rfl) (fun _ _ _ h => h) (by kernel_rfl) (fun W hW => ?_) HI ?_
      rotate_left
      · have ⟨⟨sM0, sM1, sM2⟩, ⟨sb0, sb1, sb2⟩, sa0, sa1, sa2⟩ := sh W hW
        go_simp <;> exact rfl
      refine Drawn.take (i := 12) (v := ?v80) rfl (by kernel_rfl) (by kernel_rfl) (by kernel_rfl) (fun _ _ _ h => h) (by kernel_rfl) (fun W hW => ?_) HI ?_
      rotate_left
      · have ⟨⟨sM0, sM1, sM2⟩, ⟨sb0, sb1, sb2⟩, sa0, sa1, sa2⟩ := sh W hW
        go_simp <;> exact rfl
      refine Drawn.take (i := 13) (v := ?v81) rfl (by kernel_rfl) (by kernel_rfl) (by kernel_rfl) (fun _ _ _ h => h) (by kernel_rfl) (fun W hW => ?_) HI ?_
      rotate_left
      · have ⟨⟨sM0, sM1, sM2⟩, ⟨sb0, sb1, sb2⟩, sa0, sa1, sa2⟩ := sh W hW
        go_simp <;> exact rfl
      refine Drawn.one (j := 14) (by kernel_rfl) rfl (fun K hK => ?_)
      go_simp
      refine (mulD n1 n2 a1 a2 c1 c2 z1 z2 e1 e2 _ la lb g1 g2).mono ?_
      rintro e k14w ⟨nR, zR, xR, aR, cR, rfl, FR, lR, k14⟩
      refine hK _ _ (HI.keep k14) ?_
      clear hK K
      replace HI := HI.keep k14
      replace BX := BX.keep k14
      replace HB := below_then HB k14
      replace la := la.below k14 (Nat.le_refl _)
      replace lb := lb.below k14 (Nat.le_refl _)
      replace lx := lx.below k14 (Nat.le_refl _)
      replace ly := ly.below k14 (Nat.le_refl _)
      replace wM := wM.below (C := 0) k14
      replace AM := AM.below k14
      clear k14
      refine Drawn.one (j := 15) (by kernel_rfl) rfl (fun K hK => ?_)
      go_simp
      refine (boundX _ AM FR lR).mono ?_
      rintro e k15w ⟨rfl, k15⟩
      refine hK _ _ (HI.keep k15) ?_
      clear hK K
      replace HI := HI.keep k15
      replace BX := BX.keep k15
      replace HB := below_then HB k15
      replace la := la.below k15 (Nat.le_refl _)
      replace lb := lb.below k15 (Nat.le_refl _)
      replace lx := lx.below k15 (Nat.le_refl _)
      replace ly := ly.below k15 (Nat.le_refl _)
      replace wM := wM.below (C := 0) k15
      replace AM := AM.below k15
      clear k15
      clear FR lR AM
      refine Drawn.take (i := 16) (v := .bool false) rfl (by kernel_rfl) (by kernel_rfl) (by kernel_rfl) (fun _ _ _ h => h) (by kernel_rfl) (fun W hW => ?_) HI ?_
      · have ⟨⟨sM0, sM1, sM2⟩, ⟨sb0, sb1, sb2⟩, sa0, sa1, sa2⟩ := sh W hW
        go_simp <;> (rfl)
      refine Drawn.take (i := 17) (v := ?v82) rfl (by kernel_rfl) (by kernel_rfl) (by kernel_rfl) (fun _ _ _ h => h) (by kernel_rfl) (fun W hW => ?_) HI ?_
      rotate_left
      · have ⟨⟨sM0, sM1, sM2⟩, ⟨sb0, sb1, sb2⟩, sa0, sa1, sa2⟩ := sh W hW
        go_simp <;> exact rfl
      refine Drawn.done (by kernel_rfl) ?_
      try go_simp
      clear HI sh
      obtain ⟨⟨fa0, fa1, fa2⟩, _⟩ := cells3 BX w.heap.size _ _ _ _ (show (w.heap.size, DO n1 a1 z1.length c1 e1) ∈ _ by simp)
      obtain ⟨⟨fb0, fb1, fb2⟩, _⟩ := cells3 BX (w.heap.size + 1) _ _ _ _ (show ((w.heap.size + 1), DO n2 a2 z2.length c2 e2) ∈ _ by simp)
      go_wp2_with fail
      refine (HFar _ la lb).mono ?_
      rintro e k16w ⟨rfl, k16⟩
      replace BX := BX.keep k16
      replace HB := below_then HB k16
      replace la := la.below k16 (Nat.le_refl _)
      replace lb := lb.below k16 (Nat.le_refl _)
      replace lx := lx.below k16 (Nat.le_refl _)
      replace ly := ly.below k16 (Nat.le_refl _)
      replace wM := wM.below (C := 0) k16
      clear k16
      obtain ⟨⟨fS0, fS1, fS2⟩, _⟩ := cells3 BX uS.heap.size _ _ _ _ (show (uS.heap.size, DO false none 0 0 0) ∈ _ by simp)
      go_wp2_with fail
      refine (dnone_yes _ 3).mono ?_
      rintro e k17w ⟨rfl, k17⟩
      replace BX := BX.keep k17
      replace HB := below_then HB k17
      replace la := la.below k17 (Nat.le_refl _)
      replace lb := lb.below k17 (Nat.le_refl _)
      replace lx := lx.below k17 (Nat.le_refl _)
      replace ly := ly.below k17 (Nat.le_refl _)
      replace wM := wM.below (C := 0) k17
      clear k17
      obtain ⟨⟨fD0, fD1, fD2⟩, _⟩ := cells3 BX uD.heap.size _ _ _ _ (show (uD.heap.size, DO false none 0 0 0) ∈ _ by simp)
      go_wp2_with fail
      refine (dnone_yes _ 3).mono ?_
      rintro e k18w ⟨rfl, k18⟩
      replace BX := BX.keep k18
      replace HB := below_then HB k18
      replace la := la.below k18 (Nat.le_refl _)
      replace lb := lb.below k18 (Nat.le_refl _)
      replace lx := lx.below k18 (Nat.le_refl _)
      replace ly := ly.below k18 (Nat.le_refl _)
      replace wM := wM.below (C := 0) k18
      clear k18
      go_wp2_with fail
      refine (dknown34 _ (hT.below BX.bel (Nat.le_refl _))).mono ?_
      rintro e k19w ⟨rfl, k19⟩
      replace BX := BX.keep k19
      replace HB := below_then HB k19
      replace la := la.below k19 (Nat.le_refl _)
      replace lb := lb.below k19 (Nat.le_refl _)
      replace lx := lx.below k19 (Nat.le_refl _)
      replace ly := ly.below k19 (Nat.le_refl _)
      replace wM := wM.below (C := 0) k19
      clear k19
      go_wp2
      go_ret
      exact ⟨rfl, BX.bel⟩
    · obtain ⟨u, N1, hq2⟩ := HC
      have hq : (dmayB n1 z1 e1 && dmayB n2 z2 e2) = false := by rw [hq2, Bool.and_false]
      have g1 := N1.dg
      obtain ⟨sx, hsx⟩ : ∃ s, sgn u 0 = s := ⟨_, rfl⟩
      obtain ⟨T, hTop⟩ := bitLen_ex g1.good.nonneg
      obtain ⟨⟨fx0, fx1, fx2⟩, _⟩ := cells3 BX g5 _ _ _ _ (show (g5, DO n1 ax z1.length cx e1) ∈ _ by simp)
      go_wp2_with fail
      refine (dneg47 n1 ax cx z1 e1 _ lx g1 (hTW.below HB (Nat.le_refl _))).mono ?_
      rintro e uN ⟨nN, aN, mN, cN, xN, dN, rfl, vN0⟩
      have hN := vN0.bel
      obtain ⟨rfl, rfl, rfl, rfl, iN⟩ := vN0.isD (by rw [N1.val]; exact rn_num N1)
      have wN := iN.own.wrA.weak HB.size
      have lN := iN.lie
      clear iN vN0
      replace BX := BX.keep hN
      replace HB := below_then HB hN
      replace la := la.below hN (Nat.le_refl _)
      replace lb := lb.below hN (Nat.le_refl _)
      replace lx := lx.below hN (Nat.le_refl _)
      replace ly := ly.below hN (Nat.le_refl _)
      clear hN
      have haN := below_alloc uN (DO (rn n1 z1) aN z1.length cN e1)
      replace BX := BX.push (DO (rn n1 z1) aN z1.length cN e1)
      replace HB := below_then HB haN
      replace la := la.below haN (Nat.le_refl _)
      replace lb := lb.below haN (Nat.le_refl _)
      replace lx := lx.below haN (Nat.le_refl _)
      replace ly := ly.below haN (Nat.le_refl _)
      replace lN := lN.below haN (Nat.le_refl _)
      replace wN := wN.below (C := 0) haN
      clear haN
      obtain ⟨⟨fx0, fx1, fx2⟩, _⟩ := cells3 BX g5 _ _ _ _ (show (g5, DO n1 ax z1.length cx e1) ∈ _ by simp)
      go_wp2_with fail
      generalize hvN : uN.alloc (DO (rn n1 z1) aN z1.length cN e1) = vN at *
      clear hvN
      refine (dabs48 n1 ax cx z1 e1 _ lx g1 (hTW.below HB (Nat.le_refl _))).mono ?_
      rintro e uA ⟨nA, aA, mA, cA, xA, dA, rfl, vA0⟩
      have hA := vA0.bel
      obtain ⟨rfl, rfl, rfl, rfl, iA⟩ := vA0.isD (abs_num N1)
      have wA := iA.own.wrA.weak HB.size
      have lA := iA.lie
      clear iA vA0
      replace BX := BX.keep hA
      replace HB := below_then HB hA
      replace la := la.below hA (Nat.le_refl _)
      replace lb := lb.below hA (Nat.le_refl _)
      replace lx := lx.below hA (Nat.le_refl _)
      replace ly := ly.below hA (Nat.le_refl _)
      replace lN := lN.below hA (Nat.le_refl _)
      replace wN := wN.below (C := 0) hA
      clear hA
      have haA := below_alloc uA (DO false aA z1.length cA e1)
      replace BX := BX.push (DO false aA z1.length cA e1)
      replace HB := below_then HB haA
      replace la := la.below haA (Nat.le_refl _)
      replace lb := lb.below haA (Nat.le_refl _)
      replace lx := lx.below haA (Nat.le_refl _)
      replace ly := ly.below haA (Nat.le_refl _)
      replace lN := lN.below haA (Nat.le_refl _)
      replace lA := lA.below haA (Nat.le_refl _)
      replace wN := wN.below (C := 0) haA
      replace wA := wA.below (C := 0) haA
      clear haA
      obtain ⟨⟨fa0, fa1, fa2⟩, _⟩ := cells3 BX w.heap.size _ _ _ _ (show (w.heap.size, DO n1 a1 z1.length c1 e1) ∈ _ by simp)
      go_wp2_with fail
      generalize hvA : uA.alloc (DO false aA z1.length cA e1) = vA at *
      clear hvA
      refine (drefmay37 n1 a1 c1 z1 e1 _ ⟨la, u1.len, u1.rng⟩ true g1.may).mono ?_
      rintro e k1w ⟨rfl, k1⟩
      replace BX := BX.keep k1
      replace HB := below_then HB k1
      replace la := la.below k1 (Nat.le_refl _)
      replace lb := lb.below k1 (Nat.le_refl _)
      replace lx := lx.below k1 (Nat.le_refl _)
      replace ly := ly.below k1 (Nat.le_refl _)
      replace lN := lN.below k1 (Nat.le_refl _)
      replace lA := lA.below k1 (Nat.le_refl _)
      replace wN := wN.below (C := 0) k1
      replace wA := wA.below (C := 0) k1
      clear k1
      go_wp2_with fail
      have HI := (BX.sub (L' := [(uA.heap.size, DO false aA z1.length cA e1), (uN.heap.size, DO (rn n1 z1) aN z1.length cN e1), (g5, DO n1 ax z1.length cx e1), (w.heap.size, DO n1 a1 z1.length c1 e1)]) (by simp)).drew
      have sh := fun W (hW : Bx w [(uA.heap.size, DO false aA z1.length cA e1), (uN.heap.size, DO (rn n1 z1) aN z1.length cN e1), (g5, DO n1 ax z1.length cx e1), (w.heap.size, DO n1 a1 z1.length c1 e1)] W) => And.intro (cells3 hW uA.heap.size _ _ _ _ (show (uA.heap.size, DO false aA z1.length cA e1) ∈ _ by simp)).1 (And.intro (cells3 hW uN.heap.size _ _ _ _ (show (uN.heap.size, DO (rn n1 z1) aN z1.length cN e1) ∈ _ by simp)).1 (And.intro (cells3 hW g5 _ _ _ _ (show (g5, DO n1 ax z1.length cx e1) ∈ _ by simp)).1 ((cells3 hW w.heap.size _ _ _ _ (show (w.heap.size, DO n1 a1 z1.length c1 e1) ∈ _ by simp)).1)))
      replace HB := Below.drew HB
      replace BX := BX.drew
      replace la : Lie (World.drew _) _ _ := la
      replace lb : Lie (World.drew _) _ _ := lb
      replace lx : Lie (World.drew _) _ _ := lx
      replace ly : Lie (World.drew _) _ _ := ly
      replace lN : Lie (World.drew _) _ _ := lN
      replace lA : Lie (World.drew _) _ _ := lA
      replace wN : WrA _ (World.drew _) _ _ := wN
      replace wA : WrA _ (World.drew _) _ _ := wA
      refine Drawn.enter (Bx w [(uA.heap.size, DO false aA z1.length cA e1), (uN.heap.size, DO (rn n1 z1) aN z1.length cN e1), (g5, DO n1 ax z1.length cx e1), (w.heap.size, DO n1 a1 z1.length c1 e1)]) (by kernel_rfl) ?_
      refine Drawn.take (i := 0) (v := ?v83) rfl (by kernel_rfl) (by kernel_rfl) (by kernel_rfl) (fun _ _ _ h => h) (by kernel_rfl) (fun W hW => ?_) HI ?_
      rotate_left
      · have ⟨⟨sA0, sA1, sA2⟩, ⟨sN0, sN1, sN2⟩, ⟨sx0, sx1, sx2⟩, sa0, sa1, sa2⟩ := sh W hW
        go_simp <;> exact rfl
      refine Drawn.take (i := 1) (v := ?v84) rfl (by kernel_rfl) (by kernel_rfl) (by kernel_rfl) (fun _ _ _ h => h) (by kernel_rfl) (fun W hW => ?_) HI ?_
      rotate_left
      · have ⟨⟨sA0, sA1, sA2⟩, ⟨sN0, sN1, sN2⟩, ⟨sx0, sx1, sx2⟩, sa0, sa1, sa2⟩ := sh W hW
        go_simp <;> exact rfl
      refine Drawn.one (j := 2) (by kernel_rfl) rfl (fun K hK => ?_)
      go_simp
      refine (rNegD n1 a1 c1 z1 e1 _).mono ?_
      rintro e k2w ⟨rfl, k2⟩
      refine hK _ _ (HI.keep k2) ?_
      clear hK K
      replace HI := HI.keep k2
      replace BX := BX.keep k2
      replace HB := below_then HB k2
      replace la := la.below k2 (Nat.le_refl _)
      replace lb := lb.below k2 (Nat.le_refl _)
      replace lx := lx.below k2 (Nat.le_refl _)
      replace ly := ly.below k2 (Nat.le_refl _)
      replace lN := lN.below k2 (Nat.le_refl _)
      replace lA := lA.below k2 (Nat.le_refl _)
      replace wN := wN.below (C := 0) k2
      replace wA := wA.below (C := 0) k2
      clear k2
      refine Drawn.one (j := 3) (by kernel_rfl) rfl (fun K hK => ?_)
      go_simp
      refine (sameD _ _ aN a1 cN c1 z1 z1 e1 e1 _ (rn_num N1) (rn_num N1) lN la).mono ?_
      rintro e k3w ⟨rfl, k3⟩
      refine hK _ _ (HI.keep k3) ?_
      clear hK K
      replace HI := HI.keep k3
      replace BX := BX.keep k3
      replace HB := below_then HB k3
      replace la := la.below k3 (Nat.le_refl _)
      replace lb := lb.below k3 (Nat.le_refl _)
      replace lx := lx.below k3 (Nat.le_refl _)
      replace ly := ly.below k3 (Nat.le_refl _)
      replace lN := lN.below k3 (Nat.le_refl _)
      replace lA := lA.below k3 (Nat.le_refl _)
      replace wN := wN.below (C := 0) k3
      replace wA := wA.below (C := 0) k3
      clear k3
      refine Drawn.take (i := 4) (v := .bool false) rfl (by kernel_rfl) (by kernel_rfl) (by kernel_rfl) (fun _ _ _ h => h) (by kernel_rfl) (fun W hW => ?_) HI ?_
      · have ⟨⟨sA0, sA1, sA2⟩, ⟨sN0, sN1, sN2⟩, ⟨sx0, sx1, sx2⟩, sa0, sa1, sa2⟩ := sh W hW
        go_simp <;> (rfl)
      refine Drawn.take (i := 5) (v := ?v85) rfl (by kernel_rfl) (by kernel_rfl) (by kernel_rfl) (fun _ _ _ h => h) (by kernel_rfl) (fun W hW => ?_) HI ?_
      rotate_left
      · have ⟨⟨sA0, sA1, sA2⟩, ⟨sN0, sN1, sN2⟩, ⟨sx0, sx1, sx2⟩, sa0, sa1, sa2⟩ := sh W hW
        go_simp <;> exact rfl
      refine Drawn.take (i := 6) (v := ?v86) rfl (by kernel_rfl) (by kernel_rfl) (by kernel_rfl) (fun _ _ _ h => h) (by kernel_rfl) (fun W hW => ?_) HI ?_
      rotate_left
      · have ⟨⟨sA0, sA1, sA2⟩, ⟨sN0, sN1, sN2⟩, ⟨sx0, sx1, sx2⟩, sa0, sa1, sa2⟩ := sh W hW
        go_simp <;> exact rfl
      refine Drawn.take (i := 7) (v := ?v87) rfl (by kernel_rfl) (by kernel_rfl) (by kernel_rfl) (fun _ _ _ h => h) (by kernel_rfl) (fun W hW => ?_) HI ?_
      rotate_left
      · have ⟨⟨sA0, sA1, sA2⟩, ⟨sN0, sN1, sN2⟩, ⟨sx0, sx1, sx2⟩, sa0, sa1, sa2⟩ := sh W hW
        go_simp <;> exact rfl
      refine Drawn.take (i := 8) (v := ?v88) rfl (by kernel_rfl) (by kernel_rfl) (by kernel_rfl) (fun _ _ _ h => h) (by kernel_rfl) (fun W hW => ?_) HI ?_
      rotate_left
      · have ⟨⟨sA0, sA1, sA2⟩, ⟨sN0, sN1, sN2⟩, ⟨sx0, sx1, sx2⟩, sa0, sa1, sa2⟩ := sh W hW
        go_simp <;> exact rfl
      refine Drawn.take (i := 9) (v := ?v89) rfl (by kernel_rfl) (by kernel_rfl) (by kernel_rfl) (fun _ _ _ h => h) (by kernel_rfl) (fun W hW => ?_) HI ?_
      rotate_left
      · have ⟨⟨sA0, sA1, sA2⟩, ⟨sN0, sN1, sN2⟩, ⟨sx0, sx1, sx2⟩, sa0, sa1, sa2⟩ := sh W hW
        go_simp <;> exact rfl
      refine Drawn.take (i := 10) (v := ?v90) rfl (by kernel_rfl) (by kernel_rfl) (by kernel_rfl) (fun _ _ _ h => h) (by kernel_rfl) (fun W hW => ?_) HI ?_
      rotate_left
      · have ⟨⟨sA0, sA1, sA2⟩, ⟨sN0, sN1, sN2⟩, ⟨sx0, sx1, sx2⟩, sa0, sa1, sa2⟩ := sh W hW
        go_simp <;> exact rfl
      refine Drawn.take (i := 11) (v := ?v91) rfl (by kernel_rfl) (by kernel_rfl) (by kernel_rfl) (fun _ _ _ h => h) (by kernel_rfl) (fun W hW => ?_) HI ?_
      rotate_left
      · have ⟨⟨sA0, sA1, sA2⟩, ⟨sN0, sN1, sN2⟩, ⟨sx0, sx1, sx2⟩, sa0, sa1, sa2⟩ := sh W hW
        go_simp <;> exact rfl
      refine Drawn.one (j := 12) (by kernel_rfl) rfl (fun K hK => ?_)
      go_simp
      refine (rAbsD n1 a1 c1 z1.length e1 _).mono ?_
      rintro e k4w ⟨rfl, k4⟩
      refine hK _ _ (HI.keep k4) ?_
      clear hK K
      replace HI := HI.keep k4
      replace BX := BX.keep k4
      replace HB := below_then HB k4
      replace la := la.below k4 (Nat.le_refl _)
      replace lb := lb.below k4 (Nat.le_refl _)
      replace lx := lx.below k4 (Nat.le_refl _)
      replace ly := ly.below k4 (Nat.le_refl _)
      replace lN := lN.below k4 (Nat.le_refl _)
      replace lA := lA.below k4 (Nat.le_refl _)
      replace wN := wN.below (C := 0) k4
      replace wA := wA.below (C := 0) k4
      clear k4
      refine Drawn.one (j := 13) (by kernel_rfl) rfl (fun K hK => ?_)
      go_simp
      refine (sameD _ _ aA a1 cA c1 z1 z1 e1 e1 _ (abs_num N1) (abs_num N1) lA la).mono ?_
      rintro e k5w ⟨rfl, k5⟩
      refine hK _ _ (HI.keep k5) ?_
      clear hK K
      replace HI := HI.keep k5
      replace BX := BX.keep k5
      replace HB := below_then HB k5
      replace la := la.below k5 (Nat.le_refl _)
      replace lb := lb.below k5 (Nat.le_refl _)
      replace lx := lx.below k5 (Nat.le_refl _)
      replace ly := ly.below k5 (Nat.le_refl _)
      replace lN := lN.below k5 (Nat.le_refl _)
      replace lA := lA.below k5 (Nat.le_refl _)
      replace wN := wN.below (C := 0) k5
      replace wA := wA.below (C := 0) k5
      clear k5
      refine Drawn.take (i := 14) (v := .bool false) rfl (by kernel_rfl) (by kernel_rfl) (by kernel_rfl) (fun _ _ _ h => h) (by kernel_rfl) (fun W hW => ?_) HI ?_
      · have ⟨⟨sA0, sA1, sA2⟩, ⟨sN0, sN1, sN2⟩, ⟨sx0, sx1, sx2⟩, sa0, sa1, sa2⟩ := sh W hW
        go_simp <;> (rfl)
      refine Drawn.take (i := 15) (v := ?v92) rfl (by kernel_rfl) (by kernel_rfl) (by kernel_rfl) (fun _ _ _ h => h) (by kernel_rfl) (fun W hW => ?_) HI ?_
      rotate_left
      · have ⟨⟨sA0, sA1, sA2⟩, ⟨sN0, sN1, sN2⟩, ⟨sx0, sx1, sx2⟩, sa0, sa1, sa2⟩ := sh W hW
        go_simp <;> exact rfl
      refine Drawn.take (i := 16) (v := ?v93) rfl (by kernel_rfl) (by kernel_rfl) (by kernel_rfl) (fun _ _ _ h => h) (by kernel_rfl) (fun W hW => ?_) HI ?_
      rotate_left
      · have ⟨⟨sA0, sA1, sA2⟩, ⟨sN0, sN1, sN2⟩, ⟨sx0, sx1, sx2⟩, sa0, sa1, sa2⟩ := sh W hW
        go_simp <;> exact rfl
      refine Drawn.take (i := 17) (v := ?v94) rfl (by kernel_rfl) (by kernel_rfl) (by kernel_rfl) (fun _ _ _ h => h) (by kernel_rfl) (fun W hW => ?_) HI ?_
      rotate_left
      · have ⟨⟨sA0, sA1, sA2⟩, ⟨sN0, sN1, sN2⟩, ⟨sx0, sx1, sx2⟩, sa0, sa1, sa2⟩ := sh W hW
        go_simp <;> exact rfl
      refine Drawn.take (i := 18) (v := ?v95) rfl (by kernel_rfl) (by kernel_rfl) (by kernel_rfl) (fun _ _ _ h => h) (by kernel_rfl) (fun W hW => ?_) HI ?_
      rotate_left
      · have ⟨⟨sA0, sA1, sA2⟩, ⟨sN0, sN1, sN2⟩, ⟨sx0, sx1, sx2⟩, sa0, sa1, sa2⟩ := sh W hW
        go_simp <;> exact rfl
      refine Drawn.take (i := 19) (v := ?v96) rfl (by kernel_rfl) (by kernel_rfl) (by kernel_rfl) (fun _ _ _ h => h) (by kernel_rfl) (fun W hW => ?_) HI ?_
      rotate_left
      · have ⟨⟨sA0, sA1, sA2⟩, ⟨sN0, sN1, sN2⟩, ⟨sx0, sx1, sx2⟩, sa0, sa1, sa2⟩ := sh W hW
        go_simp <;> exact rfl
      refine Drawn.take (i := 20) (v := ?v97) rfl (by kernel_rfl) (by kernel_rfl) (by kernel_rfl) (fun _ _ _ h => h) (by kernel_rfl) (fun W hW => ?_) HI ?_
      rotate_left
      · have ⟨⟨sA0, sA1, sA2⟩, ⟨sN0, sN1, sN2⟩, ⟨sx0, sx1, sx2⟩, sa0, sa1, sa2⟩ := sh W hW
        go_simp <;> exact rfl
      refine Drawn.take (i := 21) (v := ?v98) rfl (by kernel_rfl) (by kernel_rfl) (by kernel_rfl) (fun _ _ _ h => h) (by kernel_rfl) (fun W hW => ?_) HI ?_
      rotate_left
      · have ⟨⟨sA0, sA1, sA2⟩, ⟨sN0, sN1, sN2⟩, ⟨sx0, sx1, sx2⟩, sa0, sa1, sa2⟩ := sh W hW
        go_simp <;> exact rfl
      refine Drawn.take (i := 23) (v := ?v99) rfl (by kernel_rfl) (by kernel_rfl) (by kernel_rfl) (fun _ _ _ h => h) (by kernel_rfl) (fun W hW => ?_) HI ?_
      rotate_left
      · have ⟨⟨sA0, sA1, sA2⟩, ⟨sN0, sN1, sN2⟩, ⟨sx0, sx1, sx2⟩, sa0, sa1, sa2⟩ := sh W hW
        go_simp <;> exact rfl
      refine Drawn.one (j := 22) (by kernel_rfl) rfl (fun K hK => ?_)
      go_simp
      refine (dsign49 n1 ax cx z1 e1 u _ lx N1 sx hsx).mono ?_
      rintro e k6w ⟨rfl, k6⟩
      refine hK _ _ (HI.keep k6) ?_
      clear hK K
      replace HI := HI.keep k6
      replace BX := BX.keep k6
      replace HB := below_then HB k6
      replace la := la.below k6 (Nat.le_refl _)
      replace lb := lb.below k6 (Nat.le_refl _)
      replace lx := lx.below k6 (Nat.le_refl _)
      replace ly := ly.below k6 (Nat.le_refl _)
      replace lN := lN.below k6 (Nat.le_refl _)
      replace lA := lA.below k6 (Nat.le_refl _)
      replace wN := wN.below (C := 0) k6
      replace wA := wA.below (C := 0) k6
      clear k6
      refine Drawn.one (j := 24) (by kernel_rfl) rfl (fun K hK => ?_)
      go_simp
      refine (rSignD n1 a1 c1 z1 e1 N1 sx hsx _).mono ?_
      rintro e k7w ⟨rfl, k7⟩
      refine hK _ _ (HI.keep k7) ?_
      clear hK K
      replace HI := HI.keep k7
      replace BX := BX.keep k7
      replace HB := below_then HB k7
      replace la := la.below k7 (Nat.le_refl _)
      replace lb := lb.below k7 (Nat.le_refl _)
      replace lx := lx.below k7 (Nat.le_refl _)
      replace ly := ly.below k7 (Nat.le_refl _)
      replace lN := lN.below k7 (Nat.le_refl _)
      replace lA := lA.below k7 (Nat.le_refl _)
      replace wN := wN.below (C := 0) k7
      replace wA := wA.below (C := 0) k7
      clear k7
      refine Drawn.take (i := 25) (v := .bool false) rfl (by kernel_rfl) (by kernel_rfl) (by kernel_rfl) (fun _ _ _ h => h) (by kernel_rfl) (fun W hW => ?_) HI ?_
      · have ⟨⟨sA0, sA1, sA2⟩, ⟨sN0, sN1, sN2⟩, ⟨sx0, sx1, sx2⟩, sa0, sa1, sa2⟩ := sh W hW
        go_simp <;> (simp)
      refine Drawn.take (i := 26) (v := ?v100) rfl (by kernel_rfl) (by kernel_rfl) (by kernel_rfl) (fun _ _ _ h => h) (by kernel_rfl) (fun W hW => ?_) HI ?_
      rotate_left
      · have ⟨⟨sA0, sA1, sA2⟩, ⟨sN0, sN1, sN2⟩, ⟨sx0, sx1, sx2⟩, sa0, sa1, sa2⟩ := sh W hW
        go_simp <;> exact rfl
      refine Drawn.take (i := 27) (v := ?v101) rfl (by kernel_rfl) (by kernel_rfl) (by kernel_rfl) (fun _ _ _ h => h) (by kernel_rfl) (fun W hW => ?_) HI ?_
      rotate_left
      · have ⟨⟨sA0, sA1, sA2⟩, ⟨sN0, sN1, sN2⟩, ⟨sx0, sx1, sx2⟩, sa0, sa1, sa2⟩ := sh W hW
        go_simp <;> exact rfl
      refine Drawn.take (i := 28) (v := ?v102) rfl (by kernel_rfl) (by kernel_rfl) (by kernel_rfl) (fun _ _ _ h => h) (by kernel_rfl) (fun W hW => ?_) HI ?_
      rotate_left
      · have ⟨⟨sA0, sA1, sA2⟩, ⟨sN0, sN1, sN2⟩, ⟨sx0, sx1, sx2⟩, sa0, sa1, sa2⟩ := sh W hW
        go_simp <;> exact rfl
      refine Drawn.take (i := 30) (v := ?v103) rfl (by kernel_rfl) (by kernel_rfl) (by kernel_rfl) (fun _ _ _ h => h) (by kernel_rfl) (fun W hW => ?_) HI ?_
      rotate_left
      · have ⟨⟨sA0, sA1, sA2⟩, ⟨sN0, sN1, sN2⟩, ⟨sx0, sx1, sx2⟩, sa0, sa1, sa2⟩ := sh W hW
        go_simp <;> exact rfl
      refine Drawn.one (j := 29) (by kernel_rfl) rfl (fun K hK => ?_)
      go_simp
      refine (dTop n1 ax cx z1 e1 _ lx g1).mono ?_
      rintro e k8w ⟨T9, rfl, hT9, _, k8⟩
      refine hK _ _ (HI.keep k8) ?_
      clear hK K
      replace HI := HI.keep k8
      replace BX := BX.keep k8
      replace HB := below_then HB k8
      replace la := la.below k8 (Nat.le_refl _)
      replace lb := lb.below k8 (Nat.le_refl _)
      replace lx := lx.below k8 (Nat.le_refl _)
      replace ly := ly.below k8 (Nat.le_refl _)
      replace lN := lN.below k8 (Nat.le_refl _)
      replace lA := lA.below k8 (Nat.le_refl _)
      replace wN := wN.below (C := 0) k8
      replace wA := wA.below (C := 0) k8
      clear k8
      obtain rfl := hT9.unique hTop
      clear hT9
      refine Drawn.one (j := 31) (by kernel_rfl) rfl (fun K hK => ?_)
      go_simp
      refine (rTopD n1 a1 c1 z1 e1 _ la g1 hTop).mono ?_
      rintro e k9w ⟨rfl, k9⟩
      refine hK _ _ (HI.keep k9) ?_
      clear hK K
      replace HI := HI.keep k9
      replace BX := BX.keep k9
      replace HB := below_then HB k9
      replace la := la.below k9 (Nat.le_refl _)
      replace lb := lb.below k9 (Nat.le_refl _)
      replace lx := lx.below k9 (Nat.le_refl _)
      replace ly := ly.below k9 (Nat.le_refl _)
      replace lN := lN.below k9 (Nat.le_refl _)
      replace lA := lA.below k9 (Nat.le_refl _)
      replace wN := wN.below (C := 0) k9
      replace wA := wA.below (C := 0) k9
      clear k9
      refine Drawn.take (i := 32) (v := .bool false) rfl (by kernel_rfl) (by kernel_rfl) (by kernel_rfl) (fun _ _ _ h => h) (by kernel_rfl) (fun W hW => ?_) HI ?_
      · have ⟨⟨sA0, sA1, sA2⟩, ⟨sN0, sN1, sN2⟩, ⟨sx0, sx1, sx2⟩, sa0, sa1, sa2⟩ := sh W hW
        go_simp <;> (simp)
      refine Drawn.take (i := 33) (v := ?v104) rfl (by kernel_rfl) (by kernel_rfl) (by kernel_rfl) (fun _ _ _ h => h) (by kernel_rfl) (fun W hW => ?_) HI ?_
      rotate_left
      · have ⟨⟨sA0, sA1, sA2⟩, ⟨sN0, sN1, sN2⟩, ⟨sx0, sx1, sx2⟩, sa0, sa1, sa2⟩ := sh W hW
        go_simp <;> exact rfl
      refine Drawn.done (by kernel_rfl) ?_
      try go_simp
      clear HI sh
      obtain ⟨⟨fN0, fN1, fN2⟩, _⟩ := cells3 BX uN.heap.size _ _ _ _ (show (uN.heap.size, DO (rn n1 z1) aN z1.length cN e1) ∈ _ by simp)
      obtain ⟨⟨fA0, fA1, fA2⟩, _⟩ := cells3 BX uA.heap.size _ _ _ _ (show (uA.heap.size, DO false aA z1.length cA e1) ∈ _ by simp)
      go_wp2_with fail
      refine (mark2 W.heap.size _ _ aN cN z1 _ wN (by have := g1.len; omega) _ aA cA z1 _ wA (by have := g1.len; omega)).mono ?_
      rintro e W2 ⟨rfl, hk⟩
      have HC := (below_then HB (below_alloc _ _)).trans hk
      replace BX := HF.keep HC
      replace lx := lx0.below HC (Nat.le_refl _)
      replace ly := ly0.below HC (Nat.le_refl _)
      replace la := la0.below HC (Nat.le_refl _)
      replace lb := lb0.below HC (Nat.le_refl _)
      replace hTW := hTW.below HC (Nat.le_refl _)
      clear HC hk HB wN wA lN lA
      have HF2 := BX
      have lx2 := lx
      have ly2 := ly
      have la2 := la
      have lb2 := lb
      have HB := Below.refl W2.heap.size W2
      obtain ⟨⟨fx0, fx1, fx2⟩, _⟩ := cells3 BX g5 _ _ _ _ (show (g5, DO n1 ax z1.length cx e1) ∈ _ by simp)
      obtain ⟨⟨fy0, fy1, fy2⟩, _⟩ := cells3 BX g6 _ _ _ _ (show (g6, DO n2 ay z2.length cy e2) ∈ _ by simp)
      go_wp2_with fail
      refine (dcmp_bad n1 n2 ax ay cx cy z1 z2 e1 e2 _ ⟨lx, u1.len, u1.rng⟩ ⟨ly, u2.len, u2.rng⟩ hq).mono ?_
      rintro e k10w ⟨rfl, k10⟩
      replace BX := BX.keep k10
      replace HB := below_then HB k10
      replace la := la.below k10 (Nat.le_refl _)
      replace lb := lb.below k10 (Nat.le_refl _)
      replace lx := lx.below k10 (Nat.le_refl _)
      replace ly := ly.below k10 (Nat.le_refl _)
      clear k10
      obtain ⟨⟨fx0, fx1, fx2⟩, _⟩ := cells3 BX g5 _ _ _ _ (show (g5, DO n1 ax z1.length cx e1) ∈ _ by simp)
      obtain ⟨⟨fy0, fy1, fy2⟩, _⟩ := cells3 BX g6 _ _ _ _ (show (g6, DO n2 ay z2.length cy e2) ∈ _ by simp)
      go_wp2_with fail
      refine (dadd_bad n1 n2 ax ay cx cy z1 z2 e1 e2 _ ⟨lx, u1.len, u1.rng⟩ ⟨ly, u2.len, u2.rng⟩ hq).mono ?_
      rintro e uS ⟨rfl, hS⟩
      replace BX := BX.keep hS
      replace HB := below_then HB hS
      replace la := la.below hS (Nat.le_refl _)
      replace lb := lb.below hS (Nat.le_refl _)
      replace lx := lx.below hS (Nat.le_refl _)
      replace ly := ly.below hS (Nat.le_refl _)
      clear hS
      have haS := below_alloc uS (DO false none 0 0 0)
      replace BX := BX.push (DO false none 0 0 0)
      replace HB := below_then HB haS
      replace la := la.below haS (Nat.le_refl _)
      replace lb := lb.below haS (Nat.le_refl _)
      replace lx := lx.below haS (Nat.le_refl _)
      replace ly := ly.below haS (Nat.le_refl _)
      clear haS
      obtain ⟨⟨fx0, fx1, fx2⟩, _⟩ := cells3 BX g5 _ _ _ _ (show (g5, DO n1 ax z1.length cx e1) ∈ _ by simp)
      obtain ⟨⟨fy0, fy1, fy2⟩, _⟩ := cells3 BX g6 _ _ _ _ (show (g6, DO n2 ay z2.length cy e2) ∈ _ by simp)
      go_wp2_with fail
      generalize hvS : uS.alloc (DO false none 0 0 0) = vS at *
      clear hvS
      refine (dsub_bad n1 n2 ax ay cx cy z1 z2 e1 e2 _ ⟨lx, u1.len, u1.rng⟩ ⟨ly, u2.len, u2.rng⟩ hq).mono ?_
      rintro e uD ⟨rfl, hD⟩
      replace BX := BX.keep hD
      replace HB := below_then HB hD
      replace la := la.below hD (Nat.le_refl _)
      replace lb := lb.below hD (Nat.le_refl _)
      replace lx := lx.below hD (Nat.le_refl _)
      replace ly := ly.below hD (Nat.le_refl _)
      clear hD
      have haD := below_alloc uD (DO false none 0 0 0)
      replace BX := BX.push (DO false none 0 0 0)
      replace HB := below_then HB haD
      replace la := la.below haD (Nat.le_refl _)
      replace lb := lb.below haD (Nat.le_refl _)
      replace lx := lx.below haD (Nat.le_refl _)
      replace ly := ly.below haD (Nat.le_refl _)
      clear haD
      obtain ⟨⟨fx0, fx1, fx2⟩, _⟩ := cells3 BX g5 _ _ _ _ (show (g5, DO n1 ax z1.length cx e1) ∈ _ by simp)
      obtain ⟨⟨fy0, fy1, fy2⟩, _⟩ := cells3 BX g6 _ _ _ _ (show (g6, DO n2 ay z2.length cy e2) ∈ _ by simp)
      go_wp2_with fail
      generalize hvD : uD.alloc (DO false none 0 0 0) = vD at *
      clear hvD
      refine (dmul_bad n1 n2 ax ay cx cy z1 z2 e1 e2 _ ⟨lx, u1.len, u1.rng⟩ ⟨ly, u2.len, u2.rng⟩ hq).mono ?_
      rintro e uM ⟨rfl, hM⟩
      replace BX := BX.keep hM
      replace HB := below_then HB hM
      replace la := la.below hM (Nat.le_refl _)
      replace lb := lb.below hM (Nat.le_refl _)
      replace lx := lx.below hM (Nat.le_refl _)
      replace ly := ly.below hM (Nat.le_refl _)
      clear hM
      have haM := below_alloc uM (DO false none 0 0 0)
      replace BX := BX.push (DO false none 0 0 0)
      replace HB := below_then HB haM
      replace la := la.below haM (Nat.le_refl _)
      replace lb := lb.below haM (Nat.le_refl _)
      replace lx := lx.below haM (Nat.le_refl _)
      replace ly := ly.below haM (Nat.le_refl _)
      clear haM
      obtain ⟨⟨fa0, fa1, fa2⟩, _⟩ := cells3 BX w.heap.size _ _ _ _ (show (w.heap.size, DO n1 a1 z1.length c1 e1) ∈ _ by simp)
      go_wp2_with fail
      generalize hvM : uM.alloc (DO false none 0 0 0) = vM at *
      clear hvM
      refine (drefmay37 n1 a1 c1 z1 e1 _ ⟨la, u1.len, u1.rng⟩ true g1.may).mono ?_
      rintro e k11w ⟨rfl, k11⟩
      replace BX := BX.keep k11
      replace HB := below_then HB k11
      replace la := la.below k11 (Nat.le_refl _)
      replace lb := lb.below k11 (Nat.le_refl _)
      replace lx := lx.below k11 (Nat.le_refl _)
      replace ly := ly.below k11 (Nat.le_refl _)
      clear k11
      obtain ⟨⟨fb0, fb1, fb2⟩, _⟩ := cells3 BX (w.heap.size + 1) _ _ _ _ (show ((w.heap.size + 1), DO n2 a2 z2.length c2 e2) ∈ _ by simp)
      go_wp2_with fail
      refine (drefmay37 n2 a2 c2 z2 e2 _ ⟨lb, u2.len, u2.rng⟩ false hq2).mono ?_
      rintro e k12w ⟨rfl, k12⟩
      replace BX := BX.keep k12
      replace HB := below_then HB k12
      replace la := la.below k12 (Nat.le_refl _)
      replace lb := lb.below k12 (Nat.le_refl _)
      replace lx := lx.below k12 (Nat.le_refl _)
      replace ly := ly.below k12 (Nat.le_refl _)
      clear k12
      obtain ⟨⟨fS0, fS1, fS2⟩, _⟩ := cells3 BX uS.heap.size _ _ _ _ (show (uS.heap.size, DO false none 0 0 0) ∈ _ by simp)
      go_wp2_with fail
      refine (dnone_yes _ 2).mono ?_
      rintro e k13w ⟨rfl, k13⟩
      replace BX := BX.keep k13
      replace HB := below_then HB k13
      replace la := la.below k13 (Nat.le_refl _)
      replace lb := lb.below k13 (Nat.le_refl _)
      replace lx := lx.below k13 (Nat.le_refl _)
      replace ly := ly.below k13 (Nat.le_refl _)
      clear k13
      obtain ⟨⟨fD0, fD1, fD2⟩, _⟩ := cells3 BX uD.heap.size _ _ _ _ (show (uD.heap.size, DO false none 0 0 0) ∈ _ by simp)
      go_wp2_with fail
      refine (dnone_yes _ 2).mono ?_
      rintro e k14w ⟨rfl, k14⟩
      replace BX := BX.keep k14
      replace HB := below_then HB k14
      replace la := la.below k14 (Nat.le_refl _)
      replace lb := lb.below k14 (Nat.le_refl _)
      replace lx := lx.below k14 (Nat.le_refl _)
      replace ly := ly.below k14 (Nat.le_refl _)
      clear k14
      obtain ⟨⟨fM0, fM1, fM2⟩, _⟩ := cells3 BX uM.heap.size _ _ _ _ (show (uM.heap.size, DO false none 0 0 0) ∈ _ by simp)
      go_wp2_with fail
      refine (dnone_yes _ 2).mono ?_
      rintro e k15w ⟨rfl, k15⟩
      replace BX := BX.keep k15
      replace HB := below_then HB k15
      replace la := la.below k15 (Nat.le_refl _)
      replace lb := lb.below k15 (Nat.le_refl _)
      replace lx := lx.below k15 (Nat.le_refl _)
      replace ly := ly.below k15 (Nat.le_refl _)
      clear k15
      go_wp2_with fail
      refine (dknown34 _ (hT.below BX.bel (Nat.le_refl _))).mono ?_
      rintro e k16w ⟨rfl, k16⟩
      replace BX := BX.keep k16
      replace HB := below_then HB k16
      replace la := la.below k16 (Nat.le_refl _)
      replace lb := lb.below k16 (Nat.le_refl _)
      replace lx := lx.below k16 (Nat.le_refl _)
      replace ly := ly.below k16 (Nat.le_refl _)
      clear k16
      go_wp2
      go_ret
      exact ⟨rfl, BX.bel⟩
    · have hq1 := HC
      have hq : (dmayB n1 z1 e1 && dmayB n2 z2 e2) = false := by rw [hq1, Bool.false_and]
      obtain ⟨⟨fx0, fx1, fx2⟩, _⟩ := cells3 BX g5 _ _ _ _ (show (g5, DO n1 ax z1.length cx e1) ∈ _ by simp)
      go_wp2_with fail
      refine (dneg_bad n1 ax cx z1 e1 _ ⟨lx, u1.len, u1.rng⟩ hq1).mono ?_
      rintro e uN ⟨rfl, hN⟩
      replace BX := BX.keep hN
      replace HB := below_then HB hN
      replace la := la.below hN (Nat.le_refl _)
      replace lb := lb.below hN (Nat.le_refl _)
      replace lx := lx.below hN (Nat.le_refl _)
      replace ly := ly.below hN (Nat.le_refl _)
      clear hN
      have haN := below_alloc uN (DO false none 0 0 0)
      replace BX := BX.push (DO false none 0 0 0)
      replace HB := below_then HB haN
      replace la := la.below haN (Nat.le_refl _)
      replace lb := lb.below haN (Nat.le_refl _)
      replace lx := lx.below haN (Nat.le_refl _)
      replace ly := ly.below haN (Nat.le_refl _)
      clear haN
      obtain ⟨⟨fx0, fx1, fx2⟩, _⟩ := cells3 BX g5 _ _ _ _ (show (g5, DO n1 ax z1.length cx e1) ∈ _ by simp)
      go_wp2_with fail
      generalize hvN : uN.alloc (DO false none 0 0 0) = vN at *
      clear hvN
      refine (dabs_bad n1 ax cx z1 e1 _ ⟨lx, u1.len, u1.rng⟩ hq1).mono ?_
      rintro e uA ⟨rfl, hA⟩
      replace BX := BX.keep hA
      replace HB := below_then HB hA
      replace la := la.below hA (Nat.le_refl _)
      replace lb := lb.below hA (Nat.le_refl _)
      replace lx := lx.below hA (Nat.le_refl _)
      replace ly := ly.below hA (Nat.le_refl _)
      clear hA
      have haA := below_alloc uA (DO false none 0 0 0)
      replace BX := BX.push (DO false none 0 0 0)
      replace HB := below_then HB haA
      replace la := la.below haA (Nat.le_refl _)
      replace lb := lb.below haA (Nat.le_refl _)
      replace lx := lx.below haA (Nat.le_refl _)
      replace ly := ly.below haA (Nat.le_refl _)
      clear haA
      obtain ⟨⟨fa0, fa1, fa2⟩, _⟩ := cells3 BX w.heap.size _ _ _ _ (show (w.heap.size, DO n1 a1 z1.length c1 e1) ∈ _ by simp)
      go_wp2_with fail
      generalize hvA : uA.alloc (DO false none 0 0 0) = vA at *
      clear hvA
      refine (drefmay37 n1 a1 c1 z1 e1 _ ⟨la, u1.len, u1.rng⟩ false hq1).mono ?_
      rintro e k1w ⟨rfl, k1⟩
      replace BX := BX.keep k1
      replace HB := below_then HB k1
      replace la := la.below k1 (Nat.le_refl _)
      replace lb := lb.below k1 (Nat.le_refl _)
      replace lx := lx.below k1 (Nat.le_refl _)
      replace ly := ly.below k1 (Nat.le_refl _)
      clear k1
      obtain ⟨⟨fN0, fN1, fN2⟩, _⟩ := cells3 BX uN.heap.size _ _ _ _ (show (uN.heap.size, DO false none 0 0 0) ∈ _ by simp)
      go_wp2_with fail
      refine (dnone_yes _ 2).mono ?_
      rintro e k2w ⟨rfl, k2⟩
      replace BX := BX.keep k2
      replace HB := below_then HB k2
      replace la := la.below k2 (Nat.le_refl _)
      replace lb := lb.below k2 (Nat.le_refl _)
      replace lx := lx.below k2 (Nat.le_refl _)
      replace ly := ly.below k2 (Nat.le_refl _)
      clear k2
      obtain ⟨⟨fA0, fA1, fA2⟩, _⟩ := cells3 BX uA.heap.size _ _ _ _ (show (uA.heap.size, DO false none 0 0 0) ∈ _ by simp)
      go_wp2_with fail
      refine (dnone_yes _ 2).mono ?_
      rintro e k3w ⟨rfl, k3⟩
      replace BX := BX.keep k3
      replace HB := below_then HB k3
      replace la := la.below k3 (Nat.le_refl _)
      replace lb := lb.below k3 (Nat.le_refl _)
      replace lx := lx.below k3 (Nat.le_refl _)
      replace ly := ly.below k3 (Nat.le_refl _)
      clear k3
      obtain ⟨⟨fx0, fx1, fx2⟩, _⟩ := cells3 BX g5 _ _ _ _ (show (g5, DO n1 ax z1.length cx e1) ∈ _ by simp)
      go_wp2_with fail
      refine (dsign_bad n1 ax cx z1 e1 _ ⟨lx, u1.len, u1.rng⟩ hq1).mono ?_
      rintro e k4w ⟨rfl, k4⟩
      replace BX := BX.keep k4
      replace HB := below_then HB k4
      replace la := la.below k4 (Nat.le_refl _)
      replace lb := lb.below k4 (Nat.le_refl _)
      replace lx := lx.below k4 (Nat.le_refl _)
      replace ly := ly.below k4 (Nat.le_refl _)
      clear k4
      obtain ⟨⟨fx0, fx1, fx2⟩, _⟩ := cells3 BX g5 _ _ _ _ (show (g5, DO n1 ax z1.length cx e1) ∈ _ by simp)
      go_wp2_with fail
      refine (dtop_bad n1 ax cx z1 e1 _ ⟨lx, u1.len, u1.rng⟩ hq1).mono ?_
      rintro e k5w ⟨rfl, k5⟩
      replace BX := BX.keep k5
      replace HB := below_then HB k5
      replace la := la.below k5 (Nat.le_refl _)
      replace lb := lb.below k5 (Nat.le_refl _)
      replace lx := lx.below k5 (Nat.le_refl _)
      replace ly := ly.below k5 (Nat.le_refl _)
      clear k5
      obtain ⟨⟨fN0, fN1, fN2⟩, _⟩ := cells3 BX uN.heap.size _ _ _ _ (show (uN.heap.size, DO false none 0 0 0) ∈ _ by simp)
      obtain ⟨⟨fA0, fA1, fA2⟩, _⟩ := cells3 BX uA.heap.size _ _ _ _ (show (uA.heap.size, DO false none 0 0 0) ∈ _ by simp)
      go_wp2_with fail
      refine (mark2 W.heap.size _ _ none 0 [] _ (noWr _ _) (by simp) _ none 0 [] _ (noWr _ _) (by simp)).mono ?_
      rintro e W2 ⟨rfl, hk⟩
      have HC := (below_then HB (below_alloc _ _)).trans hk
      replace BX := HF.keep HC
      replace lx := lx0.below HC (Nat.le_refl _)
      replace ly := ly0.below HC (Nat.le_refl _)
      replace la := la0.below HC (Nat.le_refl _)
      replace lb := lb0.below HC (Nat.le_refl _)
      replace hTW := hTW.below HC (Nat.le_refl _)
      clear HC hk HB
      have HB := Below.refl W2.heap.size W2
      obtain ⟨⟨fx0, fx1, fx2⟩, _⟩ := cells3 BX g5 _ _ _ _ (show (g5, DO n1 ax z1.length cx e1) ∈ _ by simp)
      obtain ⟨⟨fy0, fy1, fy2⟩, _⟩ := cells3 BX g6 _ _ _ _ (show (g6, DO n2 ay z2.length cy e2) ∈ _ by simp)
      go_wp2_with fail
      refine (dcmp_bad n1 n2 ax ay cx cy z1 z2 e1 e2 _ ⟨lx, u1.len, u1.rng⟩ ⟨ly, u2.len, u2.rng⟩ hq).mono ?_
      rintro e k6w ⟨rfl, k6⟩
      replace BX := BX.keep k6
      replace HB := below_then HB k6
      replace la := la.below k6 (Nat.le_refl _)
      replace lb := lb.below k6 (Nat.le_refl _)
      replace lx := lx.below k6 (Nat.le_refl _)
      replace ly := ly.below k6 (Nat.le_refl _)
      clear k6
      obtain ⟨⟨fx0, fx1, fx2⟩, _⟩ := cells3 BX g5 _ _ _ _ (show (g5, DO n1 ax z1.length cx e1) ∈ _ by simp)
      obtain ⟨⟨fy0, fy1, fy2⟩, _⟩ := cells3 BX g6 _ _ _ _ (show (g6, DO n2 ay z2.length cy e2) ∈ _ by simp)
      go_wp2_with fail
      refine (dadd_bad n1 n2 ax ay cx cy z1 z2 e1 e2 _ ⟨lx, u1.len, u1.rng⟩ ⟨ly, u2.len, u2.rng⟩ hq).mono ?_
      rintro e uS ⟨rfl, hS⟩
      replace BX := BX.keep hS
      replace HB := below_then HB hS
      replace la := la.below hS (Nat.le_refl _)
      replace lb := lb.below hS (Nat.le_refl _)
      replace lx := lx.below hS (Nat.le_refl _)
      replace ly := ly.below hS (Nat.le_refl _)
      clear hS
      have haS := below_alloc uS (DO false none 0 0 0)
      replace BX := BX.push (DO false none 0 0 0)
      replace HB := below_then HB haS
      replace la := la.below haS (Nat.le_refl _)
      replace lb := lb.below haS (Nat.le_refl _)
      replace lx := lx.below haS (Nat.le_refl _)
      replace ly := ly.below haS (Nat.le_refl _)
      clear haS
      obtain ⟨⟨fx0, fx1, fx2⟩, _⟩ := cells3 BX g5 _ _ _ _ (show (g5, DO n1 ax z1.length cx e1) ∈ _ by simp)
      obtain ⟨⟨fy0, fy1, fy2⟩, _⟩ := cells3 BX g6 _ _ _ _ (show (g6, DO n2 ay z2.length cy e2) ∈ _ by simp)
      go_wp2_with fail
      generalize hvS : uS.alloc (DO false none 0 0 0) = vS at *
      clear hvS
      refine (dsub_bad n1 n2 ax ay cx cy z1 z2 e1 e2 _ ⟨lx, u1.len, u1.rng⟩ ⟨ly, u2.len, u2.rng⟩ hq).mono ?_
      rintro e uD ⟨rfl, hD⟩
      replace BX := BX.keep hD
      replace HB := below_then HB hD
      replace la := la.below hD (Nat.le_refl _)
      replace lb := lb.below hD (Nat.le_refl _)
      replace lx := lx.below hD (Nat.le_refl _)
      replace ly := ly.below hD (Nat.le_refl _)
      clear hD
      have haD := below_alloc uD (DO false none 0 0 0)
      replace BX := BX.push (DO false none 0 0 0)
      replace HB := below_then HB haD
      replace la := la.below haD (Nat.le_refl _)
      replace lb := lb.below haD (Nat.le_refl _)
      replace lx := lx.below haD (Nat.le_refl _)
      replace ly := ly.below haD (Nat.le_refl _)
      clear haD
      obtain ⟨⟨fx0, fx1, fx2⟩, _⟩ := cells3 BX g5 _ _ _ _ (show (g5, DO n1 ax z1.length cx e1) ∈ _ by simp)
      obtain ⟨⟨fy0, fy1, fy2⟩, _⟩ := cells3 BX g6 _ _ _ _ (show (g6, DO n2 ay z2.length cy e2) ∈ _ by simp)
      go_wp2_with fail
      generalize hvD : uD.alloc (DO false none 0 0 0) = vD at *
      clear hvD
      refine (dmul_bad n1 n2 ax ay cx cy z1 z2 e1 e2 _ ⟨lx, u1.len, u1.rng⟩ ⟨ly, u2.len, u2.rng⟩ hq).mono ?_
      rintro e uM ⟨rfl, hM⟩
      replace BX := BX.keep hM
      replace HB := below_then HB hM
      replace la := la.below hM (Nat.le_refl _)
      replace lb := lb.below hM (Nat.le_refl _)
      replace lx := lx.below hM (Nat.le_refl _)
      replace ly := ly.below hM (Nat.le_refl _)
      clear hM
      have haM := below_alloc uM (DO false none 0 0 0)
      replace BX := BX.push (DO false none 0 0 0)
      replace HB := below_then HB haM
      replace la := la.below haM (Nat.le_refl _)
      replace lb := lb.below haM (Nat.le_refl _)
      replace lx := lx.below haM (Nat.le_refl _)
      replace ly := ly.below haM (Nat.le_refl _)
      clear haM
      obtain ⟨⟨fa0, fa1, fa2⟩, _⟩ := cells3 BX w.heap.size _ _ _ _ (show (w.heap.size, DO n1 a1 z1.length c1 e1) ∈ _ by simp)
      go_wp2_with fail
      generalize hvM : uM.alloc (DO false none 0 0 0) = vM at *
      clear hvM
      refine (drefmay37 n1 a1 c1 z1 e1 _ ⟨la, u1.len, u1.rng⟩ false hq1).mono ?_
      rintro e k7w ⟨rfl, k7⟩
      replace BX := BX.keep k7
      replace HB := below_then HB k7
      replace la := la.below k7 (Nat.le_refl _)
      replace lb := lb.below k7 (Nat.le_refl _)
      replace lx := lx.below k7 (Nat.le_refl _)
      replace ly := ly.below k7 (Nat.le_refl _)
      clear k7
      obtain ⟨⟨fS0, fS1, fS2⟩, _⟩ := cells3 BX uS.heap.size _ _ _ _ (show (uS.heap.size, DO false none 0 0 0) ∈ _ by simp)
      go_wp2_with fail
      refine (dnone_yes _ 2).mono ?_
      rintro e k8w ⟨rfl, k8⟩
      replace BX := BX.keep k8
      replace HB := below_then HB k8
      replace la := la.below k8 (Nat.le_refl _)
      replace lb := lb.below k8 (Nat.le_refl _)
      replace lx := lx.below k8 (Nat.le_refl _)
      replace ly := ly.below k8 (Nat.le_refl _)
      clear k8
      obtain ⟨⟨fD0, fD1, fD2⟩, _⟩ := cells3 BX uD.heap.size _ _ _ _ (show (uD.heap.size, DO false none 0 0 0) ∈ _ by simp)
      go_wp2_with fail
      refine (dnone_yes _ 2).mono ?_
      rintro e k9w ⟨rfl, k9⟩
      replace BX := BX.keep k9
      replace HB := below_then HB k9
      replace la := la.below k9 (Nat.le_refl _)
      replace lb := lb.below k9 (Nat.le_refl _)
      replace lx := lx.below k9 (Nat.le_refl _)
      replace ly := ly.below k9 (Nat.le_refl _)
      clear k9
      obtain ⟨⟨fM0, fM1, fM2⟩, _⟩ := cells3 BX uM.heap.size _ _ _ _ (show (uM.heap.size, DO false none 0 0 0) ∈ _ by simp)
      go_wp2_with fail
      refine (dnone_yes _ 2).mono ?_
      rintro e k10w ⟨rfl, k10⟩
      replace BX := BX.keep k10
      replace HB := below_then HB k10
      replace la := la.below k10 (Nat.le_refl _)
      replace lb := lb.below k10 (Nat.le_refl _)
      replace lx := lx.below k10 (Nat.le_refl _)
      replace ly := ly.below k10 (Nat.le_refl _)
      clear k10
      go_wp2_with fail
      refine (dknown34 _ (hT.below BX.bel (Nat.le_refl _))).mono ?_
      rintro e k11w ⟨rfl, k11⟩
      replace BX := BX.keep k11
      replace HB := below_then HB k11
      replace la := la.below k11 (Nat.le_refl _)
      replace lb := lb.below k11 (Nat.le_refl _)
      replace lx := lx.below k11 (Nat.le_refl _)
      replace ly := ly.below k11 (Nat.le_refl _)
      clear k11
      go_wp2
      go_ret
      exact ⟨rfl, BX.bel⟩
end Go.Proofs.YtiamdmfhkhlppaaDoor
