import Derived.Test.YtiamdmfhkhlppaaDoorWA
namespace Go.Proofs.YtiamdmfhkhlppaaDoor
open Go.RowKit Go.Wd Go.Box
set_option linter.unusedVariables false
set_option maxRecDepth 3000
abbrev ZO : Obj := .cells #[.int .i64 0, .int .i64 0, .int .i64 0, .int .i64 0] 97 (0, 0)
/-- The cells of a block of cells4, and that they may be written. -/
theorem cells4 {w W : World} {L : List (Nat × Obj)} (h : Bx w L W) (g : Nat) (a b c d : Value) (t : TypeId) (hm : (g, Obj.cells #[a, b, c, d] t (0, 0)) ∈ L) :
    (W.cell? ⟨g, 0, none⟩ = some a ∧ W.cell? ⟨g, 1, none⟩ = some b ∧ W.cell? ⟨g, 2, none⟩ = some c ∧ W.cell? ⟨g, 3, none⟩ = some d) ∧ W.frozen? ⟨g, 0, none⟩ = false ∧ W.frozen? ⟨g, 1, none⟩ = false ∧ W.frozen? ⟨g, 2, none⟩ = false ∧ W.frozen? ⟨g, 3, none⟩ = false :=
  ⟨⟨h.cell g _ _ hm 0, h.cell g _ _ hm 1, h.cell g _ _ hm 2, h.cell g _ _ hm 3⟩, h.frozen g _ _ hm 0, h.frozen g _ _ hm 1, h.frozen g _ _ hm 2, h.frozen g _ _ hm 3⟩
theorem cells3 {w W : World} {L : List (Nat × Obj)} (h : Bx w L W) (g : Nat) (a b c : Value) (t : TypeId) (hm : (g, Obj.cells #[a, b, c] t (0, 0)) ∈ L) :
    (W.cell? ⟨g, 0, none⟩ = some a ∧ W.cell? ⟨g, 1, none⟩ = some b ∧ W.cell? ⟨g, 2, none⟩ = some c) ∧ W.frozen? ⟨g, 0, none⟩ = false ∧ W.frozen? ⟨g, 1, none⟩ = false ∧ W.frozen? ⟨g, 2, none⟩ = false :=
  ⟨⟨h.cell g _ _ hm 0, h.cell g _ _ hm 1, h.cell g _ _ hm 2⟩, h.frozen g _ _ hm 0, h.frozen g _ _ hm 1, h.frozen g _ _ hm 2⟩
theorem wGoodShape (b : Bool) (x : Int) (h : Ok b x) (w : World) :
    Calls Tryd.prog 135 #[.int .u8 (fm b), .int .u64 x] w fun e w' => e = .returned (.tuple #[S b, .int .i64 0]) ∧ Below w.heap.size w w' := by
  have B1 := (Bx.nil w).push ZO
  have hx : x ≤ 2 * sg b - 1 := by have := h.2; omega
  go_enter Tryd.func135, Tryd.ntmps135
  go_wp2_with fail
  refine (wShapeOf b _).mono ?_
  rintro e w2 ⟨rfl, h2⟩
  have B2 := (B1.keep h2).push (SO b)
  have hlt : w.heap.size < w2.heap.size := (B1.keep h2).lt (.head _)
  go_wp2_with fail
  refine (wFullWord b _).mono ?_
  rintro e w3 ⟨rfl, h3⟩
  have B3 := B2.keep h3
  obtain ⟨⟨e0, e1, e2, e3⟩, _⟩ := cells4 B3 w2.heap.size _ _ _ _ _ (.head _)
  obtain ⟨⟨f0, f1, f2, f3⟩, r0, r1, r2, r3⟩ := cells4 B3 w.heap.size _ _ _ _ _ (.tail _ (.head _))
  clear h2 h3 B1 B2
  go_wp2
  have B4 := (B3.sub (L' := [(w.heap.size, ZO), (w2.heap.size, SO b)]) (by simp)).fill4 (Nat.le_refl _) (by simp; omega) (.int .i64 (bt b)) (.int .i64 (fc b)) (.int .i64 (tp b)) (.int .i64 (lo b))
  refine bodyPost_ret (results_S2 rfl _ _ w.heap.size _ rfl B4.head rfl) rfl ?_
  exact ⟨rfl, B4.bel⟩
theorem wGoodShape_long (b : Bool) (x : Int) (h : 2 * sg b ≤ x) (w : World) :
    Calls Tryd.prog 135 #[.int .u8 (fm b), .int .u64 x] w fun e w' => e = .returned (.tuple #[noS, .int .i64 6]) ∧ Below w.heap.size w w' := by
  have B1 := (Bx.nil w).push ZO
  have hx : 2 * sg b - 1 < x := by omega
  go_enter Tryd.func135, Tryd.ntmps135
  go_wp2_with fail
  refine (wShapeOf b _).mono ?_
  rintro e w2 ⟨rfl, h2⟩
  have B2 := (B1.keep h2).push (SO b)
  have hlt : w.heap.size < w2.heap.size := (B1.keep h2).lt (.head _)
  go_wp2_with fail
  refine (wFullWord b _).mono ?_
  rintro e w3 ⟨rfl, h3⟩
  have B3 := B2.keep h3
  obtain ⟨⟨f0, f1, f2, f3⟩, r0, r1, r2, r3⟩ := cells4 B3 w.heap.size _ _ _ _ _ (.tail _ (.head _))
  clear h2 h3 B1 B2
  go_wp2
  have B4 := (B3.sub (L' := [(w.heap.size, ZO), (w2.heap.size, SO b)]) (by simp)).fill4 (Nat.le_refl _) (by simp; omega) (.int .i64 0) (.int .i64 0) (.int .i64 0) (.int .i64 0)
  refine bodyPost_ret (results_S2 rfl _ _ w.heap.size _ rfl B4.head rfl) rfl ?_
  exact ⟨rfl, B4.bel⟩
theorem wGoodShape_bad (f x : Int) (h : Bad f) (w : World) :
    Calls Tryd.prog 135 #[.int .u8 f, .int .u64 x] w fun e w' => e = .returned (.tuple #[noS, .int .i64 4]) ∧ Below w.heap.size w w' := by
  have B1 := (Bx.nil w).push ZO
  go_enter Tryd.func135, Tryd.ntmps135
  go_wp2_with fail
  refine (wShapeOf_bad f h _).mono ?_
  rintro e w2 ⟨rfl, h2⟩
  have B2 := B1.keep h2
  have hlt : w.heap.size < w2.heap.size := B2.lt (.head _)
  have B4 := (B2.fill4 (Nat.le_refl _) (by simp) (.int .i64 0) (.int .i64 0) (.int .i64 0) (.int .i64 0)).push ZO
  obtain ⟨⟨f0, f1, f2, f3⟩, r0, r1, r2, r3⟩ := cells4 B2 w.heap.size _ _ _ _ _ (.head _)
  clear h2 B1
  go_wp2
  refine bodyPost_ret (results_S2 rfl _ _ w.heap.size _ rfl B4.tail.head rfl) rfl ?_
  exact ⟨rfl, B4.bel⟩
/-- The word is not good, for the error c. -/
def GE (f x c : Int) : Prop := (Bad f ∧ c = 4) ∨ (∃ b, f = fm b ∧ 2 * sg b ≤ x ∧ c = 6)
theorem GE.ne {f x c : Int} (h : GE f x c) : (c == 0) = false := by
  rcases h with ⟨_, rfl⟩ | ⟨_, _, _, rfl⟩ <;> rfl
theorem GE.call {f x c : Int} (h : GE f x c) (w : World) :
    Calls Tryd.prog 135 #[.int .u8 f, .int .u64 x] w fun e w' => e = .returned (.tuple #[noS, .int .i64 c]) ∧ Below w.heap.size w w' := by
  rcases h with ⟨h, rfl⟩ | ⟨b, rfl, h, rfl⟩
  · exact wGoodShape_bad f x h w
  · exact wGoodShape_long b x h w
abbrev FV (n : Bool) (e f : Int) : Value := .agg #[.bool n, .int .i64 e, .int .u64 f]
abbrev FO (n : Bool) (e f : Int) : Obj := .cells #[.bool n, .int .i64 e, .int .u64 f] 107 (0, 0)
theorem Tryd.sizeFields : (Tryd.prog.info? 107).map (·.size) = some 3 := by kernel_rfl
theorem results_F2 {fn : Func} {p u : Tmp} (h : fn.results = #[.cell p 107, .tmp u]) (tmps : Array Value) (w : World) (g : Nat) (cs : Array Value) (hp : tmps.getD p undef = .pointer (some ⟨g, 0, none⟩)) (hg : w.heap[g]? = some (.cells cs 107 (0, 0))) (hs : cs.size = 3) :
    (results fn tmps).run Tryd.prog w = .ok (.tuple #[.agg cs, tmps.getD u undef]) w := by
  rw [results_cell_tmp h, hp]
  simp [asAddr, run_loadVar_row w g 107 107 cs (0, 0) _ hg Tryd.underlying107 rfl (by rw [Tryd.sizeFields, hs])]
theorem results_F1 {fn : Func} {p : Tmp} (h : fn.results = #[.cell p 107]) (tmps : Array Value) (w : World) (g : Nat) (cs : Array Value) (hp : tmps.getD p undef = .pointer (some ⟨g, 0, none⟩)) (hg : w.heap[g]? = some (.cells cs 107 (0, 0))) (hs : cs.size = 3) :
    (results fn tmps).run Tryd.prog w = .ok (.agg cs) w := by
  exact results_cell_row h tmps w g 107 cs (0, 0) _ hp hg Tryd.underlying107 rfl (by rw [Tryd.sizeFields, hs])
set_option maxHeartbeats 1000000 in
theorem wSplit (b : Bool) (x : Int) (h : Ok b x) (w : World) :
    Calls Tryd.prog 107 #[.int .u8 (fm b), .int .u64 x] w fun e w' => e = .returned (.tuple #[FV (ng b x) (fd b x) (fn b x), .int .i64 0]) ∧ Below w.heap.size w w' := by
  have B1 := (Bx.nil w).push (FO false 0 0)
  go_enter Tryd.func107, Tryd.ntmps107
  go_wp2_with fail
  refine (wGoodShape b x h _).mono ?_
  rintro e w2 ⟨rfl, h2⟩
  have HF := (B1.keep h2).push (SO b)
  have hlt : w.heap.size < w2.heap.size := (B1.keep h2).lt (.head _)
  clear h2 B1
  go_wp2_with fail
  generalize hw3 : w2.alloc (SO b) = w3 at *
  clear hw3
  replace HF := HF.drew
  have HI := HF.sub (L' := [(w2.heap.size, SO b)]) (by simp)
  have sh := fun W (hW : Bx w [(w2.heap.size, SO b)] W) => shape_cells hW w2.heap.size b (.head _)
  refine Drawn.enter (Bx w [(w2.heap.size, SO b)]) (by kernel_rfl) ?_
  refine Drawn.take (i := 0) (v := ?v14) rfl (by kernel_rfl) (by kernel_rfl) (by kernel_rfl) (fun _ _ _ h => h) (by kernel_rfl) (fun W hW => ?_) HI ?_
  rotate_left
  · have ⟨e0, e1, e2, e3⟩ := sh W hW
    go_simp <;> exact rfl
  refine Drawn.take (i := 1) (v := ?v15) rfl (by kernel_rfl) (by kernel_rfl) (by kernel_rfl) (fun _ _ _ h => h) (by kernel_rfl) (fun W hW => ?_) HI ?_
  rotate_left
  · have ⟨e0, e1, e2, e3⟩ := sh W hW
    go_simp <;> exact rfl
  refine Drawn.take (i := 3) (v := ?v16) rfl (by kernel_rfl) (by kernel_rfl) (by kernel_rfl) (fun _ _ _ h => h) (by kernel_rfl) (fun W hW => ?_) HI ?_
  rotate_left
  · have ⟨e0, e1, e2, e3⟩ := sh W hW
    go_simp <;> exact rfl
  refine Drawn.take (i := 4) (v := ?v17) rfl (by kernel_rfl) (by kernel_rfl) (by kernel_rfl) (fun _ _ _ h => h) (by kernel_rfl) (fun W hW => ?_) HI ?_
  rotate_left
  · have ⟨e0, e1, e2, e3⟩ := sh W hW
    go_simp <;> exact rfl
  refine Drawn.take (i := 6) (v := ?v18) rfl (by kernel_rfl) (by kernel_rfl) (by kernel_rfl) (fun _ _ _ h => h) (by kernel_rfl) (fun W hW => ?_) HI ?_
  rotate_left
  · have ⟨e0, e1, e2, e3⟩ := sh W hW
    go_simp <;> exact rfl
  refine Drawn.take (i := 7) (v := ?v19) rfl (by kernel_rfl) (by kernel_rfl) (by kernel_rfl) (fun _ _ _ h => h) (by kernel_rfl) (fun W hW => ?_) HI ?_
  rotate_left
  · have ⟨e0, e1, e2, e3⟩ := sh W hW
    go_simp <;> exact rfl
  refine Drawn.one (j := 2) (by kernel_rfl) rfl (fun K hK => ?_)
  go_simp
  refine (wIsNeg b x h _).mono ?_
  rintro e wn ⟨rfl, hn⟩
  refine hK _ _ (HI.keep hn) ?_
  clear hK K
  replace HI := HI.keep hn
  replace HF := HF.keep hn
  clear hn
  refine Drawn.one (j := 5) (by kernel_rfl) rfl (fun K hK => ?_)
  go_simp
  refine (wField b x h _).mono ?_
  rintro e wn ⟨rfl, hn⟩
  refine hK _ _ (HI.keep hn) ?_
  clear hK K
  replace HI := HI.keep hn
  replace HF := HF.keep hn
  clear hn
  refine Drawn.one (j := 8) (by kernel_rfl) rfl (fun K hK => ?_)
  go_simp
  refine (wFracBits b _).mono ?_
  rintro e wn ⟨rfl, hn⟩
  refine hK _ _ (HI.keep hn) ?_
  clear hK K
  replace HI := HI.keep hn
  replace HF := HF.keep hn
  clear hn
  refine Drawn.take (i := 9) (v := .int .u64 (fn b x)) rfl (by kernel_rfl) (by kernel_rfl) (by kernel_rfl) (fun _ _ _ h => h) (by kernel_rfl) (fun W hW => ?_) HI ?_
  · have ⟨e0, e1, e2, e3⟩ := sh W hW
    go_simp <;> (exact and_fr b h.1 (ok_u64 h))
  refine Drawn.take (i := 10) (v := ?v20) rfl (by kernel_rfl) (by kernel_rfl) (by kernel_rfl) (fun _ _ _ h => h) (by kernel_rfl) (fun W hW => ?_) HI ?_
  rotate_left
  · have ⟨e0, e1, e2, e3⟩ := sh W hW
    go_simp <;> exact rfl
  obtain ⟨⟨f0, f1, f2⟩, r0, r1, r2⟩ := cells3 HF w.heap.size _ _ _ _ (.tail _ (.head _))
  have HF2 := (HF.sub (L' := [(w.heap.size, FO false 0 0), (w2.heap.size, SO b)]) (by simp)).fill3 (Nat.le_refl _) (by simp; omega) (.bool (ng b x)) (.int .i64 (fd b x)) (.int .u64 (fn b x))
  refine Drawn.one (j := 11) (by kernel_rfl) rfl (fun K hK => ?_)
  go_simp
  replace HI := HF2.sub (L' := [(w2.heap.size, SO b)]) (by simp)
  refine hK _ _ HI ?_
  clear hK K f0 f1 f2 r0 r1 r2
  refine Drawn.take (i := 12) (v := ?v21) rfl (by kernel_rfl) (by kernel_rfl) (by kernel_rfl) (fun _ _ _ h => h) (by kernel_rfl) (fun W hW => ?_) HI ?_
  rotate_left
  · have ⟨e0, e1, e2, e3⟩ := sh W hW
    go_simp <;> exact rfl
  refine Drawn.done (by kernel_rfl) ?_
  try go_simp
  go_wp2
  refine bodyPost_ret (results_F2 rfl _ _ w.heap.size _ rfl HF2.head rfl) rfl ?_
  exact ⟨rfl, HF2.bel⟩
theorem wSplit_err (f x c : Int) (h : GE f x c) (w : World) :
    Calls Tryd.prog 107 #[.int .u8 f, .int .u64 x] w fun e w' => e = .returned (.tuple #[FV false 0 0, .int .i64 c]) ∧ Below w.heap.size w w' := by
  have B1 := (Bx.nil w).push (FO false 0 0)
  have hc := h.ne
  go_enter Tryd.func107, Tryd.ntmps107
  go_wp2_with fail
  refine (h.call _).mono ?_
  rintro e w2 ⟨rfl, h2⟩
  have B2 := B1.keep h2
  have hlt : w.heap.size < w2.heap.size := B2.lt (.head _)
  have B4 := (B2.fill3 (Nat.le_refl _) (by simp) (.bool false) (.int .i64 0) (.int .u64 0)).push ZO
  obtain ⟨⟨f0, f1, f2⟩, r0, r1, r2⟩ := cells3 B2 w.heap.size _ _ _ _ (.head _)
  clear h2 B1 h
  go_wp2
  refine bodyPost_ret (results_F2 rfl _ _ w.heap.size _ rfl B4.tail.head rfl) rfl ?_
  exact ⟨rfl, B4.bel⟩
end Go.Proofs.YtiamdmfhkhlppaaDoor
