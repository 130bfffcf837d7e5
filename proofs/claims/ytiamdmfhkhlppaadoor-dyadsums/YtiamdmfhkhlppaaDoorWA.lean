import Derived.Test.YtiamdmfhkhlppaaDoorM16
import Derived.Test.YtiamdmfhkhlppaaDoorBox
import Derived.Test.YtiamdmfhkhlppaaDoorWdMath
namespace Go.Proofs.YtiamdmfhkhlppaaDoor
open Go.RowKit Go.Wd Go.Box
set_option linter.unusedVariables false
set_option maxRecDepth 3000
/-- A format's shape. -/
abbrev S (b : Bool) : Value := .agg #[.int .i64 (bt b), .int .i64 (fc b), .int .i64 (tp b), .int .i64 (lo b)]
abbrev SO (b : Bool) : Obj := .cells #[.int .i64 (bt b), .int .i64 (fc b), .int .i64 (tp b), .int .i64 (lo b)] 97 (0, 0)
abbrev noS : Value := .agg #[.int .i64 0, .int .i64 0, .int .i64 0, .int .i64 0]
theorem S32 : S false = .agg #[.int .i64 32, .int .i64 23, .int .i64 255, .int .i64 (-149)] := rfl
theorem S64 : S true = .agg #[.int .i64 64, .int .i64 52, .int .i64 2047, .int .i64 (-1074)] := rfl
theorem pow31 : sg false = 2 ^ 31 := by decide
theorem pow63 : sg true = 2 ^ 63 := by decide
theorem shape_cells {w W : World} {L : List (Nat × Obj)} (h : Bx w L W) (g : Nat) (b : Bool) (hm : (g, SO b) ∈ L) :
    W.cell? ⟨g, 0, none⟩ = some (.int .i64 (bt b)) ∧ W.cell? ⟨g, 1, none⟩ = some (.int .i64 (fc b)) ∧ W.cell? ⟨g, 2, none⟩ = some (.int .i64 (tp b)) ∧ W.cell? ⟨g, 3, none⟩ = some (.int .i64 (lo b)) :=
  ⟨h.cell g _ _ hm 0, h.cell g _ _ hm 1, h.cell g _ _ hm 2, h.cell g _ _ hm 3⟩
theorem wSignBit (b : Bool) (w : World) :
    Calls Tryd.prog 137 #[S b] w fun e w' => e = .returned (.int .u64 (sg b)) ∧ Below w.heap.size w w' := by
  cases b
  · rw [S32]
    go_enter Tryd.func137, Tryd.ntmps137
    go_wp2
    go_ret
    exact ⟨rfl, below_alloc _ _⟩
  · rw [S64]
    go_enter Tryd.func137, Tryd.ntmps137
    go_wp2
    go_ret
    exact ⟨rfl, below_alloc _ _⟩
theorem wFullWord (b : Bool) (w : World) :
    Calls Tryd.prog 156 #[S b] w fun e w' => e = .returned (.int .u64 (2 * sg b - 1)) ∧ Below w.heap.size w w' := by
  cases b
  · rw [S32]
    go_enter Tryd.func156, Tryd.ntmps156
    go_wp2
    go_ret
    exact ⟨rfl, below_alloc _ _⟩
  · rw [S64]
    go_enter Tryd.func156, Tryd.ntmps156
    go_wp2
    go_ret
    exact ⟨rfl, below_alloc _ _⟩
theorem wFracBits (b : Bool) (w : World) :
    Calls Tryd.prog 138 #[S b] w fun e w' => e = .returned (.int .u64 (fr b - 1)) ∧ Below w.heap.size w w' := by
  cases b
  · rw [S32]
    go_enter Tryd.func138, Tryd.ntmps138
    go_wp2
    go_ret
    exact ⟨rfl, below_alloc _ _⟩
  · rw [S64]
    go_enter Tryd.func138, Tryd.ntmps138
    go_wp2
    go_ret
    exact ⟨rfl, below_alloc _ _⟩
theorem wInfinite (b : Bool) (w : World) :
    Calls Tryd.prog 142 #[S b] w fun e w' => e = .returned (.int .u64 (inf b)) ∧ Below w.heap.size w w' := by
  cases b
  · rw [S32]
    go_enter Tryd.func142, Tryd.ntmps142
    go_wp2
    go_ret
    exact ⟨rfl, below_alloc _ _⟩
  · rw [S64]
    go_enter Tryd.func142, Tryd.ntmps142
    go_wp2
    go_ret
    exact ⟨rfl, below_alloc _ _⟩
theorem andNot_sg (b : Bool) {x : Int} (h : Ok b x) : bits .andNot .u64 x (sg b) = sz b x := by
  cases b
  · exact clearBit 31 pow31 (by decide) h.1 h.2
  · exact clearBit 63 pow63 (by decide) h.1 h.2
theorem and_sg (b : Bool) {x : Int} (h : Ok b x) : bits .and .u64 x (sg b) = if sg b ≤ x then sg b else 0 := by
  cases b
  · exact topBit 31 pow31 (by decide) h.1 h.2
  · exact topBit 63 pow63 (by decide) h.1 h.2
theorem xor_sg (b : Bool) {x : Int} (h : Ok b x) : bits .xor .u64 x (sg b) = if sg b ≤ x then x - sg b else x + sg b := by
  cases b
  · exact flip 31 pow31 (by decide) h.1 h.2
  · exact flip 63 pow63 (by decide) h.1 h.2
theorem and_fr (b : Bool) {x : Int} (h0 : 0 ≤ x) (h1 : x < 18446744073709551616) : bits .and .u64 x (fr b - 1) = fn b x := by
  cases b
  · exact mask 23 (by decide) (by decide) h0 h1
  · exact mask 52 (by decide) (by decide) h0 h1
theorem sg_pos (b : Bool) : 0 < sg b := by cases b <;> decide
theorem sg_le (b : Bool) : sg b ≤ 9223372036854775808 := by cases b <;> decide
theorem fr_pos (b : Bool) : 0 < fr b := by cases b <;> decide
theorem inf_lt (b : Bool) : inf b < sg b := by cases b <;> decide
theorem ok_u64 {b : Bool} {x : Int} (h : Ok b x) : x < 18446744073709551616 := by
  have := h.2
  have := sg_le b
  omega
theorem sz_bd (b : Bool) (x : Int) : 0 ≤ sz b x ∧ sz b x < sg b := ⟨Int.emod_nonneg _ (by have := sg_pos b; omega), Int.emod_lt_of_pos _ (sg_pos b)⟩
theorem wSize (b : Bool) (x : Int) (h : Ok b x) (w : World) :
    Calls Tryd.prog 143 #[S b, .int .u64 x] w fun e w' => e = .returned (.int .u64 (sz b x)) ∧ Below w.heap.size w w' := by
  have hb := below_alloc w (SO b)
  have HS := Hide.mk (andNot_sg b h)
  go_enter Tryd.func143, Tryd.ntmps143
  go_wp2_with fail
  refine (wSignBit b _).mono ?_
  rintro e w' ⟨rfl, h2⟩
  have h3 := below_then hb h2
  clear h2 hb
  go_wp2
  go_ret
  exact ⟨by rw [← HS.out]; rfl, h3⟩
theorem wIsNeg (b : Bool) (x : Int) (h : Ok b x) (w : World) :
    Calls Tryd.prog 101 #[S b, .int .u64 x] w fun e w' => e = .returned (.bool (ng b x)) ∧ Below w.heap.size w w' := by
  have hb := below_alloc w (SO b)
  have hs : (bits .and .u64 x (sg b) != 0) = ng b x := by
    rw [and_sg b h]
    have := sg_pos b
    unfold ng
    by_cases c : sg b ≤ x
    · simp [c]; omega
    · simp [c]
  have HS := Hide.mk hs
  clear hs
  go_enter Tryd.func101, Tryd.ntmps101
  go_wp2_with fail
  refine (wSignBit b _).mono ?_
  rintro e w' ⟨rfl, h2⟩
  have h3 := below_then hb h2
  clear h2 hb
  go_wp2
  go_ret
  exact ⟨by rw [← HS.out]; rfl, h3⟩
theorem wIsNaN (b : Bool) (x : Int) (h : Ok b x) (w : World) :
    Calls Tryd.prog 140 #[S b, .int .u64 x] w fun e w' => e = .returned (.bool (decide (inf b < sz b x))) ∧ Below w.heap.size w w' := by
  have B1 := (Bx.nil w).push (SO b)
  go_enter Tryd.func140, Tryd.ntmps140
  go_wp2_with fail
  generalize hw1 : w.alloc (SO b) = w1 at *
  clear hw1
  have HI := B1.drew
  have sh := fun W (hW : Bx w [(w.heap.size, SO b)] W) => shape_cells hW w.heap.size b (.head _)
  refine Drawn.enter (Bx w [(w.heap.size, SO b)]) (by kernel_rfl) ?_
  refine Drawn.take (i := 0) (v := ?v0) rfl (by kernel_rfl) (by kernel_rfl) (by kernel_rfl) (fun _ _ _ h => h) (by kernel_rfl) (fun W hW => ?_) HI ?_
  rotate_left
  · have ⟨e0, e1, e2, e3⟩ := sh W hW
    go_simp <;> exact rfl
  refine Drawn.take (i := 1) (v := ?v1) rfl (by kernel_rfl) (by kernel_rfl) (by kernel_rfl) (fun _ _ _ h => h) (by kernel_rfl) (fun W hW => ?_) HI ?_
  rotate_left
  · have ⟨e0, e1, e2, e3⟩ := sh W hW
    go_simp <;> exact rfl
  refine Drawn.take (i := 3) (v := ?v2) rfl (by kernel_rfl) (by kernel_rfl) (by kernel_rfl) (fun _ _ _ h => h) (by kernel_rfl) (fun W hW => ?_) HI ?_
  rotate_left
  · have ⟨e0, e1, e2, e3⟩ := sh W hW
    go_simp <;> exact rfl
  refine Drawn.one (j := 2) (by kernel_rfl) rfl (fun K hK => ?_)
  go_simp
  refine (wSize b x h _).mono ?_
  rintro e wn ⟨rfl, hn⟩
  refine hK _ _ (HI.keep hn) ?_
  clear hK K
  replace HI := HI.keep hn
  clear hn
  refine Drawn.one (j := 4) (by kernel_rfl) rfl (fun K hK => ?_)
  go_simp
  refine (wInfinite b _).mono ?_
  rintro e wn ⟨rfl, hn⟩
  refine hK _ _ (HI.keep hn) ?_
  clear hK K
  replace HI := HI.keep hn
  clear hn
  refine Drawn.take (i := 5) (v := ?v3) rfl (by kernel_rfl) (by kernel_rfl) (by kernel_rfl) (fun _ _ _ h => h) (by kernel_rfl) (fun W hW => ?_) HI ?_
  rotate_left
  · have ⟨e0, e1, e2, e3⟩ := sh W hW
    go_simp <;> exact rfl
  refine Drawn.take (i := 6) (v := ?v4) rfl (by kernel_rfl) (by kernel_rfl) (by kernel_rfl) (fun _ _ _ h => h) (by kernel_rfl) (fun W hW => ?_) HI ?_
  rotate_left
  · have ⟨e0, e1, e2, e3⟩ := sh W hW
    go_simp <;> exact rfl
  refine Drawn.done (by kernel_rfl) ?_
  try go_simp
  go_wp2
  go_ret
  exact ⟨rfl, HI.bel⟩
theorem shr_fc (b : Bool) (y : Int) (W : World) : Sem.run Tryd.prog (Op.shift .shr .u64 y .i64 (fc b)) W = .ok (.int .u64 (y / fr b)) W := by
  cases b
  · rw [show fc false = 23 from rfl]
    go_simp
    rfl
  · rw [show fc true = 52 from rfl]
    go_simp
    rfl
theorem shl_fc (b : Bool) (y : Int) (W : World) : Sem.run Tryd.prog (Op.shift .shl .u64 y .i64 (fc b)) W = .ok (.int .u64 (y * fr b % 18446744073709551616)) W := by
  cases b
  · rw [show fc false = 23 from rfl]
    go_simp
    rw [IntKind.wrap_u64]
    rfl
  · rw [show fc true = 52 from rfl]
    go_simp
    rw [IntKind.wrap_u64]
    rfl
theorem shl_half (b : Bool) (W : World) : Sem.run Tryd.prog (Op.shift .shl .u64 1 .i64 (fc b - 1)) W = .ok (.int .u64 (fr b / 2)) W := by
  cases b
  · rw [show fc false - 1 = 22 from rfl]
    go_simp
    rfl
  · rw [show fc true - 1 = 51 from rfl]
    go_simp
    rfl
theorem or_nan (b : Bool) : bits .or .u64 (inf b) (fr b / 2) = nan b := by cases b <;> rfl
theorem fd_bd (b : Bool) (x : Int) : 0 ≤ fd b x ∧ fd b x ≤ 2047 := by
  have h := sz_bd b x
  unfold sz at h
  cases b <;> simp only [fd, sg, fr] at * <;> omega
theorem wField (b : Bool) (x : Int) (h : Ok b x) (w : World) :
    Calls Tryd.prog 139 #[S b, .int .u64 x] w fun e w' => e = .returned (.int .i64 (fd b x)) ∧ Below w.heap.size w w' := by
  have B1 := (Bx.nil w).push (SO b)
  go_enter Tryd.func139, Tryd.ntmps139
  go_wp2_with fail
  generalize hw1 : w.alloc (SO b) = w1 at *
  clear hw1
  have HI := B1.drew
  have sh := fun W (hW : Bx w [(w.heap.size, SO b)] W) => shape_cells hW w.heap.size b (.head _)
  refine Drawn.enter (Bx w [(w.heap.size, SO b)]) (by kernel_rfl) ?_
  refine Drawn.take (i := 0) (v := ?v5) rfl (by kernel_rfl) (by kernel_rfl) (by kernel_rfl) (fun _ _ _ h => h) (by kernel_rfl) (fun W hW => ?_) HI ?_
  rotate_left
  · have ⟨e0, e1, e2, e3⟩ := sh W hW
    go_simp <;> exact rfl
  refine Drawn.take (i := 1) (v := ?v6) rfl (by kernel_rfl) (by kernel_rfl) (by kernel_rfl) (fun _ _ _ h => h) (by kernel_rfl) (fun W hW => ?_) HI ?_
  rotate_left
  · have ⟨e0, e1, e2, e3⟩ := sh W hW
    go_simp <;> exact rfl
  refine Drawn.take (i := 3) (v := ?v7) rfl (by kernel_rfl) (by kernel_rfl) (by kernel_rfl) (fun _ _ _ h => h) (by kernel_rfl) (fun W hW => ?_) HI ?_
  rotate_left
  · have ⟨e0, e1, e2, e3⟩ := sh W hW
    go_simp <;> exact rfl
  refine Drawn.take (i := 4) (v := ?v8) rfl (by kernel_rfl) (by kernel_rfl) (by kernel_rfl) (fun _ _ _ h => h) (by kernel_rfl) (fun W hW => ?_) HI ?_
  rotate_left
  · have ⟨e0, e1, e2, e3⟩ := sh W hW
    go_simp <;> exact rfl
  refine Drawn.one (j := 2) (by kernel_rfl) rfl (fun K hK => ?_)
  go_simp
  refine (wSize b x h _).mono ?_
  rintro e wn ⟨rfl, hn⟩
  refine hK _ _ (HI.keep hn) ?_
  clear hK K
  replace HI := HI.keep hn
  clear hn
  refine Drawn.take (i := 5) (v := .int .u64 (fd b x)) rfl (by kernel_rfl) (by kernel_rfl) (by kernel_rfl) (fun _ _ _ h => h) (by kernel_rfl) (fun W hW => ?_) HI ?_
  · have ⟨e0, e1, e2, e3⟩ := sh W hW
    go_simp <;> (rw [shr_fc]; rfl)
  refine Drawn.take (i := 6) (v := .int .i64 (fd b x)) rfl (by kernel_rfl) (by kernel_rfl) (by kernel_rfl) (fun _ _ _ h => h) (by kernel_rfl) (fun W hW => ?_) HI ?_
  · have ⟨e0, e1, e2, e3⟩ := sh W hW
    go_simp <;> (have := fd_bd b x; exact wrap_ok (by omega) (by omega))
  refine Drawn.take (i := 7) (v := ?v9) rfl (by kernel_rfl) (by kernel_rfl) (by kernel_rfl) (fun _ _ _ h => h) (by kernel_rfl) (fun W hW => ?_) HI ?_
  rotate_left
  · have ⟨e0, e1, e2, e3⟩ := sh W hW
    go_simp <;> exact rfl
  refine Drawn.done (by kernel_rfl) ?_
  try go_simp
  go_wp2
  go_ret
  exact ⟨rfl, HI.bel⟩
theorem wNone (b : Bool) (w : World) :
    Calls Tryd.prog 141 #[S b] w fun e w' => e = .returned (.int .u64 (nan b)) ∧ Below w.heap.size w w' := by
  have B1 := (Bx.nil w).push (SO b)
  go_enter Tryd.func141, Tryd.ntmps141
  go_wp2_with fail
  generalize hw1 : w.alloc (SO b) = w1 at *
  clear hw1
  have HI := B1.drew
  have sh := fun W (hW : Bx w [(w.heap.size, SO b)] W) => shape_cells hW w.heap.size b (.head _)
  refine Drawn.enter (Bx w [(w.heap.size, SO b)]) (by kernel_rfl) ?_
  refine Drawn.take (i := 0) (v := ?v10) rfl (by kernel_rfl) (by kernel_rfl) (by kernel_rfl) (fun _ _ _ h => h) (by kernel_rfl) (fun W hW => ?_) HI ?_
  rotate_left
  · have ⟨e0, e1, e2, e3⟩ := sh W hW
    go_simp <;> exact rfl
  refine Drawn.take (i := 2) (v := ?v11) rfl (by kernel_rfl) (by kernel_rfl) (by kernel_rfl) (fun _ _ _ h => h) (by kernel_rfl) (fun W hW => ?_) HI ?_
  rotate_left
  · have ⟨e0, e1, e2, e3⟩ := sh W hW
    go_simp <;> exact rfl
  refine Drawn.take (i := 3) (v := ?v12) rfl (by kernel_rfl) (by kernel_rfl) (by kernel_rfl) (fun _ _ _ h => h) (by kernel_rfl) (fun W hW => ?_) HI ?_
  rotate_left
  · have ⟨e0, e1, e2, e3⟩ := sh W hW
    go_simp <;> exact rfl
  refine Drawn.take (i := 4) (v := .int .i64 (fc b - 1)) rfl (by kernel_rfl) (by kernel_rfl) (by kernel_rfl) (fun _ _ _ h => h) (by kernel_rfl) (fun W hW => ?_) HI ?_
  · have ⟨e0, e1, e2, e3⟩ := sh W hW
    go_simp <;> (cases b <;> rfl)
  refine Drawn.take (i := 5) (v := .int .u64 (fr b / 2)) rfl (by kernel_rfl) (by kernel_rfl) (by kernel_rfl) (fun _ _ _ h => h) (by kernel_rfl) (fun W hW => ?_) HI ?_
  · have ⟨e0, e1, e2, e3⟩ := sh W hW
    go_simp <;> (rw [shl_half]; rfl)
  refine Drawn.one (j := 1) (by kernel_rfl) rfl (fun K hK => ?_)
  go_simp
  refine (wInfinite b _).mono ?_
  rintro e wn ⟨rfl, hn⟩
  refine hK _ _ (HI.keep hn) ?_
  clear hK K
  replace HI := HI.keep hn
  clear hn
  refine Drawn.take (i := 6) (v := .int .u64 (nan b)) rfl (by kernel_rfl) (by kernel_rfl) (by kernel_rfl) (fun _ _ _ h => h) (by kernel_rfl) (fun W hW => ?_) HI ?_
  · have ⟨e0, e1, e2, e3⟩ := sh W hW
    go_simp <;> (exact or_nan b)
  refine Drawn.take (i := 7) (v := ?v13) rfl (by kernel_rfl) (by kernel_rfl) (by kernel_rfl) (fun _ _ _ h => h) (by kernel_rfl) (fun W hW => ?_) HI ?_
  rotate_left
  · have ⟨e0, e1, e2, e3⟩ := sh W hW
    go_simp <;> exact rfl
  refine Drawn.done (by kernel_rfl) ?_
  try go_simp
  go_wp2
  go_ret
  exact ⟨rfl, HI.bel⟩
theorem or_sg (b : Bool) {s : Int} (h0 : 0 ≤ s) (h1 : s < sg b) : bits .or .u64 s (sg b) = s + sg b := by
  have e : sg b + s < 18446744073709551616 := by have := sg_le b; omega
  rw [Int.add_comm]
  cases b
  · exact join' 31 pow31 (by decide) (by decide) h0 h1 e
  · exact join' 63 pow63 (by decide) (by decide) h0 h1 e
theorem wSigned (b : Bool) (s : Int) (n : Bool) (h0 : 0 ≤ s) (h1 : s < sg b) (w : World) :
    Calls Tryd.prog 145 #[S b, .int .u64 s, .bool n] w fun e w' => e = .returned (.int .u64 (sd b s n)) ∧ Below w.heap.size w w' := by
  have hb := below_alloc w (SO b)
  have HS := Hide.mk (or_sg b h0 h1)
  cases n
  · go_enter Tryd.func145, Tryd.ntmps145
    go_wp2
    go_ret
    exact ⟨rfl, hb⟩
  · go_enter Tryd.func145, Tryd.ntmps145
    go_wp2_with fail
    refine (wSignBit b _).mono ?_
    rintro e w' ⟨rfl, h2⟩
    have h3 := below_then hb h2
    clear h2 hb
    go_wp2
    go_ret
    exact ⟨by unfold sd; rw [if_pos rfl, ← HS.out]; rfl, h3⟩
theorem Tryd.sizeShape : (Tryd.prog.info? 97).map (·.size) = some 4 := by kernel_rfl
theorem results_S2 {fn : Func} {p u : Tmp} (h : fn.results = #[.cell p 97, .tmp u]) (tmps : Array Value) (w : World) (g : Nat) (cs : Array Value) (hp : tmps.getD p undef = .pointer (some ⟨g, 0, none⟩)) (hg : w.heap[g]? = some (.cells cs 97 (0, 0))) (hs : cs.size = 4) :
    (results fn tmps).run Tryd.prog w = .ok (.tuple #[.agg cs, tmps.getD u undef]) w := by
  rw [results_cell_tmp h, hp]
  simp [asAddr, run_loadVar_row w g 97 97 cs (0, 0) _ hg Tryd.underlying97 rfl (by rw [Tryd.sizeShape, hs])]
theorem wShapeOf (b : Bool) (w : World) :
    Calls Tryd.prog 144 #[.int .u8 (fm b)] w fun e w' => e = .returned (.tuple #[S b, .int .i64 0]) ∧ Below w.heap.size w w' := by
  cases b
  · rw [show fm false = 1 from rfl, S32]
    go_enter Tryd.func144, Tryd.ntmps144
    go_wp2
    have B1 := (Bx.nil w).push (.cells #[.int .i64 32, .int .i64 23, .int .i64 255, .int .i64 (-149)] 97 (0, 0))
    refine bodyPost_ret (results_S2 rfl _ _ w.heap.size _ rfl B1.head rfl) rfl ?_
    exact ⟨rfl, B1.bel⟩
  · rw [show fm true = 2 from rfl, S64]
    go_enter Tryd.func144, Tryd.ntmps144
    go_wp2
    have B1 := (Bx.nil w).push (.cells #[.int .i64 64, .int .i64 52, .int .i64 2047, .int .i64 (-1074)] 97 (0, 0))
    refine bodyPost_ret (results_S2 rfl _ _ w.heap.size _ rfl B1.head rfl) rfl ?_
    exact ⟨rfl, B1.bel⟩
/-- No format. -/
def Bad (f : Int) : Prop := f ≠ 1 ∧ f ≠ 2
theorem wShapeOf_bad (f : Int) (h : Bad f) (w : World) :
    Calls Tryd.prog 144 #[.int .u8 f] w fun e w' => e = .returned (.tuple #[noS, .int .i64 4]) ∧ Below w.heap.size w w' := by
  have h1 : (f == 1) = false := beq_eq_false_iff_ne.2 h.1
  have h2 : (f == 2) = false := beq_eq_false_iff_ne.2 h.2
  go_enter Tryd.func144, Tryd.ntmps144
  go_wp2
  have B1 := (Bx.nil w).push (.cells #[.int .i64 0, .int .i64 0, .int .i64 0, .int .i64 0] 97 (0, 0))
  refine bodyPost_ret (results_S2 rfl _ _ w.heap.size _ rfl B1.head rfl) rfl ?_
  exact ⟨rfl, B1.bel⟩
end Go.Proofs.YtiamdmfhkhlppaaDoor
