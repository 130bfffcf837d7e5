import Derived.Test.YtdnghibkagcbcaaGreatDoorRoundSquaresPart11
namespace Go.Box
open Go Go.RowKit
variable {w w' W W' : World} {L : List (Nat × Obj)}
theorem Bx.fill5 {g : Nat} {z0 z1 z2 z3 z4 : Value} {t : TypeId} (h : Bx w ((g, Obj.cells #[z0, z1, z2, z3, z4] t (0, 0)) :: L) W) (hg : w.heap.size ≤ g) (hne : ∀ p ∈ L, p.1 ≠ g) (a b c d e : Value) :
    Bx w ((g, Obj.cells #[a, b, c, d, e] t (0, 0)) :: L) (((((W.setCell ⟨g, 0, none⟩ a).setCell ⟨g, 1, none⟩ b).setCell ⟨g, 2, none⟩ c).setCell ⟨g, 3, none⟩ d).setCell ⟨g, 4, none⟩ e) := by
  have := ((((h.set hg hne 0 a).set hg hne 1 b).set hg hne 2 c).set hg hne 3 d).set hg hne 4 e
  simpa using this
end Go.Box
namespace Go.Proofs.YtdnghibkagcbcaaGreatDoor
open Go.RowKit Go.Wd Go.Box
set_option linter.unusedVariables false
set_option maxRecDepth 3000
theorem Tryz.sizeWay : (Tryz.prog.info? 66).map (·.size) = some 5 := by kernel_rfl
theorem results_W2 {fn : Func} {p u : Tmp} (h : fn.results = #[.cell p 66, .tmp u]) (tmps : Array Value) (w : World) (g : Nat) (cs : Array Value) (hp : tmps.getD p undef = .pointer (some ⟨g, 0, none⟩)) (hg : w.heap[g]? = some (.cells cs 66 (0, 0))) (hs : cs.size = 5) :
    (results fn tmps).run Tryz.prog w = .ok (.tuple #[.agg cs, tmps.getD u undef]) w := by
  rw [results_cell_tmp h, hp]
  simp [asAddr, run_loadVar_row w g 66 66 cs (0, 0) _ hg Tryz.underlying66 rfl (by rw [Tryz.sizeWay, hs])]
theorem Tryz.sizeSeen : (Tryz.prog.info? 72).map (·.size) = some 4 := by kernel_rfl
theorem results_N1 {fn : Func} {p : Tmp} (h : fn.results = #[.cell p 72]) (tmps : Array Value) (w : World) (g : Nat) (cs : Array Value) (hp : tmps.getD p undef = .pointer (some ⟨g, 0, none⟩)) (hg : w.heap[g]? = some (.cells cs 72 (0, 0))) (hs : cs.size = 4) :
    (results fn tmps).run Tryz.prog w = .ok (.agg cs) w :=
  results_cell_row h tmps w g 72 cs (0, 0) _ hp hg Tryz.underlying72 rfl (by rw [Tryz.sizeSeen, hs])
abbrev noW : Value := .agg #[.int .u8 0, .int .i64 0, .int .i64 0, .int .i64 0, .int .u8 0]
abbrev ZW : Obj := .cells #[.int .u8 0, .int .i64 0, .int .i64 0, .int .i64 0, .int .u8 0] 66 (0, 0)
theorem wWayOf (b : Bool) (m : Int) (hm : Mode m) (w : World) :
    Calls Tryz.prog 48 #[.int .u8 (fm b), .int .u8 m] w fun e w' => e = .returned (.tuple #[wyV b m, .int .i64 0]) ∧ Below w.heap.size w w' := by
  have B1 := ((Bx.nil w).push (wyO b m)).push (wyO b m)
  cases b
  · rw [show fm false = 1 from rfl]
    rcases hm with rfl | rfl | rfl | rfl | rfl <;>
      (go_enter Tryz.func48, Tryz.ntmps48; go_wp2; refine bodyPost_ret (results_W2 rfl _ _ w.heap.size _ rfl B1.tail.head rfl) rfl ?_; exact ⟨rfl, B1.bel⟩)
  · rw [show fm true = 2 from rfl]
    rcases hm with rfl | rfl | rfl | rfl | rfl <;>
      (go_enter Tryz.func48, Tryz.ntmps48; go_wp2; refine bodyPost_ret (results_W2 rfl _ _ w.heap.size _ rfl B1.tail.head rfl) rfl ?_; exact ⟨rfl, B1.bel⟩)
/-- The way that is told of a format and a mode, and the error. -/
def WayIs (f m : Int) (v : Value) (code : Int) : Prop := (∃ b, f = fm b ∧ Mode m ∧ v = wyV b m ∧ code = 0) ∨ (Bad f ∧ v = noW ∧ code = 4) ∨ (∃ b, f = fm b ∧ ¬ Mode m ∧ v = noW ∧ code = 5)
theorem fm_or_bad (f : Int) : (∃ b, f = fm b) ∨ Bad f := by
  by_cases h1 : f = 1
  · exact .inl ⟨false, h1⟩
  · by_cases h2 : f = 2
    · exact .inl ⟨true, h2⟩
    · exact .inr ⟨h1, h2⟩
/-- What lies at g stays. -/
structure At3 (w : World) (g o : Nat) (n : Bool) (a : Option Addr) (k c : Nat) (e : Int) : Prop where
  c0 : w.cell? ⟨g, o, none⟩ = some (.bool n)
  c1 : w.cell? ⟨g, o + 1, none⟩ = some (.slice a k c)
  c2 : w.cell? ⟨g, o + 2, none⟩ = some (.int .i64 e)
theorem At3.below {w W : World} {g o : Nat} {n : Bool} {a : Option Addr} {k c : Nat} {e : Int} (h : At3 w g o n a k c e) (hb : Below w.heap.size w W) : At3 W g o n a k c e :=
  ⟨below_cell hb h.c0, below_cell hb h.c1, below_cell hb h.c2⟩
theorem zway_cells {w W : World} {L : List (Nat × Obj)} (h : Bx w L W) (g : Nat) (hm : (g, ZW) ∈ L) :
    W.cell? ⟨g, 0, none⟩ = some (.int .u8 0) ∧ W.cell? ⟨g, 1, none⟩ = some (.int .i64 0) ∧ W.cell? ⟨g, 2, none⟩ = some (.int .i64 0) ∧ W.cell? ⟨g, 3, none⟩ = some (.int .i64 0) ∧ W.cell? ⟨g, 4, none⟩ = some (.int .u8 0) ∧ W.frozen? ⟨g, 0, none⟩ = false ∧ W.frozen? ⟨g, 1, none⟩ = false ∧ W.frozen? ⟨g, 2, none⟩ = false ∧ W.frozen? ⟨g, 3, none⟩ = false ∧ W.frozen? ⟨g, 4, none⟩ = false :=
  ⟨h.cell g _ _ hm 0, h.cell g _ _ hm 1, h.cell g _ _ hm 2, h.cell g _ _ hm 3, h.cell g _ _ hm 4, h.frozen g _ _ hm 0, h.frozen g _ _ hm 1, h.frozen g _ _ hm 2, h.frozen g _ _ hm 3, h.frozen g _ _ hm 4⟩
set_option maxHeartbeats 1000000 in
theorem wWayFor1 (b : Bool) (m : Int) (hm : Mode m) (g : Nat) (n1 : Bool) (a1 : Option Addr) (c1 : Nat) (z1 : List Int) (e1 : Int) (w : World) (h1 : DLie w a1 z1) (q : Bool) (hq : dmayB n1 z1 e1 = q) (hg : At3 w g 0 n1 a1 z1.length c1 e1) :
    Calls Tryz.prog 43 #[.int .u8 (fm b), .int .u8 m, .slice (some ⟨g, 0, none⟩) 1 1] w fun e w' => e = .returned (.tuple #[if q then wyV b m else noW, .int .i64 (if q then 0 else 2)]) ∧ Below w.heap.size w w' := by
  have M1 := fun W hb => Hide.mk (h1.may n1 c1 e1 q hq W hb)
  have G1 := Hide.mk hg
  clear h1 hq hg
  cases q
  · have B1 := (Bx.nil w).push ZW
    go_enter Tryz.func43, Tryz.ntmps43
    go_wp2_with fail
    refine (wWayOf b m hm _).mono ?_
    rintro e w2 ⟨rfl, h2⟩
    have B2 := (B1.keep h2).push (wyO b m)
    clear h2 B1
    obtain ⟨k0, k1, k2⟩ := G1.out.below B2.bel
    go_wp2
    refine wp_loop_rounds 3 ?_
    rw [rounds_succ]
    go_wp2_with fail
    have B3 := B2.push (DO n1 a1 z1.length c1 e1)
    refine (M1 _ B3.bel).out.mono ?_
    rintro e w3 ⟨rfl, h1⟩
    have B4 := B3.keep h1
    clear h1 k0 k1 k2 B3 B2
    obtain ⟨k0, k1, k2, k3, k4, r0, r1, r2, r3, r4⟩ := zway_cells B4 w.heap.size (by simp)
    go_wp2
    have B5 := (B4.sub (L' := [(w.heap.size, ZW)]) (by simp)).fill5 (Nat.le_refl _) (by simp) (.int .u8 0) (.int .i64 0) (.int .i64 0) (.int .i64 0) (.int .u8 0)
    refine bodyPost_ret (results_W2 rfl _ _ w.heap.size _ rfl B5.head rfl) rfl ?_
    exact ⟨rfl, B5.bel⟩
  · have B1 := (Bx.nil w).push ZW
    go_enter Tryz.func43, Tryz.ntmps43
    go_wp2_with fail
    refine (wWayOf b m hm _).mono ?_
    rintro e w2 ⟨rfl, h2⟩
    have B2 := (B1.keep h2).push (wyO b m)
    clear h2 B1
    obtain ⟨k0, k1, k2⟩ := G1.out.below B2.bel
    go_wp2
    refine wp_loop_rounds 3 ?_
    rw [rounds_succ]
    go_wp2_with fail
    have B3 := B2.push (DO n1 a1 z1.length c1 e1)
    refine (M1 _ B3.bel).out.mono ?_
    rintro e w3 ⟨rfl, h1⟩
    have B4 := B3.keep h1
    clear h1 k0 k1 k2 B3 B2
    obtain ⟨f0, f1, f2, f3, f4⟩ := way_cells B4 w2.heap.size b m (by simp)
    obtain ⟨k0, k1, k2, k3, k4, r0, r1, r2, r3, r4⟩ := zway_cells B4 w.heap.size (by simp)
    go_wp2_with fail
    rw [rounds_succ]
    go_wp2
    have B5 := (B4.sub (L' := [(w.heap.size, ZW)]) (by simp)).fill5 (Nat.le_refl _) (by simp) (.int .u8 (fm b)) (.int .i64 (pr b : Nat)) (.int .i64 (lo b)) (.int .i64 (hi b)) (.int .u8 m)
    refine bodyPost_ret (results_W2 rfl _ _ w.heap.size _ rfl B5.head rfl) rfl ?_
    exact ⟨rfl, B5.bel⟩
end Go.Proofs.YtdnghibkagcbcaaGreatDoor

namespace Go.Proofs.YtdnghibkagcbcaaGreatDoor
open Go.RowKit Go.Wd Go.Box
set_option linter.unusedVariables false
set_option maxRecDepth 3000
set_option maxHeartbeats 2000000 in
theorem wWayFor2 (b : Bool) (m : Int) (hm : Mode m) (g : Nat) (n1 : Bool) (a1 : Option Addr) (c1 : Nat) (z1 : List Int) (e1 : Int) (n2 : Bool) (a2 : Option Addr) (c2 : Nat) (z2 : List Int) (e2 : Int) (w : World) (h1 : DLie w a1 z1) (h2 : DLie w a2 z2) (q1 q2 : Bool) (hq1 : dmayB n1 z1 e1 = q1) (hq2 : dmayB n2 z2 e2 = q2) (hg1 : At3 w g 0 n1 a1 z1.length c1 e1) (hg2 : At3 w g 3 n2 a2 z2.length c2 e2) :
    Calls Tryz.prog 43 #[.int .u8 (fm b), .int .u8 m, .slice (some ⟨g, 0, none⟩) 2 2] w fun e w' => e = .returned (.tuple #[if q1 && q2 then wyV b m else noW, .int .i64 (if q1 && q2 then 0 else 2)]) ∧ Below w.heap.size w w' := by
  have M1 := fun W hb => Hide.mk (h1.may n1 c1 e1 q1 hq1 W hb)
  have M2 := fun W hb => Hide.mk (h2.may n2 c2 e2 q2 hq2 W hb)
  have G1 := Hide.mk hg1
  have G2 := Hide.mk hg2
  clear h1 hq1 hg1 h2 hq2 hg2
  cases q1
  · have B1 := (Bx.nil w).push ZW
    go_enter Tryz.func43, Tryz.ntmps43
    go_wp2_with fail
    refine (wWayOf b m hm _).mono ?_
    rintro e w2 ⟨rfl, h2⟩
    have B2 := (B1.keep h2).push (wyO b m)
    clear h2 B1
    obtain ⟨k0, k1, k2⟩ := G1.out.below B2.bel
    go_wp2
    refine wp_loop_rounds 4 ?_
    rw [rounds_succ]
    go_wp2_with fail
    have B3 := B2.push (DO n1 a1 z1.length c1 e1)
    refine (M1 _ B3.bel).out.mono ?_
    rintro e w3 ⟨rfl, h1⟩
    have B4 := B3.keep h1
    clear h1 k0 k1 k2 B3 B2
    obtain ⟨k0, k1, k2, k3, k4, r0, r1, r2, r3, r4⟩ := zway_cells B4 w.heap.size (by simp)
    go_wp2
    have B9 := (B4.sub (L' := [(w.heap.size, ZW)]) (by simp)).fill5 (Nat.le_refl _) (by simp) (.int .u8 0) (.int .i64 0) (.int .i64 0) (.int .i64 0) (.int .u8 0)
    refine bodyPost_ret (results_W2 rfl _ _ w.heap.size _ rfl B9.head rfl) rfl ?_
    exact ⟨rfl, B9.bel⟩
  · cases q2
    · have B1 := (Bx.nil w).push ZW
      go_enter Tryz.func43, Tryz.ntmps43
      go_wp2_with fail
      refine (wWayOf b m hm _).mono ?_
      rintro e w2 ⟨rfl, h2⟩
      have B2 := (B1.keep h2).push (wyO b m)
      clear h2 B1
      obtain ⟨k0, k1, k2⟩ := G1.out.below B2.bel
      go_wp2
      refine wp_loop_rounds 4 ?_
      rw [rounds_succ]
      go_wp2_with fail
      have B3 := B2.push (DO n1 a1 z1.length c1 e1)
      refine (M1 _ B3.bel).out.mono ?_
      rintro e w3 ⟨rfl, h1⟩
      have B4 := B3.keep h1
      clear h1 k0 k1 k2 B3 B2
      obtain ⟨k0, k1, k2⟩ := G2.out.below B4.bel
      go_wp2_with fail
      rw [rounds_succ]
      go_wp2_with fail
      have B5 := B4.push (DO n2 a2 z2.length c2 e2)
      refine (M2 _ B5.bel).out.mono ?_
      rintro e w4 ⟨rfl, h2⟩
      have B6 := B5.keep h2
      clear h2 k0 k1 k2 B5 B4
      obtain ⟨k0, k1, k2, k3, k4, r0, r1, r2, r3, r4⟩ := zway_cells B6 w.heap.size (by simp)
      go_wp2
      have B9 := (B6.sub (L' := [(w.heap.size, ZW)]) (by simp)).fill5 (Nat.le_refl _) (by simp) (.int .u8 0) (.int .i64 0) (.int .i64 0) (.int .i64 0) (.int .u8 0)
      refine bodyPost_ret (results_W2 rfl _ _ w.heap.size _ rfl B9.head rfl) rfl ?_
      exact ⟨rfl, B9.bel⟩
    · have B1 := (Bx.nil w).push ZW
      go_enter Tryz.func43, Tryz.ntmps43
      go_wp2_with fail
      refine (wWayOf b m hm _).mono ?_
      rintro e w2 ⟨rfl, h2⟩
      have B2 := (B1.keep h2).push (wyO b m)
      clear h2 B1
      obtain ⟨k0, k1, k2⟩ := G1.out.below B2.bel
      go_wp2
      refine wp_loop_rounds 4 ?_
      rw [rounds_succ]
      go_wp2_with fail
      have B3 := B2.push (DO n1 a1 z1.length c1 e1)
      refine (M1 _ B3.bel).out.mono ?_
      rintro e w3 ⟨rfl, h1⟩
      have B4 := B3.keep h1
      clear h1 k0 k1 k2 B3 B2
      obtain ⟨k0, k1, k2⟩ := G2.out.below B4.bel
      go_wp2_with fail
      rw [rounds_succ]
      go_wp2_with fail
      have B5 := B4.push (DO n2 a2 z2.length c2 e2)
      refine (M2 _ B5.bel).out.mono ?_
      rintro e w4 ⟨rfl, h2⟩
      have B6 := B5.keep h2
      clear h2 k0 k1 k2 B5 B4
      obtain ⟨f0, f1, f2, f3, f4⟩ := way_cells B6 w2.heap.size b m (by simp)
      obtain ⟨k0, k1, k2, k3, k4, r0, r1, r2, r3, r4⟩ := zway_cells B6 w.heap.size (by simp)
      go_wp2_with fail
      rw [rounds_succ]
      go_wp2
      have B9 := (B6.sub (L' := [(w.heap.size, ZW)]) (by simp)).fill5 (Nat.le_refl _) (by simp) (.int .u8 (fm b)) (.int .i64 (pr b : Nat)) (.int .i64 (lo b)) (.int .i64 (hi b)) (.int .u8 m)
      refine bodyPost_ret (results_W2 rfl _ _ w.heap.size _ rfl B9.head rfl) rfl ?_
      exact ⟨rfl, B9.bel⟩
end Go.Proofs.YtdnghibkagcbcaaGreatDoor

namespace Go.Proofs.YtdnghibkagcbcaaGreatDoor
open Go.RowKit Go.Wd Go.Box
set_option linter.unusedVariables false
set_option maxRecDepth 3000
theorem lz64B (x : Int) (w : World) (h0 : 0 ≤ x) (h1 : x < 18446744073709551616) (B : Nat) (hB : BitLen x B) (hB2 : B ≤ 64) :
    Calls Tryz.prog 117 #[.int .u64 x] w fun e w' => e = .returned (.int .i64 ((64 - B : Nat) : Int)) ∧ Below w.heap.size w w' := by
  refine (lz64 x w h0 h1 hB hB2).mono ?_
  rintro e w' ⟨rfl, rfl⟩
  exact ⟨by rw [Int.natCast_sub hB2]; rfl, Below.refl _ _⟩
set_option maxHeartbeats 1000000 in
theorem wSeenCut (n more : Bool) (a : Option Addr) (c : Nat) (zs : List Int) (ex xp : Int) (w : World) (hl : Lie w a zs) (g : DG n zs ex) (hz : 0 < zs.length) {B : Nat} (hB : BitLen (Nt.val zs) B) (hB2 : B ≤ 64) (hx1 : -60000000 ≤ xp) (hx2 : xp ≤ 60000000) :
    Calls Tryz.prog 82 #[dV n a zs.length c ex, .bool more, .int .i64 xp] w fun e w' => e = .returned (snV n (B + ex + xp) (Nt.val zs * 2 ^ (64 - B)) more) ∧ Below w.heap.size w w' := by
  have hx := g.ex_bd
  have hp := g.pos hz
  have m2 : Nt.val zs < 18446744073709551616 := by
    rcases hB with ⟨h, _⟩ | ⟨_, h⟩
    · omega
    · exact Int.lt_of_lt_of_le h.lt (p2le hB2)
  have H2 := Hide.mk (two_digits g.good m2)
  have B1 := ((Bx.nil w).push (DO n a zs.length c ex)).push (snO false 0 0 false)
  rw [show (w.alloc (DO n a zs.length c ex)).heap.size = w.heap.size + 1 by simp] at B1
  have HN := Hide.mk (num_yes a c zs _ g.good.may (hl.below B1.bel (Nat.le_refl _)) g.good.can.1 H2.out)
  obtain ⟨⟨f0, f1, f2⟩, _⟩ := cells3 B1 w.heap.size _ _ _ _ (.tail _ (.head _))
  have hv : Nt.val zs * 2 ^ (64 - B) % 18446744073709551616 = Nt.val zs * 2 ^ (64 - B) := by
    have h := (hB.up hp (64 - B))
    rw [show B + (64 - B) = 64 by omega] at h
    rcases h with ⟨h, _⟩ | ⟨_, h⟩
    · rw [h]; rfl
    · exact Int.emod_eq_of_lt (Int.le_of_lt (Int.mul_pos hp (p2pos _))) h.lt
  have HT := fun W (hW : Below w.heap.size w W) => Hide.mk (dTop n a c zs ex W (hl.below hW (Nat.le_refl _)) g)
  have HZ := fun W => Hide.mk (lz64B (Nt.val zs) W (by omega) m2 B hB hB2)
  have HV := Hide.mk hv
  have HB := Hide.mk hB
  clear hv hB g hl
  go_enter Tryz.func82, Tryz.ntmps82
  go_wp2_with fail
  refine HN.out.mono ?_
  rintro e w2 ⟨rfl, rfl⟩
  clear HN
  go_wp2_with fail
  generalize hX : Nt.val zs = X at *
  have HX := Hide.mk hX
  clear hX
  have HF := B1.drew
  have HI := HF.sub (L' := [(w.heap.size, DO n a zs.length c ex)]) (by simp)
  have sh := fun W (hW : Bx w [(w.heap.size, DO n a zs.length c ex)] W) => (cells3 hW w.heap.size _ _ _ _ (.head _)).1
  refine Drawn.enter (Bx w [(w.heap.size, DO n a zs.length c ex)]) (by kernel_rfl) ?_
  refine Drawn.tk (i := 0) (v := ?v326) rfl (fun W hW => ?_) HI ?_
  rotate_left
  · have ⟨f0, f1, f2⟩ := sh W hW
    go_simp <;> exact rfl
  refine Drawn.tk (i := 1) (v := ?v327) rfl (fun W hW => ?_) HI ?_
  rotate_left
  · have ⟨f0, f1, f2⟩ := sh W hW
    go_simp <;> exact rfl
  refine Drawn.tk (i := 2) (v := ?v328) rfl (fun W hW => ?_) HI ?_
  rotate_left
  · have ⟨f0, f1, f2⟩ := sh W hW
    go_simp <;> exact rfl
  refine Drawn.tk (i := 4) (v := ?v329) rfl (fun W hW => ?_) HI ?_
  rotate_left
  · have ⟨f0, f1, f2⟩ := sh W hW
    go_simp <;> exact rfl
  refine Drawn.tk (i := 6) (v := ?v330) rfl (fun W hW => ?_) HI ?_
  rotate_left
  · have ⟨f0, f1, f2⟩ := sh W hW
    go_simp <;> exact rfl
  refine Drawn.tk (i := 7) (v := ?v331) rfl (fun W hW => ?_) HI ?_
  rotate_left
  · have ⟨f0, f1, f2⟩ := sh W hW
    go_simp <;> exact rfl
  refine Drawn.tk (i := 10) (v := ?v332) rfl (fun W hW => ?_) HI ?_
  rotate_left
  · have ⟨f0, f1, f2⟩ := sh W hW
    go_simp <;> exact rfl
  refine Drawn.one (j := 3) (by kernel_rfl) rfl (fun K hK => ?_)
  go_simp
  refine (HT _ HI.bel).out.mono ?_
  rintro e wn ⟨C, rfl, hC, _, hn⟩
  obtain rfl := hC.unique HB.out
  refine hK _ _ (HI.keep hn) ?_
  clear hK K hC
  replace HI := HI.keep hn
  replace HF := HF.keep hn
  clear hn
  refine Drawn.tk (i := 5) (v := .int .i64 ((C : Int) + ex + xp)) rfl (fun W hW => ?_) HI ?_
  · have ⟨f0, f1, f2⟩ := sh W hW
    go_simp <;> (exact wrap_ok (by omega) (by omega))
  refine Drawn.one (j := 8) (by kernel_rfl) rfl (fun K hK => ?_)
  go_simp
  refine ((HZ _).out).mono ?_
  rintro e wn ⟨rfl, hn⟩
  refine hK _ _ (HI.keep hn) ?_
  clear hK K
  replace HI := HI.keep hn
  replace HF := HF.keep hn
  clear hn
  refine Drawn.tk (i := 9) (v := .int .u64 (X * 2 ^ (64 - C))) rfl (fun W hW => ?_) HI ?_
  · have ⟨f0, f1, f2⟩ := sh W hW
    go_simp <;> (rw [IntKind.wrap_u64]; exact HV.out)
  refine Drawn.tk (i := 11) (v := ?v333) rfl (fun W hW => ?_) HI ?_
  rotate_left
  · have ⟨f0, f1, f2⟩ := sh W hW
    go_simp <;> exact rfl
  obtain ⟨⟨f0, f1, f2, f3⟩, r0, r1, r2, r3⟩ := cells4 HF (w.heap.size + 1) _ _ _ _ _ (.head _)
  have HF2 := HF.fill4 (by omega) (by simp) (.bool n) (.int .i64 ((C : Int) + ex + xp)) (.int .u64 (X * 2 ^ (64 - C))) (.bool more)
  refine Drawn.one (j := 12) (by kernel_rfl) rfl (fun K hK => ?_)
  go_simp
  replace HI := HF2.sub (L' := [(w.heap.size, DO n a zs.length c ex)]) (by simp)
  refine hK _ _ HI ?_
  clear hK K f0 f1 f2 f3 r0 r1 r2 r3
  refine Drawn.done (by kernel_rfl) ?_
  try go_simp
  go_wp2
  refine bodyPost_ret (results_N1 rfl _ _ (w.heap.size + 1) _ rfl HF2.head rfl) rfl ?_
  exact ⟨by rw [HX.out], HF2.bel⟩
end Go.Proofs.YtdnghibkagcbcaaGreatDoor

namespace Go.Proofs.YtdnghibkagcbcaaGreatDoor
open Go.RowKit Go.Wd Go.Box
set_option linter.unusedVariables false
set_option maxRecDepth 3000
theorem fm_seen {s E : Int} {n : Bool} {z : List Int} {x : Int} (F : Fm s E n z x) (h0 : s ≠ 0) {C : Nat} (hC : BitLen (s.natAbs : Int) C) (hC2 : C ≤ 64) (hE1 : -16777216 ≤ E) (hE2 : E + 64 ≤ 16777216) (hl : z.length ≤ 4096) :
    ∃ B : Nat, DG n z x ∧ 0 < z.length ∧ n = decide (s < 0) ∧ BitLen (Nt.val z) B ∧ B ≤ 64 ∧ (B : Int) + x = C + E ∧ Nt.val z * 2 ^ (64 - B) = (s.natAbs : Int) * 2 ^ (64 - C) := by
  rcases F with ⟨rfl, _⟩ | ⟨_, t, ht, hn, rfl, hc, hv⟩
  · exact absurd rfl h0
  · have hs : 0 < (s.natAbs : Int) := by omega
    have ht2 := low_bits3 hC ht hs
    have hd := hC.down t
    rw [← hv] at hd
    have ho := odd_of_low ht
    rw [← hv] at ho
    have hz : 0 < z.length := by
      cases z with
      | nil => rw [Nt.val_nil] at ho; omega
      | cons d q => simp
    refine ⟨C - t, ⟨hc, hl, .inr ⟨hz, by rw [hv]; exact ht.one, by omega, by omega⟩⟩, hz, hn, hd, by omega, by omega, ?_⟩
    rw [show 64 - (C - t) = t + (64 - C) by omega, Int.pow_add, ← Int.mul_assoc, ← ho]
theorem wWhole (n : Bool) (a : Option Addr) (k c : Nat) (ex : Int) (w : World) :
    Calls Tryz.prog 81 #[dV n a k c ex] w fun e w' => e = .returned (dV n a k c 0) ∧ Below w.heap.size w w' := by
  have B1 := ((Bx.nil w).push (DO n a k c ex)).push (DO n a k c 0)
  go_enter Tryz.func81, Tryz.ntmps81
  go_wp2
  refine bodyPost_ret (results_D1 rfl _ _ (w.heap.size + 1) _ rfl ⟨by simpa using B1.head, rfl⟩) rfl ?_
  exact ⟨rfl, B1.bel⟩
theorem natAbs_sv (n : Bool) {X : Int} (h : 0 ≤ X) : ((sv n X).natAbs : Int) = X := sv_abs n h
set_option maxHeartbeats 1000000 in
theorem wSeenNumber (n : Bool) (a : Option Addr) (c : Nat) (zs : List Int) (ex : Int) (w : World) (hl : Lie w a zs) (g : DG n zs ex) (hz : 0 < zs.length) (hT : Tab w) {B : Nat} (hB : BitLen (Nt.val zs) B) (hB2 : B ≤ 131072) :
    Calls Tryz.prog 47 #[dV n a zs.length c ex] w fun e w' => e = .returned (snV n (B + ex) (qf (Nt.val zs) 1 (64 - B)) (qg (Nt.val zs) 1 (64 - B))) ∧ Below w.heap.size w w' := by
  have hx := g.ex_bd
  have hK := KK_int
  have hp := g.pos hz
  have g0 : DG n zs 0 := ⟨g.can, g.len, .inr ⟨hz, g.odd hz, by omega, by omega⟩⟩
  obtain ⟨d, hd⟩ : ∃ d : Nat, max ((B : Int) - 64) 0 = (d : Int) := ⟨(max ((B : Int) - 64) 0).toNat, by omega⟩
  have hBd := hB.down d
  have hB0 : 0 < B := by
    rcases hB with ⟨h, _⟩ | ⟨_, h⟩
    · omega
    · refine Nat.pos_of_ne_zero fun z => ?_
      have := h.lt
      rw [z, Int.pow_zero] at this
      omega
  have eq : qf (Nt.val zs) 1 (64 - B) = Nt.val zs / 2 ^ d * 2 ^ (64 - (B - d)) ∧ qg (Nt.val zs) 1 (64 - B) = decide (Nt.val zs % 2 ^ d ≠ 0) := by
    unfold qf qg
    rw [Int.one_mul]
    by_cases c : B ≤ 64
    · rw [show d = 0 by omega, show (-(64 - (B : Int))).toNat = 0 by omega, show (64 - (B : Int)).toNat = 64 - B by omega, Int.pow_zero, Int.ediv_one, Int.ediv_one, Int.emod_one, Int.emod_one, Nat.sub_zero]
      exact ⟨rfl, rfl⟩
    · rw [show (-(64 - (B : Int))).toNat = d by omega, show (64 - (B : Int)).toNat = 0 by omega, show 64 - (B - d) = 0 by omega, Int.pow_zero, Int.mul_one, Int.mul_one]
      exact ⟨rfl, rfl⟩
  have hBd2 : ((B - d : Nat) : Int) = B - d := by omega
  have hBd3 : B - d ≤ 64 := by omega
  have hs0 : 0 < Nt.val zs / 2 ^ d := by
    rcases hBd with ⟨_, h⟩ | ⟨h, _⟩
    · omega
    · exact h
  have hab := natAbs_sv n (Int.le_of_lt hs0)
  have hE1 : -16777216 ≤ 0 + (d : Int) := by omega
  have hE2 : 0 + (d : Int) + 64 ≤ 16777216 := by omega
  have hne : sv n (Nt.val zs / 2 ^ d) ≠ 0 := fun q => by rw [q] at hab; simp at hab; omega
  have hC : BitLen ((sv n (Nt.val zs / 2 ^ d)).natAbs : Int) (B - d) := by rw [hab]; exact hBd
  have hr : sv n (Nt.val zs / 2 ^ d) = 0 ∨ ∃ t : Nat, LowBit ((sv n (Nt.val zs / 2 ^ d)).natAbs : Int) t ∧ 0 + (d : Int) + t ≤ 16777216 := by
    obtain ⟨t, ht⟩ := low_ex hs0
    have := low_bits3 hBd ht hs0
    exact .inr ⟨t, by rw [hab]; exact ht, by omega⟩
  have hsg : decide (sv n (Nt.val zs / 2 ^ d) < 0) = n := by
    have := sv_neg n hs0
    exact this
  rw [eq.1, eq.2]
  have B1 := ((Bx.nil w).push (DO n a zs.length c ex)).push (snO false 0 0 false)
  rw [show (w.alloc (DO n a zs.length c ex)).heap.size = w.heap.size + 1 by simp] at B1
  have HC := fun W (hW : Below w.heap.size w W) => Hide.mk (cut_near n a c zs 0 64 W (hl.below hW (Nat.le_refl _)) g0 (hT.below hW (Nat.le_refl _)) (by omega) (by omega) hB hB2 d hd _ rfl rfl hr)
  have HF := fun (n' : Bool) (z' : List Int) (x' : Int) F hl => Hide.mk (fm_seen (n := n') (z := z') (x := x') F hne hC hBd3 hE1 hE2 hl)
  rw [hsg, hab] at HF
  clear hr hC hne hab hs0 hBd hB hd eq hsg
  generalize decide (Nt.val zs % 2 ^ d ≠ 0) = q at *
  generalize Nt.val zs / 2 ^ d * 2 ^ (64 - (B - d)) = H at *
  obtain ⟨⟨f0, f1, f2⟩, _⟩ := cells3 B1 w.heap.size _ _ _ _ (.tail _ (.head _))
  go_enter Tryz.func47, Tryz.ntmps47
  go_wp2_with fail
  refine (wWhole n a zs.length c ex _).mono ?_
  rintro e w2 ⟨rfl, h2⟩
  have B2 := B1.keep h2
  clear h2 B1 f0 f1 f2
  go_wp2_with fail
  refine (HC _ B2.bel).out.mono ?_
  rintro e w3 ⟨n', z', x', a', c', rfl, F, hl3, l3, _, h3⟩
  obtain ⟨C, g3, hz3, hn3, hC3, hC4, e3, v3⟩ := (HF _ _ _ F hl3).out
  subst hn3
  have B3 := (B2.keep h3).push (DO n' a' z'.length c' x')
  have M3 := (Bx.nil w3).push (DO n' a' z'.length c' x')
  have HS := Hide.mk (wSeenCut n' q a' c' z' x' ex _ (l3.below M3.bel (Nat.le_refl _)) g3 hz3 hC3 hC4 (by omega) (by omega))
  rw [v3, show (C : Int) + x' + ex = B + ex by omega] at HS
  have B4 := B3
  obtain ⟨⟨f0, f1, f2⟩, _⟩ := cells3 B4 w.heap.size _ _ _ _ (.tail _ (.tail _ (.head _)))
  obtain ⟨⟨g0, g1, g2⟩, _⟩ := cells3 B4 w3.heap.size _ _ _ _ (.head _)
  clear F hl3 l3 h3 g3 hz3 hC3 hC4 e3 v3 M3 B3 B2 HC HF hBd2 hBd3 hE1 hE2
  go_wp2_with fail
  refine HS.out.mono ?_
  rintro e w5 ⟨rfl, h5⟩
  have B5 := (B4.keep h5).sub (L' := [(w.heap.size + 1, snO false 0 0 false)]) (by simp)
  clear h5 f0 f1 f2 g0 g1 g2 B4 HS
  obtain ⟨⟨f0, f1, f2, f3⟩, r0, r1, r2, r3⟩ := cells4 B5 (w.heap.size + 1) _ _ _ _ _ (.head _)
  go_wp2
  have B6 := B5.fill4 (by omega) (by simp) (.bool n') (.int .i64 ((B : Int) + ex)) (.int .u64 H) (.bool q)
  refine bodyPost_ret (results_N1 rfl _ _ (w.heap.size + 1) _ rfl B6.head rfl) rfl ?_
  exact ⟨rfl, B6.bel⟩
end Go.Proofs.YtdnghibkagcbcaaGreatDoor

namespace Go.Box
open Go
theorem Bx.grownP {w W : World} {L : List (Nat × Obj)} (h : Bx w L W) (o : Obj) : Bx w L (W.alloc o) := (h.push o).tail
end Go.Box
namespace Go.Proofs.YtdnghibkagcbcaaGreatDoor
open Go.RowKit Go.Wd Go.Box
set_option linter.unusedVariables false
set_option maxRecDepth 3000
theorem suppose6 {F G : Nat → World → List Int → Int → Option Addr → Nat → Prop} {T : Prop} (h : (∀ a b c d e f, F a b c d e f → G a b c d e f) → T) (k : ∀ a b c d e f, F a b c d e f → G a b c d e f) : T := h k
theorem lie_set3P {W : World} {g : Nat} {a : Option Addr} {zs : List Int} (hg : W.heap[g]? = some (DO false none 0 0 0)) (v0 v1 v2 : Value) (l : Lie W a zs) :
    Lie (((W.setCell ⟨g, 0, none⟩ v0).setCell ⟨g, 1, none⟩ v1).setCell ⟨g, 2, none⟩ v2) a zs :=
  (Live.set3 (g := g) ⟨hg, rfl⟩ v0 v1 v2 (Live.one l)).all (a, zs) (.head _)
/-- What a cut to 64 bits says of the number. -/
theorem cut_seenL {w w' : World} {n : Bool} {r E : Int} {q : Bool} {e : Ending} (h : DCut w w' (sv n r) E q e) (hb : BitLen r 64) (hE1 : -16000000 ≤ E) (hE2 : E ≤ 16000000) :
    ∃ z x a c, ∃ B : Nat, e = .returned (.tuple #[dV n a (List.length z) c x, .bool q, .int .i64 0]) ∧ DG n z x ∧ 0 < z.length ∧ BitLen (Nt.val z) B ∧ B ≤ 64 ∧ (B : Int) + x = 64 + E ∧ Nt.val z * 2 ^ (64 - B) = r ∧ Lie w' a z ∧ Below w.heap.size w w' := by
  have hr : 0 < r := by
    rcases hb with ⟨_, h⟩ | ⟨h, _⟩
    · omega
    · exact h
  have hab := natAbs_sv n (Int.le_of_lt hr)
  have hsg := sv_neg n hr
  obtain ⟨t, ht⟩ := low_ex hr
  have htl := low_bits3 hb ht hr
  have hne : sv n r ≠ 0 := fun q => by rw [q] at hab; simp at hab; omega
  have h64 : r < 4294967296 ^ 4096 := by
    have h1 : r < 2 ^ 64 := by
      rcases hb with ⟨h, _⟩ | ⟨_, h⟩
      · omega
      · exact h.lt
    have h2 : (2 : Int) ^ 64 ≤ 4294967296 ^ 4096 := by
      rw [show (4294967296 : Int) = 2 ^ 32 from rfl, ← Int.pow_mul]
      exact p2le (by omega)
    exact Int.lt_of_lt_of_le h1 h2
  obtain ⟨n', z', x', a', c', rfl, F, hl, l, _, hbel⟩ := dcut_num h (by rw [hab]; exact h64) (.inr ⟨t, by rw [hab]; exact ht, by omega, by omega⟩)
  obtain ⟨B, g, hz, rfl, hB, hB2, he, hv⟩ := fm_seen F hne (C := 64) (by rw [hab]; exact hb) (by omega) (by omega) (by omega) hl
  rw [hab, Nat.sub_self, Int.pow_zero, Int.mul_one] at hv
  rw [hsg] at g ⊢
  exact ⟨z', x', a', c', B, rfl, g, hz, hB, hB2, he, hv, l, hbel⟩
set_option maxHeartbeats 1000000 in
theorem wSeenQuo (n1 n2 : Bool) (a1 a2 : Option Addr) (c1 c2 : Nat) (z1 z2 : List Int) (e1 e2 : Int) (w : World) (l1 : Lie w a1 z1) (l2 : Lie w a2 z2) (g1 : DG n1 z1 e1) (g2 : DG n2 z2 e2) (hT : Tab w) (hz1 : 0 < z1.length) (hz2 : 0 < z2.length) {i : Int} (hi : BitLen (qf (Nt.val z1) (Nt.val z2) i) 64) (hi1 : -1000000 ≤ i) (hi2 : i ≤ 1000000) :
    Calls Tryz.prog 61 #[dV n1 a1 z1.length c1 e1, dV n2 a2 z2.length c2 e2] w fun e w' => e = .returned (snV (n1 != n2) (64 - i + (e1 - e2)) (qf (Nt.val z1) (Nt.val z2) i) (qg (Nt.val z1) (Nt.val z2) i)) ∧ Below w.heap.size w w' := by
  have x1 := g1.ex_bd
  have x2 := g2.ex_bd
  have hK := KK_int
  have f1 : DG n1 z1 0 := ⟨g1.can, g1.len, .inr ⟨hz1, g1.odd hz1, by omega, by omega⟩⟩
  have f2 : DG n2 z2 0 := ⟨g2.can, g2.len, .inr ⟨hz2, g2.odd hz2, by omega, by omega⟩⟩
  have HQ := fun W (hW : Below w.heap.size w W) => Hide.mk (quoT n1 n2 a1 a2 c1 c2 z1 z2 0 0 W (l1.below hW (Nat.le_refl _)) (l2.below hW (Nat.le_refl _)) f1 f2 (hT.below hW (Nat.le_refl _)) 64 64 rfl (by omega) (by omega) hz1 hz2 hi)
  have HC := fun (W W' : World) e h => Hide.mk (cut_seenL (w := W) (w' := W') (n := n1 != n2) (r := qf (Nt.val z1) (Nt.val z2) i) (E := 0 - 0 - i) (q := qg (Nt.val z1) (Nt.val z2) i) (e := e) h hi (by omega) (by omega))
  generalize qf (Nt.val z1) (Nt.val z2) i = H at *
  generalize qg (Nt.val z1) (Nt.val z2) i = q at *
  clear hi g1 g2 f1 f2 hT
  have B1 := (((Bx.nil w).push (DO n1 a1 z1.length c1 e1)).push (DO n2 a2 z2.length c2 e2)).push (snO false 0 0 false)
  rw [show ((w.alloc (DO n1 a1 z1.length c1 e1)).alloc (DO n2 a2 z2.length c2 e2)).heap.size = w.heap.size + 1 + 1 by simp, show (w.alloc (DO n1 a1 z1.length c1 e1)).heap.size = w.heap.size + 1 by simp] at B1
  go_enter Tryz.func61, Tryz.ntmps61
  go_wp2_with fail
  generalize hw1 : ((w.alloc (DO n1 a1 z1.length c1 e1)).alloc (DO n2 a2 z2.length c2 e2)).alloc (snO false 0 0 false) = w1 at *
  clear hw1
  have HF := B1.drew
  have HI := HF.sub (L' := [(w.heap.size + 1, DO n2 a2 z2.length c2 e2), (w.heap.size, DO n1 a1 z1.length c1 e1)]) (by simp)
  have sh := fun W (hW : Bx w [(w.heap.size + 1, DO n2 a2 z2.length c2 e2), (w.heap.size, DO n1 a1 z1.length c1 e1)] W) => And.intro (cells3 hW (w.heap.size + 1) _ _ _ _ (.head _)).1 (cells3 hW w.heap.size _ _ _ _ (.tail _ (.head _))).1
  refine Drawn.enter (Bx w [(w.heap.size + 1, DO n2 a2 z2.length c2 e2), (w.heap.size, DO n1 a1 z1.length c1 e1)]) (by kernel_rfl) ?_
  refine Drawn.tk (i := 0) (v := ?v334) rfl (fun W hW => ?_) HI ?_
  rotate_left
  · have ⟨⟨s0, s1, s2⟩, q0, q3, q4⟩ := sh W hW
    go_simp <;> exact rfl
  refine Drawn.tk (i := 2) (v := ?v335) rfl (fun W hW => ?_) HI ?_
  rotate_left
  · have ⟨⟨s0, s1, s2⟩, q0, q3, q4⟩ := sh W hW
    go_simp <;> exact rfl
  generalize hw1 : w1.drew = W0 at *
  clear hw1 B1
  refine suppose6 (F := fun g W z x a c => w.heap.size + 1 + 1 < g ∧ Bx w ((g, DO false none 0 0 0) :: [(w.heap.size + 1 + 1, snO false 0 0 false), (w.heap.size + 1, DO n2 a2 z2.length c2 e2), (w.heap.size, DO n1 a1 z1.length c1 e1)]) W ∧ Bx w [(w.heap.size + 1, DO n2 a2 z2.length c2 e2), (w.heap.size, DO n1 a1 z1.length c1 e1)] W ∧ ∃ B : Nat, DG (n1 != n2) z x ∧ 0 < z.length ∧ BitLen (Nt.val z) B ∧ B ≤ 64 ∧ (B : Int) + x = 64 + (0 - 0 - i) ∧ Nt.val z * 2 ^ (64 - B) = H ∧ Lie W a z) (G := ?G) (fun REST => ?h) ?k
  case h =>
    refine Drawn.pair (i := 1) (j := 9) (by kernel_rfl) rfl rfl (fun K hK => ?_) (fun K hK => ?_)
    · go_simp
      refine (wWhole n1 a1 z1.length c1 e1 _).mono ?_
      rintro e W1 ⟨rfl, hn⟩
      refine hK _ _ (HI.keep hn) ?_
      clear hK K
      replace HI := HI.keep hn
      replace HF := HF.keep hn
      clear hn
      refine Drawn.pair (i := 3) (j := 9) (by kernel_rfl) rfl rfl (fun K hK => ?_) (fun K hK => ?_)
      · go_simp
        refine (wWhole n2 a2 z2.length c2 e2 _).mono ?_
        rintro e W2 ⟨rfl, hn⟩
        refine hK _ _ (HI.keep hn) ?_
        clear hK K
        replace HI := HI.keep hn
        replace HF := HF.keep hn
        clear hn
        refine Drawn.pair (i := 4) (j := 9) (by kernel_rfl) rfl rfl (fun K hK => ?_) (fun K hK => ?_)
        · go_simp
          refine (HQ _ HF.bel).out.mono ?_
          rintro e W3 hh
          obtain ⟨z, x, a, c, B, rfl, g3, hz3, hB3, hB4, e3, v3, l3, hn⟩ := (HC _ _ _ hh).out
          clear hh
          refine hK _ _ (HI.keep hn) ?_
          clear hK K
          replace HI := HI.keep hn
          replace HF := HF.keep hn
          clear hn
          refine Drawn.tk (i := 5) (v := ?v336) rfl (fun W hW => ?_) HI ?_
          rotate_left
          · have ⟨⟨s0, s1, s2⟩, q0, q3, q4⟩ := sh W hW
            go_simp <;> exact rfl
          refine Drawn.tk (i := 6) (v := ?v337) rfl (fun W hW => ?_) HI ?_
          rotate_left
          · have ⟨⟨s0, s1, s2⟩, q0, q3, q4⟩ := sh W hW
            go_simp <;> exact rfl
          refine Drawn.tk (i := 7) (v := ?v338) rfl (fun W hW => ?_) HI ?_
          rotate_left
          · have ⟨⟨s0, s1, s2⟩, q0, q3, q4⟩ := sh W hW
            go_simp <;> exact rfl
          refine Drawn.tk (i := 8) (v := ?v339) rfl (fun W hW => ?_) HI ?_
          rotate_left
          · have ⟨⟨s0, s1, s2⟩, q0, q3, q4⟩ := sh W hW
            go_simp <;> exact rfl
          refine Drawn.one (j := 9) (by kernel_rfl) rfl (fun K hK => ?_)
          go_simp
          refine hK _ _ (HI.grownP (DO false none 0 0 0)) ?_
          clear hK K
          have o5 : w.heap.size + 1 + 1 < _ := HF.lt (p := (w.heap.size + 1 + 1, snO false 0 0 false)) (by simp)
          replace HI := HI.grownP (DO false none 0 0 0)
          replace HF := HF.push (DO false none 0 0 0)
          replace l3 := l3.below (below_alloc _ (DO false none 0 0 0)) (Nat.le_refl _)
          generalize hg5 : World.alloc W3 (DO false none 0 0 0) = W4 at *
          clear hg5
          generalize hg5 : W3.heap.size = g5 at *
          clear hg5
          exact REST g5 W4 z x a c ⟨o5, HF, HI, B, g3, hz3, hB3, hB4, e3, v3, l3⟩
        · go_simp
          refine hK _ _ (HI.grownP (DO false none 0 0 0)) ?_
          clear hK K
          have o5 : w.heap.size + 1 + 1 < _ := HF.lt (p := (w.heap.size + 1 + 1, snO false 0 0 false)) (by simp)
          replace HI := HI.grownP (DO false none 0 0 0)
          replace HF := HF.push (DO false none 0 0 0)
          generalize hg5 : World.alloc W2 (DO false none 0 0 0) = W5 at *
          clear hg5
          generalize hg5 : W2.heap.size = g5 at *
          clear hg5
          refine Drawn.one (j := 4) (by kernel_rfl) rfl (fun K hK => ?_)
          go_simp
          refine (HQ _ HF.bel).out.mono ?_
          rintro e W6 hh
          obtain ⟨z, x, a, c, B, rfl, g3, hz3, hB3, hB4, e3, v3, l3, hn⟩ := (HC _ _ _ hh).out
          clear hh
          refine hK _ _ (HI.keep hn) ?_
          clear hK K
          replace HI := HI.keep hn
          replace HF := HF.keep hn
          clear hn
          refine Drawn.tk (i := 5) (v := ?v340) rfl (fun W hW => ?_) HI ?_
          rotate_left
          · have ⟨⟨s0, s1, s2⟩, q0, q3, q4⟩ := sh W hW
            go_simp <;> exact rfl
          refine Drawn.tk (i := 6) (v := ?v341) rfl (fun W hW => ?_) HI ?_
          rotate_left
          · have ⟨⟨s0, s1, s2⟩, q0, q3, q4⟩ := sh W hW
            go_simp <;> exact rfl
          refine Drawn.tk (i := 7) (v := ?v342) rfl (fun W hW => ?_) HI ?_
          rotate_left
          · have ⟨⟨s0, s1, s2⟩, q0, q3, q4⟩ := sh W hW
            go_simp <;> exact rfl
          refine Drawn.tk (i := 8) (v := ?v343) rfl (fun W hW => ?_) HI ?_
          rotate_left
          · have ⟨⟨s0, s1, s2⟩, q0, q3, q4⟩ := sh W hW
            go_simp <;> exact rfl
          exact REST g5 W6 z x a c ⟨o5, HF, HI, B, g3, hz3, hB3, hB4, e3, v3, l3⟩
      · go_simp
        refine hK _ _ (HI.grownP (DO false none 0 0 0)) ?_
        clear hK K
        have o5 : w.heap.size + 1 + 1 < _ := HF.lt (p := (w.heap.size + 1 + 1, snO false 0 0 false)) (by simp)
        replace HI := HI.grownP (DO false none 0 0 0)
        replace HF := HF.push (DO false none 0 0 0)
        generalize hg5 : World.alloc W1 (DO false none 0 0 0) = W7 at *
        clear hg5
        generalize hg5 : W1.heap.size = g5 at *
        clear hg5
        refine Drawn.one (j := 3) (by kernel_rfl) rfl (fun K hK => ?_)
        go_simp
        refine (wWhole n2 a2 z2.length c2 e2 _).mono ?_
        rintro e W8 ⟨rfl, hn⟩
        refine hK _ _ (HI.keep hn) ?_
        clear hK K
        replace HI := HI.keep hn
        replace HF := HF.keep hn
        clear hn
        refine Drawn.one (j := 4) (by kernel_rfl) rfl (fun K hK => ?_)
        go_simp
        refine (HQ _ HF.bel).out.mono ?_
        rintro e W9 hh
        obtain ⟨z, x, a, c, B, rfl, g3, hz3, hB3, hB4, e3, v3, l3, hn⟩ := (HC _ _ _ hh).out
        clear hh
        refine hK _ _ (HI.keep hn) ?_
        clear hK K
        replace HI := HI.keep hn
        replace HF := HF.keep hn
        clear hn
        refine Drawn.tk (i := 5) (v := ?v344) rfl (fun W hW => ?_) HI ?_
        rotate_left
        · have ⟨⟨s0, s1, s2⟩, q0, q3, q4⟩ := sh W hW
          go_simp <;> exact rfl
        refine Drawn.tk (i := 6) (v := ?v345) rfl (fun W hW => ?_) HI ?_
        rotate_left
        · have ⟨⟨s0, s1, s2⟩, q0, q3, q4⟩ := sh W hW
          go_simp <;> exact rfl
        refine Drawn.tk (i := 7) (v := ?v346) rfl (fun W hW => ?_) HI ?_
        rotate_left
        · have ⟨⟨s0, s1, s2⟩, q0, q3, q4⟩ := sh W hW
          go_simp <;> exact rfl
        refine Drawn.tk (i := 8) (v := ?v347) rfl (fun W hW => ?_) HI ?_
        rotate_left
        · have ⟨⟨s0, s1, s2⟩, q0, q3, q4⟩ := sh W hW
          go_simp <;> exact rfl
        exact REST g5 W9 z x a c ⟨o5, HF, HI, B, g3, hz3, hB3, hB4, e3, v3, l3⟩
    · go_simp
      refine hK _ _ (HI.grownP (DO false none 0 0 0)) ?_
      clear hK K
      have o5 : w.heap.size + 1 + 1 < _ := HF.lt (p := (w.heap.size + 1 + 1, snO false 0 0 false)) (by simp)
      replace HI := HI.grownP (DO false none 0 0 0)
      replace HF := HF.push (DO false none 0 0 0)
      generalize hg5 : World.alloc W0 (DO false none 0 0 0) = W10 at *
      clear hg5
      generalize hg5 : W0.heap.size = g5 at *
      clear hg5
      refine Drawn.one (j := 1) (by kernel_rfl) rfl (fun K hK => ?_)
      go_simp
      refine (wWhole n1 a1 z1.length c1 e1 _).mono ?_
      rintro e W11 ⟨rfl, hn⟩
      refine hK _ _ (HI.keep hn) ?_
      clear hK K
      replace HI := HI.keep hn
      replace HF := HF.keep hn
      clear hn
      refine Drawn.one (j := 3) (by kernel_rfl) rfl (fun K hK => ?_)
      go_simp
      refine (wWhole n2 a2 z2.length c2 e2 _).mono ?_
      rintro e W12 ⟨rfl, hn⟩
      refine hK _ _ (HI.keep hn) ?_
      clear hK K
      replace HI := HI.keep hn
      replace HF := HF.keep hn
      clear hn
      refine Drawn.one (j := 4) (by kernel_rfl) rfl (fun K hK => ?_)
      go_simp
      refine (HQ _ HF.bel).out.mono ?_
      rintro e W13 hh
      obtain ⟨z, x, a, c, B, rfl, g3, hz3, hB3, hB4, e3, v3, l3, hn⟩ := (HC _ _ _ hh).out
      clear hh
      refine hK _ _ (HI.keep hn) ?_
      clear hK K
      replace HI := HI.keep hn
      replace HF := HF.keep hn
      clear hn
      refine Drawn.tk (i := 5) (v := ?v348) rfl (fun W hW => ?_) HI ?_
      rotate_left
      · have ⟨⟨s0, s1, s2⟩, q0, q3, q4⟩ := sh W hW
        go_simp <;> exact rfl
      refine Drawn.tk (i := 6) (v := ?v349) rfl (fun W hW => ?_) HI ?_
      rotate_left
      · have ⟨⟨s0, s1, s2⟩, q0, q3, q4⟩ := sh W hW
        go_simp <;> exact rfl
      refine Drawn.tk (i := 7) (v := ?v350) rfl (fun W hW => ?_) HI ?_
      rotate_left
      · have ⟨⟨s0, s1, s2⟩, q0, q3, q4⟩ := sh W hW
        go_simp <;> exact rfl
      refine Drawn.tk (i := 8) (v := ?v351) rfl (fun W hW => ?_) HI ?_
      rotate_left
      · have ⟨⟨s0, s1, s2⟩, q0, q3, q4⟩ := sh W hW
        go_simp <;> exact rfl
      exact REST g5 W13 z x a c ⟨o5, HF, HI, B, g3, hz3, hB3, hB4, e3, v3, l3⟩
  intro g5 W z x a c h
  obtain ⟨o5, HF, HI, B, g3, hz3, hB3, hB4, e3, v3, l3⟩ := h
  obtain ⟨⟨f0, f1, f2⟩, r0, r1, r2⟩ := cells3 HF g5 _ _ _ _ (.head _)
  have HF2 := HF.fill3 (by omega) (by simp; omega) (.bool (n1 != n2)) (.slice a z.length c) (.int .i64 x)
  have l4 := lie_set3P (g := g5) HF.head (.bool (n1 != n2)) (.slice a z.length c) (.int .i64 x) l3
  refine Drawn.one (j := 10) (by kernel_rfl) rfl (fun K hK => ?_)
  go_simp
  replace HI := HF2.sub (L' := [(w.heap.size + 1, DO n2 a2 z2.length c2 e2), (w.heap.size, DO n1 a1 z1.length c1 e1)]) (by simp)
  refine hK _ _ HI ?_
  clear hK K f0 f1 f2 r0 r1 r2 HF l3
  refine Drawn.tk (i := 11) (v := ?v352) rfl (fun W hW => ?_) HI ?_
  rotate_left
  · have ⟨⟨s0, s1, s2⟩, q0, q3, q4⟩ := sh W hW
    go_simp <;> exact rfl
  refine Drawn.tk (i := 12) (v := ?v353) rfl (fun W hW => ?_) HI ?_
  rotate_left
  · have ⟨⟨s0, s1, s2⟩, q0, q3, q4⟩ := sh W hW
    go_simp <;> exact rfl
  refine Drawn.done (by kernel_rfl) ?_
  try go_simp
  have HS := Hide.mk (wSeenCut (n1 != n2) q a c z x (e1 - e2) _ l4 g3 hz3 hB3 hB4 (by omega) (by omega))
  rw [v3, show (B : Int) + x + (e1 - e2) = 64 - i + (e1 - e2) by omega] at HS
  obtain ⟨⟨f0, f1, f2⟩, _⟩ := cells3 HF2 g5 _ _ _ _ (.head _)
  obtain ⟨⟨s0, s1, s2⟩, _⟩ := cells3 HF2 (w.heap.size + 1) _ _ _ _ (.tail _ (.tail _ (.head _)))
  obtain ⟨⟨t0, t1, t2⟩, _⟩ := cells3 HF2 w.heap.size _ _ _ _ (.tail _ (.tail _ (.tail _ (.head _))))
  clear g3 hz3 hB3 hB4 e3 v3 l4 sh HQ HC
  generalize (((W.setCell ⟨g5, 0, none⟩ (.bool (n1 != n2))).setCell ⟨g5, 1, none⟩ (.slice a z.length c)).setCell ⟨g5, 2, none⟩ (.int .i64 x)) = W9 at *
  generalize hnn : (n1 != n2) = nn at *
  have HNN := Hide.mk hnn
  clear hnn
  go_wp2_with fail
  refine HS.out.mono ?_
  rintro e w5 ⟨rfl, h5⟩
  have B5 := (HF2.keep h5).sub (L' := [(w.heap.size + 1 + 1, snO false 0 0 false)]) (by simp)
  clear h5 f0 f1 f2 s0 s1 s2 t0 t1 t2 HF2 HS HI
  obtain ⟨⟨f0, f1, f2, f3⟩, r0, r1, r2, r3⟩ := cells4 B5 (w.heap.size + 1 + 1) _ _ _ _ _ (.head _)
  go_wp2
  have B6 := B5.fill4 (by omega) (by simp) (.bool nn) (.int .i64 (64 - i + (e1 - e2))) (.int .u64 H) (.bool q)
  refine bodyPost_ret (results_N1 rfl _ _ (w.heap.size + 1 + 1) _ rfl B6.head rfl) rfl ?_
  exact ⟨by rw [HNN.out], B6.bel⟩
set_option maxHeartbeats 1000000 in
theorem wSeenRoot (a : Option Addr) (c : Nat) (zs : List Int) (ex : Int) (w : World) (hl : Lie w a zs) (g : DG false zs ex) (hz : 0 < zs.length) (hT : Tab w) {i r : Int} {more : Bool} (hR : RAt (Nt.val zs) ex 64 i r more) (hi1 : -16000000 ≤ i) (hi2 : i ≤ 16000000) :
    Calls Tryz.prog 64 #[dV false a zs.length c ex] w fun e w' => e = .returned (snV false (64 - i) r more) ∧ Below w.heap.size w w' := by
  have HC := fun W (hW : Below w.heap.size w W) => Hide.mk (rootT a c zs ex W (hl.below hW (Nat.le_refl _)) g (hT.below hW (Nat.le_refl _)) 64 64 rfl (by omega) (by omega) hz hR)
  have HD := fun (W W' : World) e h => Hide.mk (cut_seenL (w := W) (w' := W') (n := false) (r := r) (E := -i) (q := more) (e := e) h hR.bits (by omega) (by omega))
  clear hR
  have B1 := ((Bx.nil w).push (DO false a zs.length c ex)).push (snO false 0 0 false)
  rw [show (w.alloc (DO false a zs.length c ex)).heap.size = w.heap.size + 1 by simp] at B1
  obtain ⟨⟨f0, f1, f2⟩, _⟩ := cells3 B1 w.heap.size _ _ _ _ (.tail _ (.head _))
  go_enter Tryz.func64, Tryz.ntmps64
  go_wp2_with fail
  refine (HC _ B1.bel).out.mono ?_
  rintro e w3 hh
  obtain ⟨z', x', a', c', C, rfl, g3, hz3, hC3, hC4, e3, v3, l3, h3⟩ := (HD _ _ _ hh).out
  have B4 := (B1.keep h3).push (DO false a' z'.length c' x')
  have M3 := (Bx.nil w3).push (DO false a' z'.length c' x')
  have HS := Hide.mk (wSeenCut false more a' c' z' x' 0 _ (l3.below M3.bel (Nat.le_refl _)) g3 hz3 hC3 hC4 (by omega) (by omega))
  rw [v3, show (C : Int) + x' + 0 = 64 - i by omega] at HS
  clear f0 f1 f2 hh
  obtain ⟨⟨g0, g1, g2⟩, _⟩ := cells3 B4 w3.heap.size _ _ _ _ (.head _)
  clear l3 h3 g3 hz3 hC3 hC4 e3 v3 M3 B1 HC HD
  go_wp2_with fail
  refine HS.out.mono ?_
  rintro e w5 ⟨rfl, h5⟩
  have B5 := (B4.keep h5).sub (L' := [(w.heap.size + 1, snO false 0 0 false)]) (by simp)
  clear h5 g0 g1 g2 B4 HS
  obtain ⟨⟨f0, f1, f2, f3⟩, r0, r1, r2, r3⟩ := cells4 B5 (w.heap.size + 1) _ _ _ _ _ (.head _)
  go_wp2
  have B6 := B5.fill4 (by omega) (by simp) (.bool false) (.int .i64 (64 - i)) (.int .u64 r) (.bool more)
  refine bodyPost_ret (results_N1 rfl _ _ (w.heap.size + 1) _ rfl B6.head rfl) rfl ?_
  exact ⟨rfl, B6.bel⟩
end Go.Proofs.YtdnghibkagcbcaaGreatDoor

namespace Go.Proofs.YtdnghibkagcbcaaGreatDoor
open Go.RowKit Go.Wd Go.Box
set_option linter.unusedVariables false
set_option maxRecDepth 3000
theorem wPlusZero (b : Bool) (m : Int) (w : World) :
    Calls Tryz.prog 45 #[wyV b m] w fun e w' => e = .returned (.tuple #[.int .u64 0, .int .u8 0, .int .i64 0]) ∧ Below w.heap.size w w' := by
  have B1 := (Bx.nil w).push (wyO b m)
  obtain ⟨f0, f1, f2, f3, f4⟩ := way_cells B1 w.heap.size b m (.head _)
  have HZ : ∀ W, Hide (Calls Tryz.prog 75 #[.int .u8 (fm b), .bool false] W fun e w' => e = .returned (.tuple #[.int .u64 0, .int .i64 0]) ∧ Below W.heap.size W w') := fun W => ⟨by
    have := wZero b false W
    rw [show sd b 0 false = 0 from rfl] at this
    exact this⟩
  go_enter Tryz.func45, Tryz.ntmps45
  go_wp2_with fail
  refine (HZ _).out.mono ?_
  rintro e w2 ⟨rfl, h2⟩
  have B2 := B1.keep h2
  go_wp2
  go_ret3
  exact ⟨rfl, B2.bel⟩
theorem at3_of {w W : World} {L : List (Nat × Obj)} (B : Bx w L W) {g : Nat} {n : Bool} {a : Option Addr} {k c : Nat} {ex : Int} (h : (g, DO n a k c ex) ∈ L) : At3 W g 0 n a k c ex :=
  ⟨B.cell g _ _ h 0, B.cell g _ _ h 1, B.cell g _ _ h 2⟩
set_option maxHeartbeats 1000000 in
theorem wRound_good (b : Bool) (m : Int) (n : Bool) (a : Option Addr) (c k : Nat) (ex s : Int) (nn : Bool) (T high W0 X0 : Int) (more : Bool) (w : World) (hs : (s == 0) = false)
    (HW : ∀ g W, Below w.heap.size w W → At3 W g 0 n a k c ex → Calls Tryz.prog 43 #[.int .u8 (fm b), .int .u8 m, .slice (some ⟨g, 0, none⟩) 1 1] W fun e w' => e = .returned (.tuple #[wyV b m, .int .i64 0]) ∧ Below W.heap.size W w')
    (HS : ∀ W, Below w.heap.size w W → Calls Tryz.prog 44 #[dV n a k c ex] W fun e w' => e = .returned (.int .i64 s) ∧ Below W.heap.size W w')
    (HN : ∀ W, Below w.heap.size w W → Calls Tryz.prog 47 #[dV n a k c ex] W fun e w' => e = .returned (snV nn T high more) ∧ Below W.heap.size W w')
    (HR : ∀ W, Below w.heap.size w W → Calls Tryz.prog 46 #[wyV b m, snV nn T high more] W fun e w' => e = .returned (.tuple #[.int .u64 W0, .int .u8 X0, .int .i64 0]) ∧ Below W.heap.size W w') :
    Calls Tryz.prog 14 #[.int .u8 (fm b), .int .u8 m, dV n a k c ex] w fun e w' => e = .returned (.tuple #[.int .u64 W0, .int .u8 X0, .int .i64 0]) ∧ Below w.heap.size w w' := by
  have B2 := ((Bx.nil w).push (DO n a k c ex)).push (DO n a k c ex)
  rw [show (w.alloc (DO n a k c ex)).heap.size = w.heap.size + 1 by simp] at B2
  have HH := Hide.mk (HW (w.heap.size + 1) _ B2.bel (at3_of B2 (.head _)))
  have HSS := fun W hW => Hide.mk (HS W hW)
  have HNN := fun W hW => Hide.mk (HN W hW)
  have HRR := fun W hW => Hide.mk (HR W hW)
  clear HW HS HN HR
  go_enter Tryz.func14, Tryz.ntmps14
  go_wp2_with fail
  refine HH.out.mono ?_
  rintro e w3 ⟨rfl, h3⟩
  have B3 := (B2.keep h3).push (wyO b m)
  clear h3 HH B2
  obtain ⟨⟨f0, f1, f2⟩, _⟩ := cells3 B3 w.heap.size _ _ _ _ (.tail _ (.tail _ (.head _)))
  go_wp2_with fail
  refine (HSS _ B3.bel).out.mono ?_
  rintro e w4 ⟨rfl, h4⟩
  have B4 := B3.keep h4
  clear h4 B3 f0 f1 f2
  go_wp2_with fail
  have HI := (B4.sub (L' := [(w3.heap.size, wyO b m), (w.heap.size, DO n a k c ex)]) (by simp)).drew
  have sh := fun W (hW : Bx w [(w3.heap.size, wyO b m), (w.heap.size, DO n a k c ex)] W) => And.intro (way_cells hW w3.heap.size b m (.head _)) (cells3 hW w.heap.size _ _ _ _ (.tail _ (.head _))).1
  refine Drawn.enter (Bx w [(w3.heap.size, wyO b m), (w.heap.size, DO n a k c ex)]) (by kernel_rfl) ?_
  refine Drawn.tk (i := 0) (v := ?v354) rfl (fun W hW => ?_) HI ?_
  rotate_left
  · have ⟨⟨g0, g1, g2, g3, g4⟩, f0, f1, f2⟩ := sh W hW
    go_simp <;> exact rfl
  refine Drawn.tk (i := 1) (v := ?v355) rfl (fun W hW => ?_) HI ?_
  rotate_left
  · have ⟨⟨g0, g1, g2, g3, g4⟩, f0, f1, f2⟩ := sh W hW
    go_simp <;> exact rfl
  refine Drawn.one (j := 2) (by kernel_rfl) rfl (fun K hK => ?_)
  go_simp
  refine ((HNN _ HI.bel).out).mono ?_
  rintro e wn ⟨rfl, hn⟩
  refine hK _ _ (HI.keep hn) ?_
  clear hK K
  replace HI := HI.keep hn
  clear hn
  refine Drawn.one (j := 3) (by kernel_rfl) rfl (fun K hK => ?_)
  go_simp
  refine ((HRR _ HI.bel).out).mono ?_
  rintro e wn ⟨rfl, hn⟩
  refine hK _ _ (HI.keep hn) ?_
  clear hK K
  replace HI := HI.keep hn
  clear hn
  refine Drawn.tk (i := 4) (v := ?v356) rfl (fun W hW => ?_) HI ?_
  rotate_left
  · have ⟨⟨g0, g1, g2, g3, g4⟩, f0, f1, f2⟩ := sh W hW
    go_simp <;> exact rfl
  refine Drawn.tk (i := 5) (v := ?v357) rfl (fun W hW => ?_) HI ?_
  rotate_left
  · have ⟨⟨g0, g1, g2, g3, g4⟩, f0, f1, f2⟩ := sh W hW
    go_simp <;> exact rfl
  refine Drawn.tk (i := 6) (v := ?v358) rfl (fun W hW => ?_) HI ?_
  rotate_left
  · have ⟨⟨g0, g1, g2, g3, g4⟩, f0, f1, f2⟩ := sh W hW
    go_simp <;> exact rfl
  refine Drawn.tk (i := 7) (v := ?v359) rfl (fun W hW => ?_) HI ?_
  rotate_left
  · have ⟨⟨g0, g1, g2, g3, g4⟩, f0, f1, f2⟩ := sh W hW
    go_simp <;> exact rfl
  refine Drawn.tk (i := 8) (v := ?v360) rfl (fun W hW => ?_) HI ?_
  rotate_left
  · have ⟨⟨g0, g1, g2, g3, g4⟩, f0, f1, f2⟩ := sh W hW
    go_simp <;> exact rfl
  refine Drawn.tk (i := 9) (v := ?v361) rfl (fun W hW => ?_) HI ?_
  rotate_left
  · have ⟨⟨g0, g1, g2, g3, g4⟩, f0, f1, f2⟩ := sh W hW
    go_simp <;> exact rfl
  refine Drawn.done (by kernel_rfl) ?_
  try go_simp
  go_wp2
  go_ret3
  exact ⟨rfl, HI.bel⟩
end Go.Proofs.YtdnghibkagcbcaaGreatDoor

namespace Go.Proofs.YtdnghibkagcbcaaGreatDoor
open Go.RowKit Go.Wd Go.Box
set_option linter.unusedVariables false
set_option maxRecDepth 3000
theorem wQuo_none (b : Bool) (m : Int) (n1 : Bool) (a1 : Option Addr) (c1 k1 : Nat) (e1 : Int) (n2 : Bool) (a2 : Option Addr) (c2 k2 : Nat) (e2 : Int) (w : World)
    (HW : ∀ g W, Below w.heap.size w W → At3 W g 0 n1 a1 k1 c1 e1 → At3 W g 3 n2 a2 k2 c2 e2 → Calls Tryz.prog 43 #[.int .u8 (fm b), .int .u8 m, .slice (some ⟨g, 0, none⟩) 2 2] W fun e w' => e = .returned (.tuple #[wyV b m, .int .i64 0]) ∧ Below W.heap.size W w')
    (HS2 : ∀ W, Below w.heap.size w W → Calls Tryz.prog 44 #[dV n2 a2 k2 c2 e2] W fun e w' => e = .returned (.int .i64 0) ∧ Below W.heap.size W w') :
    Calls Tryz.prog 22 #[.int .u8 (fm b), .int .u8 m, dV n1 a1 k1 c1 e1, dV n2 a2 k2 c2 e2] w fun e w' => e = .returned (.tuple #[.int .u64 0, .int .u8 0, .int .i64 11]) ∧ Below w.heap.size w w' := by
  have HSS2 := fun W hW => Hide.mk (HS2 W hW)
  clear HS2
  have B3 := (((Bx.nil w).push (DO n1 a1 k1 c1 e1)).push (DO n2 a2 k2 c2 e2)).push (.cells #[.bool n1, .slice a1 k1 c1, .int .i64 e1, .bool n2, .slice a2 k2 c2, .int .i64 e2] 26 (0, 0))
  rw [show ((w.alloc (DO n1 a1 k1 c1 e1)).alloc (DO n2 a2 k2 c2 e2)).heap.size = w.heap.size + 1 + 1 by simp, show (w.alloc (DO n1 a1 k1 c1 e1)).heap.size = w.heap.size + 1 by simp] at B3
  have HH := Hide.mk (HW (w.heap.size + 1 + 1) _ B3.bel ⟨B3.cell _ _ _ (.head _) 0, B3.cell _ _ _ (.head _) 1, B3.cell _ _ _ (.head _) 2⟩ ⟨B3.cell _ _ _ (.head _) 3, B3.cell _ _ _ (.head _) 4, B3.cell _ _ _ (.head _) 5⟩)
  clear HW
  go_enter Tryz.func22, Tryz.ntmps22
  go_wp2_with fail
  refine HH.out.mono ?_
  rintro e w3 ⟨rfl, h3⟩
  have B4 := (B3.keep h3).push (wyO b m)
  clear h3 HH B3
  obtain ⟨⟨f0, f1, f2⟩, _⟩ := cells3 B4 (w.heap.size + 1) _ _ _ _ (.tail _ (.tail _ (.head _)))
  go_wp2_with fail
  refine (HSS2 _ B4.bel).out.mono ?_
  rintro e w4 ⟨rfl, hh⟩
  have B5 := B4.keep hh
  clear hh B4 f0 f1 f2
  go_wp2
  go_ret3
  exact ⟨rfl, B5.bel⟩
theorem wQuo_zero (b : Bool) (m : Int) (n1 : Bool) (a1 : Option Addr) (c1 k1 : Nat) (e1 : Int) (n2 : Bool) (a2 : Option Addr) (c2 k2 : Nat) (e2 : Int) (s2 : Int) (w : World) (hs2 : (s2 == 0) = false)
    (HW : ∀ g W, Below w.heap.size w W → At3 W g 0 n1 a1 k1 c1 e1 → At3 W g 3 n2 a2 k2 c2 e2 → Calls Tryz.prog 43 #[.int .u8 (fm b), .int .u8 m, .slice (some ⟨g, 0, none⟩) 2 2] W fun e w' => e = .returned (.tuple #[wyV b m, .int .i64 0]) ∧ Below W.heap.size W w')
    (HS2 : ∀ W, Below w.heap.size w W → Calls Tryz.prog 44 #[dV n2 a2 k2 c2 e2] W fun e w' => e = .returned (.int .i64 s2) ∧ Below W.heap.size W w')
    (HS1 : ∀ W, Below w.heap.size w W → Calls Tryz.prog 44 #[dV n1 a1 k1 c1 e1] W fun e w' => e = .returned (.int .i64 0) ∧ Below W.heap.size W w') :
    Calls Tryz.prog 22 #[.int .u8 (fm b), .int .u8 m, dV n1 a1 k1 c1 e1, dV n2 a2 k2 c2 e2] w fun e w' => e = .returned (.tuple #[.int .u64 0, .int .u8 0, .int .i64 0]) ∧ Below w.heap.size w w' := by
  have HSS2 := fun W hW => Hide.mk (HS2 W hW)
  have HSS1 := fun W hW => Hide.mk (HS1 W hW)
  clear HS2 HS1
  have B3 := (((Bx.nil w).push (DO n1 a1 k1 c1 e1)).push (DO n2 a2 k2 c2 e2)).push (.cells #[.bool n1, .slice a1 k1 c1, .int .i64 e1, .bool n2, .slice a2 k2 c2, .int .i64 e2] 26 (0, 0))
  rw [show ((w.alloc (DO n1 a1 k1 c1 e1)).alloc (DO n2 a2 k2 c2 e2)).heap.size = w.heap.size + 1 + 1 by simp, show (w.alloc (DO n1 a1 k1 c1 e1)).heap.size = w.heap.size + 1 by simp] at B3
  have HH := Hide.mk (HW (w.heap.size + 1 + 1) _ B3.bel ⟨B3.cell _ _ _ (.head _) 0, B3.cell _ _ _ (.head _) 1, B3.cell _ _ _ (.head _) 2⟩ ⟨B3.cell _ _ _ (.head _) 3, B3.cell _ _ _ (.head _) 4, B3.cell _ _ _ (.head _) 5⟩)
  clear HW
  go_enter Tryz.func22, Tryz.ntmps22
  go_wp2_with fail
  refine HH.out.mono ?_
  rintro e w3 ⟨rfl, h3⟩
  have B4 := (B3.keep h3).push (wyO b m)
  clear h3 HH B3
  obtain ⟨⟨f0, f1, f2⟩, _⟩ := cells3 B4 (w.heap.size + 1) _ _ _ _ (.tail _ (.tail _ (.head _)))
  go_wp2_with fail
  refine (HSS2 _ B4.bel).out.mono ?_
  rintro e w4 ⟨rfl, hh⟩
  have B5 := B4.keep hh
  clear hh B4 f0 f1 f2
  obtain ⟨⟨f0, f1, f2⟩, _⟩ := cells3 B5 w.heap.size _ _ _ _ (.tail _ (.tail _ (.tail _ (.head _))))
  go_wp2_with fail
  refine (HSS1 _ B5.bel).out.mono ?_
  rintro e w5 ⟨rfl, hh⟩
  have B6 := B5.keep hh
  clear hh B5 f0 f1 f2
  obtain ⟨f0, f1, f2, f3, f4⟩ := way_cells B6 w3.heap.size b m (.head _)
  go_wp2_with fail
  refine (wPlusZero b m _).mono ?_
  rintro e w6 ⟨rfl, h6⟩
  have B7 := B6.keep h6
  go_wp2
  go_ret3
  exact ⟨rfl, B7.bel⟩
set_option maxHeartbeats 1000000 in
theorem wQuo_good (b : Bool) (m : Int) (n1 : Bool) (a1 : Option Addr) (c1 k1 : Nat) (e1 : Int) (n2 : Bool) (a2 : Option Addr) (c2 k2 : Nat) (e2 : Int) (s1 s2 : Int) (nn : Bool) (T high W0 X0 : Int) (more : Bool) (w : World) (hs1 : (s1 == 0) = false) (hs2 : (s2 == 0) = false)
    (HW : ∀ g W, Below w.heap.size w W → At3 W g 0 n1 a1 k1 c1 e1 → At3 W g 3 n2 a2 k2 c2 e2 → Calls Tryz.prog 43 #[.int .u8 (fm b), .int .u8 m, .slice (some ⟨g, 0, none⟩) 2 2] W fun e w' => e = .returned (.tuple #[wyV b m, .int .i64 0]) ∧ Below W.heap.size W w')
    (HS2 : ∀ W, Below w.heap.size w W → Calls Tryz.prog 44 #[dV n2 a2 k2 c2 e2] W fun e w' => e = .returned (.int .i64 s2) ∧ Below W.heap.size W w')
    (HS1 : ∀ W, Below w.heap.size w W → Calls Tryz.prog 44 #[dV n1 a1 k1 c1 e1] W fun e w' => e = .returned (.int .i64 s1) ∧ Below W.heap.size W w')
    (HN : ∀ W, Below w.heap.size w W → Calls Tryz.prog 61 #[dV n1 a1 k1 c1 e1, dV n2 a2 k2 c2 e2] W fun e w' => e = .returned (snV nn T high more) ∧ Below W.heap.size W w')
    (HR : ∀ W, Below w.heap.size w W → Calls Tryz.prog 46 #[wyV b m, snV nn T high more] W fun e w' => e = .returned (.tuple #[.int .u64 W0, .int .u8 X0, .int .i64 0]) ∧ Below W.heap.size W w') :
    Calls Tryz.prog 22 #[.int .u8 (fm b), .int .u8 m, dV n1 a1 k1 c1 e1, dV n2 a2 k2 c2 e2] w fun e w' => e = .returned (.tuple #[.int .u64 W0, .int .u8 X0, .int .i64 0]) ∧ Below w.heap.size w w' := by
  have HSS2 := fun W hW => Hide.mk (HS2 W hW)
  have HSS1 := fun W hW => Hide.mk (HS1 W hW)
  have HNN := fun W hW => Hide.mk (HN W hW)
  have HRR := fun W hW => Hide.mk (HR W hW)
  clear HS2 HS1 HN HR
  have B3 := (((Bx.nil w).push (DO n1 a1 k1 c1 e1)).push (DO n2 a2 k2 c2 e2)).push (.cells #[.bool n1, .slice a1 k1 c1, .int .i64 e1, .bool n2, .slice a2 k2 c2, .int .i64 e2] 26 (0, 0))
  rw [show ((w.alloc (DO n1 a1 k1 c1 e1)).alloc (DO n2 a2 k2 c2 e2)).heap.size = w.heap.size + 1 + 1 by simp, show (w.alloc (DO n1 a1 k1 c1 e1)).heap.size = w.heap.size + 1 by simp] at B3
  have HH := Hide.mk (HW (w.heap.size + 1 + 1) _ B3.bel ⟨B3.cell _ _ _ (.head _) 0, B3.cell _ _ _ (.head _) 1, B3.cell _ _ _ (.head _) 2⟩ ⟨B3.cell _ _ _ (.head _) 3, B3.cell _ _ _ (.head _) 4, B3.cell _ _ _ (.head _) 5⟩)
  clear HW
  go_enter Tryz.func22, Tryz.ntmps22
  go_wp2_with fail
  refine HH.out.mono ?_
  rintro e w3 ⟨rfl, h3⟩
  have B4 := (B3.keep h3).push (wyO b m)
  clear h3 HH B3
  obtain ⟨⟨f0, f1, f2⟩, _⟩ := cells3 B4 (w.heap.size + 1) _ _ _ _ (.tail _ (.tail _ (.head _)))
  go_wp2_with fail
  refine (HSS2 _ B4.bel).out.mono ?_
  rintro e w4 ⟨rfl, hh⟩
  have B5 := B4.keep hh
  clear hh B4 f0 f1 f2
  obtain ⟨⟨f0, f1, f2⟩, _⟩ := cells3 B5 w.heap.size _ _ _ _ (.tail _ (.tail _ (.tail _ (.head _))))
  go_wp2_with fail
  refine (HSS1 _ B5.bel).out.mono ?_
  rintro e w5 ⟨rfl, hh⟩
  have B6 := B5.keep hh
  clear hh B5 f0 f1 f2
  go_wp2_with fail
  have HI := (B6.sub (L' := [(w3.heap.size, wyO b m), (w.heap.size + 1, DO n2 a2 k2 c2 e2), (w.heap.size, DO n1 a1 k1 c1 e1)]) (by simp)).drew
  have sh := fun W (hW : Bx w [(w3.heap.size, wyO b m), (w.heap.size + 1, DO n2 a2 k2 c2 e2), (w.heap.size, DO n1 a1 k1 c1 e1)] W) => And.intro (way_cells hW w3.heap.size b m (.head _)) (And.intro (cells3 hW (w.heap.size + 1) _ _ _ _ (.tail _ (.head _))).1 (cells3 hW w.heap.size _ _ _ _ (.tail _ (.tail _ (.head _)))).1)
  refine Drawn.enter (Bx w [(w3.heap.size, wyO b m), (w.heap.size + 1, DO n2 a2 k2 c2 e2), (w.heap.size, DO n1 a1 k1 c1 e1)]) (by kernel_rfl) ?_
  refine Drawn.tk (i := 0) (v := ?v362) rfl (fun W hW => ?_) HI ?_
  rotate_left
  · have ⟨⟨g0, g1, g2, g3, g4⟩, ⟨f0, f1, f2⟩, t0, t1, t2⟩ := sh W hW
    go_simp <;> exact rfl
  refine Drawn.tk (i := 1) (v := ?v363) rfl (fun W hW => ?_) HI ?_
  rotate_left
  · have ⟨⟨g0, g1, g2, g3, g4⟩, ⟨f0, f1, f2⟩, t0, t1, t2⟩ := sh W hW
    go_simp <;> exact rfl
  refine Drawn.tk (i := 2) (v := ?v364) rfl (fun W hW => ?_) HI ?_
  rotate_left
  · have ⟨⟨g0, g1, g2, g3, g4⟩, ⟨f0, f1, f2⟩, t0, t1, t2⟩ := sh W hW
    go_simp <;> exact rfl
  refine Drawn.one (j := 3) (by kernel_rfl) rfl (fun K hK => ?_)
  go_simp
  refine ((HNN _ HI.bel).out).mono ?_
  rintro e wn ⟨rfl, hn⟩
  refine hK _ _ (HI.keep hn) ?_
  clear hK K
  replace HI := HI.keep hn
  clear hn
  refine Drawn.one (j := 4) (by kernel_rfl) rfl (fun K hK => ?_)
  go_simp
  refine ((HRR _ HI.bel).out).mono ?_
  rintro e wn ⟨rfl, hn⟩
  refine hK _ _ (HI.keep hn) ?_
  clear hK K
  replace HI := HI.keep hn
  clear hn
  refine Drawn.tk (i := 5) (v := ?v365) rfl (fun W hW => ?_) HI ?_
  rotate_left
  · have ⟨⟨g0, g1, g2, g3, g4⟩, ⟨f0, f1, f2⟩, t0, t1, t2⟩ := sh W hW
    go_simp <;> exact rfl
  refine Drawn.tk (i := 6) (v := ?v366) rfl (fun W hW => ?_) HI ?_
  rotate_left
  · have ⟨⟨g0, g1, g2, g3, g4⟩, ⟨f0, f1, f2⟩, t0, t1, t2⟩ := sh W hW
    go_simp <;> exact rfl
  refine Drawn.tk (i := 7) (v := ?v367) rfl (fun W hW => ?_) HI ?_
  rotate_left
  · have ⟨⟨g0, g1, g2, g3, g4⟩, ⟨f0, f1, f2⟩, t0, t1, t2⟩ := sh W hW
    go_simp <;> exact rfl
  refine Drawn.tk (i := 8) (v := ?v368) rfl (fun W hW => ?_) HI ?_
  rotate_left
  · have ⟨⟨g0, g1, g2, g3, g4⟩, ⟨f0, f1, f2⟩, t0, t1, t2⟩ := sh W hW
    go_simp <;> exact rfl
  refine Drawn.tk (i := 9) (v := ?v369) rfl (fun W hW => ?_) HI ?_
  rotate_left
  · have ⟨⟨g0, g1, g2, g3, g4⟩, ⟨f0, f1, f2⟩, t0, t1, t2⟩ := sh W hW
    go_simp <;> exact rfl
  refine Drawn.tk (i := 10) (v := ?v370) rfl (fun W hW => ?_) HI ?_
  rotate_left
  · have ⟨⟨g0, g1, g2, g3, g4⟩, ⟨f0, f1, f2⟩, t0, t1, t2⟩ := sh W hW
    go_simp <;> exact rfl
  refine Drawn.done (by kernel_rfl) ?_
  try go_simp
  go_wp2
  go_ret3
  exact ⟨rfl, HI.bel⟩
theorem wRoot_zero (b : Bool) (m : Int) (n : Bool) (a : Option Addr) (c k : Nat) (ex : Int) (w : World)
    (HW : ∀ g W, Below w.heap.size w W → At3 W g 0 n a k c ex → Calls Tryz.prog 43 #[.int .u8 (fm b), .int .u8 m, .slice (some ⟨g, 0, none⟩) 1 1] W fun e w' => e = .returned (.tuple #[wyV b m, .int .i64 0]) ∧ Below W.heap.size W w')
    (HS : ∀ W, Below w.heap.size w W → Calls Tryz.prog 44 #[dV n a k c ex] W fun e w' => e = .returned (.int .i64 0) ∧ Below W.heap.size W w') :
    Calls Tryz.prog 25 #[.int .u8 (fm b), .int .u8 m, dV n a k c ex] w fun e w' => e = .returned (.tuple #[.int .u64 0, .int .u8 0, .int .i64 0]) ∧ Below w.heap.size w w' := by
  have B2 := ((Bx.nil w).push (DO n a k c ex)).push (DO n a k c ex)
  rw [show (w.alloc (DO n a k c ex)).heap.size = w.heap.size + 1 by simp] at B2
  have HH := Hide.mk (HW (w.heap.size + 1) _ B2.bel (at3_of B2 (.head _)))
  have HSS := fun W hW => Hide.mk (HS W hW)
  clear HW HS
  go_enter Tryz.func25, Tryz.ntmps25
  go_wp2_with fail
  refine HH.out.mono ?_
  rintro e w3 ⟨rfl, h3⟩
  have B3 := (B2.keep h3).push (wyO b m)
  clear h3 HH B2
  obtain ⟨⟨f0, f1, f2⟩, _⟩ := cells3 B3 w.heap.size _ _ _ _ (.tail _ (.tail _ (.head _)))
  go_wp2_with fail
  refine (HSS _ B3.bel).out.mono ?_
  rintro e w9 ⟨rfl, h9⟩
  have B9 := B3.keep h9
  clear h9 B3 f0 f1 f2
  obtain ⟨⟨f0, f1, f2⟩, _⟩ := cells3 B9 w.heap.size _ _ _ _ (.tail _ (.tail _ (.head _)))
  go_wp2_with fail
  refine (HSS _ B9.bel).out.mono ?_
  rintro e w4 ⟨rfl, h4⟩
  have B4 := B9.keep h4
  clear h4 B9 f0 f1 f2
  obtain ⟨f0, f1, f2, f3, f4⟩ := way_cells B4 w3.heap.size b m (.head _)
  go_wp2_with fail
  refine (wPlusZero b m _).mono ?_
  rintro e w5 ⟨rfl, h5⟩
  have B5 := B4.keep h5
  go_wp2
  go_ret3
  exact ⟨rfl, B5.bel⟩
set_option maxHeartbeats 1000000 in
theorem wRoot_good (b : Bool) (m : Int) (n : Bool) (a : Option Addr) (c k : Nat) (ex s : Int) (nn : Bool) (T high W0 X0 : Int) (more : Bool) (w : World) (hs : (s == 0) = false) (hs0 : ¬ s < 0)
    (HW : ∀ g W, Below w.heap.size w W → At3 W g 0 n a k c ex → Calls Tryz.prog 43 #[.int .u8 (fm b), .int .u8 m, .slice (some ⟨g, 0, none⟩) 1 1] W fun e w' => e = .returned (.tuple #[wyV b m, .int .i64 0]) ∧ Below W.heap.size W w')
    (HS : ∀ W, Below w.heap.size w W → Calls Tryz.prog 44 #[dV n a k c ex] W fun e w' => e = .returned (.int .i64 s) ∧ Below W.heap.size W w')
    (HN : ∀ W, Below w.heap.size w W → Calls Tryz.prog 64 #[dV n a k c ex] W fun e w' => e = .returned (snV nn T high more) ∧ Below W.heap.size W w')
    (HR : ∀ W, Below w.heap.size w W → Calls Tryz.prog 46 #[wyV b m, snV nn T high more] W fun e w' => e = .returned (.tuple #[.int .u64 W0, .int .u8 X0, .int .i64 0]) ∧ Below W.heap.size W w') :
    Calls Tryz.prog 25 #[.int .u8 (fm b), .int .u8 m, dV n a k c ex] w fun e w' => e = .returned (.tuple #[.int .u64 W0, .int .u8 X0, .int .i64 0]) ∧ Below w.heap.size w w' := by
  have B2 := ((Bx.nil w).push (DO n a k c ex)).push (DO n a k c ex)
  rw [show (w.alloc (DO n a k c ex)).heap.size = w.heap.size + 1 by simp] at B2
  have HH := Hide.mk (HW (w.heap.size + 1) _ B2.bel (at3_of B2 (.head _)))
  have HSS := fun W hW => Hide.mk (HS W hW)
  have HNN := fun W hW => Hide.mk (HN W hW)
  have HRR := fun W hW => Hide.mk (HR W hW)
  clear HW HS HN HR
  go_enter Tryz.func25, Tryz.ntmps25
  go_wp2_with fail
  refine HH.out.mono ?_
  rintro e w3 ⟨rfl, h3⟩
  have B3 := (B2.keep h3).push (wyO b m)
  clear h3 HH B2
  obtain ⟨⟨f0, f1, f2⟩, _⟩ := cells3 B3 w.heap.size _ _ _ _ (.tail _ (.tail _ (.head _)))
  go_wp2_with fail
  refine (HSS _ B3.bel).out.mono ?_
  rintro e w9 ⟨rfl, h9⟩
  have B9 := B3.keep h9
  clear h9 B3 f0 f1 f2
  obtain ⟨⟨f0, f1, f2⟩, _⟩ := cells3 B9 w.heap.size _ _ _ _ (.tail _ (.tail _ (.head _)))
  go_wp2_with fail
  refine (HSS _ B9.bel).out.mono ?_
  rintro e w4 ⟨rfl, h4⟩
  have B4 := B9.keep h4
  clear h4 B9 f0 f1 f2
  go_wp2_with fail
  have HI := (B4.sub (L' := [(w3.heap.size, wyO b m), (w.heap.size, DO n a k c ex)]) (by simp)).drew
  have sh := fun W (hW : Bx w [(w3.heap.size, wyO b m), (w.heap.size, DO n a k c ex)] W) => And.intro (way_cells hW w3.heap.size b m (.head _)) (cells3 hW w.heap.size _ _ _ _ (.tail _ (.head _))).1
  refine Drawn.enter (Bx w [(w3.heap.size, wyO b m), (w.heap.size, DO n a k c ex)]) (by kernel_rfl) ?_
  refine Drawn.tk (i := 0) (v := ?v371) rfl (fun W hW => ?_) HI ?_
  rotate_left
  · have ⟨⟨g0, g1, g2, g3, g4⟩, f0, f1, f2⟩ := sh W hW
    go_simp <;> exact rfl
  refine Drawn.tk (i := 1) (v := ?v372) rfl (fun W hW => ?_) HI ?_
  rotate_left
  · have ⟨⟨g0, g1, g2, g3, g4⟩, f0, f1, f2⟩ := sh W hW
    go_simp <;> exact rfl
  refine Drawn.one (j := 2) (by kernel_rfl) rfl (fun K hK => ?_)
  go_simp
  refine ((HNN _ HI.bel).out).mono ?_
  rintro e wn ⟨rfl, hn⟩
  refine hK _ _ (HI.keep hn) ?_
  clear hK K
  replace HI := HI.keep hn
  clear hn
  refine Drawn.one (j := 3) (by kernel_rfl) rfl (fun K hK => ?_)
  go_simp
  refine ((HRR _ HI.bel).out).mono ?_
  rintro e wn ⟨rfl, hn⟩
  refine hK _ _ (HI.keep hn) ?_
  clear hK K
  replace HI := HI.keep hn
  clear hn
  refine Drawn.tk (i := 4) (v := ?v373) rfl (fun W hW => ?_) HI ?_
  rotate_left
  · have ⟨⟨g0, g1, g2, g3, g4⟩, f0, f1, f2⟩ := sh W hW
    go_simp <;> exact rfl
  refine Drawn.tk (i := 5) (v := ?v374) rfl (fun W hW => ?_) HI ?_
  rotate_left
  · have ⟨⟨g0, g1, g2, g3, g4⟩, f0, f1, f2⟩ := sh W hW
    go_simp <;> exact rfl
  refine Drawn.tk (i := 6) (v := ?v375) rfl (fun W hW => ?_) HI ?_
  rotate_left
  · have ⟨⟨g0, g1, g2, g3, g4⟩, f0, f1, f2⟩ := sh W hW
    go_simp <;> exact rfl
  refine Drawn.tk (i := 7) (v := ?v376) rfl (fun W hW => ?_) HI ?_
  rotate_left
  · have ⟨⟨g0, g1, g2, g3, g4⟩, f0, f1, f2⟩ := sh W hW
    go_simp <;> exact rfl
  refine Drawn.tk (i := 8) (v := ?v377) rfl (fun W hW => ?_) HI ?_
  rotate_left
  · have ⟨⟨g0, g1, g2, g3, g4⟩, f0, f1, f2⟩ := sh W hW
    go_simp <;> exact rfl
  refine Drawn.tk (i := 9) (v := ?v378) rfl (fun W hW => ?_) HI ?_
  rotate_left
  · have ⟨⟨g0, g1, g2, g3, g4⟩, f0, f1, f2⟩ := sh W hW
    go_simp <;> exact rfl
  refine Drawn.done (by kernel_rfl) ?_
  try go_simp
  go_wp2
  go_ret3
  exact ⟨rfl, HI.bel⟩
end Go.Proofs.YtdnghibkagcbcaaGreatDoor

namespace Go.Proofs.YtdnghibkagcbcaaGreatDoor
open Go.RowKit Go.Wd Go.Box
set_option linter.unusedVariables false
set_option maxRecDepth 3000
/-- Numbers below 2^N in size, in units of 2^E, with which the reference reckons. -/
structure Rm (s E : Int) (N : Nat) : Prop where
  lo : -(2 ^ N) < s
  hi : s < 2 ^ N
/-- X in half units of U. -/
structure HalfAt (X U h : Int) (g : Bool) : Prop where
  up : 0 < U
  xp : 0 < X
  eq : ∃ r, 2 * X = h * U + r ∧ 0 ≤ r ∧ r < U ∧ g = decide (r ≠ 0)
def flr (n : Bool) (h : Int) (g : Bool) : Int := if n then (if plc h g = 0 then -(h / 2) else -(h / 2 + 1)) else h / 2
/-- What is taken, by the mode: the lower neighbour or the upper one. -/
def isHigh (m : Int) (n : Bool) (h : Int) (g : Bool) : Bool :=
  if m = 5 then false else if m = 4 then true else if m = 3 then n else if plc h g = 2 then (if m = 2 then !n else decide (flr n h g % 2 ≠ 0)) else decide ((plc h g = 3) = (n = false))
end Go.Proofs.YtdnghibkagcbcaaGreatDoor

namespace Go.Proofs.YtdnghibkagcbcaaGreatDoor
open Go.RowKit Go.Wd Go.Box
set_option linter.unusedVariables false
set_option maxRecDepth 3000
end Go.Proofs.YtdnghibkagcbcaaGreatDoor
