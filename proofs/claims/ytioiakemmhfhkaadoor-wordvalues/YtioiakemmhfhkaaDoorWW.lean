import Derived.Test.YtioiakemmhfhkaaDoorWV
namespace Go.Proofs.YtioiakemmhfhkaaDoor
open Go.RowKit Go.Wd Go.Box
set_option linter.unusedVariables false
set_option maxRecDepth 3000
set_option maxHeartbeats 4000000 in
theorem rOf_lo11 (b n : Bool) (a : Option Addr) (c : Nat) (zs : List Int) (ex : Int) (w : World) (hl : Lie w a zs) (g : DG n zs ex) (hz : 0 < zs.length) {B : Nat} (hB : BitLen (Nt.val zs) B) (hb : B ≤ 131072) (p1 : ex + B ≤ wd b) (p2 : lo b ≤ ex) (p3 : (B : Int) ≤ fc b + 1) (hU : (B : Int) + ex - fc b - 1 < lo b) (k : Nat) (hk : (k : Int) = ex - (lo b)) (hk2 : k ≤ 1000) (hff : Nt.val zs * 2 ^ k < 4294967296 ^ 4096) (x0 : Int) (hx0 : 0 ≤ x0) (hx1 : x0 < 4294967296) (hG : Good [x0] (Nt.val zs * 2 ^ k)) (hN : fr b ≤ x0) (hN2 : x0 < 2 * fr b) (hE : ((lo b) - lo b + 1) ≤ tp b) :
    Calls Tryd.prog 90 #[.int .u8 (fm b), dV n a zs.length c ex] w fun e w' => e = .returned (.tuple #[.int .u64 (sd b (((lo b) - lo b + 1) * fr b + (x0 - fr b)) n), .bool true]) ∧ Below w.heap.size w w' := by
  have B1 := (Bx.nil w).push (DO n a zs.length c ex)
  have hx := g.ex_bd
  have hfc := fc_bd b
  have hlo := lo_bd b
  have HBL := Hide.mk hB
  clear hB
  have HFF := Hide.mk hff
  have HG := Hide.mk hG
  have hfr := fr_le b
  have hfp := fr_pos b
  clear hff hG
  go_enter Tryd.func90, Tryd.ntmps90
  go_wp2_with fail
  refine (rSgn n a c zs.length ex hz _).mono ?_
  rintro e w2 ⟨s, rfl, ds, h2⟩
  have B2 := B1.keep h2
  obtain ⟨⟨f0, f1, f2⟩, _⟩ := cells3 B2 w.heap.size _ _ _ _ (.head _)
  clear h2 B1
  go_wp2_with fail
  refine (dreftop54 n a c zs ex _ (hl.below B2.bel (Nat.le_refl _)) g hz).mono ?_
  rintro e w3 ⟨B3, rfl, hB3, _, h3⟩
  obtain rfl := hB3.unique HBL.out
  have HI := B2.keep h3
  clear h3 B2 hB3 f0 f1 f2 ds
  go_wp2_with fail
  replace HI := HI.drew
  have sh := fun W (hW : Bx w [(w.heap.size, DO n a zs.length c ex)] W) => (cells3 hW w.heap.size _ _ _ _ (.head _)).1
  refine Drawn.enter (Bx w [(w.heap.size, DO n a zs.length c ex)]) (by kernel_rfl) ?_
  refine Drawn.take (i := 0) (v := ?v0) rfl (by kernel_rfl) (by kernel_rfl) (by kernel_rfl) (fun _ _ _ h => h) (by kernel_rfl) (fun W hW => ?_) HI ?_
  rotate_left
  · have ⟨q0, q1, q2⟩ := sh W hW
    go_simp <;> exact rfl
  refine Drawn.take (i := 1) (v := ?v1) rfl (by kernel_rfl) (by kernel_rfl) (by kernel_rfl) (fun _ _ _ h => h) (by kernel_rfl) (fun W hW => ?_) HI ?_
  rotate_left
  · have ⟨q0, q1, q2⟩ := sh W hW
    go_simp <;> exact rfl
  refine Drawn.one (j := 2) (by kernel_rfl) rfl (fun K hK => ?_)
  go_simp
  refine (rWide b _).mono ?_
  rintro e wn ⟨rfl, hn⟩
  refine hK _ _ (HI.keep hn) ?_
  clear hK K
  replace HI := HI.keep hn
  clear hn
  refine Drawn.take (i := 3) (v := .bool false) rfl (by kernel_rfl) (by kernel_rfl) (by kernel_rfl) (fun _ _ _ h => h) (by kernel_rfl) (fun W hW => ?_) HI ?_
  · have ⟨q0, q1, q2⟩ := sh W hW
    go_simp <;> (first | omega | (simp; omega))
  refine Drawn.take (i := 4) (v := ?v2) rfl (by kernel_rfl) (by kernel_rfl) (by kernel_rfl) (fun _ _ _ h => h) (by kernel_rfl) (fun W hW => ?_) HI ?_
  rotate_left
  · have ⟨q0, q1, q2⟩ := sh W hW
    go_simp <;> exact rfl
  refine Drawn.take (i := 5) (v := ?v3) rfl (by kernel_rfl) (by kernel_rfl) (by kernel_rfl) (fun _ _ _ h => h) (by kernel_rfl) (fun W hW => ?_) HI ?_
  rotate_left
  · have ⟨q0, q1, q2⟩ := sh W hW
    go_simp <;> exact rfl
  refine Drawn.take (i := 6) (v := ?v4) rfl (by kernel_rfl) (by kernel_rfl) (by kernel_rfl) (fun _ _ _ h => h) (by kernel_rfl) (fun W hW => ?_) HI ?_
  rotate_left
  · have ⟨q0, q1, q2⟩ := sh W hW
    go_simp <;> exact rfl
  refine Drawn.take (i := 7) (v := ?v5) rfl (by kernel_rfl) (by kernel_rfl) (by kernel_rfl) (fun _ _ _ h => h) (by kernel_rfl) (fun W hW => ?_) HI ?_
  rotate_left
  · have ⟨q0, q1, q2⟩ := sh W hW
    go_simp <;> exact rfl
  refine Drawn.one (j := 8) (by kernel_rfl) rfl (fun K hK => ?_)
  go_simp
  refine (rLow b _).mono ?_
  rintro e wn ⟨rfl, hn⟩
  refine hK _ _ (HI.keep hn) ?_
  clear hK K
  replace HI := HI.keep hn
  clear hn
  refine Drawn.take (i := 9) (v := .bool false) rfl (by kernel_rfl) (by kernel_rfl) (by kernel_rfl) (fun _ _ _ h => h) (by kernel_rfl) (fun W hW => ?_) HI ?_
  · have ⟨q0, q1, q2⟩ := sh W hW
    go_simp <;> (first | omega | (simp; omega))
  refine Drawn.take (i := 10) (v := ?v6) rfl (by kernel_rfl) (by kernel_rfl) (by kernel_rfl) (fun _ _ _ h => h) (by kernel_rfl) (fun W hW => ?_) HI ?_
  rotate_left
  · have ⟨q0, q1, q2⟩ := sh W hW
    go_simp <;> exact rfl
  refine Drawn.take (i := 11) (v := ?v7) rfl (by kernel_rfl) (by kernel_rfl) (by kernel_rfl) (fun _ _ _ h => h) (by kernel_rfl) (fun W hW => ?_) HI ?_
  rotate_left
  · have ⟨q0, q1, q2⟩ := sh W hW
    go_simp <;> exact rfl
  refine Drawn.take (i := 12) (v := ?v8) rfl (by kernel_rfl) (by kernel_rfl) (by kernel_rfl) (fun _ _ _ h => h) (by kernel_rfl) (fun W hW => ?_) HI ?_
  rotate_left
  · have ⟨q0, q1, q2⟩ := sh W hW
    go_simp <;> exact rfl
  refine Drawn.take (i := 13) (v := ?v9) rfl (by kernel_rfl) (by kernel_rfl) (by kernel_rfl) (fun _ _ _ h => h) (by kernel_rfl) (fun W hW => ?_) HI ?_
  rotate_left
  · have ⟨q0, q1, q2⟩ := sh W hW
    go_simp <;> exact rfl
  refine Drawn.take (i := 15) (v := ?v10) rfl (by kernel_rfl) (by kernel_rfl) (by kernel_rfl) (fun _ _ _ h => h) (by kernel_rfl) (fun W hW => ?_) HI ?_
  rotate_left
  · have ⟨q0, q1, q2⟩ := sh W hW
    go_simp <;> exact rfl
  refine Drawn.one (j := 14) (by kernel_rfl) rfl (fun K hK => ?_)
  go_simp
  refine (refLenN a c zs _ (hl.below HI.bel (Nat.le_refl _)) g.good).mono ?_
  rintro e wl ⟨rfl, B3, rfl, hB3, _⟩
  obtain rfl := hB3.unique HBL.out
  refine hK _ _ HI ?_
  clear hK K hB3
  refine Drawn.one (j := 16) (by kernel_rfl) rfl (fun K hK => ?_)
  go_simp
  refine (rFrac b _).mono ?_
  rintro e wn ⟨rfl, hn⟩
  refine hK _ _ (HI.keep hn) ?_
  clear hK K
  replace HI := HI.keep hn
  clear hn
  refine Drawn.take (i := 17) (v := .int .i64 (fc b + 1)) rfl (by kernel_rfl) (by kernel_rfl) (by kernel_rfl) (fun _ _ _ h => h) (by kernel_rfl) (fun W hW => ?_) HI ?_
  · have ⟨q0, q1, q2⟩ := sh W hW
    go_simp <;> (exact wrap_ok (by omega) (by omega))
  refine Drawn.take (i := 18) (v := .bool false) rfl (by kernel_rfl) (by kernel_rfl) (by kernel_rfl) (fun _ _ _ h => h) (by kernel_rfl) (fun W hW => ?_) HI ?_
  · have ⟨q0, q1, q2⟩ := sh W hW
    go_simp <;> (first | omega | (simp; omega))
  refine Drawn.take (i := 19) (v := ?v11) rfl (by kernel_rfl) (by kernel_rfl) (by kernel_rfl) (fun _ _ _ h => h) (by kernel_rfl) (fun W hW => ?_) HI ?_
  rotate_left
  · have ⟨q0, q1, q2⟩ := sh W hW
    go_simp <;> exact rfl
  refine Drawn.done (by kernel_rfl) ?_
  try go_simp
  obtain ⟨q0, q1, q2⟩ := sh _ HI
  clear sh
  go_wp2_with fail
  refine (rFracE b _).mono ?_
  rintro e u ⟨rfl, rfl⟩
  go_wp2_with fail
  rw [Int.add_comm ex] at *
  refine (rLowE b _).mono ?_
  rintro e u ⟨rfl, rfl⟩
  go_wp2_with fail
  refine (rLowE b _).mono ?_
  rintro e u ⟨rfl, rfl⟩
  go_wp2_with fail
  refine (refUpN a c zs _ (hl.below HI.bel (Nat.le_refl _)) g.good (ex - (lo b)) k (by omega) (by omega) HFF.out).mono ?_
  rintro e w4 ⟨z4, a4, c4, rfl, h4, _⟩
  have HI4 := HI.keep h4.bel
  obtain ⟨⟨q0, q1, q2⟩, _⟩ := cells3 HI4 w.heap.size _ _ _ _ (.head _)
  obtain rfl : z4 = [x0] := h4.good.same HG.out rfl
  obtain ⟨bb, o, rfl⟩ := lie_some h4.lie (by simp)
  have k0 : w4.cell? ⟨bb, o, none⟩ = some (.int .u32 x0) := lie_cell h4.lie rfl (i := 0) (by simp)
  have hltb : w.heap.size < w4.heap.size := HI4.lt (.head _)
  clear h4 HFF HG HI hfc
  have hq : 0 < x0 / fr b := by
    have := Int.le_ediv_of_mul_le (c := fr b) (b := x0) (a := 1) hfp (by omega)
    omega
  go_wp2_with fail
  refine (rFracE b _).mono ?_
  rintro e u ⟨rfl, rfl⟩
  go_wp2_with fail
  rw [shr_fc]
  go_wp2_with fail
  refine (rFracE b _).mono ?_
  rintro e u ⟨rfl, rfl⟩
  go_wp2_with fail
  rw [shl_one]
  go_wp2_with fail
  refine (rLowE b _).mono ?_
  rintro e u ⟨rfl, rfl⟩
  go_wp2_with fail
  refine (rJoin b n _ _ (by omega) (by omega) (by omega) (by omega) _).mono ?_
  rintro e w9 ⟨rfl, h9⟩
  have B9 := (HI4.push (FO n 0 0)).bel
  have HB9 : Hide (Below w.heap.size w w9) := ⟨HI4.bel.trans ((below_then (below_alloc w4 _) h9).mono HI4.bel.size)⟩
  clear h9 B9 HI4 q0 q1 q2
  go_wp2
  go_ret2
  refine ⟨?_, HB9.out⟩

  first | rfl | (simp; done) | trace_state
set_option maxHeartbeats 4000000 in
theorem rOf_lo10 (b n : Bool) (a : Option Addr) (c : Nat) (zs : List Int) (ex : Int) (w : World) (hl : Lie w a zs) (g : DG n zs ex) (hz : 0 < zs.length) {B : Nat} (hB : BitLen (Nt.val zs) B) (hb : B ≤ 131072) (p1 : ex + B ≤ wd b) (p2 : lo b ≤ ex) (p3 : (B : Int) ≤ fc b + 1) (hU : (B : Int) + ex - fc b - 1 < lo b) (k : Nat) (hk : (k : Int) = ex - (lo b)) (hk2 : k ≤ 1000) (hff : Nt.val zs * 2 ^ k < 4294967296 ^ 4096) (x0 : Int) (hx0 : 0 ≤ x0) (hx1 : x0 < 4294967296) (hG : Good [x0] (Nt.val zs * 2 ^ k)) (hN : x0 < fr b) (hE : 0 ≤ tp b) :
    Calls Tryd.prog 90 #[.int .u8 (fm b), dV n a zs.length c ex] w fun e w' => e = .returned (.tuple #[.int .u64 (sd b (0 * fr b + x0) n), .bool true]) ∧ Below w.heap.size w w' := by
  have B1 := (Bx.nil w).push (DO n a zs.length c ex)
  have hx := g.ex_bd
  have hfc := fc_bd b
  have hlo := lo_bd b
  have HBL := Hide.mk hB
  clear hB
  have HFF := Hide.mk hff
  have HG := Hide.mk hG
  have hfr := fr_le b
  have hfp := fr_pos b
  clear hff hG
  go_enter Tryd.func90, Tryd.ntmps90
  go_wp2_with fail
  refine (rSgn n a c zs.length ex hz _).mono ?_
  rintro e w2 ⟨s, rfl, ds, h2⟩
  have B2 := B1.keep h2
  obtain ⟨⟨f0, f1, f2⟩, _⟩ := cells3 B2 w.heap.size _ _ _ _ (.head _)
  clear h2 B1
  go_wp2_with fail
  refine (dreftop54 n a c zs ex _ (hl.below B2.bel (Nat.le_refl _)) g hz).mono ?_
  rintro e w3 ⟨B3, rfl, hB3, _, h3⟩
  obtain rfl := hB3.unique HBL.out
  have HI := B2.keep h3
  clear h3 B2 hB3 f0 f1 f2 ds
  go_wp2_with fail
  replace HI := HI.drew
  have sh := fun W (hW : Bx w [(w.heap.size, DO n a zs.length c ex)] W) => (cells3 hW w.heap.size _ _ _ _ (.head _)).1
  refine Drawn.enter (Bx w [(w.heap.size, DO n a zs.length c ex)]) (by kernel_rfl) ?_
  refine Drawn.take (i := 0) (v := ?v12) rfl (by kernel_rfl) (by kernel_rfl) (by kernel_rfl) (fun _ _ _ h => h) (by kernel_rfl) (fun W hW => ?_) HI ?_
  rotate_left
  · have ⟨q0, q1, q2⟩ := sh W hW
    go_simp <;> exact rfl
  refine Drawn.take (i := 1) (v := ?v13) rfl (by kernel_rfl) (by kernel_rfl) (by kernel_rfl) (fun _ _ _ h => h) (by kernel_rfl) (fun W hW => ?_) HI ?_
  rotate_left
  · have ⟨q0, q1, q2⟩ := sh W hW
    go_simp <;> exact rfl
  refine Drawn.one (j := 2) (by kernel_rfl) rfl (fun K hK => ?_)
  go_simp
  refine (rWide b _).mono ?_
  rintro e wn ⟨rfl, hn⟩
  refine hK _ _ (HI.keep hn) ?_
  clear hK K
  replace HI := HI.keep hn
  clear hn
  refine Drawn.take (i := 3) (v := .bool false) rfl (by kernel_rfl) (by kernel_rfl) (by kernel_rfl) (fun _ _ _ h => h) (by kernel_rfl) (fun W hW => ?_) HI ?_
  · have ⟨q0, q1, q2⟩ := sh W hW
    go_simp <;> (first | omega | (simp; omega))
  refine Drawn.take (i := 4) (v := ?v14) rfl (by kernel_rfl) (by kernel_rfl) (by kernel_rfl) (fun _ _ _ h => h) (by kernel_rfl) (fun W hW => ?_) HI ?_
  rotate_left
  · have ⟨q0, q1, q2⟩ := sh W hW
    go_simp <;> exact rfl
  refine Drawn.take (i := 5) (v := ?v15) rfl (by kernel_rfl) (by kernel_rfl) (by kernel_rfl) (fun _ _ _ h => h) (by kernel_rfl) (fun W hW => ?_) HI ?_
  rotate_left
  · have ⟨q0, q1, q2⟩ := sh W hW
    go_simp <;> exact rfl
  refine Drawn.take (i := 6) (v := ?v16) rfl (by kernel_rfl) (by kernel_rfl) (by kernel_rfl) (fun _ _ _ h => h) (by kernel_rfl) (fun W hW => ?_) HI ?_
  rotate_left
  · have ⟨q0, q1, q2⟩ := sh W hW
    go_simp <;> exact rfl
  refine Drawn.take (i := 7) (v := ?v17) rfl (by kernel_rfl) (by kernel_rfl) (by kernel_rfl) (fun _ _ _ h => h) (by kernel_rfl) (fun W hW => ?_) HI ?_
  rotate_left
  · have ⟨q0, q1, q2⟩ := sh W hW
    go_simp <;> exact rfl
  refine Drawn.one (j := 8) (by kernel_rfl) rfl (fun K hK => ?_)
  go_simp
  refine (rLow b _).mono ?_
  rintro e wn ⟨rfl, hn⟩
  refine hK _ _ (HI.keep hn) ?_
  clear hK K
  replace HI := HI.keep hn
  clear hn
  refine Drawn.take (i := 9) (v := .bool false) rfl (by kernel_rfl) (by kernel_rfl) (by kernel_rfl) (fun _ _ _ h => h) (by kernel_rfl) (fun W hW => ?_) HI ?_
  · have ⟨q0, q1, q2⟩ := sh W hW
    go_simp <;> (first | omega | (simp; omega))
  refine Drawn.take (i := 10) (v := ?v18) rfl (by kernel_rfl) (by kernel_rfl) (by kernel_rfl) (fun _ _ _ h => h) (by kernel_rfl) (fun W hW => ?_) HI ?_
  rotate_left
  · have ⟨q0, q1, q2⟩ := sh W hW
    go_simp <;> exact rfl
  refine Drawn.take (i := 11) (v := ?v19) rfl (by kernel_rfl) (by kernel_rfl) (by kernel_rfl) (fun _ _ _ h => h) (by kernel_rfl) (fun W hW => ?_) HI ?_
  rotate_left
  · have ⟨q0, q1, q2⟩ := sh W hW
    go_simp <;> exact rfl
  refine Drawn.take (i := 12) (v := ?v20) rfl (by kernel_rfl) (by kernel_rfl) (by kernel_rfl) (fun _ _ _ h => h) (by kernel_rfl) (fun W hW => ?_) HI ?_
  rotate_left
  · have ⟨q0, q1, q2⟩ := sh W hW
    go_simp <;> exact rfl
  refine Drawn.take (i := 13) (v := ?v21) rfl (by kernel_rfl) (by kernel_rfl) (by kernel_rfl) (fun _ _ _ h => h) (by kernel_rfl) (fun W hW => ?_) HI ?_
  rotate_left
  · have ⟨q0, q1, q2⟩ := sh W hW
    go_simp <;> exact rfl
  refine Drawn.take (i := 15) (v := ?v22) rfl (by kernel_rfl) (by kernel_rfl) (by kernel_rfl) (fun _ _ _ h => h) (by kernel_rfl) (fun W hW => ?_) HI ?_
  rotate_left
  · have ⟨q0, q1, q2⟩ := sh W hW
    go_simp <;> exact rfl
  refine Drawn.one (j := 14) (by kernel_rfl) rfl (fun K hK => ?_)
  go_simp
  refine (refLenN a c zs _ (hl.below HI.bel (Nat.le_refl _)) g.good).mono ?_
  rintro e wl ⟨rfl, B3, rfl, hB3, _⟩
  obtain rfl := hB3.unique HBL.out
  refine hK _ _ HI ?_
  clear hK K hB3
  refine Drawn.one (j := 16) (by kernel_rfl) rfl (fun K hK => ?_)
  go_simp
  refine (rFrac b _).mono ?_
  rintro e wn ⟨rfl, hn⟩
  refine hK _ _ (HI.keep hn) ?_
  clear hK K
  replace HI := HI.keep hn
  clear hn
  refine Drawn.take (i := 17) (v := .int .i64 (fc b + 1)) rfl (by kernel_rfl) (by kernel_rfl) (by kernel_rfl) (fun _ _ _ h => h) (by kernel_rfl) (fun W hW => ?_) HI ?_
  · have ⟨q0, q1, q2⟩ := sh W hW
    go_simp <;> (exact wrap_ok (by omega) (by omega))
  refine Drawn.take (i := 18) (v := .bool false) rfl (by kernel_rfl) (by kernel_rfl) (by kernel_rfl) (fun _ _ _ h => h) (by kernel_rfl) (fun W hW => ?_) HI ?_
  · have ⟨q0, q1, q2⟩ := sh W hW
    go_simp <;> (first | omega | (simp; omega))
  refine Drawn.take (i := 19) (v := ?v23) rfl (by kernel_rfl) (by kernel_rfl) (by kernel_rfl) (fun _ _ _ h => h) (by kernel_rfl) (fun W hW => ?_) HI ?_
  rotate_left
  · have ⟨q0, q1, q2⟩ := sh W hW
    go_simp <;> exact rfl
  refine Drawn.done (by kernel_rfl) ?_
  try go_simp
  obtain ⟨q0, q1, q2⟩ := sh _ HI
  clear sh
  go_wp2_with fail
  refine (rFracE b _).mono ?_
  rintro e u ⟨rfl, rfl⟩
  go_wp2_with fail
  rw [Int.add_comm ex] at *
  refine (rLowE b _).mono ?_
  rintro e u ⟨rfl, rfl⟩
  go_wp2_with fail
  refine (rLowE b _).mono ?_
  rintro e u ⟨rfl, rfl⟩
  go_wp2_with fail
  refine (refUpN a c zs _ (hl.below HI.bel (Nat.le_refl _)) g.good (ex - (lo b)) k (by omega) (by omega) HFF.out).mono ?_
  rintro e w4 ⟨z4, a4, c4, rfl, h4, _⟩
  have HI4 := HI.keep h4.bel
  obtain ⟨⟨q0, q1, q2⟩, _⟩ := cells3 HI4 w.heap.size _ _ _ _ (.head _)
  obtain rfl : z4 = [x0] := h4.good.same HG.out rfl
  obtain ⟨bb, o, rfl⟩ := lie_some h4.lie (by simp)
  have k0 : w4.cell? ⟨bb, o, none⟩ = some (.int .u32 x0) := lie_cell h4.lie rfl (i := 0) (by simp)
  have hltb : w.heap.size < w4.heap.size := HI4.lt (.head _)
  clear h4 HFF HG HI hfc
  have hq : x0 / fr b ≤ 0 := by
    have := Int.ediv_eq_zero_of_lt (show 0 ≤ x0 by omega) hN
    omega
  go_wp2_with fail
  refine (rFracE b _).mono ?_
  rintro e u ⟨rfl, rfl⟩
  go_wp2_with fail
  rw [shr_fc]
  go_wp2_with fail
  refine (rJoin b n _ _ (by omega) (by omega) (by omega) (by omega) _).mono ?_
  rintro e w9 ⟨rfl, h9⟩
  have B9 := (HI4.push (FO n 0 0)).bel
  have HB9 : Hide (Below w.heap.size w w9) := ⟨HI4.bel.trans ((below_then (below_alloc w4 _) h9).mono HI4.bel.size)⟩
  clear h9 B9 HI4 q0 q1 q2
  go_wp2
  go_ret2
  refine ⟨?_, HB9.out⟩

  first | rfl | (simp; done) | trace_state
set_option maxHeartbeats 4000000 in
theorem rOf_lo21 (b n : Bool) (a : Option Addr) (c : Nat) (zs : List Int) (ex : Int) (w : World) (hl : Lie w a zs) (g : DG n zs ex) (hz : 0 < zs.length) {B : Nat} (hB : BitLen (Nt.val zs) B) (hb : B ≤ 131072) (p1 : ex + B ≤ wd b) (p2 : lo b ≤ ex) (p3 : (B : Int) ≤ fc b + 1) (hU : (B : Int) + ex - fc b - 1 < lo b) (k : Nat) (hk : (k : Int) = ex - (lo b)) (hk2 : k ≤ 1000) (hff : Nt.val zs * 2 ^ k < 4294967296 ^ 4096) (x0 x1 : Int) (hx0 : 0 ≤ x0) (hx1 : x0 < 4294967296) (hy0 : 0 ≤ x1) (hy1 : x1 < 4294967296) (hG : Good [x0, x1] (Nt.val zs * 2 ^ k)) (hN : fr b ≤ (x0 + x1 * 4294967296)) (hN2 : (x0 + x1 * 4294967296) < 2 * fr b) (hE : ((lo b) - lo b + 1) ≤ tp b) :
    Calls Tryd.prog 90 #[.int .u8 (fm b), dV n a zs.length c ex] w fun e w' => e = .returned (.tuple #[.int .u64 (sd b (((lo b) - lo b + 1) * fr b + ((x0 + x1 * 4294967296) - fr b)) n), .bool true]) ∧ Below w.heap.size w w' := by
  have B1 := (Bx.nil w).push (DO n a zs.length c ex)
  have hx := g.ex_bd
  have hfc := fc_bd b
  have hlo := lo_bd b
  have HBL := Hide.mk hB
  clear hB
  have HFF := Hide.mk hff
  have HG := Hide.mk hG
  have hfr := fr_le b
  have hfp := fr_pos b
  clear hff hG
  go_enter Tryd.func90, Tryd.ntmps90
  go_wp2_with fail
  refine (rSgn n a c zs.length ex hz _).mono ?_
  rintro e w2 ⟨s, rfl, ds, h2⟩
  have B2 := B1.keep h2
  obtain ⟨⟨f0, f1, f2⟩, _⟩ := cells3 B2 w.heap.size _ _ _ _ (.head _)
  clear h2 B1
  go_wp2_with fail
  refine (dreftop54 n a c zs ex _ (hl.below B2.bel (Nat.le_refl _)) g hz).mono ?_
  rintro e w3 ⟨B3, rfl, hB3, _, h3⟩
  obtain rfl := hB3.unique HBL.out
  have HI := B2.keep h3
  clear h3 B2 hB3 f0 f1 f2 ds
  go_wp2_with fail
  replace HI := HI.drew
  have sh := fun W (hW : Bx w [(w.heap.size, DO n a zs.length c ex)] W) => (cells3 hW w.heap.size _ _ _ _ (.head _)).1
  refine Drawn.enter (Bx w [(w.heap.size, DO n a zs.length c ex)]) (by kernel_rfl) ?_
  refine Drawn.take (i := 0) (v := ?v24) rfl (by kernel_rfl) (by kernel_rfl) (by kernel_rfl) (fun _ _ _ h => h) (by kernel_rfl) (fun W hW => ?_) HI ?_
  rotate_left
  · have ⟨q0, q1, q2⟩ := sh W hW
    go_simp <;> exact rfl
  refine Drawn.take (i := 1) (v := ?v25) rfl (by kernel_rfl) (by kernel_rfl) (by kernel_rfl) (fun _ _ _ h => h) (by kernel_rfl) (fun W hW => ?_) HI ?_
  rotate_left
  · have ⟨q0, q1, q2⟩ := sh W hW
    go_simp <;> exact rfl
  refine Drawn.one (j := 2) (by kernel_rfl) rfl (fun K hK => ?_)
  go_simp
  refine (rWide b _).mono ?_
  rintro e wn ⟨rfl, hn⟩
  refine hK _ _ (HI.keep hn) ?_
  clear hK K
  replace HI := HI.keep hn
  clear hn
  refine Drawn.take (i := 3) (v := .bool false) rfl (by kernel_rfl) (by kernel_rfl) (by kernel_rfl) (fun _ _ _ h => h) (by kernel_rfl) (fun W hW => ?_) HI ?_
  · have ⟨q0, q1, q2⟩ := sh W hW
    go_simp <;> (first | omega | (simp; omega))
  refine Drawn.take (i := 4) (v := ?v26) rfl (by kernel_rfl) (by kernel_rfl) (by kernel_rfl) (fun _ _ _ h => h) (by kernel_rfl) (fun W hW => ?_) HI ?_
  rotate_left
  · have ⟨q0, q1, q2⟩ := sh W hW
    go_simp <;> exact rfl
  refine Drawn.take (i := 5) (v := ?v27) rfl (by kernel_rfl) (by kernel_rfl) (by kernel_rfl) (fun _ _ _ h => h) (by kernel_rfl) (fun W hW => ?_) HI ?_
  rotate_left
  · have ⟨q0, q1, q2⟩ := sh W hW
    go_simp <;> exact rfl
  refine Drawn.take (i := 6) (v := ?v28) rfl (by kernel_rfl) (by kernel_rfl) (by kernel_rfl) (fun _ _ _ h => h) (by kernel_rfl) (fun W hW => ?_) HI ?_
  rotate_left
  · have ⟨q0, q1, q2⟩ := sh W hW
    go_simp <;> exact rfl
  refine Drawn.take (i := 7) (v := ?v29) rfl (by kernel_rfl) (by kernel_rfl) (by kernel_rfl) (fun _ _ _ h => h) (by kernel_rfl) (fun W hW => ?_) HI ?_
  rotate_left
  · have ⟨q0, q1, q2⟩ := sh W hW
    go_simp <;> exact rfl
  refine Drawn.one (j := 8) (by kernel_rfl) rfl (fun K hK => ?_)
  go_simp
  refine (rLow b _).mono ?_
  rintro e wn ⟨rfl, hn⟩
  refine hK _ _ (HI.keep hn) ?_
  clear hK K
  replace HI := HI.keep hn
  clear hn
  refine Drawn.take (i := 9) (v := .bool false) rfl (by kernel_rfl) (by kernel_rfl) (by kernel_rfl) (fun _ _ _ h => h) (by kernel_rfl) (fun W hW => ?_) HI ?_
  · have ⟨q0, q1, q2⟩ := sh W hW
    go_simp <;> (first | omega | (simp; omega))
  refine Drawn.take (i := 10) (v := ?v30) rfl (by kernel_rfl) (by kernel_rfl) (by kernel_rfl) (fun _ _ _ h => h) (by kernel_rfl) (fun W hW => ?_) HI ?_
  rotate_left
  · have ⟨q0, q1, q2⟩ := sh W hW
    go_simp <;> exact rfl
  refine Drawn.take (i := 11) (v := ?v31) rfl (by kernel_rfl) (by kernel_rfl) (by kernel_rfl) (fun _ _ _ h => h) (by kernel_rfl) (fun W hW => ?_) HI ?_
  rotate_left
  · have ⟨q0, q1, q2⟩ := sh W hW
    go_simp <;> exact rfl
  refine Drawn.take (i := 12) (v := ?v32) rfl (by kernel_rfl) (by kernel_rfl) (by kernel_rfl) (fun _ _ _ h => h) (by kernel_rfl) (fun W hW => ?_) HI ?_
  rotate_left
  · have ⟨q0, q1, q2⟩ := sh W hW
    go_simp <;> exact rfl
  refine Drawn.take (i := 13) (v := ?v33) rfl (by kernel_rfl) (by kernel_rfl) (by kernel_rfl) (fun _ _ _ h => h) (by kernel_rfl) (fun W hW => ?_) HI ?_
  rotate_left
  · have ⟨q0, q1, q2⟩ := sh W hW
    go_simp <;> exact rfl
  refine Drawn.take (i := 15) (v := ?v34) rfl (by kernel_rfl) (by kernel_rfl) (by kernel_rfl) (fun _ _ _ h => h) (by kernel_rfl) (fun W hW => ?_) HI ?_
  rotate_left
  · have ⟨q0, q1, q2⟩ := sh W hW
    go_simp <;> exact rfl
  refine Drawn.one (j := 14) (by kernel_rfl) rfl (fun K hK => ?_)
  go_simp
  refine (refLenN a c zs _ (hl.below HI.bel (Nat.le_refl _)) g.good).mono ?_
  rintro e wl ⟨rfl, B3, rfl, hB3, _⟩
  obtain rfl := hB3.unique HBL.out
  refine hK _ _ HI ?_
  clear hK K hB3
  refine Drawn.one (j := 16) (by kernel_rfl) rfl (fun K hK => ?_)
  go_simp
  refine (rFrac b _).mono ?_
  rintro e wn ⟨rfl, hn⟩
  refine hK _ _ (HI.keep hn) ?_
  clear hK K
  replace HI := HI.keep hn
  clear hn
  refine Drawn.take (i := 17) (v := .int .i64 (fc b + 1)) rfl (by kernel_rfl) (by kernel_rfl) (by kernel_rfl) (fun _ _ _ h => h) (by kernel_rfl) (fun W hW => ?_) HI ?_
  · have ⟨q0, q1, q2⟩ := sh W hW
    go_simp <;> (exact wrap_ok (by omega) (by omega))
  refine Drawn.take (i := 18) (v := .bool false) rfl (by kernel_rfl) (by kernel_rfl) (by kernel_rfl) (fun _ _ _ h => h) (by kernel_rfl) (fun W hW => ?_) HI ?_
  · have ⟨q0, q1, q2⟩ := sh W hW
    go_simp <;> (first | omega | (simp; omega))
  refine Drawn.take (i := 19) (v := ?v35) rfl (by kernel_rfl) (by kernel_rfl) (by kernel_rfl) (fun _ _ _ h => h) (by kernel_rfl) (fun W hW => ?_) HI ?_
  rotate_left
  · have ⟨q0, q1, q2⟩ := sh W hW
    go_simp <;> exact rfl
  refine Drawn.done (by kernel_rfl) ?_
  try go_simp
  obtain ⟨q0, q1, q2⟩ := sh _ HI
  clear sh
  go_wp2_with fail
  refine (rFracE b _).mono ?_
  rintro e u ⟨rfl, rfl⟩
  go_wp2_with fail
  rw [Int.add_comm ex] at *
  refine (rLowE b _).mono ?_
  rintro e u ⟨rfl, rfl⟩
  go_wp2_with fail
  refine (rLowE b _).mono ?_
  rintro e u ⟨rfl, rfl⟩
  go_wp2_with fail
  refine (refUpN a c zs _ (hl.below HI.bel (Nat.le_refl _)) g.good (ex - (lo b)) k (by omega) (by omega) HFF.out).mono ?_
  rintro e w4 ⟨z4, a4, c4, rfl, h4, _⟩
  have HI4 := HI.keep h4.bel
  obtain ⟨⟨q0, q1, q2⟩, _⟩ := cells3 HI4 w.heap.size _ _ _ _ (.head _)
  obtain rfl : z4 = [x0, x1] := h4.good.same HG.out rfl
  obtain ⟨bb, o, rfl⟩ := lie_some h4.lie (by simp)
  have k0 : w4.cell? ⟨bb, o, none⟩ = some (.int .u32 x0) := lie_cell h4.lie rfl (i := 0) (by simp)
  have k1 : w4.cell? ⟨bb, o + 1, none⟩ = some (.int .u32 x1) := lie_cell h4.lie rfl (i := 1) (by simp)
  have hltb : w.heap.size < w4.heap.size := HI4.lt (.head _)
  clear h4 HFF HG HI hfc
  have hq : 0 < (x0 + x1 * 4294967296) / fr b := by
    have := Int.le_ediv_of_mul_le (c := fr b) (b := (x0 + x1 * 4294967296)) (a := 1) hfp (by omega)
    omega
  go_wp2_with fail
  refine (rFracE b _).mono ?_
  rintro e u ⟨rfl, rfl⟩
  go_wp2_with fail
  rw [shr_fc]
  go_wp2_with fail
  refine (rFracE b _).mono ?_
  rintro e u ⟨rfl, rfl⟩
  go_wp2_with fail
  rw [shl_one]
  go_wp2_with fail
  refine (rLowE b _).mono ?_
  rintro e u ⟨rfl, rfl⟩
  go_wp2_with fail
  refine (rJoin b n _ _ (by omega) (by omega) (by omega) (by omega) _).mono ?_
  rintro e w9 ⟨rfl, h9⟩
  have B9 := (HI4.push (FO n 0 0)).bel
  have HB9 : Hide (Below w.heap.size w w9) := ⟨HI4.bel.trans ((below_then (below_alloc w4 _) h9).mono HI4.bel.size)⟩
  clear h9 B9 HI4 q0 q1 q2
  go_wp2
  go_ret2
  refine ⟨?_, HB9.out⟩

  first | rfl | (simp; done) | trace_state
set_option maxHeartbeats 4000000 in
theorem rOf_lo20 (b n : Bool) (a : Option Addr) (c : Nat) (zs : List Int) (ex : Int) (w : World) (hl : Lie w a zs) (g : DG n zs ex) (hz : 0 < zs.length) {B : Nat} (hB : BitLen (Nt.val zs) B) (hb : B ≤ 131072) (p1 : ex + B ≤ wd b) (p2 : lo b ≤ ex) (p3 : (B : Int) ≤ fc b + 1) (hU : (B : Int) + ex - fc b - 1 < lo b) (k : Nat) (hk : (k : Int) = ex - (lo b)) (hk2 : k ≤ 1000) (hff : Nt.val zs * 2 ^ k < 4294967296 ^ 4096) (x0 x1 : Int) (hx0 : 0 ≤ x0) (hx1 : x0 < 4294967296) (hy0 : 0 ≤ x1) (hy1 : x1 < 4294967296) (hG : Good [x0, x1] (Nt.val zs * 2 ^ k)) (hN : (x0 + x1 * 4294967296) < fr b) (hE : 0 ≤ tp b) :
    Calls Tryd.prog 90 #[.int .u8 (fm b), dV n a zs.length c ex] w fun e w' => e = .returned (.tuple #[.int .u64 (sd b (0 * fr b + (x0 + x1 * 4294967296)) n), .bool true]) ∧ Below w.heap.size w w' := by
  have B1 := (Bx.nil w).push (DO n a zs.length c ex)
  have hx := g.ex_bd
  have hfc := fc_bd b
  have hlo := lo_bd b
  have HBL := Hide.mk hB
  clear hB
  have HFF := Hide.mk hff
  have HG := Hide.mk hG
  have hfr := fr_le b
  have hfp := fr_pos b
  clear hff hG
  go_enter Tryd.func90, Tryd.ntmps90
  go_wp2_with fail
  refine (rSgn n a c zs.length ex hz _).mono ?_
  rintro e w2 ⟨s, rfl, ds, h2⟩
  have B2 := B1.keep h2
  obtain ⟨⟨f0, f1, f2⟩, _⟩ := cells3 B2 w.heap.size _ _ _ _ (.head _)
  clear h2 B1
  go_wp2_with fail
  refine (dreftop54 n a c zs ex _ (hl.below B2.bel (Nat.le_refl _)) g hz).mono ?_
  rintro e w3 ⟨B3, rfl, hB3, _, h3⟩
  obtain rfl := hB3.unique HBL.out
  have HI := B2.keep h3
  clear h3 B2 hB3 f0 f1 f2 ds
  go_wp2_with fail
  replace HI := HI.drew
  have sh := fun W (hW : Bx w [(w.heap.size, DO n a zs.length c ex)] W) => (cells3 hW w.heap.size _ _ _ _ (.head _)).1
  refine Drawn.enter (Bx w [(w.heap.size, DO n a zs.length c ex)]) (by kernel_rfl) ?_
  refine Drawn.take (i := 0) (v := ?v36) rfl (by kernel_rfl) (by kernel_rfl) (by kernel_rfl) (fun _ _ _ h => h) (by kernel_rfl) (fun W hW => ?_) HI ?_
  rotate_left
  · have ⟨q0, q1, q2⟩ := sh W hW
    go_simp <;> exact rfl
  refine Drawn.take (i := 1) (v := ?v37) rfl (by kernel_rfl) (by kernel_rfl) (by kernel_rfl) (fun _ _ _ h => h) (by kernel_rfl) (fun W hW => ?_) HI ?_
  rotate_left
  · have ⟨q0, q1, q2⟩ := sh W hW
    go_simp <;> exact rfl
  refine Drawn.one (j := 2) (by kernel_rfl) rfl (fun K hK => ?_)
  go_simp
  refine (rWide b _).mono ?_
  rintro e wn ⟨rfl, hn⟩
  refine hK _ _ (HI.keep hn) ?_
  clear hK K
  replace HI := HI.keep hn
  clear hn
  refine Drawn.take (i := 3) (v := .bool false) rfl (by kernel_rfl) (by kernel_rfl) (by kernel_rfl) (fun _ _ _ h => h) (by kernel_rfl) (fun W hW => ?_) HI ?_
  · have ⟨q0, q1, q2⟩ := sh W hW
    go_simp <;> (first | omega | (simp; omega))
  refine Drawn.take (i := 4) (v := ?v38) rfl (by kernel_rfl) (by kernel_rfl) (by kernel_rfl) (fun _ _ _ h => h) (by kernel_rfl) (fun W hW => ?_) HI ?_
  rotate_left
  · have ⟨q0, q1, q2⟩ := sh W hW
    go_simp <;> exact rfl
  refine Drawn.take (i := 5) (v := ?v39) rfl (by kernel_rfl) (by kernel_rfl) (by kernel_rfl) (fun _ _ _ h => h) (by kernel_rfl) (fun W hW => ?_) HI ?_
  rotate_left
  · have ⟨q0, q1, q2⟩ := sh W hW
    go_simp <;> exact rfl
  refine Drawn.take (i := 6) (v := ?v40) rfl (by kernel_rfl) (by kernel_rfl) (by kernel_rfl) (fun _ _ _ h => h) (by kernel_rfl) (fun W hW => ?_) HI ?_
  rotate_left
  · have ⟨q0, q1, q2⟩ := sh W hW
    go_simp <;> exact rfl
  refine Drawn.take (i := 7) (v := ?v41) rfl (by kernel_rfl) (by kernel_rfl) (by kernel_rfl) (fun _ _ _ h => h) (by kernel_rfl) (fun W hW => ?_) HI ?_
  rotate_left
  · have ⟨q0, q1, q2⟩ := sh W hW
    go_simp <;> exact rfl
  refine Drawn.one (j := 8) (by kernel_rfl) rfl (fun K hK => ?_)
  go_simp
  refine (rLow b _).mono ?_
  rintro e wn ⟨rfl, hn⟩
  refine hK _ _ (HI.keep hn) ?_
  clear hK K
  replace HI := HI.keep hn
  clear hn
  refine Drawn.take (i := 9) (v := .bool false) rfl (by kernel_rfl) (by kernel_rfl) (by kernel_rfl) (fun _ _ _ h => h) (by kernel_rfl) (fun W hW => ?_) HI ?_
  · have ⟨q0, q1, q2⟩ := sh W hW
    go_simp <;> (first | omega | (simp; omega))
  refine Drawn.take (i := 10) (v := ?v42) rfl (by kernel_rfl) (by kernel_rfl) (by kernel_rfl) (fun _ _ _ h => h) (by kernel_rfl) (fun W hW => ?_) HI ?_
  rotate_left
  · have ⟨q0, q1, q2⟩ := sh W hW
    go_simp <;> exact rfl
  refine Drawn.take (i := 11) (v := ?v43) rfl (by kernel_rfl) (by kernel_rfl) (by kernel_rfl) (fun _ _ _ h => h) (by kernel_rfl) (fun W hW => ?_) HI ?_
  rotate_left
  · have ⟨q0, q1, q2⟩ := sh W hW
    go_simp <;> exact rfl
  refine Drawn.take (i := 12) (v := ?v44) rfl (by kernel_rfl) (by kernel_rfl) (by kernel_rfl) (fun _ _ _ h => h) (by kernel_rfl) (fun W hW => ?_) HI ?_
  rotate_left
  · have ⟨q0, q1, q2⟩ := sh W hW
    go_simp <;> exact rfl
  refine Drawn.take (i := 13) (v := ?v45) rfl (by kernel_rfl) (by kernel_rfl) (by kernel_rfl) (fun _ _ _ h => h) (by kernel_rfl) (fun W hW => ?_) HI ?_
  rotate_left
  · have ⟨q0, q1, q2⟩ := sh W hW
    go_simp <;> exact rfl
  refine Drawn.take (i := 15) (v := ?v46) rfl (by kernel_rfl) (by kernel_rfl) (by kernel_rfl) (fun _ _ _ h => h) (by kernel_rfl) (fun W hW => ?_) HI ?_
  rotate_left
  · have ⟨q0, q1, q2⟩ := sh W hW
    go_simp <;> exact rfl
  refine Drawn.one (j := 14) (by kernel_rfl) rfl (fun K hK => ?_)
  go_simp
  refine (refLenN a c zs _ (hl.below HI.bel (Nat.le_refl _)) g.good).mono ?_
  rintro e wl ⟨rfl, B3, rfl, hB3, _⟩
  obtain rfl := hB3.unique HBL.out
  refine hK _ _ HI ?_
  clear hK K hB3
  refine Drawn.one (j := 16) (by kernel_rfl) rfl (fun K hK => ?_)
  go_simp
  refine (rFrac b _).mono ?_
  rintro e wn ⟨rfl, hn⟩
  refine hK _ _ (HI.keep hn) ?_
  clear hK K
  replace HI := HI.keep hn
  clear hn
  refine Drawn.take (i := 17) (v := .int .i64 (fc b + 1)) rfl (by kernel_rfl) (by kernel_rfl) (by kernel_rfl) (fun _ _ _ h => h) (by kernel_rfl) (fun W hW => ?_) HI ?_
  · have ⟨q0, q1, q2⟩ := sh W hW
    go_simp <;> (exact wrap_ok (by omega) (by omega))
  refine Drawn.take (i := 18) (v := .bool false) rfl (by kernel_rfl) (by kernel_rfl) (by kernel_rfl) (fun _ _ _ h => h) (by kernel_rfl) (fun W hW => ?_) HI ?_
  · have ⟨q0, q1, q2⟩ := sh W hW
    go_simp <;> (first | omega | (simp; omega))
  refine Drawn.take (i := 19) (v := ?v47) rfl (by kernel_rfl) (by kernel_rfl) (by kernel_rfl) (fun _ _ _ h => h) (by kernel_rfl) (fun W hW => ?_) HI ?_
  rotate_left
  · have ⟨q0, q1, q2⟩ := sh W hW
    go_simp <;> exact rfl
  refine Drawn.done (by kernel_rfl) ?_
  try go_simp
  obtain ⟨q0, q1, q2⟩ := sh _ HI
  clear sh
  go_wp2_with fail
  refine (rFracE b _).mono ?_
  rintro e u ⟨rfl, rfl⟩
  go_wp2_with fail
  rw [Int.add_comm ex] at *
  refine (rLowE b _).mono ?_
  rintro e u ⟨rfl, rfl⟩
  go_wp2_with fail
  refine (rLowE b _).mono ?_
  rintro e u ⟨rfl, rfl⟩
  go_wp2_with fail
  refine (refUpN a c zs _ (hl.below HI.bel (Nat.le_refl _)) g.good (ex - (lo b)) k (by omega) (by omega) HFF.out).mono ?_
  rintro e w4 ⟨z4, a4, c4, rfl, h4, _⟩
  have HI4 := HI.keep h4.bel
  obtain ⟨⟨q0, q1, q2⟩, _⟩ := cells3 HI4 w.heap.size _ _ _ _ (.head _)
  obtain rfl : z4 = [x0, x1] := h4.good.same HG.out rfl
  obtain ⟨bb, o, rfl⟩ := lie_some h4.lie (by simp)
  have k0 : w4.cell? ⟨bb, o, none⟩ = some (.int .u32 x0) := lie_cell h4.lie rfl (i := 0) (by simp)
  have k1 : w4.cell? ⟨bb, o + 1, none⟩ = some (.int .u32 x1) := lie_cell h4.lie rfl (i := 1) (by simp)
  have hltb : w.heap.size < w4.heap.size := HI4.lt (.head _)
  clear h4 HFF HG HI hfc
  have hq : (x0 + x1 * 4294967296) / fr b ≤ 0 := by
    have := Int.ediv_eq_zero_of_lt (show 0 ≤ (x0 + x1 * 4294967296) by omega) hN
    omega
  go_wp2_with fail
  refine (rFracE b _).mono ?_
  rintro e u ⟨rfl, rfl⟩
  go_wp2_with fail
  rw [shr_fc]
  go_wp2_with fail
  refine (rJoin b n _ _ (by omega) (by omega) (by omega) (by omega) _).mono ?_
  rintro e w9 ⟨rfl, h9⟩
  have B9 := (HI4.push (FO n 0 0)).bel
  have HB9 : Hide (Below w.heap.size w w9) := ⟨HI4.bel.trans ((below_then (below_alloc w4 _) h9).mono HI4.bel.size)⟩
  clear h9 B9 HI4 q0 q1 q2
  go_wp2
  go_ret2
  refine ⟨?_, HB9.out⟩

  first | rfl | (simp; done) | trace_state
set_option maxHeartbeats 4000000 in
theorem rOf_hi11 (b n : Bool) (a : Option Addr) (c : Nat) (zs : List Int) (ex : Int) (w : World) (hl : Lie w a zs) (g : DG n zs ex) (hz : 0 < zs.length) {B : Nat} (hB : BitLen (Nt.val zs) B) (hb : B ≤ 131072) (p1 : ex + B ≤ wd b) (p2 : lo b ≤ ex) (p3 : (B : Int) ≤ fc b + 1) (hU : lo b ≤ (B : Int) + ex - fc b - 1) (k : Nat) (hk : (k : Int) = ex - (B + ex - fc b - 1)) (hk2 : k ≤ 1000) (hff : Nt.val zs * 2 ^ k < 4294967296 ^ 4096) (x0 : Int) (hx0 : 0 ≤ x0) (hx1 : x0 < 4294967296) (hG : Good [x0] (Nt.val zs * 2 ^ k)) (hN : fr b ≤ x0) (hN2 : x0 < 2 * fr b) (hE : ((B + ex - fc b - 1) - lo b + 1) ≤ tp b) :
    Calls Tryd.prog 90 #[.int .u8 (fm b), dV n a zs.length c ex] w fun e w' => e = .returned (.tuple #[.int .u64 (sd b (((B + ex - fc b - 1) - lo b + 1) * fr b + (x0 - fr b)) n), .bool true]) ∧ Below w.heap.size w w' := by
  have B1 := (Bx.nil w).push (DO n a zs.length c ex)
  have hx := g.ex_bd
  have hfc := fc_bd b
  have hlo := lo_bd b
  have HBL := Hide.mk hB
  clear hB
  have HFF := Hide.mk hff
  have HG := Hide.mk hG
  have hfr := fr_le b
  have hfp := fr_pos b
  clear hff hG
  go_enter Tryd.func90, Tryd.ntmps90
  go_wp2_with fail
  refine (rSgn n a c zs.length ex hz _).mono ?_
  rintro e w2 ⟨s, rfl, ds, h2⟩
  have B2 := B1.keep h2
  obtain ⟨⟨f0, f1, f2⟩, _⟩ := cells3 B2 w.heap.size _ _ _ _ (.head _)
  clear h2 B1
  go_wp2_with fail
  refine (dreftop54 n a c zs ex _ (hl.below B2.bel (Nat.le_refl _)) g hz).mono ?_
  rintro e w3 ⟨B3, rfl, hB3, _, h3⟩
  obtain rfl := hB3.unique HBL.out
  have HI := B2.keep h3
  clear h3 B2 hB3 f0 f1 f2 ds
  go_wp2_with fail
  replace HI := HI.drew
  have sh := fun W (hW : Bx w [(w.heap.size, DO n a zs.length c ex)] W) => (cells3 hW w.heap.size _ _ _ _ (.head _)).1
  refine Drawn.enter (Bx w [(w.heap.size, DO n a zs.length c ex)]) (by kernel_rfl) ?_
  refine Drawn.take (i := 0) (v := ?v48) rfl (by kernel_rfl) (by kernel_rfl) (by kernel_rfl) (fun _ _ _ h => h) (by kernel_rfl) (fun W hW => ?_) HI ?_
  rotate_left
  · have ⟨q0, q1, q2⟩ := sh W hW
    go_simp <;> exact rfl
  refine Drawn.take (i := 1) (v := ?v49) rfl (by kernel_rfl) (by kernel_rfl) (by kernel_rfl) (fun _ _ _ h => h) (by kernel_rfl) (fun W hW => ?_) HI ?_
  rotate_left
  · have ⟨q0, q1, q2⟩ := sh W hW
    go_simp <;> exact rfl
  refine Drawn.one (j := 2) (by kernel_rfl) rfl (fun K hK => ?_)
  go_simp
  refine (rWide b _).mono ?_
  rintro e wn ⟨rfl, hn⟩
  refine hK _ _ (HI.keep hn) ?_
  clear hK K
  replace HI := HI.keep hn
  clear hn
  refine Drawn.take (i := 3) (v := .bool false) rfl (by kernel_rfl) (by kernel_rfl) (by kernel_rfl) (fun _ _ _ h => h) (by kernel_rfl) (fun W hW => ?_) HI ?_
  · have ⟨q0, q1, q2⟩ := sh W hW
    go_simp <;> (first | omega | (simp; omega))
  refine Drawn.take (i := 4) (v := ?v50) rfl (by kernel_rfl) (by kernel_rfl) (by kernel_rfl) (fun _ _ _ h => h) (by kernel_rfl) (fun W hW => ?_) HI ?_
  rotate_left
  · have ⟨q0, q1, q2⟩ := sh W hW
    go_simp <;> exact rfl
  refine Drawn.take (i := 5) (v := ?v51) rfl (by kernel_rfl) (by kernel_rfl) (by kernel_rfl) (fun _ _ _ h => h) (by kernel_rfl) (fun W hW => ?_) HI ?_
  rotate_left
  · have ⟨q0, q1, q2⟩ := sh W hW
    go_simp <;> exact rfl
  refine Drawn.take (i := 6) (v := ?v52) rfl (by kernel_rfl) (by kernel_rfl) (by kernel_rfl) (fun _ _ _ h => h) (by kernel_rfl) (fun W hW => ?_) HI ?_
  rotate_left
  · have ⟨q0, q1, q2⟩ := sh W hW
    go_simp <;> exact rfl
  refine Drawn.take (i := 7) (v := ?v53) rfl (by kernel_rfl) (by kernel_rfl) (by kernel_rfl) (fun _ _ _ h => h) (by kernel_rfl) (fun W hW => ?_) HI ?_
  rotate_left
  · have ⟨q0, q1, q2⟩ := sh W hW
    go_simp <;> exact rfl
  refine Drawn.one (j := 8) (by kernel_rfl) rfl (fun K hK => ?_)
  go_simp
  refine (rLow b _).mono ?_
  rintro e wn ⟨rfl, hn⟩
  refine hK _ _ (HI.keep hn) ?_
  clear hK K
  replace HI := HI.keep hn
  clear hn
  refine Drawn.take (i := 9) (v := .bool false) rfl (by kernel_rfl) (by kernel_rfl) (by kernel_rfl) (fun _ _ _ h => h) (by kernel_rfl) (fun W hW => ?_) HI ?_
  · have ⟨q0, q1, q2⟩ := sh W hW
    go_simp <;> (first | omega | (simp; omega))
  refine Drawn.take (i := 10) (v := ?v54) rfl (by kernel_rfl) (by kernel_rfl) (by kernel_rfl) (fun _ _ _ h => h) (by kernel_rfl) (fun W hW => ?_) HI ?_
  rotate_left
  · have ⟨q0, q1, q2⟩ := sh W hW
    go_simp <;> exact rfl
  refine Drawn.take (i := 11) (v := ?v55) rfl (by kernel_rfl) (by kernel_rfl) (by kernel_rfl) (fun _ _ _ h => h) (by kernel_rfl) (fun W hW => ?_) HI ?_
  rotate_left
  · have ⟨q0, q1, q2⟩ := sh W hW
    go_simp <;> exact rfl
  refine Drawn.take (i := 12) (v := ?v56) rfl (by kernel_rfl) (by kernel_rfl) (by kernel_rfl) (fun _ _ _ h => h) (by kernel_rfl) (fun W hW => ?_) HI ?_
  rotate_left
  · have ⟨q0, q1, q2⟩ := sh W hW
    go_simp <;> exact rfl
  refine Drawn.take (i := 13) (v := ?v57) rfl (by kernel_rfl) (by kernel_rfl) (by kernel_rfl) (fun _ _ _ h => h) (by kernel_rfl) (fun W hW => ?_) HI ?_
  rotate_left
  · have ⟨q0, q1, q2⟩ := sh W hW
    go_simp <;> exact rfl
  refine Drawn.take (i := 15) (v := ?v58) rfl (by kernel_rfl) (by kernel_rfl) (by kernel_rfl) (fun _ _ _ h => h) (by kernel_rfl) (fun W hW => ?_) HI ?_
  rotate_left
  · have ⟨q0, q1, q2⟩ := sh W hW
    go_simp <;> exact rfl
  refine Drawn.one (j := 14) (by kernel_rfl) rfl (fun K hK => ?_)
  go_simp
  refine (refLenN a c zs _ (hl.below HI.bel (Nat.le_refl _)) g.good).mono ?_
  rintro e wl ⟨rfl, B3, rfl, hB3, _⟩
  obtain rfl := hB3.unique HBL.out
  refine hK _ _ HI ?_
  clear hK K hB3
  refine Drawn.one (j := 16) (by kernel_rfl) rfl (fun K hK => ?_)
  go_simp
  refine (rFrac b _).mono ?_
  rintro e wn ⟨rfl, hn⟩
  refine hK _ _ (HI.keep hn) ?_
  clear hK K
  replace HI := HI.keep hn
  clear hn
  refine Drawn.take (i := 17) (v := .int .i64 (fc b + 1)) rfl (by kernel_rfl) (by kernel_rfl) (by kernel_rfl) (fun _ _ _ h => h) (by kernel_rfl) (fun W hW => ?_) HI ?_
  · have ⟨q0, q1, q2⟩ := sh W hW
    go_simp <;> (exact wrap_ok (by omega) (by omega))
  refine Drawn.take (i := 18) (v := .bool false) rfl (by kernel_rfl) (by kernel_rfl) (by kernel_rfl) (fun _ _ _ h => h) (by kernel_rfl) (fun W hW => ?_) HI ?_
  · have ⟨q0, q1, q2⟩ := sh W hW
    go_simp <;> (first | omega | (simp; omega))
  refine Drawn.take (i := 19) (v := ?v59) rfl (by kernel_rfl) (by kernel_rfl) (by kernel_rfl) (fun _ _ _ h => h) (by kernel_rfl) (fun W hW => ?_) HI ?_
  rotate_left
  · have ⟨q0, q1, q2⟩ := sh W hW
    go_simp <;> exact rfl
  refine Drawn.done (by kernel_rfl) ?_
  try go_simp
  obtain ⟨q0, q1, q2⟩ := sh _ HI
  clear sh
  go_wp2_with fail
  refine (rFracE b _).mono ?_
  rintro e u ⟨rfl, rfl⟩
  go_wp2_with fail
  rw [Int.add_comm ex] at *
  refine (rLowE b _).mono ?_
  rintro e u ⟨rfl, rfl⟩
  go_wp2_with fail
  have hwd : wd b ≤ 1024 := by cases b <;> decide
  generalize hUU : (B3 : Int) + ex - fc b - 1 = U at *
  have HUU := Hide.mk hUU
  have hU2 : U ≤ 1100 := by omega
  clear hUU
  refine (refUpN a c zs _ (hl.below HI.bel (Nat.le_refl _)) g.good (ex - U) k (by omega) (by omega) HFF.out).mono ?_
  rintro e w4 ⟨z4, a4, c4, rfl, h4, _⟩
  have HI4 := HI.keep h4.bel
  obtain ⟨⟨q0, q1, q2⟩, _⟩ := cells3 HI4 w.heap.size _ _ _ _ (.head _)
  obtain rfl : z4 = [x0] := h4.good.same HG.out rfl
  obtain ⟨bb, o, rfl⟩ := lie_some h4.lie (by simp)
  have k0 : w4.cell? ⟨bb, o, none⟩ = some (.int .u32 x0) := lie_cell h4.lie rfl (i := 0) (by simp)
  have hltb : w.heap.size < w4.heap.size := HI4.lt (.head _)
  clear h4 HFF HG HI hfc
  have hq : 0 < x0 / fr b := by
    have := Int.le_ediv_of_mul_le (c := fr b) (b := x0) (a := 1) hfp (by omega)
    omega
  go_wp2_with fail
  refine (rFracE b _).mono ?_
  rintro e u ⟨rfl, rfl⟩
  go_wp2_with fail
  rw [shr_fc]
  go_wp2_with fail
  refine (rFracE b _).mono ?_
  rintro e u ⟨rfl, rfl⟩
  go_wp2_with fail
  rw [shl_one]
  go_wp2_with fail
  refine (rLowE b _).mono ?_
  rintro e u ⟨rfl, rfl⟩
  go_wp2_with fail
  refine (rJoin b n _ _ (by omega) (by omega) (by omega) (by omega) _).mono ?_
  rintro e w9 ⟨rfl, h9⟩
  have B9 := (HI4.push (FO n 0 0)).bel
  have HB9 : Hide (Below w.heap.size w w9) := ⟨HI4.bel.trans ((below_then (below_alloc w4 _) h9).mono HI4.bel.size)⟩
  clear h9 B9 HI4 q0 q1 q2
  go_wp2
  go_ret2
  refine ⟨?_, HB9.out⟩
  rw [HUU.out]
  first | rfl | (simp; done) | trace_state
set_option maxHeartbeats 4000000 in
theorem rOf_hi21 (b n : Bool) (a : Option Addr) (c : Nat) (zs : List Int) (ex : Int) (w : World) (hl : Lie w a zs) (g : DG n zs ex) (hz : 0 < zs.length) {B : Nat} (hB : BitLen (Nt.val zs) B) (hb : B ≤ 131072) (p1 : ex + B ≤ wd b) (p2 : lo b ≤ ex) (p3 : (B : Int) ≤ fc b + 1) (hU : lo b ≤ (B : Int) + ex - fc b - 1) (k : Nat) (hk : (k : Int) = ex - (B + ex - fc b - 1)) (hk2 : k ≤ 1000) (hff : Nt.val zs * 2 ^ k < 4294967296 ^ 4096) (x0 x1 : Int) (hx0 : 0 ≤ x0) (hx1 : x0 < 4294967296) (hy0 : 0 ≤ x1) (hy1 : x1 < 4294967296) (hG : Good [x0, x1] (Nt.val zs * 2 ^ k)) (hN : fr b ≤ (x0 + x1 * 4294967296)) (hN2 : (x0 + x1 * 4294967296) < 2 * fr b) (hE : ((B + ex - fc b - 1) - lo b + 1) ≤ tp b) :
    Calls Tryd.prog 90 #[.int .u8 (fm b), dV n a zs.length c ex] w fun e w' => e = .returned (.tuple #[.int .u64 (sd b (((B + ex - fc b - 1) - lo b + 1) * fr b + ((x0 + x1 * 4294967296) - fr b)) n), .bool true]) ∧ Below w.heap.size w w' := by
  have B1 := (Bx.nil w).push (DO n a zs.length c ex)
  have hx := g.ex_bd
  have hfc := fc_bd b
  have hlo := lo_bd b
  have HBL := Hide.mk hB
  clear hB
  have HFF := Hide.mk hff
  have HG := Hide.mk hG
  have hfr := fr_le b
  have hfp := fr_pos b
  clear hff hG
  go_enter Tryd.func90, Tryd.ntmps90
  go_wp2_with fail
  refine (rSgn n a c zs.length ex hz _).mono ?_
  rintro e w2 ⟨s, rfl, ds, h2⟩
  have B2 := B1.keep h2
  obtain ⟨⟨f0, f1, f2⟩, _⟩ := cells3 B2 w.heap.size _ _ _ _ (.head _)
  clear h2 B1
  go_wp2_with fail
  refine (dreftop54 n a c zs ex _ (hl.below B2.bel (Nat.le_refl _)) g hz).mono ?_
  rintro e w3 ⟨B3, rfl, hB3, _, h3⟩
  obtain rfl := hB3.unique HBL.out
  have HI := B2.keep h3
  clear h3 B2 hB3 f0 f1 f2 ds
  go_wp2_with fail
  replace HI := HI.drew
  have sh := fun W (hW : Bx w [(w.heap.size, DO n a zs.length c ex)] W) => (cells3 hW w.heap.size _ _ _ _ (.head _)).1
  refine Drawn.enter (Bx w [(w.heap.size, DO n a zs.length c ex)]) (by kernel_rfl) ?_
  refine Drawn.take (i := 0) (v := ?v60) rfl (by kernel_rfl) (by kernel_rfl) (by kernel_rfl) (fun _ _ _ h => h) (by kernel_rfl) (fun W hW => ?_) HI ?_
  rotate_left
  · have ⟨q0, q1, q2⟩ := sh W hW
    go_simp <;> exact rfl
  refine Drawn.take (i := 1) (v := ?v61) rfl (by kernel_rfl) (by kernel_rfl) (by kernel_rfl) (fun _ _ _ h => h) (by kernel_rfl) (fun W hW => ?_) HI ?_
  rotate_left
  · have ⟨q0, q1, q2⟩ := sh W hW
    go_simp <;> exact rfl
  refine Drawn.one (j := 2) (by kernel_rfl) rfl (fun K hK => ?_)
  go_simp
  refine (rWide b _).mono ?_
  rintro e wn ⟨rfl, hn⟩
  refine hK _ _ (HI.keep hn) ?_
  clear hK K
  replace HI := HI.keep hn
  clear hn
  refine Drawn.take (i := 3) (v := .bool false) rfl (by kernel_rfl) (by kernel_rfl) (by kernel_rfl) (fun _ _ _ h => h) (by kernel_rfl) (fun W hW => ?_) HI ?_
  · have ⟨q0, q1, q2⟩ := sh W hW
    go_simp <;> (first | omega | (simp; omega))
  refine Drawn.take (i := 4) (v := ?v62) rfl (by kernel_rfl) (by kernel_rfl) (by kernel_rfl) (fun _ _ _ h => h) (by kernel_rfl) (fun W hW => ?_) HI ?_
  rotate_left
  · have ⟨q0, q1, q2⟩ := sh W hW
    go_simp <;> exact rfl
  refine Drawn.take (i := 5) (v := ?v63) rfl (by kernel_rfl) (by kernel_rfl) (by kernel_rfl) (fun _ _ _ h => h) (by kernel_rfl) (fun W hW => ?_) HI ?_
  rotate_left
  · have ⟨q0, q1, q2⟩ := sh W hW
    go_simp <;> exact rfl
  refine Drawn.take (i := 6) (v := ?v64) rfl (by kernel_rfl) (by kernel_rfl) (by kernel_rfl) (fun _ _ _ h => h) (by kernel_rfl) (fun W hW => ?_) HI ?_
  rotate_left
  · have ⟨q0, q1, q2⟩ := sh W hW
    go_simp <;> exact rfl
  refine Drawn.take (i := 7) (v := ?v65) rfl (by kernel_rfl) (by kernel_rfl) (by kernel_rfl) (fun _ _ _ h => h) (by kernel_rfl) (fun W hW => ?_) HI ?_
  rotate_left
  · have ⟨q0, q1, q2⟩ := sh W hW
    go_simp <;> exact rfl
  refine Drawn.one (j := 8) (by kernel_rfl) rfl (fun K hK => ?_)
  go_simp
  refine (rLow b _).mono ?_
  rintro e wn ⟨rfl, hn⟩
  refine hK _ _ (HI.keep hn) ?_
  clear hK K
  replace HI := HI.keep hn
  clear hn
  refine Drawn.take (i := 9) (v := .bool false) rfl (by kernel_rfl) (by kernel_rfl) (by kernel_rfl) (fun _ _ _ h => h) (by kernel_rfl) (fun W hW => ?_) HI ?_
  · have ⟨q0, q1, q2⟩ := sh W hW
    go_simp <;> (first | omega | (simp; omega))
  refine Drawn.take (i := 10) (v := ?v66) rfl (by kernel_rfl) (by kernel_rfl) (by kernel_rfl) (fun _ _ _ h => h) (by kernel_rfl) (fun W hW => ?_) HI ?_
  rotate_left
  · have ⟨q0, q1, q2⟩ := sh W hW
    go_simp <;> exact rfl
  refine Drawn.take (i := 11) (v := ?v67) rfl (by kernel_rfl) (by kernel_rfl) (by kernel_rfl) (fun _ _ _ h => h) (by kernel_rfl) (fun W hW => ?_) HI ?_
  rotate_left
  · have ⟨q0, q1, q2⟩ := sh W hW
    go_simp <;> exact rfl
  refine Drawn.take (i := 12) (v := ?v68) rfl (by kernel_rfl) (by kernel_rfl) (by kernel_rfl) (fun _ _ _ h => h) (by kernel_rfl) (fun W hW => ?_) HI ?_
  rotate_left
  · have ⟨q0, q1, q2⟩ := sh W hW
    go_simp <;> exact rfl
  refine Drawn.take (i := 13) (v := ?v69) rfl (by kernel_rfl) (by kernel_rfl) (by kernel_rfl) (fun _ _ _ h => h) (by kernel_rfl) (fun W hW => ?_) HI ?_
  rotate_left
  · have ⟨q0, q1, q2⟩ := sh W hW
    go_simp <;> exact rfl
  refine Drawn.take (i := 15) (v := ?v70) rfl (by kernel_rfl) (by kernel_rfl) (by kernel_rfl) (fun _ _ _ h => h) (by kernel_rfl) (fun W hW => ?_) HI ?_
  rotate_left
  · have ⟨q0, q1, q2⟩ := sh W hW
    go_simp <;> exact rfl
  refine Drawn.one (j := 14) (by kernel_rfl) rfl (fun K hK => ?_)
  go_simp
  refine (refLenN a c zs _ (hl.below HI.bel (Nat.le_refl _)) g.good).mono ?_
  rintro e wl ⟨rfl, B3, rfl, hB3, _⟩
  obtain rfl := hB3.unique HBL.out
  refine hK _ _ HI ?_
  clear hK K hB3
  refine Drawn.one (j := 16) (by kernel_rfl) rfl (fun K hK => ?_)
  go_simp
  refine (rFrac b _).mono ?_
  rintro e wn ⟨rfl, hn⟩
  refine hK _ _ (HI.keep hn) ?_
  clear hK K
  replace HI := HI.keep hn
  clear hn
  refine Drawn.take (i := 17) (v := .int .i64 (fc b + 1)) rfl (by kernel_rfl) (by kernel_rfl) (by kernel_rfl) (fun _ _ _ h => h) (by kernel_rfl) (fun W hW => ?_) HI ?_
  · have ⟨q0, q1, q2⟩ := sh W hW
    go_simp <;> (exact wrap_ok (by omega) (by omega))
  refine Drawn.take (i := 18) (v := .bool false) rfl (by kernel_rfl) (by kernel_rfl) (by kernel_rfl) (fun _ _ _ h => h) (by kernel_rfl) (fun W hW => ?_) HI ?_
  · have ⟨q0, q1, q2⟩ := sh W hW
    go_simp <;> (first | omega | (simp; omega))
  refine Drawn.take (i := 19) (v := ?v71) rfl (by kernel_rfl) (by kernel_rfl) (by kernel_rfl) (fun _ _ _ h => h) (by kernel_rfl) (fun W hW => ?_) HI ?_
  rotate_left
  · have ⟨q0, q1, q2⟩ := sh W hW
    go_simp <;> exact rfl
  refine Drawn.done (by kernel_rfl) ?_
  try go_simp
  obtain ⟨q0, q1, q2⟩ := sh _ HI
  clear sh
  go_wp2_with fail
  refine (rFracE b _).mono ?_
  rintro e u ⟨rfl, rfl⟩
  go_wp2_with fail
  rw [Int.add_comm ex] at *
  refine (rLowE b _).mono ?_
  rintro e u ⟨rfl, rfl⟩
  go_wp2_with fail
  have hwd : wd b ≤ 1024 := by cases b <;> decide
  generalize hUU : (B3 : Int) + ex - fc b - 1 = U at *
  have HUU := Hide.mk hUU
  have hU2 : U ≤ 1100 := by omega
  clear hUU
  refine (refUpN a c zs _ (hl.below HI.bel (Nat.le_refl _)) g.good (ex - U) k (by omega) (by omega) HFF.out).mono ?_
  rintro e w4 ⟨z4, a4, c4, rfl, h4, _⟩
  have HI4 := HI.keep h4.bel
  obtain ⟨⟨q0, q1, q2⟩, _⟩ := cells3 HI4 w.heap.size _ _ _ _ (.head _)
  obtain rfl : z4 = [x0, x1] := h4.good.same HG.out rfl
  obtain ⟨bb, o, rfl⟩ := lie_some h4.lie (by simp)
  have k0 : w4.cell? ⟨bb, o, none⟩ = some (.int .u32 x0) := lie_cell h4.lie rfl (i := 0) (by simp)
  have k1 : w4.cell? ⟨bb, o + 1, none⟩ = some (.int .u32 x1) := lie_cell h4.lie rfl (i := 1) (by simp)
  have hltb : w.heap.size < w4.heap.size := HI4.lt (.head _)
  clear h4 HFF HG HI hfc
  have hq : 0 < (x0 + x1 * 4294967296) / fr b := by
    have := Int.le_ediv_of_mul_le (c := fr b) (b := (x0 + x1 * 4294967296)) (a := 1) hfp (by omega)
    omega
  go_wp2_with fail
  refine (rFracE b _).mono ?_
  rintro e u ⟨rfl, rfl⟩
  go_wp2_with fail
  rw [shr_fc]
  go_wp2_with fail
  refine (rFracE b _).mono ?_
  rintro e u ⟨rfl, rfl⟩
  go_wp2_with fail
  rw [shl_one]
  go_wp2_with fail
  refine (rLowE b _).mono ?_
  rintro e u ⟨rfl, rfl⟩
  go_wp2_with fail
  refine (rJoin b n _ _ (by omega) (by omega) (by omega) (by omega) _).mono ?_
  rintro e w9 ⟨rfl, h9⟩
  have B9 := (HI4.push (FO n 0 0)).bel
  have HB9 : Hide (Below w.heap.size w w9) := ⟨HI4.bel.trans ((below_then (below_alloc w4 _) h9).mono HI4.bel.size)⟩
  clear h9 B9 HI4 q0 q1 q2
  go_wp2
  go_ret2
  refine ⟨?_, HB9.out⟩
  rw [HUU.out]
  first | rfl | (simp; done) | trace_state
end Go.Proofs.YtioiakemmhfhkaaDoor
