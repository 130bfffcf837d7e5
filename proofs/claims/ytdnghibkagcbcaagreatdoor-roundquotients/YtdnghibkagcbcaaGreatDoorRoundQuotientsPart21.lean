import Derived.Test.YtdnghibkagcbcaaGreatDoorRoundQuotientsPart20
set_option maxHeartbeats 4000000
namespace Go.Proofs.YtdnghibkagcbcaaGreatDoor
open Go.RowKit Go.Wd Go.Box
set_option linter.unusedVariables false
set_option maxRecDepth 3000
theorem rOf_lo11 (b n : Bool) (a : Option Addr) (c : Nat) (zs : List Int) (ex : Int) (w : World) (hl : Lie w a zs) (g : DG n zs ex) (hz : 0 < zs.length) {B : Nat} (hB : BitLen (Nt.val zs) B) (hb : B ≤ 131072) (p1 : ex + B ≤ wd b) (p2 : lo b ≤ ex) (p3 : (B : Int) ≤ fc b + 1) (hU : (B : Int) + ex - fc b - 1 < lo b) (k : Nat) (hk : (k : Int) = ex - (lo b)) (hk2 : k ≤ 1000) (hff : Nt.val zs * 2 ^ k < 4294967296 ^ 4096) (x0 : Int) (hx0 : 0 ≤ x0) (hx1 : x0 < 4294967296) (hG : Good [x0] (Nt.val zs * 2 ^ k)) (hN : fr b ≤ x0) (hN2 : x0 < 2 * fr b) (hE : ((lo b) - lo b + 1) ≤ tp b) :
    Calls Tryz.prog 59 #[.int .u8 (fm b), dV n a zs.length c ex] w fun e w' => e = .returned (.tuple #[.int .u64 (sd b (((lo b) - lo b + 1) * fr b + (x0 - fr b)) n), .bool true]) ∧ Below w.heap.size w w' := by
  have B1 := (Bx.nil w).push (DO n a zs.length c ex)
  have hx := g.ex_bd
  have hfc := fc_bd b
  have hlo := lo_bd b
  have HBL := Hide.mk hB
  clear hB
  have HFF := Hide.mk hff
  have HG := Hide.mk hG
  have hfr := fr_le b
  have hfp := fr_pos b
  clear hff hG
  go_enter Tryz.func59, Tryz.ntmps59
  go_wp2_with fail
  refine (rSgn n a c zs.length ex hz _).mono ?_
  rintro e w2 ⟨s, rfl, ds, h2⟩
  have B2 := B1.keep h2
  obtain ⟨⟨f0, f1, f2⟩, _⟩ := cells3 B2 w.heap.size _ _ _ _ (.head _)
  clear h2 B1
  go_wp2_with fail
  refine (dreftop54 n a c zs ex _ (hl.below B2.bel (Nat.le_refl _)) g hz).mono ?_
  rintro e w3 ⟨B3, rfl, hB3, _, h3⟩
  obtain rfl := hB3.unique HBL.out
  have HI := B2.keep h3
  clear h3 B2 hB3 f0 f1 f2 ds
  go_wp2_with fail
  replace HI := HI.drew
  have sh := fun W (hW : Bx w [(w.heap.size, DO n a zs.length c ex)] W) => (cells3 hW w.heap.size _ _ _ _ (.head _)).1
  refine Drawn.enter (Bx w [(w.heap.size, DO n a zs.length c ex)]) (by kernel_rfl) ?_
  refine Drawn.tk (i := 0) (v := ?v80) rfl (fun W hW => ?_) HI ?_
  rotate_left
  · have ⟨q0, q1, q2⟩ := sh W hW
    go_simp <;> exact rfl
  refine Drawn.tk (i := 1) (v := ?v81) rfl (fun W hW => ?_) HI ?_
  rotate_left
  · have ⟨q0, q1, q2⟩ := sh W hW
    go_simp <;> exact rfl
  refine Drawn.one (j := 2) (by kernel_rfl) rfl (fun K hK => ?_)
  go_simp
  refine (rWide b _).mono ?_
  rintro e wn ⟨rfl, hn⟩
  refine hK _ _ (HI.keep hn) ?_
  clear hK K
  replace HI := HI.keep hn
  clear hn
  refine Drawn.tk (i := 3) (v := .bool false) rfl (fun W hW => ?_) HI ?_
  · have ⟨q0, q1, q2⟩ := sh W hW
    go_simp <;> (first | omega | (simp; omega))
  refine Drawn.tk (i := 4) (v := ?v82) rfl (fun W hW => ?_) HI ?_
  rotate_left
  · have ⟨q0, q1, q2⟩ := sh W hW
    go_simp <;> exact rfl
  refine Drawn.tk (i := 5) (v := ?v83) rfl (fun W hW => ?_) HI ?_
  rotate_left
  · have ⟨q0, q1, q2⟩ := sh W hW
    go_simp <;> exact rfl
  refine Drawn.tk (i := 6) (v := ?v84) rfl (fun W hW => ?_) HI ?_
  rotate_left
  · have ⟨q0, q1, q2⟩ := sh W hW
    go_simp <;> exact rfl
  refine Drawn.tk (i := 7) (v := ?v85) rfl (fun W hW => ?_) HI ?_
  rotate_left
  · have ⟨q0, q1, q2⟩ := sh W hW
    go_simp <;> exact rfl
  refine Drawn.one (j := 8) (by kernel_rfl) rfl (fun K hK => ?_)
  go_simp
  refine (rLow b _).mono ?_
  rintro e wn ⟨rfl, hn⟩
  refine hK _ _ (HI.keep hn) ?_
  clear hK K
  replace HI := HI.keep hn
  clear hn
  refine Drawn.tk (i := 9) (v := .bool false) rfl (fun W hW => ?_) HI ?_
  · have ⟨q0, q1, q2⟩ := sh W hW
    go_simp <;> (first | omega | (simp; omega))
  refine Drawn.tk (i := 10) (v := ?v86) rfl (fun W hW => ?_) HI ?_
  rotate_left
  · have ⟨q0, q1, q2⟩ := sh W hW
    go_simp <;> exact rfl
  refine Drawn.tk (i := 11) (v := ?v87) rfl (fun W hW => ?_) HI ?_
  rotate_left
  · have ⟨q0, q1, q2⟩ := sh W hW
    go_simp <;> exact rfl
  refine Drawn.tk (i := 12) (v := ?v88) rfl (fun W hW => ?_) HI ?_
  rotate_left
  · have ⟨q0, q1, q2⟩ := sh W hW
    go_simp <;> exact rfl
  refine Drawn.tk (i := 13) (v := ?v89) rfl (fun W hW => ?_) HI ?_
  rotate_left
  · have ⟨q0, q1, q2⟩ := sh W hW
    go_simp <;> exact rfl
  refine Drawn.tk (i := 15) (v := ?v90) rfl (fun W hW => ?_) HI ?_
  rotate_left
  · have ⟨q0, q1, q2⟩ := sh W hW
    go_simp <;> exact rfl
  refine Drawn.one (j := 14) (by kernel_rfl) rfl (fun K hK => ?_)
  go_simp
  refine (refLenN a c zs _ (hl.below HI.bel (Nat.le_refl _)) g.good).mono ?_
  rintro e wl ⟨rfl, B3, rfl, hB3, _⟩
  obtain rfl := hB3.unique HBL.out
  refine hK _ _ HI ?_
  clear hK K hB3
  refine Drawn.one (j := 16) (by kernel_rfl) rfl (fun K hK => ?_)
  go_simp
  refine (rFrac b _).mono ?_
  rintro e wn ⟨rfl, hn⟩
  refine hK _ _ (HI.keep hn) ?_
  clear hK K
  replace HI := HI.keep hn
  clear hn
  refine Drawn.tk (i := 17) (v := .int .i64 (fc b + 1)) rfl (fun W hW => ?_) HI ?_
  · have ⟨q0, q1, q2⟩ := sh W hW
    go_simp <;> (exact wrap_ok (by omega) (by omega))
  refine Drawn.tk (i := 18) (v := .bool false) rfl (fun W hW => ?_) HI ?_
  · have ⟨q0, q1, q2⟩ := sh W hW
    go_simp <;> (first | omega | (simp; omega))
  refine Drawn.tk (i := 19) (v := ?v91) rfl (fun W hW => ?_) HI ?_
  rotate_left
  · have ⟨q0, q1, q2⟩ := sh W hW
    go_simp <;> exact rfl
  refine Drawn.done (by kernel_rfl) ?_
  try go_simp
  obtain ⟨q0, q1, q2⟩ := sh _ HI
  clear sh
  go_wp2_with fail
  refine (rFracE b _).mono ?_
  rintro e u ⟨rfl, rfl⟩
  go_wp2_with fail
  rw [Int.add_comm ex] at *
  refine (rLowE b _).mono ?_
  rintro e u ⟨rfl, rfl⟩
  go_wp2_with fail
  refine (rLowE b _).mono ?_
  rintro e u ⟨rfl, rfl⟩
  go_wp2_with fail
  refine (refUpN a c zs _ (hl.below HI.bel (Nat.le_refl _)) g.good (ex - (lo b)) k (by omega) (by omega) HFF.out).mono ?_
  rintro e w4 ⟨z4, a4, c4, rfl, h4, _⟩
  have HI4 := HI.keep h4.bel
  obtain ⟨⟨q0, q1, q2⟩, _⟩ := cells3 HI4 w.heap.size _ _ _ _ (.head _)
  obtain rfl : z4 = [x0] := h4.good.same HG.out rfl
  obtain ⟨bb, o, rfl⟩ := lie_some h4.lie (by simp)
  have k0 : w4.cell? ⟨bb, o, none⟩ = some (.int .u32 x0) := lie_cell h4.lie rfl (i := 0) (by simp)
  have hltb : w.heap.size < w4.heap.size := HI4.lt (.head _)
  clear h4 HFF HG HI hfc
  have hq : 0 < x0 / fr b := by
    have := Int.le_ediv_of_mul_le (c := fr b) (b := x0) (a := 1) hfp (by omega)
    omega
  go_wp2_with fail
  refine (rFracE b _).mono ?_
  rintro e u ⟨rfl, rfl⟩
  go_wp2_with fail
  rw [shr_fc]
  go_wp2_with fail
  refine (rFracE b _).mono ?_
  rintro e u ⟨rfl, rfl⟩
  go_wp2_with fail
  rw [shl_one]
  go_wp2_with fail
  refine (rLowE b _).mono ?_
  rintro e u ⟨rfl, rfl⟩
  go_wp2_with fail
  refine (rJoin b n _ _ (by omega) (by omega) (by omega) (by omega) _).mono ?_
  rintro e w9 ⟨rfl, h9⟩
  have B9 := (HI4.push (FO n 0 0)).bel
  have HB9 : Hide (Below w.heap.size w w9) := ⟨HI4.bel.trans ((below_then (below_alloc w4 _) h9).mono HI4.bel.size)⟩
  clear h9 B9 HI4 q0 q1 q2
  go_wp2
  go_ret2
  refine ⟨?_, HB9.out⟩
  first | rfl | (simp; done) | trace_state
theorem rOf_lo10 (b n : Bool) (a : Option Addr) (c : Nat) (zs : List Int) (ex : Int) (w : World) (hl : Lie w a zs) (g : DG n zs ex) (hz : 0 < zs.length) {B : Nat} (hB : BitLen (Nt.val zs) B) (hb : B ≤ 131072) (p1 : ex + B ≤ wd b) (p2 : lo b ≤ ex) (p3 : (B : Int) ≤ fc b + 1) (hU : (B : Int) + ex - fc b - 1 < lo b) (k : Nat) (hk : (k : Int) = ex - (lo b)) (hk2 : k ≤ 1000) (hff : Nt.val zs * 2 ^ k < 4294967296 ^ 4096) (x0 : Int) (hx0 : 0 ≤ x0) (hx1 : x0 < 4294967296) (hG : Good [x0] (Nt.val zs * 2 ^ k)) (hN : x0 < fr b) (hE : 0 ≤ tp b) :
    Calls Tryz.prog 59 #[.int .u8 (fm b), dV n a zs.length c ex] w fun e w' => e = .returned (.tuple #[.int .u64 (sd b (0 * fr b + x0) n), .bool true]) ∧ Below w.heap.size w w' := by
  have B1 := (Bx.nil w).push (DO n a zs.length c ex)
  have hx := g.ex_bd
  have hfc := fc_bd b
  have hlo := lo_bd b
  have HBL := Hide.mk hB
  clear hB
  have HFF := Hide.mk hff
  have HG := Hide.mk hG
  have hfr := fr_le b
  have hfp := fr_pos b
  clear hff hG
  go_enter Tryz.func59, Tryz.ntmps59
  go_wp2_with fail
  refine (rSgn n a c zs.length ex hz _).mono ?_
  rintro e w2 ⟨s, rfl, ds, h2⟩
  have B2 := B1.keep h2
  obtain ⟨⟨f0, f1, f2⟩, _⟩ := cells3 B2 w.heap.size _ _ _ _ (.head _)
  clear h2 B1
  go_wp2_with fail
  refine (dreftop54 n a c zs ex _ (hl.below B2.bel (Nat.le_refl _)) g hz).mono ?_
  rintro e w3 ⟨B3, rfl, hB3, _, h3⟩
  obtain rfl := hB3.unique HBL.out
  have HI := B2.keep h3
  clear h3 B2 hB3 f0 f1 f2 ds
  go_wp2_with fail
  replace HI := HI.drew
  have sh := fun W (hW : Bx w [(w.heap.size, DO n a zs.length c ex)] W) => (cells3 hW w.heap.size _ _ _ _ (.head _)).1
  refine Drawn.enter (Bx w [(w.heap.size, DO n a zs.length c ex)]) (by kernel_rfl) ?_
  refine Drawn.tk (i := 0) (v := ?v92) rfl (fun W hW => ?_) HI ?_
  rotate_left
  · have ⟨q0, q1, q2⟩ := sh W hW
    go_simp <;> exact rfl
  refine Drawn.tk (i := 1) (v := ?v93) rfl (fun W hW => ?_) HI ?_
  rotate_left
  · have ⟨q0, q1, q2⟩ := sh W hW
    go_simp <;> exact rfl
  refine Drawn.one (j := 2) (by kernel_rfl) rfl (fun K hK => ?_)
  go_simp
  refine (rWide b _).mono ?_
  rintro e wn ⟨rfl, hn⟩
  refine hK _ _ (HI.keep hn) ?_
  clear hK K
  replace HI := HI.keep hn
  clear hn
  refine Drawn.tk (i := 3) (v := .bool false) rfl (fun W hW => ?_) HI ?_
  · have ⟨q0, q1, q2⟩ := sh W hW
    go_simp <;> (first | omega | (simp; omega))
  refine Drawn.tk (i := 4) (v := ?v94) rfl (fun W hW => ?_) HI ?_
  rotate_left
  · have ⟨q0, q1, q2⟩ := sh W hW
    go_simp <;> exact rfl
  refine Drawn.tk (i := 5) (v := ?v95) rfl (fun W hW => ?_) HI ?_
  rotate_left
  · have ⟨q0, q1, q2⟩ := sh W hW
    go_simp <;> exact rfl
  refine Drawn.tk (i := 6) (v := ?v96) rfl (fun W hW => ?_) HI ?_
  rotate_left
  · have ⟨q0, q1, q2⟩ := sh W hW
    go_simp <;> exact rfl
  refine Drawn.tk (i := 7) (v := ?v97) rfl (fun W hW => ?_) HI ?_
  rotate_left
  · have ⟨q0, q1, q2⟩ := sh W hW
    go_simp <;> exact rfl
  refine Drawn.one (j := 8) (by kernel_rfl) rfl (fun K hK => ?_)
  go_simp
  refine (rLow b _).mono ?_
  rintro e wn ⟨rfl, hn⟩
  refine hK _ _ (HI.keep hn) ?_
  clear hK K
  replace HI := HI.keep hn
  clear hn
  refine Drawn.tk (i := 9) (v := .bool false) rfl (fun W hW => ?_) HI ?_
  · have ⟨q0, q1, q2⟩ := sh W hW
    go_simp <;> (first | omega | (simp; omega))
  refine Drawn.tk (i := 10) (v := ?v98) rfl (fun W hW => ?_) HI ?_
  rotate_left
  · have ⟨q0, q1, q2⟩ := sh W hW
    go_simp <;> exact rfl
  refine Drawn.tk (i := 11) (v := ?v99) rfl (fun W hW => ?_) HI ?_
  rotate_left
  · have ⟨q0, q1, q2⟩ := sh W hW
    go_simp <;> exact rfl
  refine Drawn.tk (i := 12) (v := ?v100) rfl (fun W hW => ?_) HI ?_
  rotate_left
  · have ⟨q0, q1, q2⟩ := sh W hW
    go_simp <;> exact rfl
  refine Drawn.tk (i := 13) (v := ?v101) rfl (fun W hW => ?_) HI ?_
  rotate_left
  · have ⟨q0, q1, q2⟩ := sh W hW
    go_simp <;> exact rfl
  refine Drawn.tk (i := 15) (v := ?v102) rfl (fun W hW => ?_) HI ?_
  rotate_left
  · have ⟨q0, q1, q2⟩ := sh W hW
    go_simp <;> exact rfl
  refine Drawn.one (j := 14) (by kernel_rfl) rfl (fun K hK => ?_)
  go_simp
  refine (refLenN a c zs _ (hl.below HI.bel (Nat.le_refl _)) g.good).mono ?_
  rintro e wl ⟨rfl, B3, rfl, hB3, _⟩
  obtain rfl := hB3.unique HBL.out
  refine hK _ _ HI ?_
  clear hK K hB3
  refine Drawn.one (j := 16) (by kernel_rfl) rfl (fun K hK => ?_)
  go_simp
  refine (rFrac b _).mono ?_
  rintro e wn ⟨rfl, hn⟩
  refine hK _ _ (HI.keep hn) ?_
  clear hK K
  replace HI := HI.keep hn
  clear hn
  refine Drawn.tk (i := 17) (v := .int .i64 (fc b + 1)) rfl (fun W hW => ?_) HI ?_
  · have ⟨q0, q1, q2⟩ := sh W hW
    go_simp <;> (exact wrap_ok (by omega) (by omega))
  refine Drawn.tk (i := 18) (v := .bool false) rfl (fun W hW => ?_) HI ?_
  · have ⟨q0, q1, q2⟩ := sh W hW
    go_simp <;> (first | omega | (simp; omega))
  refine Drawn.tk (i := 19) (v := ?v103) rfl (fun W hW => ?_) HI ?_
  rotate_left
  · have ⟨q0, q1, q2⟩ := sh W hW
    go_simp <;> exact rfl
  refine Drawn.done (by kernel_rfl) ?_
  try go_simp
  obtain ⟨q0, q1, q2⟩ := sh _ HI
  clear sh
  go_wp2_with fail
  refine (rFracE b _).mono ?_
  rintro e u ⟨rfl, rfl⟩
  go_wp2_with fail
  rw [Int.add_comm ex] at *
  refine (rLowE b _).mono ?_
  rintro e u ⟨rfl, rfl⟩
  go_wp2_with fail
  refine (rLowE b _).mono ?_
  rintro e u ⟨rfl, rfl⟩
  go_wp2_with fail
  refine (refUpN a c zs _ (hl.below HI.bel (Nat.le_refl _)) g.good (ex - (lo b)) k (by omega) (by omega) HFF.out).mono ?_
  rintro e w4 ⟨z4, a4, c4, rfl, h4, _⟩
  have HI4 := HI.keep h4.bel
  obtain ⟨⟨q0, q1, q2⟩, _⟩ := cells3 HI4 w.heap.size _ _ _ _ (.head _)
  obtain rfl : z4 = [x0] := h4.good.same HG.out rfl
  obtain ⟨bb, o, rfl⟩ := lie_some h4.lie (by simp)
  have k0 : w4.cell? ⟨bb, o, none⟩ = some (.int .u32 x0) := lie_cell h4.lie rfl (i := 0) (by simp)
  have hltb : w.heap.size < w4.heap.size := HI4.lt (.head _)
  clear h4 HFF HG HI hfc
  have hq : x0 / fr b ≤ 0 := by
    have := Int.ediv_eq_zero_of_lt (show 0 ≤ x0 by omega) hN
    omega
  go_wp2_with fail
  refine (rFracE b _).mono ?_
  rintro e u ⟨rfl, rfl⟩
  go_wp2_with fail
  rw [shr_fc]
  go_wp2_with fail
  refine (rJoin b n _ _ (by omega) (by omega) (by omega) (by omega) _).mono ?_
  rintro e w9 ⟨rfl, h9⟩
  have B9 := (HI4.push (FO n 0 0)).bel
  have HB9 : Hide (Below w.heap.size w w9) := ⟨HI4.bel.trans ((below_then (below_alloc w4 _) h9).mono HI4.bel.size)⟩
  clear h9 B9 HI4 q0 q1 q2
  go_wp2
  go_ret2
  refine ⟨?_, HB9.out⟩
  first | rfl | (simp; done) | trace_state
theorem rOf_lo21 (b n : Bool) (a : Option Addr) (c : Nat) (zs : List Int) (ex : Int) (w : World) (hl : Lie w a zs) (g : DG n zs ex) (hz : 0 < zs.length) {B : Nat} (hB : BitLen (Nt.val zs) B) (hb : B ≤ 131072) (p1 : ex + B ≤ wd b) (p2 : lo b ≤ ex) (p3 : (B : Int) ≤ fc b + 1) (hU : (B : Int) + ex - fc b - 1 < lo b) (k : Nat) (hk : (k : Int) = ex - (lo b)) (hk2 : k ≤ 1000) (hff : Nt.val zs * 2 ^ k < 4294967296 ^ 4096) (x0 x1 : Int) (hx0 : 0 ≤ x0) (hx1 : x0 < 4294967296) (hy0 : 0 ≤ x1) (hy1 : x1 < 4294967296) (hG : Good [x0, x1] (Nt.val zs * 2 ^ k)) (hN : fr b ≤ (x0 + x1 * 4294967296)) (hN2 : (x0 + x1 * 4294967296) < 2 * fr b) (hE : ((lo b) - lo b + 1) ≤ tp b) :
    Calls Tryz.prog 59 #[.int .u8 (fm b), dV n a zs.length c ex] w fun e w' => e = .returned (.tuple #[.int .u64 (sd b (((lo b) - lo b + 1) * fr b + ((x0 + x1 * 4294967296) - fr b)) n), .bool true]) ∧ Below w.heap.size w w' := by
  have B1 := (Bx.nil w).push (DO n a zs.length c ex)
  have hx := g.ex_bd
  have hfc := fc_bd b
  have hlo := lo_bd b
  have HBL := Hide.mk hB
  clear hB
  have HFF := Hide.mk hff
  have HG := Hide.mk hG
  have hfr := fr_le b
  have hfp := fr_pos b
  clear hff hG
  go_enter Tryz.func59, Tryz.ntmps59
  go_wp2_with fail
  refine (rSgn n a c zs.length ex hz _).mono ?_
  rintro e w2 ⟨s, rfl, ds, h2⟩
  have B2 := B1.keep h2
  obtain ⟨⟨f0, f1, f2⟩, _⟩ := cells3 B2 w.heap.size _ _ _ _ (.head _)
  clear h2 B1
  go_wp2_with fail
  refine (dreftop54 n a c zs ex _ (hl.below B2.bel (Nat.le_refl _)) g hz).mono ?_
  rintro e w3 ⟨B3, rfl, hB3, _, h3⟩
  obtain rfl := hB3.unique HBL.out
  have HI := B2.keep h3
  clear h3 B2 hB3 f0 f1 f2 ds
  go_wp2_with fail
  replace HI := HI.drew
  have sh := fun W (hW : Bx w [(w.heap.size, DO n a zs.length c ex)] W) => (cells3 hW w.heap.size _ _ _ _ (.head _)).1
  refine Drawn.enter (Bx w [(w.heap.size, DO n a zs.length c ex)]) (by kernel_rfl) ?_
  refine Drawn.tk (i := 0) (v := ?v104) rfl (fun W hW => ?_) HI ?_
  rotate_left
  · have ⟨q0, q1, q2⟩ := sh W hW
    go_simp <;> exact rfl
  refine Drawn.tk (i := 1) (v := ?v105) rfl (fun W hW => ?_) HI ?_
  rotate_left
  · have ⟨q0, q1, q2⟩ := sh W hW
    go_simp <;> exact rfl
  refine Drawn.one (j := 2) (by kernel_rfl) rfl (fun K hK => ?_)
  go_simp
  refine (rWide b _).mono ?_
  rintro e wn ⟨rfl, hn⟩
  refine hK _ _ (HI.keep hn) ?_
  clear hK K
  replace HI := HI.keep hn
  clear hn
  refine Drawn.tk (i := 3) (v := .bool false) rfl (fun W hW => ?_) HI ?_
  · have ⟨q0, q1, q2⟩ := sh W hW
    go_simp <;> (first | omega | (simp; omega))
  refine Drawn.tk (i := 4) (v := ?v106) rfl (fun W hW => ?_) HI ?_
  rotate_left
  · have ⟨q0, q1, q2⟩ := sh W hW
    go_simp <;> exact rfl
  refine Drawn.tk (i := 5) (v := ?v107) rfl (fun W hW => ?_) HI ?_
  rotate_left
  · have ⟨q0, q1, q2⟩ := sh W hW
    go_simp <;> exact rfl
  refine Drawn.tk (i := 6) (v := ?v108) rfl (fun W hW => ?_) HI ?_
  rotate_left
  · have ⟨q0, q1, q2⟩ := sh W hW
    go_simp <;> exact rfl
  refine Drawn.tk (i := 7) (v := ?v109) rfl (fun W hW => ?_) HI ?_
  rotate_left
  · have ⟨q0, q1, q2⟩ := sh W hW
    go_simp <;> exact rfl
  refine Drawn.one (j := 8) (by kernel_rfl) rfl (fun K hK => ?_)
  go_simp
  refine (rLow b _).mono ?_
  rintro e wn ⟨rfl, hn⟩
  refine hK _ _ (HI.keep hn) ?_
  clear hK K
  replace HI := HI.keep hn
  clear hn
  refine Drawn.tk (i := 9) (v := .bool false) rfl (fun W hW => ?_) HI ?_
  · have ⟨q0, q1, q2⟩ := sh W hW
    go_simp <;> (first | omega | (simp; omega))
  refine Drawn.tk (i := 10) (v := ?v110) rfl (fun W hW => ?_) HI ?_
  rotate_left
  · have ⟨q0, q1, q2⟩ := sh W hW
    go_simp <;> exact rfl
  refine Drawn.tk (i := 11) (v := ?v111) rfl (fun W hW => ?_) HI ?_
  rotate_left
  · have ⟨q0, q1, q2⟩ := sh W hW
    go_simp <;> exact rfl
  refine Drawn.tk (i := 12) (v := ?v112) rfl (fun W hW => ?_) HI ?_
  rotate_left
  · have ⟨q0, q1, q2⟩ := sh W hW
    go_simp <;> exact rfl
  refine Drawn.tk (i := 13) (v := ?v113) rfl (fun W hW => ?_) HI ?_
  rotate_left
  · have ⟨q0, q1, q2⟩ := sh W hW
    go_simp <;> exact rfl
  refine Drawn.tk (i := 15) (v := ?v114) rfl (fun W hW => ?_) HI ?_
  rotate_left
  · have ⟨q0, q1, q2⟩ := sh W hW
    go_simp <;> exact rfl
  refine Drawn.one (j := 14) (by kernel_rfl) rfl (fun K hK => ?_)
  go_simp
  refine (refLenN a c zs _ (hl.below HI.bel (Nat.le_refl _)) g.good).mono ?_
  rintro e wl ⟨rfl, B3, rfl, hB3, _⟩
  obtain rfl := hB3.unique HBL.out
  refine hK _ _ HI ?_
  clear hK K hB3
  refine Drawn.one (j := 16) (by kernel_rfl) rfl (fun K hK => ?_)
  go_simp
  refine (rFrac b _).mono ?_
  rintro e wn ⟨rfl, hn⟩
  refine hK _ _ (HI.keep hn) ?_
  clear hK K
  replace HI := HI.keep hn
  clear hn
  refine Drawn.tk (i := 17) (v := .int .i64 (fc b + 1)) rfl (fun W hW => ?_) HI ?_
  · have ⟨q0, q1, q2⟩ := sh W hW
    go_simp <;> (exact wrap_ok (by omega) (by omega))
  refine Drawn.tk (i := 18) (v := .bool false) rfl (fun W hW => ?_) HI ?_
  · have ⟨q0, q1, q2⟩ := sh W hW
    go_simp <;> (first | omega | (simp; omega))
  refine Drawn.tk (i := 19) (v := ?v115) rfl (fun W hW => ?_) HI ?_
  rotate_left
  · have ⟨q0, q1, q2⟩ := sh W hW
    go_simp <;> exact rfl
  refine Drawn.done (by kernel_rfl) ?_
  try go_simp
  obtain ⟨q0, q1, q2⟩ := sh _ HI
  clear sh
  go_wp2_with fail
  refine (rFracE b _).mono ?_
  rintro e u ⟨rfl, rfl⟩
  go_wp2_with fail
  rw [Int.add_comm ex] at *
  refine (rLowE b _).mono ?_
  rintro e u ⟨rfl, rfl⟩
  go_wp2_with fail
  refine (rLowE b _).mono ?_
  rintro e u ⟨rfl, rfl⟩
  go_wp2_with fail
  refine (refUpN a c zs _ (hl.below HI.bel (Nat.le_refl _)) g.good (ex - (lo b)) k (by omega) (by omega) HFF.out).mono ?_
  rintro e w4 ⟨z4, a4, c4, rfl, h4, _⟩
  have HI4 := HI.keep h4.bel
  obtain ⟨⟨q0, q1, q2⟩, _⟩ := cells3 HI4 w.heap.size _ _ _ _ (.head _)
  obtain rfl : z4 = [x0, x1] := h4.good.same HG.out rfl
  obtain ⟨bb, o, rfl⟩ := lie_some h4.lie (by simp)
  have k0 : w4.cell? ⟨bb, o, none⟩ = some (.int .u32 x0) := lie_cell h4.lie rfl (i := 0) (by simp)
  have k1 : w4.cell? ⟨bb, o + 1, none⟩ = some (.int .u32 x1) := lie_cell h4.lie rfl (i := 1) (by simp)
  have hltb : w.heap.size < w4.heap.size := HI4.lt (.head _)
  clear h4 HFF HG HI hfc
  have hq : 0 < (x0 + x1 * 4294967296) / fr b := by
    have := Int.le_ediv_of_mul_le (c := fr b) (b := (x0 + x1 * 4294967296)) (a := 1) hfp (by omega)
    omega
  go_wp2_with fail
  refine (rFracE b _).mono ?_
  rintro e u ⟨rfl, rfl⟩
  go_wp2_with fail
  rw [shr_fc]
  go_wp2_with fail
  refine (rFracE b _).mono ?_
  rintro e u ⟨rfl, rfl⟩
  go_wp2_with fail
  rw [shl_one]
  go_wp2_with fail
  refine (rLowE b _).mono ?_
  rintro e u ⟨rfl, rfl⟩
  go_wp2_with fail
  refine (rJoin b n _ _ (by omega) (by omega) (by omega) (by omega) _).mono ?_
  rintro e w9 ⟨rfl, h9⟩
  have B9 := (HI4.push (FO n 0 0)).bel
  have HB9 : Hide (Below w.heap.size w w9) := ⟨HI4.bel.trans ((below_then (below_alloc w4 _) h9).mono HI4.bel.size)⟩
  clear h9 B9 HI4 q0 q1 q2
  go_wp2
  go_ret2
  refine ⟨?_, HB9.out⟩
  first | rfl | (simp; done) | trace_state
theorem rOf_lo20 (b n : Bool) (a : Option Addr) (c : Nat) (zs : List Int) (ex : Int) (w : World) (hl : Lie w a zs) (g : DG n zs ex) (hz : 0 < zs.length) {B : Nat} (hB : BitLen (Nt.val zs) B) (hb : B ≤ 131072) (p1 : ex + B ≤ wd b) (p2 : lo b ≤ ex) (p3 : (B : Int) ≤ fc b + 1) (hU : (B : Int) + ex - fc b - 1 < lo b) (k : Nat) (hk : (k : Int) = ex - (lo b)) (hk2 : k ≤ 1000) (hff : Nt.val zs * 2 ^ k < 4294967296 ^ 4096) (x0 x1 : Int) (hx0 : 0 ≤ x0) (hx1 : x0 < 4294967296) (hy0 : 0 ≤ x1) (hy1 : x1 < 4294967296) (hG : Good [x0, x1] (Nt.val zs * 2 ^ k)) (hN : (x0 + x1 * 4294967296) < fr b) (hE : 0 ≤ tp b) :
    Calls Tryz.prog 59 #[.int .u8 (fm b), dV n a zs.length c ex] w fun e w' => e = .returned (.tuple #[.int .u64 (sd b (0 * fr b + (x0 + x1 * 4294967296)) n), .bool true]) ∧ Below w.heap.size w w' := by
  have B1 := (Bx.nil w).push (DO n a zs.length c ex)
  have hx := g.ex_bd
  have hfc := fc_bd b
  have hlo := lo_bd b
  have HBL := Hide.mk hB
  clear hB
  have HFF := Hide.mk hff
  have HG := Hide.mk hG
  have hfr := fr_le b
  have hfp := fr_pos b
  clear hff hG
  go_enter Tryz.func59, Tryz.ntmps59
  go_wp2_with fail
  refine (rSgn n a c zs.length ex hz _).mono ?_
  rintro e w2 ⟨s, rfl, ds, h2⟩
  have B2 := B1.keep h2
  obtain ⟨⟨f0, f1, f2⟩, _⟩ := cells3 B2 w.heap.size _ _ _ _ (.head _)
  clear h2 B1
  go_wp2_with fail
  refine (dreftop54 n a c zs ex _ (hl.below B2.bel (Nat.le_refl _)) g hz).mono ?_
  rintro e w3 ⟨B3, rfl, hB3, _, h3⟩
  obtain rfl := hB3.unique HBL.out
  have HI := B2.keep h3
  clear h3 B2 hB3 f0 f1 f2 ds
  go_wp2_with fail
  replace HI := HI.drew
  have sh := fun W (hW : Bx w [(w.heap.size, DO n a zs.length c ex)] W) => (cells3 hW w.heap.size _ _ _ _ (.head _)).1
  refine Drawn.enter (Bx w [(w.heap.size, DO n a zs.length c ex)]) (by kernel_rfl) ?_
  refine Drawn.tk (i := 0) (v := ?v116) rfl (fun W hW => ?_) HI ?_
  rotate_left
  · have ⟨q0, q1, q2⟩ := sh W hW
    go_simp <;> exact rfl
  refine Drawn.tk (i := 1) (v := ?v117) rfl (fun W hW => ?_) HI ?_
  rotate_left
  · have ⟨q0, q1, q2⟩ := sh W hW
    go_simp <;> exact rfl
  refine Drawn.one (j := 2) (by kernel_rfl) rfl (fun K hK => ?_)
  go_simp
  refine (rWide b _).mono ?_
  rintro e wn ⟨rfl, hn⟩
  refine hK _ _ (HI.keep hn) ?_
  clear hK K
  replace HI := HI.keep hn
  clear hn
  refine Drawn.tk (i := 3) (v := .bool false) rfl (fun W hW => ?_) HI ?_
  · have ⟨q0, q1, q2⟩ := sh W hW
    go_simp <;> (first | omega | (simp; omega))
  refine Drawn.tk (i := 4) (v := ?v118) rfl (fun W hW => ?_) HI ?_
  rotate_left
  · have ⟨q0, q1, q2⟩ := sh W hW
    go_simp <;> exact rfl
  refine Drawn.tk (i := 5) (v := ?v119) rfl (fun W hW => ?_) HI ?_
  rotate_left
  · have ⟨q0, q1, q2⟩ := sh W hW
    go_simp <;> exact rfl
  refine Drawn.tk (i := 6) (v := ?v120) rfl (fun W hW => ?_) HI ?_
  rotate_left
  · have ⟨q0, q1, q2⟩ := sh W hW
    go_simp <;> exact rfl
  refine Drawn.tk (i := 7) (v := ?v121) rfl (fun W hW => ?_) HI ?_
  rotate_left
  · have ⟨q0, q1, q2⟩ := sh W hW
    go_simp <;> exact rfl
  refine Drawn.one (j := 8) (by kernel_rfl) rfl (fun K hK => ?_)
  go_simp
  refine (rLow b _).mono ?_
  rintro e wn ⟨rfl, hn⟩
  refine hK _ _ (HI.keep hn) ?_
  clear hK K
  replace HI := HI.keep hn
  clear hn
  refine Drawn.tk (i := 9) (v := .bool false) rfl (fun W hW => ?_) HI ?_
  · have ⟨q0, q1, q2⟩ := sh W hW
    go_simp <;> (first | omega | (simp; omega))
  refine Drawn.tk (i := 10) (v := ?v122) rfl (fun W hW => ?_) HI ?_
  rotate_left
  · have ⟨q0, q1, q2⟩ := sh W hW
    go_simp <;> exact rfl
  refine Drawn.tk (i := 11) (v := ?v123) rfl (fun W hW => ?_) HI ?_
  rotate_left
  · have ⟨q0, q1, q2⟩ := sh W hW
    go_simp <;> exact rfl
  refine Drawn.tk (i := 12) (v := ?v124) rfl (fun W hW => ?_) HI ?_
  rotate_left
  · have ⟨q0, q1, q2⟩ := sh W hW
    go_simp <;> exact rfl
  refine Drawn.tk (i := 13) (v := ?v125) rfl (fun W hW => ?_) HI ?_
  rotate_left
  · have ⟨q0, q1, q2⟩ := sh W hW
    go_simp <;> exact rfl
  refine Drawn.tk (i := 15) (v := ?v126) rfl (fun W hW => ?_) HI ?_
  rotate_left
  · have ⟨q0, q1, q2⟩ := sh W hW
    go_simp <;> exact rfl
  refine Drawn.one (j := 14) (by kernel_rfl) rfl (fun K hK => ?_)
  go_simp
  refine (refLenN a c zs _ (hl.below HI.bel (Nat.le_refl _)) g.good).mono ?_
  rintro e wl ⟨rfl, B3, rfl, hB3, _⟩
  obtain rfl := hB3.unique HBL.out
  refine hK _ _ HI ?_
  clear hK K hB3
  refine Drawn.one (j := 16) (by kernel_rfl) rfl (fun K hK => ?_)
  go_simp
  refine (rFrac b _).mono ?_
  rintro e wn ⟨rfl, hn⟩
  refine hK _ _ (HI.keep hn) ?_
  clear hK K
  replace HI := HI.keep hn
  clear hn
  refine Drawn.tk (i := 17) (v := .int .i64 (fc b + 1)) rfl (fun W hW => ?_) HI ?_
  · have ⟨q0, q1, q2⟩ := sh W hW
    go_simp <;> (exact wrap_ok (by omega) (by omega))
  refine Drawn.tk (i := 18) (v := .bool false) rfl (fun W hW => ?_) HI ?_
  · have ⟨q0, q1, q2⟩ := sh W hW
    go_simp <;> (first | omega | (simp; omega))
  refine Drawn.tk (i := 19) (v := ?v127) rfl (fun W hW => ?_) HI ?_
  rotate_left
  · have ⟨q0, q1, q2⟩ := sh W hW
    go_simp <;> exact rfl
  refine Drawn.done (by kernel_rfl) ?_
  try go_simp
  obtain ⟨q0, q1, q2⟩ := sh _ HI
  clear sh
  go_wp2_with fail
  refine (rFracE b _).mono ?_
  rintro e u ⟨rfl, rfl⟩
  go_wp2_with fail
  rw [Int.add_comm ex] at *
  refine (rLowE b _).mono ?_
  rintro e u ⟨rfl, rfl⟩
  go_wp2_with fail
  refine (rLowE b _).mono ?_
  rintro e u ⟨rfl, rfl⟩
  go_wp2_with fail
  refine (refUpN a c zs _ (hl.below HI.bel (Nat.le_refl _)) g.good (ex - (lo b)) k (by omega) (by omega) HFF.out).mono ?_
  rintro e w4 ⟨z4, a4, c4, rfl, h4, _⟩
  have HI4 := HI.keep h4.bel
  obtain ⟨⟨q0, q1, q2⟩, _⟩ := cells3 HI4 w.heap.size _ _ _ _ (.head _)
  obtain rfl : z4 = [x0, x1] := h4.good.same HG.out rfl
  obtain ⟨bb, o, rfl⟩ := lie_some h4.lie (by simp)
  have k0 : w4.cell? ⟨bb, o, none⟩ = some (.int .u32 x0) := lie_cell h4.lie rfl (i := 0) (by simp)
  have k1 : w4.cell? ⟨bb, o + 1, none⟩ = some (.int .u32 x1) := lie_cell h4.lie rfl (i := 1) (by simp)
  have hltb : w.heap.size < w4.heap.size := HI4.lt (.head _)
  clear h4 HFF HG HI hfc
  have hq : (x0 + x1 * 4294967296) / fr b ≤ 0 := by
    have := Int.ediv_eq_zero_of_lt (show 0 ≤ (x0 + x1 * 4294967296) by omega) hN
    omega
  go_wp2_with fail
  refine (rFracE b _).mono ?_
  rintro e u ⟨rfl, rfl⟩
  go_wp2_with fail
  rw [shr_fc]
  go_wp2_with fail
  refine (rJoin b n _ _ (by omega) (by omega) (by omega) (by omega) _).mono ?_
  rintro e w9 ⟨rfl, h9⟩
  have B9 := (HI4.push (FO n 0 0)).bel
  have HB9 : Hide (Below w.heap.size w w9) := ⟨HI4.bel.trans ((below_then (below_alloc w4 _) h9).mono HI4.bel.size)⟩
  clear h9 B9 HI4 q0 q1 q2
  go_wp2
  go_ret2
  refine ⟨?_, HB9.out⟩
  first | rfl | (simp; done) | trace_state
theorem rOf_hi11 (b n : Bool) (a : Option Addr) (c : Nat) (zs : List Int) (ex : Int) (w : World) (hl : Lie w a zs) (g : DG n zs ex) (hz : 0 < zs.length) {B : Nat} (hB : BitLen (Nt.val zs) B) (hb : B ≤ 131072) (p1 : ex + B ≤ wd b) (p2 : lo b ≤ ex) (p3 : (B : Int) ≤ fc b + 1) (hU : lo b ≤ (B : Int) + ex - fc b - 1) (k : Nat) (hk : (k : Int) = ex - (B + ex - fc b - 1)) (hk2 : k ≤ 1000) (hff : Nt.val zs * 2 ^ k < 4294967296 ^ 4096) (x0 : Int) (hx0 : 0 ≤ x0) (hx1 : x0 < 4294967296) (hG : Good [x0] (Nt.val zs * 2 ^ k)) (hN : fr b ≤ x0) (hN2 : x0 < 2 * fr b) (hE : ((B + ex - fc b - 1) - lo b + 1) ≤ tp b) :
    Calls Tryz.prog 59 #[.int .u8 (fm b), dV n a zs.length c ex] w fun e w' => e = .returned (.tuple #[.int .u64 (sd b (((B + ex - fc b - 1) - lo b + 1) * fr b + (x0 - fr b)) n), .bool true]) ∧ Below w.heap.size w w' := by
  have B1 := (Bx.nil w).push (DO n a zs.length c ex)
  have hx := g.ex_bd
  have hfc := fc_bd b
  have hlo := lo_bd b
  have HBL := Hide.mk hB
  clear hB
  have HFF := Hide.mk hff
  have HG := Hide.mk hG
  have hfr := fr_le b
  have hfp := fr_pos b
  clear hff hG
  go_enter Tryz.func59, Tryz.ntmps59
  go_wp2_with fail
  refine (rSgn n a c zs.length ex hz _).mono ?_
  rintro e w2 ⟨s, rfl, ds, h2⟩
  have B2 := B1.keep h2
  obtain ⟨⟨f0, f1, f2⟩, _⟩ := cells3 B2 w.heap.size _ _ _ _ (.head _)
  clear h2 B1
  go_wp2_with fail
  refine (dreftop54 n a c zs ex _ (hl.below B2.bel (Nat.le_refl _)) g hz).mono ?_
  rintro e w3 ⟨B3, rfl, hB3, _, h3⟩
  obtain rfl := hB3.unique HBL.out
  have HI := B2.keep h3
  clear h3 B2 hB3 f0 f1 f2 ds
  go_wp2_with fail
  replace HI := HI.drew
  have sh := fun W (hW : Bx w [(w.heap.size, DO n a zs.length c ex)] W) => (cells3 hW w.heap.size _ _ _ _ (.head _)).1
  refine Drawn.enter (Bx w [(w.heap.size, DO n a zs.length c ex)]) (by kernel_rfl) ?_
  refine Drawn.tk (i := 0) (v := ?v128) rfl (fun W hW => ?_) HI ?_
  rotate_left
  · have ⟨q0, q1, q2⟩ := sh W hW
    go_simp <;> exact rfl
  refine Drawn.tk (i := 1) (v := ?v129) rfl (fun W hW => ?_) HI ?_
  rotate_left
  · have ⟨q0, q1, q2⟩ := sh W hW
    go_simp <;> exact rfl
  refine Drawn.one (j := 2) (by kernel_rfl) rfl (fun K hK => ?_)
  go_simp
  refine (rWide b _).mono ?_
  rintro e wn ⟨rfl, hn⟩
  refine hK _ _ (HI.keep hn) ?_
  clear hK K
  replace HI := HI.keep hn
  clear hn
  refine Drawn.tk (i := 3) (v := .bool false) rfl (fun W hW => ?_) HI ?_
  · have ⟨q0, q1, q2⟩ := sh W hW
    go_simp <;> (first | omega | (simp; omega))
  refine Drawn.tk (i := 4) (v := ?v130) rfl (fun W hW => ?_) HI ?_
  rotate_left
  · have ⟨q0, q1, q2⟩ := sh W hW
    go_simp <;> exact rfl
  refine Drawn.tk (i := 5) (v := ?v131) rfl (fun W hW => ?_) HI ?_
  rotate_left
  · have ⟨q0, q1, q2⟩ := sh W hW
    go_simp <;> exact rfl
  refine Drawn.tk (i := 6) (v := ?v132) rfl (fun W hW => ?_) HI ?_
  rotate_left
  · have ⟨q0, q1, q2⟩ := sh W hW
    go_simp <;> exact rfl
  refine Drawn.tk (i := 7) (v := ?v133) rfl (fun W hW => ?_) HI ?_
  rotate_left
  · have ⟨q0, q1, q2⟩ := sh W hW
    go_simp <;> exact rfl
  refine Drawn.one (j := 8) (by kernel_rfl) rfl (fun K hK => ?_)
  go_simp
  refine (rLow b _).mono ?_
  rintro e wn ⟨rfl, hn⟩
  refine hK _ _ (HI.keep hn) ?_
  clear hK K
  replace HI := HI.keep hn
  clear hn
  refine Drawn.tk (i := 9) (v := .bool false) rfl (fun W hW => ?_) HI ?_
  · have ⟨q0, q1, q2⟩ := sh W hW
    go_simp <;> (first | omega | (simp; omega))
  refine Drawn.tk (i := 10) (v := ?v134) rfl (fun W hW => ?_) HI ?_
  rotate_left
  · have ⟨q0, q1, q2⟩ := sh W hW
    go_simp <;> exact rfl
  refine Drawn.tk (i := 11) (v := ?v135) rfl (fun W hW => ?_) HI ?_
  rotate_left
  · have ⟨q0, q1, q2⟩ := sh W hW
    go_simp <;> exact rfl
  refine Drawn.tk (i := 12) (v := ?v136) rfl (fun W hW => ?_) HI ?_
  rotate_left
  · have ⟨q0, q1, q2⟩ := sh W hW
    go_simp <;> exact rfl
  refine Drawn.tk (i := 13) (v := ?v137) rfl (fun W hW => ?_) HI ?_
  rotate_left
  · have ⟨q0, q1, q2⟩ := sh W hW
    go_simp <;> exact rfl
  refine Drawn.tk (i := 15) (v := ?v138) rfl (fun W hW => ?_) HI ?_
  rotate_left
  · have ⟨q0, q1, q2⟩ := sh W hW
    go_simp <;> exact rfl
  refine Drawn.one (j := 14) (by kernel_rfl) rfl (fun K hK => ?_)
  go_simp
  refine (refLenN a c zs _ (hl.below HI.bel (Nat.le_refl _)) g.good).mono ?_
  rintro e wl ⟨rfl, B3, rfl, hB3, _⟩
  obtain rfl := hB3.unique HBL.out
  refine hK _ _ HI ?_
  clear hK K hB3
  refine Drawn.one (j := 16) (by kernel_rfl) rfl (fun K hK => ?_)
  go_simp
  refine (rFrac b _).mono ?_
  rintro e wn ⟨rfl, hn⟩
  refine hK _ _ (HI.keep hn) ?_
  clear hK K
  replace HI := HI.keep hn
  clear hn
  refine Drawn.tk (i := 17) (v := .int .i64 (fc b + 1)) rfl (fun W hW => ?_) HI ?_
  · have ⟨q0, q1, q2⟩ := sh W hW
    go_simp <;> (exact wrap_ok (by omega) (by omega))
  refine Drawn.tk (i := 18) (v := .bool false) rfl (fun W hW => ?_) HI ?_
  · have ⟨q0, q1, q2⟩ := sh W hW
    go_simp <;> (first | omega | (simp; omega))
  refine Drawn.tk (i := 19) (v := ?v139) rfl (fun W hW => ?_) HI ?_
  rotate_left
  · have ⟨q0, q1, q2⟩ := sh W hW
    go_simp <;> exact rfl
  refine Drawn.done (by kernel_rfl) ?_
  try go_simp
  obtain ⟨q0, q1, q2⟩ := sh _ HI
  clear sh
  go_wp2_with fail
  refine (rFracE b _).mono ?_
  rintro e u ⟨rfl, rfl⟩
  go_wp2_with fail
  rw [Int.add_comm ex] at *
  refine (rLowE b _).mono ?_
  rintro e u ⟨rfl, rfl⟩
  go_wp2_with fail
  have hwd : wd b ≤ 1024 := by cases b <;> decide
  generalize hUU : (B3 : Int) + ex - fc b - 1 = U at *
  have HUU := Hide.mk hUU
  have hU2 : U ≤ 1100 := by omega
  clear hUU
  refine (refUpN a c zs _ (hl.below HI.bel (Nat.le_refl _)) g.good (ex - U) k (by omega) (by omega) HFF.out).mono ?_
  rintro e w4 ⟨z4, a4, c4, rfl, h4, _⟩
  have HI4 := HI.keep h4.bel
  obtain ⟨⟨q0, q1, q2⟩, _⟩ := cells3 HI4 w.heap.size _ _ _ _ (.head _)
  obtain rfl : z4 = [x0] := h4.good.same HG.out rfl
  obtain ⟨bb, o, rfl⟩ := lie_some h4.lie (by simp)
  have k0 : w4.cell? ⟨bb, o, none⟩ = some (.int .u32 x0) := lie_cell h4.lie rfl (i := 0) (by simp)
  have hltb : w.heap.size < w4.heap.size := HI4.lt (.head _)
  clear h4 HFF HG HI hfc
  have hq : 0 < x0 / fr b := by
    have := Int.le_ediv_of_mul_le (c := fr b) (b := x0) (a := 1) hfp (by omega)
    omega
  go_wp2_with fail
  refine (rFracE b _).mono ?_
  rintro e u ⟨rfl, rfl⟩
  go_wp2_with fail
  rw [shr_fc]
  go_wp2_with fail
  refine (rFracE b _).mono ?_
  rintro e u ⟨rfl, rfl⟩
  go_wp2_with fail
  rw [shl_one]
  go_wp2_with fail
  refine (rLowE b _).mono ?_
  rintro e u ⟨rfl, rfl⟩
  go_wp2_with fail
  refine (rJoin b n _ _ (by omega) (by omega) (by omega) (by omega) _).mono ?_
  rintro e w9 ⟨rfl, h9⟩
  have B9 := (HI4.push (FO n 0 0)).bel
  have HB9 : Hide (Below w.heap.size w w9) := ⟨HI4.bel.trans ((below_then (below_alloc w4 _) h9).mono HI4.bel.size)⟩
  clear h9 B9 HI4 q0 q1 q2
  go_wp2
  go_ret2
  refine ⟨?_, HB9.out⟩
  rw [HUU.out]
  first | rfl | (simp; done) | trace_state
theorem rOf_hi21 (b n : Bool) (a : Option Addr) (c : Nat) (zs : List Int) (ex : Int) (w : World) (hl : Lie w a zs) (g : DG n zs ex) (hz : 0 < zs.length) {B : Nat} (hB : BitLen (Nt.val zs) B) (hb : B ≤ 131072) (p1 : ex + B ≤ wd b) (p2 : lo b ≤ ex) (p3 : (B : Int) ≤ fc b + 1) (hU : lo b ≤ (B : Int) + ex - fc b - 1) (k : Nat) (hk : (k : Int) = ex - (B + ex - fc b - 1)) (hk2 : k ≤ 1000) (hff : Nt.val zs * 2 ^ k < 4294967296 ^ 4096) (x0 x1 : Int) (hx0 : 0 ≤ x0) (hx1 : x0 < 4294967296) (hy0 : 0 ≤ x1) (hy1 : x1 < 4294967296) (hG : Good [x0, x1] (Nt.val zs * 2 ^ k)) (hN : fr b ≤ (x0 + x1 * 4294967296)) (hN2 : (x0 + x1 * 4294967296) < 2 * fr b) (hE : ((B + ex - fc b - 1) - lo b + 1) ≤ tp b) :
    Calls Tryz.prog 59 #[.int .u8 (fm b), dV n a zs.length c ex] w fun e w' => e = .returned (.tuple #[.int .u64 (sd b (((B + ex - fc b - 1) - lo b + 1) * fr b + ((x0 + x1 * 4294967296) - fr b)) n), .bool true]) ∧ Below w.heap.size w w' := by
  have B1 := (Bx.nil w).push (DO n a zs.length c ex)
  have hx := g.ex_bd
  have hfc := fc_bd b
  have hlo := lo_bd b
  have HBL := Hide.mk hB
  clear hB
  have HFF := Hide.mk hff
  have HG := Hide.mk hG
  have hfr := fr_le b
  have hfp := fr_pos b
  clear hff hG
  go_enter Tryz.func59, Tryz.ntmps59
  go_wp2_with fail
  refine (rSgn n a c zs.length ex hz _).mono ?_
  rintro e w2 ⟨s, rfl, ds, h2⟩
  have B2 := B1.keep h2
  obtain ⟨⟨f0, f1, f2⟩, _⟩ := cells3 B2 w.heap.size _ _ _ _ (.head _)
  clear h2 B1
  go_wp2_with fail
  refine (dreftop54 n a c zs ex _ (hl.below B2.bel (Nat.le_refl _)) g hz).mono ?_
  rintro e w3 ⟨B3, rfl, hB3, _, h3⟩
  obtain rfl := hB3.unique HBL.out
  have HI := B2.keep h3
  clear h3 B2 hB3 f0 f1 f2 ds
  go_wp2_with fail
  replace HI := HI.drew
  have sh := fun W (hW : Bx w [(w.heap.size, DO n a zs.length c ex)] W) => (cells3 hW w.heap.size _ _ _ _ (.head _)).1
  refine Drawn.enter (Bx w [(w.heap.size, DO n a zs.length c ex)]) (by kernel_rfl) ?_
  refine Drawn.tk (i := 0) (v := ?v140) rfl (fun W hW => ?_) HI ?_
  rotate_left
  · have ⟨q0, q1, q2⟩ := sh W hW
    go_simp <;> exact rfl
  refine Drawn.tk (i := 1) (v := ?v141) rfl (fun W hW => ?_) HI ?_
  rotate_left
  · have ⟨q0, q1, q2⟩ := sh W hW
    go_simp <;> exact rfl
  refine Drawn.one (j := 2) (by kernel_rfl) rfl (fun K hK => ?_)
  go_simp
  refine (rWide b _).mono ?_
  rintro e wn ⟨rfl, hn⟩
  refine hK _ _ (HI.keep hn) ?_
  clear hK K
  replace HI := HI.keep hn
  clear hn
  refine Drawn.tk (i := 3) (v := .bool false) rfl (fun W hW => ?_) HI ?_
  · have ⟨q0, q1, q2⟩ := sh W hW
    go_simp <;> (first | omega | (simp; omega))
  refine Drawn.tk (i := 4) (v := ?v142) rfl (fun W hW => ?_) HI ?_
  rotate_left
  · have ⟨q0, q1, q2⟩ := sh W hW
    go_simp <;> exact rfl
  refine Drawn.tk (i := 5) (v := ?v143) rfl (fun W hW => ?_) HI ?_
  rotate_left
  · have ⟨q0, q1, q2⟩ := sh W hW
    go_simp <;> exact rfl
  refine Drawn.tk (i := 6) (v := ?v144) rfl (fun W hW => ?_) HI ?_
  rotate_left
  · have ⟨q0, q1, q2⟩ := sh W hW
    go_simp <;> exact rfl
  refine Drawn.tk (i := 7) (v := ?v145) rfl (fun W hW => ?_) HI ?_
  rotate_left
  · have ⟨q0, q1, q2⟩ := sh W hW
    go_simp <;> exact rfl
  refine Drawn.one (j := 8) (by kernel_rfl) rfl (fun K hK => ?_)
  go_simp
  refine (rLow b _).mono ?_
  rintro e wn ⟨rfl, hn⟩
  refine hK _ _ (HI.keep hn) ?_
  clear hK K
  replace HI := HI.keep hn
  clear hn
  refine Drawn.tk (i := 9) (v := .bool false) rfl (fun W hW => ?_) HI ?_
  · have ⟨q0, q1, q2⟩ := sh W hW
    go_simp <;> (first | omega | (simp; omega))
  refine Drawn.tk (i := 10) (v := ?v146) rfl (fun W hW => ?_) HI ?_
  rotate_left
  · have ⟨q0, q1, q2⟩ := sh W hW
    go_simp <;> exact rfl
  refine Drawn.tk (i := 11) (v := ?v147) rfl (fun W hW => ?_) HI ?_
  rotate_left
  · have ⟨q0, q1, q2⟩ := sh W hW
    go_simp <;> exact rfl
  refine Drawn.tk (i := 12) (v := ?v148) rfl (fun W hW => ?_) HI ?_
  rotate_left
  · have ⟨q0, q1, q2⟩ := sh W hW
    go_simp <;> exact rfl
  refine Drawn.tk (i := 13) (v := ?v149) rfl (fun W hW => ?_) HI ?_
  rotate_left
  · have ⟨q0, q1, q2⟩ := sh W hW
    go_simp <;> exact rfl
  refine Drawn.tk (i := 15) (v := ?v150) rfl (fun W hW => ?_) HI ?_
  rotate_left
  · have ⟨q0, q1, q2⟩ := sh W hW
    go_simp <;> exact rfl
  refine Drawn.one (j := 14) (by kernel_rfl) rfl (fun K hK => ?_)
  go_simp
  refine (refLenN a c zs _ (hl.below HI.bel (Nat.le_refl _)) g.good).mono ?_
  rintro e wl ⟨rfl, B3, rfl, hB3, _⟩
  obtain rfl := hB3.unique HBL.out
  refine hK _ _ HI ?_
  clear hK K hB3
  refine Drawn.one (j := 16) (by kernel_rfl) rfl (fun K hK => ?_)
  go_simp
  refine (rFrac b _).mono ?_
  rintro e wn ⟨rfl, hn⟩
  refine hK _ _ (HI.keep hn) ?_
  clear hK K
  replace HI := HI.keep hn
  clear hn
  refine Drawn.tk (i := 17) (v := .int .i64 (fc b + 1)) rfl (fun W hW => ?_) HI ?_
  · have ⟨q0, q1, q2⟩ := sh W hW
    go_simp <;> (exact wrap_ok (by omega) (by omega))
  refine Drawn.tk (i := 18) (v := .bool false) rfl (fun W hW => ?_) HI ?_
  · have ⟨q0, q1, q2⟩ := sh W hW
    go_simp <;> (first | omega | (simp; omega))
  refine Drawn.tk (i := 19) (v := ?v151) rfl (fun W hW => ?_) HI ?_
  rotate_left
  · have ⟨q0, q1, q2⟩ := sh W hW
    go_simp <;> exact rfl
  refine Drawn.done (by kernel_rfl) ?_
  try go_simp
  obtain ⟨q0, q1, q2⟩ := sh _ HI
  clear sh
  go_wp2_with fail
  refine (rFracE b _).mono ?_
  rintro e u ⟨rfl, rfl⟩
  go_wp2_with fail
  rw [Int.add_comm ex] at *
  refine (rLowE b _).mono ?_
  rintro e u ⟨rfl, rfl⟩
  go_wp2_with fail
  have hwd : wd b ≤ 1024 := by cases b <;> decide
  generalize hUU : (B3 : Int) + ex - fc b - 1 = U at *
  have HUU := Hide.mk hUU
  have hU2 : U ≤ 1100 := by omega
  clear hUU
  refine (refUpN a c zs _ (hl.below HI.bel (Nat.le_refl _)) g.good (ex - U) k (by omega) (by omega) HFF.out).mono ?_
  rintro e w4 ⟨z4, a4, c4, rfl, h4, _⟩
  have HI4 := HI.keep h4.bel
  obtain ⟨⟨q0, q1, q2⟩, _⟩ := cells3 HI4 w.heap.size _ _ _ _ (.head _)
  obtain rfl : z4 = [x0, x1] := h4.good.same HG.out rfl
  obtain ⟨bb, o, rfl⟩ := lie_some h4.lie (by simp)
  have k0 : w4.cell? ⟨bb, o, none⟩ = some (.int .u32 x0) := lie_cell h4.lie rfl (i := 0) (by simp)
  have k1 : w4.cell? ⟨bb, o + 1, none⟩ = some (.int .u32 x1) := lie_cell h4.lie rfl (i := 1) (by simp)
  have hltb : w.heap.size < w4.heap.size := HI4.lt (.head _)
  clear h4 HFF HG HI hfc
  have hq : 0 < (x0 + x1 * 4294967296) / fr b := by
    have := Int.le_ediv_of_mul_le (c := fr b) (b := (x0 + x1 * 4294967296)) (a := 1) hfp (by omega)
    omega
  go_wp2_with fail
  refine (rFracE b _).mono ?_
  rintro e u ⟨rfl, rfl⟩
  go_wp2_with fail
  rw [shr_fc]
  go_wp2_with fail
  refine (rFracE b _).mono ?_
  rintro e u ⟨rfl, rfl⟩
  go_wp2_with fail
  rw [shl_one]
  go_wp2_with fail
  refine (rLowE b _).mono ?_
  rintro e u ⟨rfl, rfl⟩
  go_wp2_with fail
  refine (rJoin b n _ _ (by omega) (by omega) (by omega) (by omega) _).mono ?_
  rintro e w9 ⟨rfl, h9⟩
  have B9 := (HI4.push (FO n 0 0)).bel
  have HB9 : Hide (Below w.heap.size w w9) := ⟨HI4.bel.trans ((below_then (below_alloc w4 _) h9).mono HI4.bel.size)⟩
  clear h9 B9 HI4 q0 q1 q2
  go_wp2
  go_ret2
  refine ⟨?_, HB9.out⟩
  rw [HUU.out]
  first | rfl | (simp; done) | trace_state

theorem rOf_ok (b n : Bool) (a : Option Addr) (c : Nat) (zs : List Int) (ex : Int) (w : World) (hl : Lie w a zs) (g : DG n zs ex) (hz : 0 < zs.length) {B : Nat} (hB : BitLen (Nt.val zs) B) (hb : B ≤ 131072)
    (hc1 : uu b (B + ex) - lo b + 1 < tp b) (hc2 : uu b (B + ex) ≤ ex) (k : Nat) (hk : (k : Int) = ex - uu b (B + ex)) :
    Calls Tryz.prog 59 #[.int .u8 (fm b), dV n a zs.length c ex] w fun e w' => e = .returned (.tuple #[.int .u64 (sd b ((uu b (B + ex) - lo b) * fr b + Nt.val zs * 2 ^ k) n), .bool true]) ∧ Below w.heap.size w w' := by
  have hkk : tp b + lo b + fc b = wd b + 1 ∧ 2 ≤ tp b := by cases b <;> decide
  have hfc := fc_bd b
  have hlo := lo_bd b
  have hfr := fr_le b
  have hp := g.pos hz
  have hkf : (B : Int) + k ≤ fc b + 1 := by unfold uu at hk; omega
  obtain ⟨m0, m1⟩ := units_fit b hB (by omega) hkf
  have p1 : ex + B ≤ wd b := by unfold uu at hc1; omega
  have p2 : lo b ≤ ex := by unfold uu at hc2; omega
  have p3 : (B : Int) ≤ fc b + 1 := by omega
  have hpos : 0 < Nt.val zs * 2 ^ k := Int.mul_pos hp (p2pos k)
  have f2 : Nt.val zs * 2 ^ k < 18446744073709551616 := by omega
  have f3 : Nt.val zs * 2 ^ k < 4294967296 ^ 4096 := small_pow (by have : (4294967296 : Int) ^ 2 = 18446744073709551616 := by decide
                                                                   omega)
  obtain ⟨ys, hc, hv⟩ := digs_int (show 0 ≤ Nt.val zs * 2 ^ k by omega)
  have G : Good ys (Nt.val zs * 2 ^ k) := ⟨hc, (Nt.can_len hc 4096).1 (by rw [hv]; exact f3), hv⟩
  have h2 := two_digits G f2
  have h3 := G.ne hpos
  have hk2 : k ≤ 1000 := by omega
  have key : ¬ ((B : Int) + ex - fc b - 1 < lo b) → fr b ≤ Nt.val zs * 2 ^ k := by
    intro hh
    have e1 : uu b (B + ex) = B + ex - fc b - 1 := by unfold uu; omega
    have e2 : (B : Int) + k = fc b + 1 := by omega
    have hF : ∃ F : Nat, (F : Int) = fc b ∧ (2 : Int) ^ F = fr b := by
      cases b
      · exact ⟨23, rfl, by decide⟩
      · exact ⟨52, rfl, by decide⟩
    obtain ⟨F, hF1, hF2⟩ := hF
    rcases hB with ⟨hz0, _⟩ | ⟨_, hbits⟩
    · omega
    · have h5 := (hbits.up k).le
      rw [show B + k = F + 1 by omega, p2succ, hF2] at h5
      omega
  match ys, h2, h3 with
  | [x0], _, _ =>
    have rx := hc.1 0
    simp only [List.getD_cons_zero] at rx
    have hvx : x0 = Nt.val zs * 2 ^ k := by rw [← hv, val_one]
    by_cases hU : (B : Int) + ex - fc b - 1 < lo b
    · have e1 : uu b (B + ex) = lo b := by unfold uu; omega
      rw [e1] at hk
      by_cases hN : fr b ≤ x0
      · have r := rOf_lo11 b n a c zs ex w hl g hz hB hb p1 p2 p3 hU k hk hk2 f3 x0 rx.1 rx.2 G hN (by omega) (by omega)
        rw [e1, ← hvx, show (lo b - lo b) * fr b + x0 = (lo b - lo b + 1) * fr b + (x0 - fr b) by rw [Int.add_mul, Int.one_mul]; omega]
        exact r
      · have r := rOf_lo10 b n a c zs ex w hl g hz hB hb p1 p2 p3 hU k hk hk2 f3 x0 rx.1 rx.2 G (by omega) (by omega)
        rw [e1, ← hvx, show (lo b - lo b) * fr b + x0 = 0 * fr b + x0 by rw [Int.sub_self]]
        exact r
    · have e1 : uu b (B + ex) = B + ex - fc b - 1 := by unfold uu; omega
      have hN := key hU
      rw [← hvx] at hN
      rw [e1] at hk hc1
      have r := rOf_hi11 b n a c zs ex w hl g hz hB hb p1 p2 p3 (by omega) k hk hk2 f3 x0 rx.1 rx.2 G hN (by omega) (by omega)
      rw [e1, ← hvx, show (B + ex - fc b - 1 - lo b) * fr b + x0 = ((B : Int) + ex - fc b - 1 - lo b + 1) * fr b + (x0 - fr b) by rw [Int.add_mul _ 1, Int.one_mul]; omega]
      exact r
  | [x0, x1], _, _ =>
    have rx := hc.1 0
    have ry := hc.1 1
    simp only [List.getD_cons_zero, List.getD_cons_succ] at rx ry
    have hvx : x0 + x1 * 4294967296 = Nt.val zs * 2 ^ k := by rw [← hv, val_two]; omega
    by_cases hU : (B : Int) + ex - fc b - 1 < lo b
    · have e1 : uu b (B + ex) = lo b := by unfold uu; omega
      rw [e1] at hk
      by_cases hN : fr b ≤ (x0 + x1 * 4294967296)
      · have r := rOf_lo21 b n a c zs ex w hl g hz hB hb p1 p2 p3 hU k hk hk2 f3 x0 x1 rx.1 rx.2 ry.1 ry.2 G hN (by omega) (by omega)
        rw [e1, ← hvx, show (lo b - lo b) * fr b + (x0 + x1 * 4294967296) = (lo b - lo b + 1) * fr b + ((x0 + x1 * 4294967296) - fr b) by rw [Int.add_mul, Int.one_mul]; omega]
        exact r
      · have r := rOf_lo20 b n a c zs ex w hl g hz hB hb p1 p2 p3 hU k hk hk2 f3 x0 x1 rx.1 rx.2 ry.1 ry.2 G (by omega) (by omega)
        rw [e1, ← hvx, show (lo b - lo b) * fr b + (x0 + x1 * 4294967296) = 0 * fr b + (x0 + x1 * 4294967296) by rw [Int.sub_self]]
        exact r
    · have e1 : uu b (B + ex) = B + ex - fc b - 1 := by unfold uu; omega
      have hN := key hU
      rw [← hvx] at hN
      rw [e1] at hk hc1
      have r := rOf_hi21 b n a c zs ex w hl g hz hB hb p1 p2 p3 (by omega) k hk hk2 f3 x0 x1 rx.1 rx.2 ry.1 ry.2 G hN (by omega) (by omega)
      rw [e1, ← hvx, show (B + ex - fc b - 1 - lo b) * fr b + (x0 + x1 * 4294967296) = ((B : Int) + ex - fc b - 1 - lo b + 1) * fr b + ((x0 + x1 * 4294967296) - fr b) by rw [Int.add_mul _ 1, Int.one_mul]; omega]
      exact r

theorem rSignedP (b : Bool) (x : Int) (n : Bool) (h : Ok b x) (w : World) :
    Calls Tryz.prog 31 #[.int .u8 (fm b), .int .u64 x, .bool n] w fun e w' => e = .returned (.int .u64 (sd b (sz b x) n)) ∧ Below w.heap.size w w' := by
  have hz := sz_bd b x
  have hl := sg_le b
  have hp := sg_pos b
  have h0 := h.1
  go_enter Tryz.func31, Tryz.ntmps31
  go_wp2_with fail
  refine (rSign b _).mono ?_
  rintro e w2 ⟨rfl, h2⟩
  have hne : (sg b == 0) = false := beq_eq_false_iff_ne.2 (by omega)
  have B2 := (Bx.nil w).keep h2
  clear h2
  have HZ : Hide (x % sg b = sz b x) := ⟨rfl⟩
  cases n
  · go_wp2
    go_ret
    exact ⟨by first | rfl | trace_state, B2.bel⟩
  · go_wp2_with fail
    refine (rSign b _).mono ?_
    rintro e w3 ⟨rfl, h3⟩
    have B3 := B2.keep h3
    clear h3 B2
    have hz1 : 0 ≤ x % sg b := hz.1
    have hz2 : x % sg b < sg b := hz.2
    go_wp2
    go_ret
    refine ⟨?_, B3.bel⟩
    unfold sd
    rw [if_pos rfl]
    first | rfl | trace_state
theorem rInfP (b n : Bool) (w : World) :
    Calls Tryz.prog 53 #[.int .u8 (fm b), .bool n] w fun e w' => e = .returned (.int .u64 (sd b (inf b) n)) ∧ Below w.heap.size w w' := by
  have ht := tp_bd b
  have HJ := fun w => Hide.mk (rJoin b n (tp b) 0 (by omega) (by omega) (by decide) (fr_pos b) w)
  have e1 : tp b * fr b + 0 = inf b := by cases b <;> rfl
  go_enter Tryz.func53, Tryz.ntmps53
  go_wp2_with fail
  refine (rMost b _).mono ?_
  rintro e w2 ⟨rfl, h2⟩
  rw [e1] at HJ
  go_wp2_with fail
  refine (HJ _).out.mono ?_
  rintro e w3 ⟨rfl, h3⟩
  have B3 := ((Bx.nil w).keep h2).keep h3
  clear h2 h3 HJ
  go_wp2
  go_ret
  exact ⟨rfl, B3.bel⟩
theorem hi_wd (b : Bool) : wd b = hi b := by cases b <;> rfl
theorem rOverP (b : Bool) (m : Int) (n : Bool) (hm : Mode m) (w : World) :
    Calls Tryz.prog 17 #[.int .u8 (fm b), .int .u8 m, .bool n] w fun e w' => e = .returned (.int .u64 (ovw b m n)) ∧ Below w.heap.size w w' := by
  have HI := fun W => Hide.mk (rInfP b n W)
  have h1 : sd b (inf b) n - 1 = sd b (inf b - 1) n := by cases n <;> simp [sd] <;> omega
  have h2 : 0 < sd b (inf b) n ∧ sd b (inf b) n < 18446744073709551616 := by cases b <;> cases n <;> decide
  obtain ⟨I, hI⟩ : ∃ I, sd b (inf b) n = I := ⟨_, rfl⟩
  have key : ovw b m n = if outw m n false 3 then I else I - 1 := by
    unfold ovw
    rw [← hI]
    split
    · rfl
    · exact h1.symm
  rw [hI] at h2 HI
  rw [key]
  clear key h1 hI
  rcases hm with rfl | rfl | rfl | rfl | rfl <;> cases n <;>
    (go_enter Tryz.func17, Tryz.ntmps17; go_wp2_with fail; refine (HI _).out.mono ?_; rintro e w2 ⟨rfl, h2⟩; go_wp2; go_ret; exact ⟨by first | rfl | simp [outw], h2⟩)

theorem rd_over (b : Bool) (m : Int) (n : Bool) (a : Option Addr) (c : Nat) (z : List Int) (ex s0 T u uf tu tuf W0 OV : Int) (w : World) (l : Lie w a z) (hT1 : -60000000 ≤ T) (hT2 : T ≤ 60000000) (htu1 : -100000000 ≤ tu) (htu2 : tu ≤ 100000000) (htf1 : -100000000 ≤ tuf) (htf2 : tuf ≤ 100000000) (hs0 : (s0 == 0) = false)
    (KS : ∀ W, Calls Tryz.prog 23 #[dV n a z.length c ex] W fun e' w' => e' = .returned (.int .i64 s0) ∧ Below W.heap.size W w')
    (KT : ∀ W, Lie W a z → Calls Tryz.prog 55 #[dV n a z.length c ex] W fun e' w' => e' = .returned (.int .i64 T) ∧ Below W.heap.size W w')
    (KY : ∀ W, Lie W a z → Calls Tryz.prog 57 #[.int .u8 m, dV n a z.length c ex, .int .i64 (ulp b T)] W fun e' w' => RF W w' (sv n u) (ulp b T) e')
    (KU : ∀ ny zy xy ay cy W, Fm (sv n u) (ulp b T) ny zy xy → Lie W ay zy → Calls Tryz.prog 55 #[dV ny ay (List.length zy) cy xy] W fun e' w' => e' = .returned (.int .i64 tu) ∧ Below W.heap.size W w')
    (ho : hi b < tu)
    (KO : ∀ W, Calls Tryz.prog 17 #[.int .u8 (fm b), .int .u8 m, .bool n] W fun e' w' => e' = .returned (.int .u64 OV) ∧ Below W.heap.size W w') :
    Calls Tryz.prog 19 #[.int .u8 (fm b), .int .u8 m, dV n a z.length c ex] w fun e' w' => e' = .returned (.tuple #[.int .u64 OV, .int .u8 20]) ∧ Below w.heap.size w w' := by
  have HS := fun W => Hide.mk (KS W)
  have HT := fun W l => Hide.mk (KT W l)
  have HY := fun W l => Hide.mk (KY W l)
  have HU := fun ny zy xy ay cy W f l => Hide.mk (KU ny zy xy ay cy W f l)
  have HO := fun W => Hide.mk (KO W)
  clear KS KT KY KU KO
  have hpb := pr_bd b
  have hlo := lo_bd b
  have hp1 : 24 ≤ ((pr b : Nat) : Int) := by omega
  have hp2 : ((pr b : Nat) : Int) ≤ 53 := by omega
  have hub := ulp_ge b T
  have hu1 : -70000000 ≤ ulp b T := by omega
  have hu2 : ulp b T ≤ 70000000 := by omega
  have HFr : ∀ W, Hide (Calls Tryz.prog 54 #[.int .u8 (fm b)] W fun e' w' => e' = .returned (.int .i64 ((pr b : Nat) - 1)) ∧ Below W.heap.size W w') := fun W => ⟨by
    have := rFrac b W
    rw [show fc b = ((pr b : Nat) : Int) - 1 by have := fc_pr b; omega] at this
    exact this⟩
  have HWi : ∀ W, Hide (Calls Tryz.prog 58 #[.int .u8 (fm b)] W fun e' w' => e' = .returned (.int .i64 (hi b)) ∧ Below W.heap.size W w') := fun W => ⟨by
    have := rWide b W
    rw [hi_wd] at this
    exact this⟩
  have HLo := fun W => Hide.mk (rLow b W)
  have B1 := (Bx.nil w).push (DO n a z.length c ex)
  by_cases hc : T - ((pr b : Nat) : Int) < lo b
  · have HE : Hide (lo b = ulp b T) := ⟨by unfold ulp; omega⟩
    obtain ⟨⟨s0c, s1, s2⟩, _⟩ := cells3 B1 w.heap.size _ _ _ _ (.head _)
    go_enter Tryz.func19, Tryz.ntmps19
    go_wp2_with fail
    refine (HS _).out.mono ?_
    rintro e' w2 ⟨rfl, h2⟩
    have B2 := B1.keep h2
    clear h2 B1 s0c s1 s2 HS
    go_wp2_with fail
    refine (HFr _).out.mono ?_
    rintro e' w3 ⟨rfl, h3⟩
    have B3 := B2.keep h3
    clear h3 B2 HFr
    obtain ⟨⟨s0c, s1, s2⟩, _⟩ := cells3 B3 w.heap.size _ _ _ _ (.head _)
    go_wp2_with fail
    refine (HT _ (l.below B3.bel (Nat.le_refl _))).out.mono ?_
    rintro e' w4 ⟨rfl, h4⟩
    have B4 := B3.keep h4
    clear h4 B3 s0c s1 s2 HT
    go_wp2_with fail
    refine (HLo _).out.mono ?_
    rintro e' w5 ⟨rfl, h5⟩
    have B5 := B4.keep h5
    clear h5 B4
    go_wp2_with fail
    refine (HLo _).out.mono ?_
    rintro e' w6 ⟨rfl, h6⟩
    have B6 := B5.keep h6
    clear h6 B5
    obtain ⟨⟨s0c, s1, s2⟩, _⟩ := cells3 B6 w.heap.size _ _ _ _ (.head _)
    go_wp2_with fail
    rw [HE.out]
    refine (HY _ (l.below B6.bel (Nat.le_refl _))).out.mono ?_
    rintro e' w7 ⟨ny, zy, xy, ay, cy, rfl, fy, ly, h7⟩
    have B7 := (B6.keep h7).push (DO ny ay zy.length cy xy)
    have hlt : w.heap.size < w7.heap.size := (B6.keep h7).lt (.head _)
    replace ly := ly.below (below_alloc w7 (DO ny ay zy.length cy xy)) (Nat.le_refl _)
    have FY := Hide.mk fy
    clear h7 B6 s0c s1 s2 HY fy
    obtain ⟨⟨y0, y1, y2⟩, _⟩ := cells3 B7 w7.heap.size _ _ _ _ (.head _)
    go_wp2_with fail
    refine (HU _ _ _ _ _ _ FY.out ly).out.mono ?_
    rintro e' w8 ⟨rfl, h8⟩
    have B8 := B7.keep h8
    replace ly := ly.below h8 (Nat.le_refl _)
    clear h8 B7 y0 y1 y2 HU
    generalize w7.heap.size = gy at *
    go_wp2_with fail
    refine (HWi _).out.mono ?_
    rintro e' w9 ⟨rfl, h9⟩
    have B9 := B8.keep h9
    replace ly := ly.below h9 (Nat.le_refl _)
    clear h9 B8 HWi
    obtain ⟨⟨s0c, s1, s2⟩, _⟩ := cells3 B9 w.heap.size _ _ _ _ (.tail _ (.head _))
    obtain ⟨⟨y0, y1, y2⟩, _⟩ := cells3 B9 gy _ _ _ _ (.head _)
    go_wp2_with fail
    refine (HO _).out.mono ?_
    rintro e' w10 ⟨rfl, h10⟩
    have B10 := B9.keep h10
    go_wp2
    go_ret2
    exact ⟨rfl, B10.bel⟩
  · have HE : Hide (T - ((pr b : Nat) : Int) = ulp b T) := ⟨by unfold ulp; omega⟩
    obtain ⟨⟨s0c, s1, s2⟩, _⟩ := cells3 B1 w.heap.size _ _ _ _ (.head _)
    go_enter Tryz.func19, Tryz.ntmps19
    go_wp2_with fail
    refine (HS _).out.mono ?_
    rintro e' w2 ⟨rfl, h2⟩
    have B2 := B1.keep h2
    clear h2 B1 s0c s1 s2 HS
    go_wp2_with fail
    refine (HFr _).out.mono ?_
    rintro e' w3 ⟨rfl, h3⟩
    have B3 := B2.keep h3
    clear h3 B2 HFr
    obtain ⟨⟨s0c, s1, s2⟩, _⟩ := cells3 B3 w.heap.size _ _ _ _ (.head _)
    go_wp2_with fail
    refine (HT _ (l.below B3.bel (Nat.le_refl _))).out.mono ?_
    rintro e' w4 ⟨rfl, h4⟩
    have B4 := B3.keep h4
    clear h4 B3 s0c s1 s2 HT
    go_wp2_with fail
    refine (HLo _).out.mono ?_
    rintro e' w5 ⟨rfl, h5⟩
    have B5 := B4.keep h5
    clear h5 B4
    have B6 := B5
    clear B5
    obtain ⟨⟨s0c, s1, s2⟩, _⟩ := cells3 B6 w.heap.size _ _ _ _ (.head _)
    go_wp2_with fail
    rw [HE.out]
    refine (HY _ (l.below B6.bel (Nat.le_refl _))).out.mono ?_
    rintro e' w7 ⟨ny, zy, xy, ay, cy, rfl, fy, ly, h7⟩
    have B7 := (B6.keep h7).push (DO ny ay zy.length cy xy)
    have hlt : w.heap.size < w7.heap.size := (B6.keep h7).lt (.head _)
    replace ly := ly.below (below_alloc w7 (DO ny ay zy.length cy xy)) (Nat.le_refl _)
    have FY := Hide.mk fy
    clear h7 B6 s0c s1 s2 HY fy
    obtain ⟨⟨y0, y1, y2⟩, _⟩ := cells3 B7 w7.heap.size _ _ _ _ (.head _)
    go_wp2_with fail
    refine (HU _ _ _ _ _ _ FY.out ly).out.mono ?_
    rintro e' w8 ⟨rfl, h8⟩
    have B8 := B7.keep h8
    replace ly := ly.below h8 (Nat.le_refl _)
    clear h8 B7 y0 y1 y2 HU
    generalize w7.heap.size = gy at *
    go_wp2_with fail
    refine (HWi _).out.mono ?_
    rintro e' w9 ⟨rfl, h9⟩
    have B9 := B8.keep h9
    replace ly := ly.below h9 (Nat.le_refl _)
    clear h9 B8 HWi
    obtain ⟨⟨s0c, s1, s2⟩, _⟩ := cells3 B9 w.heap.size _ _ _ _ (.tail _ (.head _))
    obtain ⟨⟨y0, y1, y2⟩, _⟩ := cells3 B9 gy _ _ _ _ (.head _)
    go_wp2_with fail
    refine (HO _).out.mono ?_
    rintro e' w10 ⟨rfl, h10⟩
    have B10 := B9.keep h10
    go_wp2
    go_ret2
    exact ⟨rfl, B10.bel⟩

theorem rd_same (b : Bool) (m : Int) (n : Bool) (a : Option Addr) (c : Nat) (z : List Int) (ex s0 T u uf tu tuf W0 OV : Int) (w : World) (l : Lie w a z) (hT1 : -60000000 ≤ T) (hT2 : T ≤ 60000000) (htu1 : -100000000 ≤ tu) (htu2 : tu ≤ 100000000) (htf1 : -100000000 ≤ tuf) (htf2 : tuf ≤ 100000000) (hs0 : (s0 == 0) = false)
    (KS : ∀ W, Calls Tryz.prog 23 #[dV n a z.length c ex] W fun e' w' => e' = .returned (.int .i64 s0) ∧ Below W.heap.size W w')
    (KT : ∀ W, Lie W a z → Calls Tryz.prog 55 #[dV n a z.length c ex] W fun e' w' => e' = .returned (.int .i64 T) ∧ Below W.heap.size W w')
    (KY : ∀ W, Lie W a z → Calls Tryz.prog 57 #[.int .u8 m, dV n a z.length c ex, .int .i64 (ulp b T)] W fun e' w' => RF W w' (sv n u) (ulp b T) e')
    (KU : ∀ ny zy xy ay cy W, Fm (sv n u) (ulp b T) ny zy xy → Lie W ay zy → Calls Tryz.prog 55 #[dV ny ay (List.length zy) cy xy] W fun e' w' => e' = .returned (.int .i64 tu) ∧ Below W.heap.size W w')
    (ho : ¬ hi b < tu) (V0 : Int)
    (KF : ∀ ny zy xy ay cy W, Fm (sv n u) (ulp b T) ny zy xy → Lie W ay zy → Calls Tryz.prog 59 #[.int .u8 (fm b), dV false ay (List.length zy) cy xy] W fun e' w' => e' = .returned (.tuple #[.int .u64 V0, .bool true]) ∧ Below W.heap.size W w')
    (KG : ∀ W, Calls Tryz.prog 31 #[.int .u8 (fm b), .int .u64 V0, .bool n] W fun e' w' => e' = .returned (.int .u64 W0) ∧ Below W.heap.size W w')
    (KE : ∀ ny zy xy ay cy W, Fm (sv n u) (ulp b T) ny zy xy → Lie W ay zy → Lie W a z → Calls Tryz.prog 21 #[dV n a z.length c ex, dV ny ay (List.length zy) cy xy] W fun e' w' => e' = .returned (.bool true) ∧ Below W.heap.size W w') :
    Calls Tryz.prog 19 #[.int .u8 (fm b), .int .u8 m, dV n a z.length c ex] w fun e' w' => e' = .returned (.tuple #[.int .u64 W0, .int .u8 0]) ∧ Below w.heap.size w w' := by
  have HS := fun W => Hide.mk (KS W)
  have HT := fun W l => Hide.mk (KT W l)
  have HY := fun W l => Hide.mk (KY W l)
  have HU := fun ny zy xy ay cy W f l => Hide.mk (KU ny zy xy ay cy W f l)
  have HF := fun ny zy xy ay cy W f l => Hide.mk (KF ny zy xy ay cy W f l)
  have HG := fun W => Hide.mk (KG W)
  have HEq := fun ny zy xy ay cy W f l1 l2 => Hide.mk (KE ny zy xy ay cy W f l1 l2)
  clear KS KT KY KU KF KG KE
  have HAb := fun (ny : Bool) (ay : Option Addr) (cy ky : Nat) (xy : Int) W => Hide.mk (rAbsD ny ay cy ky xy W)
  have hpb := pr_bd b
  have hlo := lo_bd b
  have hp1 : 24 ≤ ((pr b : Nat) : Int) := by omega
  have hp2 : ((pr b : Nat) : Int) ≤ 53 := by omega
  have hub := ulp_ge b T
  have hu1 : -70000000 ≤ ulp b T := by omega
  have hu2 : ulp b T ≤ 70000000 := by omega
  have HFr : ∀ W, Hide (Calls Tryz.prog 54 #[.int .u8 (fm b)] W fun e' w' => e' = .returned (.int .i64 ((pr b : Nat) - 1)) ∧ Below W.heap.size W w') := fun W => ⟨by
    have := rFrac b W
    rw [show fc b = ((pr b : Nat) : Int) - 1 by have := fc_pr b; omega] at this
    exact this⟩
  have HWi : ∀ W, Hide (Calls Tryz.prog 58 #[.int .u8 (fm b)] W fun e' w' => e' = .returned (.int .i64 (hi b)) ∧ Below W.heap.size W w') := fun W => ⟨by
    have := rWide b W
    rw [hi_wd] at this
    exact this⟩
  have HLo := fun W => Hide.mk (rLow b W)
  have B1 := (Bx.nil w).push (DO n a z.length c ex)
  by_cases hc : T - ((pr b : Nat) : Int) < lo b
  · have HE : Hide (lo b = ulp b T) := ⟨by unfold ulp; omega⟩
    obtain ⟨⟨s0c, s1, s2⟩, _⟩ := cells3 B1 w.heap.size _ _ _ _ (.head _)
    go_enter Tryz.func19, Tryz.ntmps19
    go_wp2_with fail
    refine (HS _).out.mono ?_
    rintro e' w2 ⟨rfl, h2⟩
    have B2 := B1.keep h2
    clear h2 B1 s0c s1 s2 HS
    go_wp2_with fail
    refine (HFr _).out.mono ?_
    rintro e' w3 ⟨rfl, h3⟩
    have B3 := B2.keep h3
    clear h3 B2 HFr
    obtain ⟨⟨s0c, s1, s2⟩, _⟩ := cells3 B3 w.heap.size _ _ _ _ (.head _)
    go_wp2_with fail
    refine (HT _ (l.below B3.bel (Nat.le_refl _))).out.mono ?_
    rintro e' w4 ⟨rfl, h4⟩
    have B4 := B3.keep h4
    clear h4 B3 s0c s1 s2 HT
    go_wp2_with fail
    refine (HLo _).out.mono ?_
    rintro e' w5 ⟨rfl, h5⟩
    have B5 := B4.keep h5
    clear h5 B4
    go_wp2_with fail
    refine (HLo _).out.mono ?_
    rintro e' w6 ⟨rfl, h6⟩
    have B6 := B5.keep h6
    clear h6 B5
    obtain ⟨⟨s0c, s1, s2⟩, _⟩ := cells3 B6 w.heap.size _ _ _ _ (.head _)
    go_wp2_with fail
    rw [HE.out]
    refine (HY _ (l.below B6.bel (Nat.le_refl _))).out.mono ?_
    rintro e' w7 ⟨ny, zy, xy, ay, cy, rfl, fy, ly, h7⟩
    have B7 := (B6.keep h7).push (DO ny ay zy.length cy xy)
    have hlt : w.heap.size < w7.heap.size := (B6.keep h7).lt (.head _)
    replace ly := ly.below (below_alloc w7 (DO ny ay zy.length cy xy)) (Nat.le_refl _)
    have FY := Hide.mk fy
    clear h7 B6 s0c s1 s2 HY fy
    obtain ⟨⟨y0, y1, y2⟩, _⟩ := cells3 B7 w7.heap.size _ _ _ _ (.head _)
    go_wp2_with fail
    refine (HU _ _ _ _ _ _ FY.out ly).out.mono ?_
    rintro e' w8 ⟨rfl, h8⟩
    have B8 := B7.keep h8
    replace ly := ly.below h8 (Nat.le_refl _)
    clear h8 B7 y0 y1 y2 HU
    generalize w7.heap.size = gy at *
    go_wp2_with fail
    refine (HWi _).out.mono ?_
    rintro e' w9 ⟨rfl, h9⟩
    have B9 := B8.keep h9
    replace ly := ly.below h9 (Nat.le_refl _)
    clear h9 B8 HWi
    obtain ⟨⟨s0c, s1, s2⟩, _⟩ := cells3 B9 w.heap.size _ _ _ _ (.tail _ (.head _))
    obtain ⟨⟨y0, y1, y2⟩, _⟩ := cells3 B9 gy _ _ _ _ (.head _)
    go_wp2_with fail
    refine (HAb _ _ _ _ _ _).out.mono ?_
    rintro e' w10 ⟨rfl, hh⟩
    have B10 := B9.keep hh
    replace ly := ly.below hh (Nat.le_refl _)
    clear hh B9 s0c s1 s2 y0 y1 y2
    obtain ⟨⟨s0c, s1, s2⟩, _⟩ := cells3 B10 w.heap.size _ _ _ _ (.tail _ (.head _))
    obtain ⟨⟨y0, y1, y2⟩, _⟩ := cells3 B10 gy _ _ _ _ (.head _)
    go_wp2_with fail
    refine (HF _ _ _ _ _ _ FY.out ly).out.mono ?_
    rintro e' w11 ⟨rfl, hh⟩
    have B11 := B10.keep hh
    replace ly := ly.below hh (Nat.le_refl _)
    clear hh B10 s0c s1 s2 y0 y1 y2
    obtain ⟨⟨s0c, s1, s2⟩, _⟩ := cells3 B11 w.heap.size _ _ _ _ (.tail _ (.head _))
    obtain ⟨⟨y0, y1, y2⟩, _⟩ := cells3 B11 gy _ _ _ _ (.head _)
    go_wp2_with fail
    refine (HG _).out.mono ?_
    rintro e' w12 ⟨rfl, hh⟩
    have B12 := B11.keep hh
    replace ly := ly.below hh (Nat.le_refl _)
    clear hh B11 s0c s1 s2 y0 y1 y2
    obtain ⟨⟨s0c, s1, s2⟩, _⟩ := cells3 B12 w.heap.size _ _ _ _ (.tail _ (.head _))
    obtain ⟨⟨y0, y1, y2⟩, _⟩ := cells3 B12 gy _ _ _ _ (.head _)
    go_wp2_with fail
    refine (HEq _ _ _ _ _ _ FY.out ly (l.below B12.bel (Nat.le_refl _))).out.mono ?_
    rintro e' w13 ⟨rfl, hh⟩
    have B13 := B12.keep hh
    replace ly := ly.below hh (Nat.le_refl _)
    clear hh B12 s0c s1 s2 y0 y1 y2
    obtain ⟨⟨s0c, s1, s2⟩, _⟩ := cells3 B13 w.heap.size _ _ _ _ (.tail _ (.head _))
    obtain ⟨⟨y0, y1, y2⟩, _⟩ := cells3 B13 gy _ _ _ _ (.head _)
    go_wp2
    go_ret2
    exact ⟨rfl, B13.bel⟩
  · have HE : Hide (T - ((pr b : Nat) : Int) = ulp b T) := ⟨by unfold ulp; omega⟩
    obtain ⟨⟨s0c, s1, s2⟩, _⟩ := cells3 B1 w.heap.size _ _ _ _ (.head _)
    go_enter Tryz.func19, Tryz.ntmps19
    go_wp2_with fail
    refine (HS _).out.mono ?_
    rintro e' w2 ⟨rfl, h2⟩
    have B2 := B1.keep h2
    clear h2 B1 s0c s1 s2 HS
    go_wp2_with fail
    refine (HFr _).out.mono ?_
    rintro e' w3 ⟨rfl, h3⟩
    have B3 := B2.keep h3
    clear h3 B2 HFr
    obtain ⟨⟨s0c, s1, s2⟩, _⟩ := cells3 B3 w.heap.size _ _ _ _ (.head _)
    go_wp2_with fail
    refine (HT _ (l.below B3.bel (Nat.le_refl _))).out.mono ?_
    rintro e' w4 ⟨rfl, h4⟩
    have B4 := B3.keep h4
    clear h4 B3 s0c s1 s2 HT
    go_wp2_with fail
    refine (HLo _).out.mono ?_
    rintro e' w5 ⟨rfl, h5⟩
    have B5 := B4.keep h5
    clear h5 B4
    have B6 := B5
    clear B5
    obtain ⟨⟨s0c, s1, s2⟩, _⟩ := cells3 B6 w.heap.size _ _ _ _ (.head _)
    go_wp2_with fail
    rw [HE.out]
    refine (HY _ (l.below B6.bel (Nat.le_refl _))).out.mono ?_
    rintro e' w7 ⟨ny, zy, xy, ay, cy, rfl, fy, ly, h7⟩
    have B7 := (B6.keep h7).push (DO ny ay zy.length cy xy)
    have hlt : w.heap.size < w7.heap.size := (B6.keep h7).lt (.head _)
    replace ly := ly.below (below_alloc w7 (DO ny ay zy.length cy xy)) (Nat.le_refl _)
    have FY := Hide.mk fy
    clear h7 B6 s0c s1 s2 HY fy
    obtain ⟨⟨y0, y1, y2⟩, _⟩ := cells3 B7 w7.heap.size _ _ _ _ (.head _)
    go_wp2_with fail
    refine (HU _ _ _ _ _ _ FY.out ly).out.mono ?_
    rintro e' w8 ⟨rfl, h8⟩
    have B8 := B7.keep h8
    replace ly := ly.below h8 (Nat.le_refl _)
    clear h8 B7 y0 y1 y2 HU
    generalize w7.heap.size = gy at *
    go_wp2_with fail
    refine (HWi _).out.mono ?_
    rintro e' w9 ⟨rfl, h9⟩
    have B9 := B8.keep h9
    replace ly := ly.below h9 (Nat.le_refl _)
    clear h9 B8 HWi
    obtain ⟨⟨s0c, s1, s2⟩, _⟩ := cells3 B9 w.heap.size _ _ _ _ (.tail _ (.head _))
    obtain ⟨⟨y0, y1, y2⟩, _⟩ := cells3 B9 gy _ _ _ _ (.head _)
    go_wp2_with fail
    refine (HAb _ _ _ _ _ _).out.mono ?_
    rintro e' w10 ⟨rfl, hh⟩
    have B10 := B9.keep hh
    replace ly := ly.below hh (Nat.le_refl _)
    clear hh B9 s0c s1 s2 y0 y1 y2
    obtain ⟨⟨s0c, s1, s2⟩, _⟩ := cells3 B10 w.heap.size _ _ _ _ (.tail _ (.head _))
    obtain ⟨⟨y0, y1, y2⟩, _⟩ := cells3 B10 gy _ _ _ _ (.head _)
    go_wp2_with fail
    refine (HF _ _ _ _ _ _ FY.out ly).out.mono ?_
    rintro e' w11 ⟨rfl, hh⟩
    have B11 := B10.keep hh
    replace ly := ly.below hh (Nat.le_refl _)
    clear hh B10 s0c s1 s2 y0 y1 y2
    obtain ⟨⟨s0c, s1, s2⟩, _⟩ := cells3 B11 w.heap.size _ _ _ _ (.tail _ (.head _))
    obtain ⟨⟨y0, y1, y2⟩, _⟩ := cells3 B11 gy _ _ _ _ (.head _)
    go_wp2_with fail
    refine (HG _).out.mono ?_
    rintro e' w12 ⟨rfl, hh⟩
    have B12 := B11.keep hh
    replace ly := ly.below hh (Nat.le_refl _)
    clear hh B11 s0c s1 s2 y0 y1 y2
    obtain ⟨⟨s0c, s1, s2⟩, _⟩ := cells3 B12 w.heap.size _ _ _ _ (.tail _ (.head _))
    obtain ⟨⟨y0, y1, y2⟩, _⟩ := cells3 B12 gy _ _ _ _ (.head _)
    go_wp2_with fail
    refine (HEq _ _ _ _ _ _ FY.out ly (l.below B12.bel (Nat.le_refl _))).out.mono ?_
    rintro e' w13 ⟨rfl, hh⟩
    have B13 := B12.keep hh
    replace ly := ly.below hh (Nat.le_refl _)
    clear hh B12 s0c s1 s2 y0 y1 y2
    obtain ⟨⟨s0c, s1, s2⟩, _⟩ := cells3 B13 w.heap.size _ _ _ _ (.tail _ (.head _))
    obtain ⟨⟨y0, y1, y2⟩, _⟩ := cells3 B13 gy _ _ _ _ (.head _)
    go_wp2
    go_ret2
    exact ⟨rfl, B13.bel⟩
end Go.Proofs.YtdnghibkagcbcaaGreatDoor
