import Derived.Test.YtioiakemmhfhkaaDoorWW
namespace Go.Proofs.YtioiakemmhfhkaaDoor
open Go.RowKit Go.Wd Go.Box
set_option linter.unusedVariables false
set_option maxRecDepth 3000
theorem rOf_ok (b n : Bool) (a : Option Addr) (c : Nat) (zs : List Int) (ex : Int) (w : World) (hl : Lie w a zs) (g : DG n zs ex) (hz : 0 < zs.length) {B : Nat} (hB : BitLen (Nt.val zs) B) (hb : B ≤ 131072)
    (hc1 : uu b (B + ex) - lo b + 1 < tp b) (hc2 : uu b (B + ex) ≤ ex) (k : Nat) (hk : (k : Int) = ex - uu b (B + ex)) :
    Calls Tryd.prog 90 #[.int .u8 (fm b), dV n a zs.length c ex] w fun e w' => e = .returned (.tuple #[.int .u64 (sd b ((uu b (B + ex) - lo b) * fr b + Nt.val zs * 2 ^ k) n), .bool true]) ∧ Below w.heap.size w w' := by
  have hkk : tp b + lo b + fc b = wd b + 1 ∧ 2 ≤ tp b := by cases b <;> decide
  have hfc := fc_bd b
  have hlo := lo_bd b
  have hfr := fr_le b
  have hp := g.pos hz
  have hkf : (B : Int) + k ≤ fc b + 1 := by unfold uu at hk; omega
  obtain ⟨m0, m1⟩ := units_fit b hB (by omega) hkf
  have p1 : ex + B ≤ wd b := by unfold uu at hc1; omega
  have p2 : lo b ≤ ex := by unfold uu at hc2; omega
  have p3 : (B : Int) ≤ fc b + 1 := by omega
  have hpos : 0 < Nt.val zs * 2 ^ k := Int.mul_pos hp (p2pos k)
  have f2 : Nt.val zs * 2 ^ k < 18446744073709551616 := by omega
  have f3 : Nt.val zs * 2 ^ k < 4294967296 ^ 4096 := small_pow (by have : (4294967296 : Int) ^ 2 = 18446744073709551616 := by decide
                                                                   omega)
  obtain ⟨ys, hc, hv⟩ := digs_int (show 0 ≤ Nt.val zs * 2 ^ k by omega)
  have G : Good ys (Nt.val zs * 2 ^ k) := ⟨hc, (Nt.can_len hc 4096).1 (by rw [hv]; exact f3), hv⟩
  have h2 := two_digits G f2
  have h3 := G.ne hpos
  have hk2 : k ≤ 1000 := by omega
  have key : ¬ ((B : Int) + ex - fc b - 1 < lo b) → fr b ≤ Nt.val zs * 2 ^ k := by
    intro hh
    have e1 : uu b (B + ex) = B + ex - fc b - 1 := by unfold uu; omega
    have e2 : (B : Int) + k = fc b + 1 := by omega
    have hF : ∃ F : Nat, (F : Int) = fc b ∧ (2 : Int) ^ F = fr b := by
      cases b
      · exact ⟨23, rfl, by decide⟩
      · exact ⟨52, rfl, by decide⟩
    obtain ⟨F, hF1, hF2⟩ := hF
    rcases hB with ⟨hz0, _⟩ | ⟨_, hbits⟩
    · omega
    · have h5 := (hbits.up k).le
      rw [show B + k = F + 1 by omega, p2succ, hF2] at h5
      omega
  match ys, h2, h3 with
  | [x0], _, _ =>
    have rx := hc.1 0
    simp only [List.getD_cons_zero] at rx
    have hvx : x0 = Nt.val zs * 2 ^ k := by rw [← hv, val_one]
    by_cases hU : (B : Int) + ex - fc b - 1 < lo b
    · have e1 : uu b (B + ex) = lo b := by unfold uu; omega
      rw [e1] at hk
      by_cases hN : fr b ≤ x0
      · have r := rOf_lo11 b n a c zs ex w hl g hz hB hb p1 p2 p3 hU k hk hk2 f3 x0 rx.1 rx.2 G hN (by omega) (by omega)
        rw [e1, ← hvx, show (lo b - lo b) * fr b + x0 = (lo b - lo b + 1) * fr b + (x0 - fr b) by rw [Int.add_mul, Int.one_mul]; omega]
        exact r
      · have r := rOf_lo10 b n a c zs ex w hl g hz hB hb p1 p2 p3 hU k hk hk2 f3 x0 rx.1 rx.2 G (by omega) (by omega)
        rw [e1, ← hvx, show (lo b - lo b) * fr b + x0 = 0 * fr b + x0 by rw [Int.sub_self]]
        exact r
    · have e1 : uu b (B + ex) = B + ex - fc b - 1 := by unfold uu; omega
      have hN := key hU
      rw [← hvx] at hN
      rw [e1] at hk hc1
      have r := rOf_hi11 b n a c zs ex w hl g hz hB hb p1 p2 p3 (by omega) k hk hk2 f3 x0 rx.1 rx.2 G hN (by omega) (by omega)
      rw [e1, ← hvx, show (B + ex - fc b - 1 - lo b) * fr b + x0 = ((B : Int) + ex - fc b - 1 - lo b + 1) * fr b + (x0 - fr b) by rw [Int.add_mul _ 1, Int.one_mul]; omega]
      exact r
  | [x0, x1], _, _ =>
    have rx := hc.1 0
    have ry := hc.1 1
    simp only [List.getD_cons_zero, List.getD_cons_succ] at rx ry
    have hvx : x0 + x1 * 4294967296 = Nt.val zs * 2 ^ k := by rw [← hv, val_two]; omega
    by_cases hU : (B : Int) + ex - fc b - 1 < lo b
    · have e1 : uu b (B + ex) = lo b := by unfold uu; omega
      rw [e1] at hk
      by_cases hN : fr b ≤ (x0 + x1 * 4294967296)
      · have r := rOf_lo21 b n a c zs ex w hl g hz hB hb p1 p2 p3 hU k hk hk2 f3 x0 x1 rx.1 rx.2 ry.1 ry.2 G hN (by omega) (by omega)
        rw [e1, ← hvx, show (lo b - lo b) * fr b + (x0 + x1 * 4294967296) = (lo b - lo b + 1) * fr b + ((x0 + x1 * 4294967296) - fr b) by rw [Int.add_mul, Int.one_mul]; omega]
        exact r
      · have r := rOf_lo20 b n a c zs ex w hl g hz hB hb p1 p2 p3 hU k hk hk2 f3 x0 x1 rx.1 rx.2 ry.1 ry.2 G (by omega) (by omega)
        rw [e1, ← hvx, show (lo b - lo b) * fr b + (x0 + x1 * 4294967296) = 0 * fr b + (x0 + x1 * 4294967296) by rw [Int.sub_self]]
        exact r
    · have e1 : uu b (B + ex) = B + ex - fc b - 1 := by unfold uu; omega
      have hN := key hU
      rw [← hvx] at hN
      rw [e1] at hk hc1
      have r := rOf_hi21 b n a c zs ex w hl g hz hB hb p1 p2 p3 (by omega) k hk hk2 f3 x0 x1 rx.1 rx.2 ry.1 ry.2 G hN (by omega) (by omega)
      rw [e1, ← hvx, show (B + ex - fc b - 1 - lo b) * fr b + (x0 + x1 * 4294967296) = ((B : Int) + ex - fc b - 1 - lo b + 1) * fr b + ((x0 + x1 * 4294967296) - fr b) by rw [Int.add_mul _ 1, Int.one_mul]; omega]
      exact r
end Go.Proofs.YtioiakemmhfhkaaDoor
