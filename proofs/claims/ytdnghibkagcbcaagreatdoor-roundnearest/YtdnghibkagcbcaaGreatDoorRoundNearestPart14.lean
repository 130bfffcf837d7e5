import Derived.Test.YtdnghibkagcbcaaGreatDoorRoundNearestPart13
import Derived.Test.YtdnghibkagcbcaaGreatDoorRoundNearestPart10
namespace Go.Proofs.YtdnghibkagcbcaaGreatDoor
open Go.RowKit Go.Wd Go.Box
set_option linter.unusedVariables false
set_option maxRecDepth 3000
set_option maxHeartbeats 2000000 in
theorem rValue1 (b : Bool) (x : Int) (h : Ok b x) (hd : fd b x ≠ 0) (w : World) :
    Calls Tryz.prog 36 #[.int .u8 (fm b), .int .u64 x] w fun e w' => ∃ n zs ex a c, e = .returned (dV n a zs.length c ex) ∧ DN n zs ex (wv b x) ∧ Lie w' a zs ∧ Below w.heap.size w w' := by
  have B1 := (Bx.nil w).push (DO false none 0 0 0)
  have hdb := fd_bd b x
  have hu : un b x = fr b + fn b x := by unfold un; rw [if_neg hd]
  have hue : ue b x = fd b x - 1 + lo b := by unfold ue; omega
  have HWV : Hide (wv b x = sv (ng b x) (fr b + fn b x) * pK (fd b x - 1 + lo b)) := ⟨by unfold wv; rw [hu, hue]⟩
  have hfn := fn_bd b x
  have hfr := fr_le b
  have hfp := fr_pos b
  have hlo := lo_bd b
  have d1 : (fd b x == 0) = false := beq_eq_false_iff_ne.2 hd
  have hd1 : 1 ≤ fd b x := by omega
  clear hu hue hd
  go_enter Tryz.func36, Tryz.ntmps36
  go_wp2_with fail
  refine (rSplit b x h _).mono ?_
  rintro e w2 ⟨rfl, h2⟩
  have HF := (B1.keep h2).push (FO (ng b x) (fd b x) (fn b x))
  have hlt : w.heap.size < w2.heap.size := (B1.keep h2).lt (.head _)
  clear h2 B1
  go_wp2_with fail
  generalize hw3 : w2.alloc (FO (ng b x) (fd b x) (fn b x)) = w3 at *
  clear hw3
  replace HF := HF.drew
  have HI := HF.sub (L' := [(w2.heap.size, FO (ng b x) (fd b x) (fn b x))]) (by simp)
  have sh := fun W (hW : Bx w [(w2.heap.size, FO (ng b x) (fd b x) (fn b x))] W) => fields_cells hW w2.heap.size (ng b x) (fd b x) (fn b x) (.head _)
  refine Drawn.enter (Bx w [(w2.heap.size, FO (ng b x) (fd b x) (fn b x))]) (by kernel_rfl) ?_
  refine Drawn.tk (i := 0) (v := ?v45) rfl (fun W hW => ?_) HI ?_
  rotate_left
  · have ⟨q0, q1, q2⟩ := sh W hW
    go_simp <;> exact rfl
  refine Drawn.tk (i := 1) (v := ?v46) rfl (fun W hW => ?_) HI ?_
  rotate_left
  · have ⟨q0, q1, q2⟩ := sh W hW
    go_simp <;> exact rfl
  refine Drawn.tk (i := 2) (v := ?v47) rfl (fun W hW => ?_) HI ?_
  rotate_left
  · have ⟨q0, q1, q2⟩ := sh W hW
    go_simp <;> exact rfl
  refine Drawn.tk (i := 5) (v := ?v48) rfl (fun W hW => ?_) HI ?_
  rotate_left
  · have ⟨q0, q1, q2⟩ := sh W hW
    go_simp <;> exact rfl
  refine Drawn.tk (i := 6) (v := ?v49) rfl (fun W hW => ?_) HI ?_
  rotate_left
  · have ⟨q0, q1, q2⟩ := sh W hW
    go_simp <;> exact rfl
  refine Drawn.tk (i := 9) (v := ?v50) rfl (fun W hW => ?_) HI ?_
  rotate_left
  · have ⟨q0, q1, q2⟩ := sh W hW
    go_simp <;> exact rfl
  refine Drawn.tk (i := 10) (v := ?v51) rfl (fun W hW => ?_) HI ?_
  rotate_left
  · have ⟨q0, q1, q2⟩ := sh W hW
    go_simp <;> exact rfl
  refine Drawn.tk (i := 12) (v := ?v52) rfl (fun W hW => ?_) HI ?_
  rotate_left
  · have ⟨q0, q1, q2⟩ := sh W hW
    go_simp <;> exact rfl
  refine Drawn.tk (i := 11) (v := .int .i64 (fd b x - 1)) rfl (fun W hW => ?_) HI ?_
  · have ⟨q0, q1, q2⟩ := sh W hW
    go_simp <;> (exact wrap_ok (by omega) (by omega))
  refine Drawn.one (j := 3) (by kernel_rfl) rfl (fun K hK => ?_)
  go_simp
  refine (rFrac b _).mono ?_
  rintro e wn ⟨rfl, hn⟩
  refine hK _ _ (HI.keep hn) ?_
  clear hK K
  replace HI := HI.keep hn
  replace HF := HF.keep hn
  clear hn
  refine Drawn.tk (i := 4) (v := .int .u64 (fr b)) rfl (fun W hW => ?_) HI ?_
  · have ⟨q0, q1, q2⟩ := sh W hW
    go_simp <;> ((rw [shl_fc, Int.one_mul, Int.emod_eq_of_lt (by omega) (by omega)]; rfl))
  refine Drawn.tk (i := 7) (v := .int .u64 (fr b + fn b x)) rfl (fun W hW => ?_) HI ?_
  · have ⟨q0, q1, q2⟩ := sh W hW
    go_simp <;> ((rw [IntKind.wrap_u64]; omega))
  refine Drawn.one (j := 8) (by kernel_rfl) rfl (fun K hK => ?_)
  go_simp
  refine (of17 (fr b + fn b x) (by omega) (by omega) _).mono ?_
  rintro e wn ⟨zs, a, c, rfl, hN, _⟩
  refine hK _ _ (HI.keep hN.bel) ?_
  clear hK K
  replace HI := HI.keep hN.bel
  replace HF := HF.keep hN.bel
  have hl := hN.lie
  have G := Hide.mk hN.good
  clear hN
  refine Drawn.one (j := 13) (by kernel_rfl) rfl (fun K hK => ?_)
  go_simp
  refine (rLow b _).mono ?_
  rintro e wm ⟨rfl, hn⟩
  refine hK _ _ (HI.keep hn) ?_
  clear hK K
  replace HI := HI.keep hn
  replace HF := HF.keep hn
  replace hl := hl.below hn (Nat.le_refl _)
  clear hn
  refine Drawn.tk (i := 14) (v := .int .i64 (fd b x - 1 + lo b)) rfl (fun W hW => ?_) HI ?_
  · have ⟨q0, q1, q2⟩ := sh W hW
    go_simp <;> (exact wrap_ok (by omega) (by omega))
  refine Drawn.one (j := 15) (by kernel_rfl) rfl (fun K hK => ?_)
  go_simp
  refine (dformD (ng b x) a c zs (fd b x - 1 + lo b) _ hl G.out (by omega) (by omega) (by omega)).mono ?_
  rintro e wd2 ⟨n9, z9, x9, a9, c9, rfl, hD, l9, hb9⟩
  refine hK _ _ (HI.keep hb9) ?_
  clear hK K
  replace HI := HI.keep hb9
  replace HF := HF.keep hb9
  have HD := Hide.mk (And.intro hD l9)
  clear hD l9 hb9 G hl
  obtain ⟨⟨f0, f1, f2⟩, r0, r1, r2⟩ := cells3 HF w.heap.size _ _ _ _ (.tail _ (.head _))
  have HF2 := (HF.sub (L' := [(w.heap.size, DO false none 0 0 0), (w2.heap.size, FO (ng b x) (fd b x) (fn b x))]) (by simp)).fill3 (Nat.le_refl _) (by simp; omega) (.bool n9) (.slice a9 z9.length c9) (.int .i64 x9)
  refine Drawn.one (j := 16) (by kernel_rfl) rfl (fun K hK => ?_)
  go_simp
  replace HI := HF2.sub (L' := [(w2.heap.size, FO (ng b x) (fd b x) (fn b x))]) (by simp)
  refine hK _ _ HI ?_
  clear hK K f0 f1 f2 r0 r1 r2
  refine Drawn.done (by kernel_rfl) ?_
  try go_simp
  go_wp2
  refine bodyPost_ret (results_D1 rfl _ _ w.heap.size _ rfl ⟨HF2.head, rfl⟩) rfl ?_
  have L := Live.set3 (g := w.heap.size) ⟨(HF.sub (L' := [(w.heap.size, DO false none 0 0 0)]) (by simp)).head, rfl⟩ (.bool n9) (.slice a9 z9.length c9) (.int .i64 x9) (Live.one HD.out.2)
  exact ⟨n9, z9, x9, a9, c9, rfl, by rw [HWV.out]; exact HD.out.1, L.all (a9, z9) (.head _), HF2.bel⟩
theorem rValue (b : Bool) (x : Int) (h : Ok b x) (w : World) :
    Calls Tryz.prog 36 #[.int .u8 (fm b), .int .u64 x] w fun e w' => ∃ n zs ex a c, e = .returned (dV n a zs.length c ex) ∧ DN n zs ex (wv b x) ∧ Lie w' a zs ∧ Below w.heap.size w w' := by
  by_cases c : fd b x = 0
  · exact rValue0 b x h c w
  · exact rValue1 b x h c w
end Go.Proofs.YtdnghibkagcbcaaGreatDoor

namespace Go.Box
open Go
end Go.Box
namespace Go.Proofs.YtdnghibkagcbcaaGreatDoor
open Go.RowKit Go.Wd Go.Box
set_option linter.unusedVariables false
set_option maxRecDepth 3000
end Go.Proofs.YtdnghibkagcbcaaGreatDoor

namespace Go.Proofs.YtdnghibkagcbcaaGreatDoor
open Go.RowKit Go.Wd Go.Box
set_option linter.unusedVariables false
set_option maxRecDepth 3000
end Go.Proofs.YtdnghibkagcbcaaGreatDoor

namespace Go.Proofs.YtdnghibkagcbcaaGreatDoor
open Go.RowKit Go.Wd Go.Box
set_option linter.unusedVariables false
set_option maxRecDepth 3000
end Go.Proofs.YtdnghibkagcbcaaGreatDoor

namespace Go.Proofs.YtdnghibkagcbcaaGreatDoor
open Go.RowKit Go.Wd Go.Box
set_option linter.unusedVariables false
set_option maxRecDepth 3000
end Go.Proofs.YtdnghibkagcbcaaGreatDoor

namespace Go.Proofs.YtdnghibkagcbcaaGreatDoor
open Go.RowKit Go.Wd Go.Box
set_option linter.unusedVariables false
set_option maxRecDepth 3000
end Go.Proofs.YtdnghibkagcbcaaGreatDoor

namespace Go.Proofs.YtdnghibkagcbcaaGreatDoor
open Go.RowKit Go.Wd Go.Box
set_option linter.unusedVariables false
set_option maxRecDepth 3000
end Go.Proofs.YtdnghibkagcbcaaGreatDoor

namespace Go.Proofs.YtdnghibkagcbcaaGreatDoor
open Go.RowKit Go.Wd Go.Box
set_option linter.unusedVariables false
set_option maxRecDepth 3000
end Go.Proofs.YtdnghibkagcbcaaGreatDoor

namespace Go.Proofs.YtdnghibkagcbcaaGreatDoor
open Go.RowKit Go.Wd Go.Box
set_option linter.unusedVariables false
set_option maxRecDepth 3000
end Go.Proofs.YtdnghibkagcbcaaGreatDoor

namespace Go.Proofs.YtdnghibkagcbcaaGreatDoor
open Go.RowKit Go.Wd Go.Box
set_option linter.unusedVariables false
set_option maxRecDepth 3000
end Go.Proofs.YtdnghibkagcbcaaGreatDoor

namespace Go.Proofs.YtdnghibkagcbcaaGreatDoor
open Go.RowKit Go.Wd Go.Box
set_option linter.unusedVariables false
set_option maxRecDepth 3000
end Go.Proofs.YtdnghibkagcbcaaGreatDoor

namespace Go.Proofs.YtdnghibkagcbcaaGreatDoor
open Go.RowKit Go.Wd Go.Box
set_option linter.unusedVariables false
set_option maxRecDepth 3000
end Go.Proofs.YtdnghibkagcbcaaGreatDoor

namespace Go.Proofs.YtdnghibkagcbcaaGreatDoor
open Go.RowKit Go.Wd Go.Box
set_option linter.unusedVariables false
set_option maxRecDepth 3000
end Go.Proofs.YtdnghibkagcbcaaGreatDoor

namespace Go.Proofs.YtdnghibkagcbcaaGreatDoor
open Go.RowKit Go.Wd Go.Box
set_option linter.unusedVariables false
set_option maxRecDepth 3000
end Go.Proofs.YtdnghibkagcbcaaGreatDoor

namespace Go.Proofs.YtdnghibkagcbcaaGreatDoor
open Go.RowKit Go.Wd Go.Box
set_option linter.unusedVariables false
set_option maxRecDepth 3000
end Go.Proofs.YtdnghibkagcbcaaGreatDoor

namespace Go.Proofs.YtdnghibkagcbcaaGreatDoor
open Go.RowKit Go.Wd Go.Box
set_option linter.unusedVariables false
set_option maxRecDepth 3000
end Go.Proofs.YtdnghibkagcbcaaGreatDoor

namespace Go.Proofs.YtdnghibkagcbcaaGreatDoor
open Go.RowKit Go.Wd Go.Box
set_option linter.unusedVariables false
set_option maxRecDepth 3000
end Go.Proofs.YtdnghibkagcbcaaGreatDoor

namespace Go.Proofs.YtdnghibkagcbcaaGreatDoor
open Go.RowKit Go.Wd Go.Box
set_option linter.unusedVariables false
set_option maxRecDepth 3000
end Go.Proofs.YtdnghibkagcbcaaGreatDoor

namespace Go.Proofs.YtdnghibkagcbcaaGreatDoor
open Go.RowKit Go.Wd Go.Box
set_option linter.unusedVariables false
set_option maxRecDepth 3000
end Go.Proofs.YtdnghibkagcbcaaGreatDoor

namespace Go.Proofs.YtdnghibkagcbcaaGreatDoor
open Go.RowKit Go.Wd Go.Box
set_option linter.unusedVariables false
set_option maxRecDepth 3000
end Go.Proofs.YtdnghibkagcbcaaGreatDoor

namespace Go.Proofs.YtdnghibkagcbcaaGreatDoor
open Go.RowKit Go.Wd Go.Box
set_option linter.unusedVariables false
set_option maxRecDepth 3000
end Go.Proofs.YtdnghibkagcbcaaGreatDoor

namespace Go.Proofs.YtdnghibkagcbcaaGreatDoor
open Go.RowKit Go.Wd Go.Box
set_option linter.unusedVariables false
set_option maxRecDepth 3000
theorem half_of {X ex e E : Int} {k j : Nat} (hX : 0 < X) (hE : E + k = e) (hj : E + j = ex) (h0 : k = 0 ∨ j = 0) : HalfAt (X * 2 ^ j) (2 ^ k) (qf X 1 (ex + 1 - e)) (qg X 1 (ex + 1 - e)) := by
  refine ⟨p2pos k, Int.mul_pos hX (p2pos j), ?_⟩
  unfold qf qg
  rw [Int.one_mul]
  by_cases c : k = 0
  · subst c
    rw [show (ex + 1 - e).toNat = j + 1 by omega, show (-(ex + 1 - e)).toNat = 0 by omega, Int.pow_zero, Int.ediv_one, Int.emod_one, Int.pow_succ]
    refine ⟨0, ?_, by omega, by omega, by simp⟩
    generalize (2 : Int) ^ j = P
    grind
  · obtain rfl : j = 0 := by omega
    obtain ⟨k, rfl⟩ : ∃ i, k = i + 1 := ⟨k - 1, by omega⟩
    rw [show (ex + 1 - e).toNat = 0 by omega, show (-(ex + 1 - e)).toNat = k by omega, Int.pow_zero, Int.mul_one]
    have h1 := Int.mul_ediv_add_emod X (2 ^ k)
    have hp := p2pos k
    have h2 := Int.emod_nonneg X (show (2 : Int) ^ k ≠ 0 by omega)
    have h3 := Int.emod_lt_of_pos X hp
    rw [Int.pow_succ]
    generalize X % 2 ^ k = r at *
    generalize X / 2 ^ k = q at *
    generalize (2 : Int) ^ k = P at *
    refine ⟨2 * r, by rw [← h1]; grind, by omega, by omega, ?_⟩
    by_cases z : r = 0
    · subst z; simp
    · rw [decide_eq_true z, decide_eq_true (show 2 * r ≠ 0 by omega)]
theorem qf1_bits {X : Int} {B k : Nat} (hX : 0 < X) (hB : BitLen X B) (i : Int) (hk : (k : Int) = B + i) : BitLen (qf X 1 i) k := by
  unfold qf
  rw [Int.one_mul]
  have h1 := (hB.up hX i.toNat).down (-i).toNat
  rw [show B + i.toNat - (-i).toNat = k by omega] at h1
  exact h1
end Go.Proofs.YtdnghibkagcbcaaGreatDoor

namespace Go.Proofs.YtdnghibkagcbcaaGreatDoor
open Go.RowKit Go.Wd Go.Box
set_option linter.unusedVariables false
set_option maxRecDepth 3000
theorem lLong4 (n : Bool) (a : Option Addr) (k c : Nat) (ex : Int) (w : World) (q : Bool) (hq : decide ((300 : Int) < (k : Int)) = q) :
    Calls Tryz.prog 11 #[dV n a k c ex] w fun e w' => e = .returned (.bool q) ∧ Below w.heap.size w w' := by
  have B1 := (Bx.nil w).push (DO n a k c ex)
  obtain ⟨⟨s0, s1, s2⟩, _⟩ := cells3 B1 w.heap.size _ _ _ _ (.head _)
  have HQ := Hide.mk hq
  clear hq
  go_enter Tryz.func11, Tryz.ntmps11
  go_wp2
  go_ret
  exact ⟨by first | rfl | simpa using HQ.out, B1.bel⟩
theorem rIs4 (m : Int) (q : Bool) (hm : Mode m ∧ q = true ∨ ¬ Mode m ∧ q = false) (w : World) :
    Calls Tryz.prog 51 #[.int .u8 m] w fun e w' => e = .returned (.bool q) ∧ Below w.heap.size w w' := by
  have h : (1 ≤ m ∧ m ≤ 5) ∧ q = true ∨ (¬ 1 ≤ m ∧ q = false) ∨ ((1 ≤ m ∧ ¬ m ≤ 5) ∧ q = false) := by
    unfold Mode at hm
    rcases hm with ⟨h, rfl⟩ | ⟨h, rfl⟩
    · exact .inl ⟨by omega, rfl⟩
    · by_cases c : 1 ≤ m
      · exact .inr (.inr ⟨⟨c, by omega⟩, rfl⟩)
      · exact .inr (.inl ⟨c, rfl⟩)
  clear hm
  rcases h with ⟨⟨h1, h2⟩, rfl⟩ | ⟨h1, rfl⟩ | ⟨⟨h1, h2⟩, rfl⟩
  · go_enter Tryz.func51, Tryz.ntmps51
    go_wp2
    go_ret
    exact ⟨by first | rfl | simp, Below.refl _ _⟩
  · go_enter Tryz.func51, Tryz.ntmps51
    go_wp2
    go_ret
    exact ⟨by first | rfl | simp, Below.refl _ _⟩
  · go_enter Tryz.func51, Tryz.ntmps51
    go_wp2
    go_ret
    exact ⟨by first | rfl | simp, Below.refl _ _⟩
/-- What is asked first: the format, the mode. -/
def Opn (f m code : Int) : Prop := (Bad f ∧ code = 4) ∨ ∃ b, f = fm b ∧ ((¬ Mode m ∧ code = 5) ∨ (Mode m ∧ code = 0))
theorem lOpens_bad (f m code : Int) (sl : Value) (h : Opn f m code) (hc : (code == 0) = false) (w : World) :
    Calls Tryz.prog 16 #[.int .u8 f, .int .u8 m, sl] w fun e w' => e = .returned (.int .i64 code) ∧ Below w.heap.size w w' := by
  rcases h with ⟨hf, rfl⟩ | ⟨b, rfl, ⟨hm, rfl⟩ | ⟨hm, rfl⟩⟩
  · have H1 := fun W => Hide.mk (rIs_bad f hf W)
    go_enter Tryz.func16, Tryz.ntmps16
    go_wp2_with fail
    refine (H1 _).out.mono ?_
    rintro e w2 ⟨rfl, h2⟩
    go_wp2
    go_ret
    exact ⟨rfl, h2⟩
  · have H1 := fun W => Hide.mk (rIs b W)
    have H2 := fun W => Hide.mk (rIs4 m false (.inr ⟨hm, rfl⟩) W)
    go_enter Tryz.func16, Tryz.ntmps16
    go_wp2_with fail
    refine (H1 _).out.mono ?_
    rintro e w2 ⟨rfl, h2⟩
    have B2 := (Bx.nil w).keep h2
    go_wp2_with fail
    refine (H2 _).out.mono ?_
    rintro e w3 ⟨rfl, h3⟩
    have B3 := B2.keep h3
    go_wp2
    go_ret
    exact ⟨rfl, B3.bel⟩
  · exact absurd hc (by decide)
set_option maxHeartbeats 1000000 in
theorem lOpens1_no (b : Bool) (m : Int) (hm : Mode m) (g : Nat) (n1 : Bool) (a1 : Option Addr) (c1 : Nat) (z1 : List Int) (e1 : Int) (w : World) (h1 : DLie w a1 z1) (hq1 : dmayB n1 z1 e1 = false) (hg1 : At3 w g 0 n1 a1 z1.length c1 e1) :
    Calls Tryz.prog 16 #[.int .u8 (fm b), .int .u8 m, .slice (some ⟨g, 0, none⟩) 1 1] w fun e w' => e = .returned (.int .i64 2) ∧ Below w.heap.size w w' := by
  have H1 := fun W => Hide.mk (rIs b W)
  have H2 := fun W => Hide.mk (rIs4 m true (.inl ⟨hm, rfl⟩) W)
  have M1 := fun W (hW : Below w.heap.size w W) => Hide.mk (drefmay37 n1 a1 c1 z1 e1 W (h1.below hW) false hq1)
  have G1 := Hide.mk hg1
  clear h1 hq1 hg1
  go_enter Tryz.func16, Tryz.ntmps16
  go_wp2_with fail
  refine (H1 _).out.mono ?_
  rintro e w2 ⟨rfl, h2⟩
  have B2 := (Bx.nil w).keep h2
  go_wp2_with fail
  refine (H2 _).out.mono ?_
  rintro e w3 ⟨rfl, h3⟩
  have B3 := B2.keep h3
  clear h2 h3 B2 H1 H2
  obtain ⟨k0, k1, k2⟩ := G1.out.below B3.bel
  go_wp2
  refine wp_loop_rounds 3 ?_
  rw [rounds_succ]
  go_wp2_with fail
  refine (M1 _ B3.bel).out.mono ?_
  rintro e w4 ⟨rfl, hh⟩
  have B4 := B3.keep hh
  clear hh k0 k1 k2 B3
  go_wp2
  go_ret
  exact ⟨rfl, B4.bel⟩
set_option maxHeartbeats 1000000 in
theorem lOpens1 (b : Bool) (m : Int) (hm : Mode m) (g : Nat) (n1 : Bool) (a1 : Option Addr) (c1 : Nat) (z1 : List Int) (e1 : Int) (w : World) (h1 : DLie w a1 z1) (hq1 : dmayB n1 z1 e1 = true) (hg1 : At3 w g 0 n1 a1 z1.length c1 e1) :
    Calls Tryz.prog 16 #[.int .u8 (fm b), .int .u8 m, .slice (some ⟨g, 0, none⟩) 1 1] w fun e w' => e = .returned (.int .i64 0) ∧ Below w.heap.size w w' := by
  have H1 := fun W => Hide.mk (rIs b W)
  have H2 := fun W => Hide.mk (rIs4 m true (.inl ⟨hm, rfl⟩) W)
  have M1 := fun W (hW : Below w.heap.size w W) => Hide.mk (drefmay37 n1 a1 c1 z1 e1 W (h1.below hW) true hq1)
  have G1 := Hide.mk hg1
  clear h1 hq1 hg1
  go_enter Tryz.func16, Tryz.ntmps16
  go_wp2_with fail
  refine (H1 _).out.mono ?_
  rintro e w2 ⟨rfl, h2⟩
  have B2 := (Bx.nil w).keep h2
  go_wp2_with fail
  refine (H2 _).out.mono ?_
  rintro e w3 ⟨rfl, h3⟩
  have B3 := B2.keep h3
  clear h2 h3 B2 H1 H2
  obtain ⟨k0, k1, k2⟩ := G1.out.below B3.bel
  go_wp2
  refine wp_loop_rounds 3 ?_
  rw [rounds_succ]
  go_wp2_with fail
  refine (M1 _ B3.bel).out.mono ?_
  rintro e w4 ⟨rfl, hh⟩
  have B4 := B3.keep hh
  clear hh k0 k1 k2 B3
  go_wp2_with fail
  rw [rounds_succ]
  go_wp2
  go_ret
  exact ⟨rfl, B4.bel⟩
end Go.Proofs.YtdnghibkagcbcaaGreatDoor

namespace Go.Proofs.YtdnghibkagcbcaaGreatDoor
open Go.RowKit Go.Wd Go.Box
set_option linter.unusedVariables false
set_option maxRecDepth 3000
/-- Round of a number that is not nought. -/
theorem pRound (b : Bool) (m : Int) (hm : Mode m) (n : Bool) (a : Option Addr) (c : Nat) (z : List Int) (ex T : Int) (w : World) (l : Lie w a z) (g : DG n z ex) (hz : 0 < z.length) (hTab : Tab w) {B : Nat} (hB : BitLen (Nt.val z) B) (hB2 : B ≤ 131072) (hT : T = B + ex) {H I : Int} {G J : Bool} (hH : H = qf (Nt.val z) 1 (ex + 1 - ulp b T)) (hG : G = qg (Nt.val z) 1 (ex + 1 - ulp b T)) (hI : I = qf (Nt.val z) 1 (ex + 1 - (T - pr b))) (hJ : J = qg (Nt.val z) 1 (ex + 1 - (T - pr b))) :
    Calls Tryz.prog 14 #[.int .u8 (fm b), .int .u8 m, dV n a z.length c ex] w fun e w' => e = .returned (.tuple #[.int .u64 (rdW b m n T H G), .int .u8 (rdX b m n T H G I J), .int .i64 0]) ∧ Below w.heap.size w w' := by
  have hx := g.ex_bd
  have hp := g.pos hz
  have hpb := pr_bd b
  have hub := ulp_ge b T
  have u := g.lie l
  obtain ⟨s, hs, hs2⟩ := sgn_dv g hz
  have hi64 : BitLen (qf (Nt.val z) 1 (64 - B)) 64 := qf1_bits hp hB _ (by omega)
  have hb : 9223372036854775808 ≤ qf (Nt.val z) 1 (64 - B) ∧ qf (Nt.val z) 1 (64 - B) < 18446744073709551616 := by
    rcases hi64 with ⟨_, h⟩ | ⟨_, h⟩
    · omega
    · have a := h.lt
      have b := h.le
      omega
  obtain ⟨d, hd⟩ : ∃ d : Nat, ulp b T - T + 63 = (d : Int) := ⟨(ulp b T - T + 63).toNat, by omega⟩
  have e1 : qf (Nt.val z) 1 (64 - B) / 2 ^ d = H ∧ gx (qf (Nt.val z) 1 (64 - B)) d (qg (Nt.val z) 1 (64 - B)) = G := by
    have a1 := qf_down (Nt.val z) 1 (by omega) (64 - B) d
    have a2 := qg_down (Nt.val z) 1 (by omega) (64 - B) d
    rw [show 64 - (B : Int) - d = ex + 1 - ulp b T by omega] at a1 a2
    exact ⟨by rw [hH, a1], by rw [hG, a2]; rfl⟩
  have e2 : qf (Nt.val z) 1 (64 - B) / 2 ^ (63 - pr b) = I ∧ gx (qf (Nt.val z) 1 (64 - B)) (63 - pr b) (qg (Nt.val z) 1 (64 - B)) = J := by
    have a1 := qf_down (Nt.val z) 1 (by omega) (64 - B) (63 - pr b)
    have a2 := qg_down (Nt.val z) 1 (by omega) (64 - B) (63 - pr b)
    rw [show 64 - (B : Int) - (63 - pr b : Nat) = ex + 1 - (T - pr b) by omega] at a1 a2
    exact ⟨by rw [hI, a1], by rw [hJ, a2]; rfl⟩
  refine wRound_good b m n a c z.length ex s n T (qf (Nt.val z) 1 (64 - B)) _ _ (qg (Nt.val z) 1 (64 - B)) w hs2 ?_ ?_ ?_ ?_
  · intro g0 W hW h3
    have := wWayFor1 b m hm g0 n a c z ex W (u.below hW) true g.may h3
    exact this
  · intro W hW
    exact dsign49 n a c z ex _ W (l.below hW (Nat.le_refl _)) ⟨g, rfl⟩ s hs
  · intro W hW
    have := wSeenNumber n a c z ex W (l.below hW (Nat.le_refl _)) g hz (hTab.below hW (Nat.le_refl _)) hB hB2
    rw [← hT] at this
    exact this
  · intro W hW
    have := wRounded b m n T (qf (Nt.val z) 1 (64 - B)) (qg (Nt.val z) 1 (64 - B)) d W (hTab.below hW (Nat.le_refl _)) hm (by omega) (by omega) hb.1 hb.2 hd
    rw [e1.1, e1.2, e2.1, e2.2] at this
    exact this
theorem rIntP (v : Int) (h0 : 0 < v) (h1 : v < 9223372036854775808) (w : World) :
    Calls Tryz.prog 42 #[.int .i64 v] w fun e w' => RF w w' v 0 e := by
  have B1 := (Bx.nil w).push (DO false none 0 0 0)
  have hc : IntKind.u64.wrap v = v := by rw [IntKind.wrap_u64]; omega
  have hn : ¬ v < 0 := by omega
  have HO := fun W => Hide.mk (of17 v (by omega) (by omega) W)
  go_enter Tryz.func42, Tryz.ntmps42
  go_wp2_with fail
  try rw [hc]
  refine (HO _).out.mono ?_
  rintro e w2 ⟨zs, a, c, rfl, N2, _⟩
  have B2 := (B1.keep N2.bel)
  have HFm := Hide.mk (formX false a c zs 0 w2 N2.lie N2.can (by have := N2.len; omega) (by omega) (by omega))
  rw [N2.val, sv_f] at HFm
  clear N2 HO B1
  go_wp2_with fail
  refine HFm.out.mono ?_
  rintro e w3 ⟨n3, z3, x3, a3, c3, rfl, F3, l3, h3⟩
  have B3 := B2.keep h3
  have H3 := Hide.mk F3
  clear F3 h3 B2 HFm
  obtain ⟨⟨t0, t1, t2⟩, r0, r1, r2⟩ := cells3 B3 w.heap.size _ _ _ _ (.head _)
  go_wp2
  have Bf := B3.fill3 (Nat.le_refl _) (by simp) (.bool n3) (.slice a3 z3.length c3) (.int .i64 x3)
  refine bodyPost_ret (results_D1 rfl _ _ w.heap.size _ rfl ⟨Bf.head, rfl⟩) rfl ?_
  exact ⟨n3, z3, x3, a3, c3, rfl, H3.out, lie_set3P (g := w.heap.size) B3.head _ _ _ l3, Bf.bel⟩
end Go.Proofs.YtdnghibkagcbcaaGreatDoor

namespace Go.Proofs.YtdnghibkagcbcaaGreatDoor
open Go.RowKit Go.Wd Go.Box
set_option linter.unusedVariables false
set_option maxRecDepth 3000
/-- Quo of two numbers that are not nought. -/
theorem pQuo (b : Bool) (m : Int) (hm : Mode m) (n1 n2 : Bool) (a1 a2 : Option Addr) (c1 c2 : Nat) (z1 z2 : List Int) (e1 e2 T : Int) (w : World) (l1 : Lie w a1 z1) (l2 : Lie w a2 z2) (g1 : DG n1 z1 e1) (g2 : DG n2 z2 e2) (hTab : Tab w) (hz1 : 0 < z1.length) (hz2 : 0 < z2.length) {i : Int} (hi : BitLen (qf (Nt.val z1) (Nt.val z2) i) 64) (hi1 : -1000000 ≤ i) (hi2 : i ≤ 1000000) (hT : T = 64 - i + (e1 - e2)) {H I : Int} {G J : Bool} (hH : H = qf (Nt.val z1) (Nt.val z2) (e1 - e2 + 1 - ulp b T)) (hG : G = qg (Nt.val z1) (Nt.val z2) (e1 - e2 + 1 - ulp b T)) (hI : I = qf (Nt.val z1) (Nt.val z2) (e1 - e2 + 1 - (T - pr b))) (hJ : J = qg (Nt.val z1) (Nt.val z2) (e1 - e2 + 1 - (T - pr b))) :
    Calls Tryz.prog 22 #[.int .u8 (fm b), .int .u8 m, dV n1 a1 z1.length c1 e1, dV n2 a2 z2.length c2 e2] w fun e w' => e = .returned (.tuple #[.int .u64 (rdW b m (n1 != n2) T H G), .int .u8 (rdX b m (n1 != n2) T H G I J), .int .i64 0]) ∧ Below w.heap.size w w' := by
  have x1 := g1.ex_bd
  have x2 := g2.ex_bd
  have p1 := g1.pos hz1
  have p2 := g2.pos hz2
  have hpb := pr_bd b
  have hub := ulp_ge b T
  have hlo := lo_bd b
  obtain ⟨s1, hs1, hs12⟩ := sgn_dv g1 hz1
  obtain ⟨s2, hs2, hs22⟩ := sgn_dv g2 hz2
  have u1 := g1.lie l1
  have u2 := g2.lie l2
  have hb : 9223372036854775808 ≤ qf (Nt.val z1) (Nt.val z2) i ∧ qf (Nt.val z1) (Nt.val z2) i < 18446744073709551616 := by
    rcases hi with ⟨_, h⟩ | ⟨_, h⟩
    · omega
    · have a := h.lt
      have b := h.le
      omega
  obtain ⟨d, hd⟩ : ∃ d : Nat, ulp b T - T + 63 = (d : Int) := ⟨(ulp b T - T + 63).toNat, by omega⟩
  have k1 : qf (Nt.val z1) (Nt.val z2) i / 2 ^ d = H ∧ gx (qf (Nt.val z1) (Nt.val z2) i) d (qg (Nt.val z1) (Nt.val z2) i) = G := by
    have a1 := qf_down (Nt.val z1) (Nt.val z2) p2 i d
    have a2 := qg_down (Nt.val z1) (Nt.val z2) p2 i d
    rw [show i - (d : Int) = e1 - e2 + 1 - ulp b T by omega] at a1 a2
    exact ⟨by rw [hH, a1], by rw [hG, a2]; rfl⟩
  have k2 : qf (Nt.val z1) (Nt.val z2) i / 2 ^ (63 - pr b) = I ∧ gx (qf (Nt.val z1) (Nt.val z2) i) (63 - pr b) (qg (Nt.val z1) (Nt.val z2) i) = J := by
    have a1 := qf_down (Nt.val z1) (Nt.val z2) p2 i (63 - pr b)
    have a2 := qg_down (Nt.val z1) (Nt.val z2) p2 i (63 - pr b)
    rw [show i - ((63 - pr b : Nat) : Int) = e1 - e2 + 1 - (T - pr b) by omega] at a1 a2
    exact ⟨by rw [hI, a1], by rw [hJ, a2]; rfl⟩
  refine wQuo_good b m n1 a1 c1 z1.length e1 n2 a2 c2 z2.length e2 s1 s2 (n1 != n2) T (qf (Nt.val z1) (Nt.val z2) i) _ _ (qg (Nt.val z1) (Nt.val z2) i) w hs12 hs22 ?_ ?_ ?_ ?_ ?_
  · intro g0 W hW h3 h4
    have := wWayFor2 b m hm g0 n1 a1 c1 z1 e1 n2 a2 c2 z2 e2 W (u1.below hW) (u2.below hW) true true g1.may g2.may h3 h4
    exact this
  · intro W hW
    exact dsign49 n2 a2 c2 z2 e2 _ W (l2.below hW (Nat.le_refl _)) ⟨g2, rfl⟩ s2 hs2
  · intro W hW
    exact dsign49 n1 a1 c1 z1 e1 _ W (l1.below hW (Nat.le_refl _)) ⟨g1, rfl⟩ s1 hs1
  · intro W hW
    have := wSeenQuo n1 n2 a1 a2 c1 c2 z1 z2 e1 e2 W (l1.below hW (Nat.le_refl _)) (l2.below hW (Nat.le_refl _)) g1 g2 (hTab.below hW (Nat.le_refl _)) hz1 hz2 hi hi1 hi2
    rw [← hT] at this
    exact this
  · intro W hW
    have := wRounded b m (n1 != n2) T (qf (Nt.val z1) (Nt.val z2) i) (qg (Nt.val z1) (Nt.val z2) i) d W (hTab.below hW (Nat.le_refl _)) hm (by omega) (by omega) hb.1 hb.2 hd
    rw [k1.1, k1.2, k2.1, k2.2] at this
    exact this
theorem fm_oddP {v : Int} {n : Bool} {z : List Int} {x : Int} (F : Fm v 0 n z x) (h0 : 0 < v) (h1 : v % 2 = 1) (h2 : v < 18446744073709551616) : n = false ∧ x = 0 ∧ Nt.val z = v ∧ 0 < z.length ∧ DG false z 0 := by
  rcases F with ⟨rfl, _⟩ | ⟨_, t, ht, hn, hx, hc, hv⟩
  · omega
  · have ha : (v.natAbs : Int) = v := by omega
    rw [ha] at ht hv
    have t0 : t = 0 := ht.unique (odd_low h1)
    subst t0
    rw [Int.pow_zero, Int.ediv_one] at hv
    have hz : 0 < z.length := by
      cases z with
      | nil => rw [Nt.val_nil] at hv; omega
      | cons d q => simp
    have hl : z.length ≤ 2 := by
      refine (Nt.can_len hc 2).1 ?_
      rw [hv, show (4294967296 : Int) ^ 2 = 18446744073709551616 by decide]
      exact h2
    refine ⟨by rw [hn]; exact decide_eq_false (by omega), by omega, hv, hz, ⟨hc, by omega, .inr ⟨hz, by omega, by omega, by omega⟩⟩⟩
set_option maxHeartbeats 1000000 in
theorem lKnown4 (w : World) (hTab : Tab w) :
    Calls Tryz.prog 12 #[] w fun e w' => e = .returned (.bool true) ∧ Below w.heap.size w w' := by
  have H1 := fun W => Hide.mk (rIntP 1 (by decide) (by decide) W)
  have H3 := fun W => Hide.mk (rIntP 3 (by decide) (by decide) W)
  have H5 := fun W => Hide.mk (rIntP 16777217 (by decide) (by decide) W)
  go_enter Tryz.func12, Tryz.ntmps12
  go_wp2_with fail
  refine (H1 _).out.mono ?_
  rintro e w2 ⟨n1, z1, x1, a1, c1, rfl, F1, l1, h1⟩
  have B1 := (Bx.nil w).keep h1
  obtain ⟨rfl, rfl, v1, hz1, g1⟩ := fm_oddP F1 (by decide) (by decide) (by decide)
  clear F1 h1
  go_wp2_with fail
  refine (H3 _).out.mono ?_
  rintro e w3 ⟨n3, z3, x3, a3, c3, rfl, F3, l3, h3⟩
  have B3 := B1.keep h3
  replace l1 := l1.below h3 (Nat.le_refl _)
  obtain ⟨rfl, rfl, v3, hz3, g3⟩ := fm_oddP F3 (by decide) (by decide) (by decide)
  clear F3 h3 B1 H1 H3
  have HQ := Hide.mk (pQuo false 1 (.inl rfl) false false a1 a3 c1 c3 z1 z3 0 0 (-1) w3 l1 l3 g1 g3 (hTab.below B3.bel (Nat.le_refl _)) hz1 hz3 (i := 65) (by rw [v1, v3]; exact .inr ⟨by decide, ⟨by decide, by decide⟩⟩) (by decide) (by decide) (by decide) rfl rfl rfl rfl)
  rw [v1, v3, show rdW false 1 (false != false) (-1) (qf 1 3 (0 - 0 + 1 - ulp false (-1))) (qg 1 3 (0 - 0 + 1 - ulp false (-1))) = 1051372203 by decide, show rdX false 1 (false != false) (-1) (qf 1 3 (0 - 0 + 1 - ulp false (-1))) (qg 1 3 (0 - 0 + 1 - ulp false (-1))) (qf 1 3 (0 - 0 + 1 - (-1 - (pr false : Nat)))) (qg 1 3 (0 - 0 + 1 - (-1 - (pr false : Nat)))) = 16 by decide, show fm false = 1 from rfl] at HQ
  clear l1 l3 g1 g3 hz1 hz3 v1 v3
  go_wp2_with fail
  refine HQ.out.mono ?_
  rintro e w4 ⟨rfl, h4⟩
  have B4 := B3.keep h4
  clear h4 B3 HQ
  go_wp2_with fail
  refine (H5 _).out.mono ?_
  rintro e w5 ⟨n5, z5, x5, a5, c5, rfl, F5, l5, h5⟩
  have B5 := B4.keep h5
  obtain ⟨rfl, rfl, v5, hz5, g5⟩ := fm_oddP F5 (by decide) (by decide) (by decide)
  clear F5 h5 B4 H5
  have HR := Hide.mk (pRound false 2 (.inr (.inl rfl)) false a5 c5 z5 0 25 w5 l5 g5 hz5 (hTab.below B5.bel (Nat.le_refl _)) (B := 25) (by rw [v5]; exact .inr ⟨by decide, ⟨by decide, by decide⟩⟩) (by decide) (by decide) rfl rfl rfl rfl)
  rw [v5, show rdW false 2 false 25 (qf 16777217 1 (0 + 1 - ulp false 25)) (qg 16777217 1 (0 + 1 - ulp false 25)) = 1266679809 by decide, show rdX false 2 false 25 (qf 16777217 1 (0 + 1 - ulp false 25)) (qg 16777217 1 (0 + 1 - ulp false 25)) (qf 16777217 1 (0 + 1 - (25 - (pr false : Nat)))) (qg 16777217 1 (0 + 1 - (25 - (pr false : Nat)))) = 16 by decide, show fm false = 1 from rfl] at HR
  clear l5 g5 hz5 v5
  go_wp2_with fail
  refine HR.out.mono ?_
  rintro e w6 ⟨rfl, h6⟩
  have B6 := B5.keep h6
  clear h6 B5 HR
  go_wp2
  go_ret
  exact ⟨rfl, B6.bel⟩
end Go.Proofs.YtdnghibkagcbcaaGreatDoor

namespace Go.Proofs.YtdnghibkagcbcaaGreatDoor
open Go.RowKit Go.Wd Go.Box
set_option linter.unusedVariables false
set_option maxRecDepth 3000
theorem pRound_zero (b : Bool) (m : Int) (hm : Mode m) (a : Option Addr) (c : Nat) (w : World) :
    Calls Tryz.prog 14 #[.int .u8 (fm b), .int .u8 m, dV false a ([] : List Int).length c 0] w fun e w' => e = .returned (.tuple #[.int .u64 0, .int .u8 0, .int .i64 0]) ∧ Below w.heap.size w w' :=
  wRound_zero b m false a c ([] : List Int).length 0 w (fun g W hW h3 => wWayFor1 b m hm g false a c [] 0 W (zeroDG.lie (.inl rfl)) true rfl h3) (fun W _ => dsign49 false a c [] 0 0 W (.inl rfl) ⟨zeroDG, zero_dv _ _⟩ 0 rfl)
theorem pRound_zeroG (b : Bool) (m : Int) (hm : Mode m) (n : Bool) (a : Option Addr) (c : Nat) (z : List Int) (ex : Int) (w : World) (h : z = [] ∧ n = false ∧ ex = 0) :
    Calls Tryz.prog 14 #[.int .u8 (fm b), .int .u8 m, dV n a z.length c ex] w fun e w' => e = .returned (.tuple #[.int .u64 0, .int .u8 0, .int .i64 0]) ∧ Below w.heap.size w w' := by
  obtain ⟨rfl, rfl, rfl⟩ := h
  exact pRound_zero b m hm a c w
end Go.Proofs.YtdnghibkagcbcaaGreatDoor

namespace Go.Proofs.YtdnghibkagcbcaaGreatDoor
open Go.RowKit Go.Wd Go.Box
set_option linter.unusedVariables false
set_option maxRecDepth 3000
def bq (g : Bool) : Int := if g then 1 else 0
end Go.Proofs.YtdnghibkagcbcaaGreatDoor

namespace Go.Proofs.YtdnghibkagcbcaaGreatDoor
open Go.RowKit Go.Wd Go.Box
set_option linter.unusedVariables false
set_option maxRecDepth 3000
end Go.Proofs.YtdnghibkagcbcaaGreatDoor

namespace Go.Proofs.YtdnghibkagcbcaaGreatDoor
open Go.RowKit Go.Wd Go.Box
set_option linter.unusedVariables false
set_option maxRecDepth 3000
def swp (m : Int) : Int := if m = 4 then 5 else if m = 5 then 4 else m
end Go.Proofs.YtdnghibkagcbcaaGreatDoor

namespace Go.Proofs.YtdnghibkagcbcaaGreatDoor
open Go.RowKit Go.Wd Go.Box
set_option linter.unusedVariables false
set_option maxRecDepth 3000
end Go.Proofs.YtdnghibkagcbcaaGreatDoor

namespace Go.Proofs.YtdnghibkagcbcaaGreatDoor
open Go.RowKit Go.Wd Go.Box
set_option linter.unusedVariables false
set_option maxRecDepth 3000
end Go.Proofs.YtdnghibkagcbcaaGreatDoor

namespace Go.Proofs.YtdnghibkagcbcaaGreatDoor
open Go.RowKit Go.Wd Go.Box
set_option linter.unusedVariables false
set_option maxRecDepth 3000
end Go.Proofs.YtdnghibkagcbcaaGreatDoor

namespace Go.Proofs.YtdnghibkagcbcaaGreatDoor
open Go.RowKit Go.Wd Go.Box
set_option linter.unusedVariables false
set_option maxRecDepth 3000
end Go.Proofs.YtdnghibkagcbcaaGreatDoor

namespace Go.Proofs.YtdnghibkagcbcaaGreatDoor
open Go.RowKit Go.Wd Go.Box
set_option linter.unusedVariables false
set_option maxRecDepth 3000
theorem half_bd (b : Bool) {X : Int} {B : Nat} (hp : 0 < X) (hB : BitLen X B) (ex T : Int) (hT : T = B + ex) :
    0 ≤ qf X 1 (ex + 1 - ulp b T) ∧ qf X 1 (ex + 1 - ulp b T) < 2 ^ (pr b + 1) ∧ (ulp b T ≠ lo b → 2 ^ pr b ≤ qf X 1 (ex + 1 - ulp b T)) := by
  obtain ⟨u1, u2, u3⟩ := ulp_ge b T
  have hXB : X < 2 ^ B := by
    rcases hB with ⟨h, _⟩ | ⟨_, h⟩
    · omega
    · exact h.lt
  generalize ulp b T = e at *
  refine ⟨?_, ?_, ?_⟩
  · unfold qf
    exact Int.ediv_nonneg (Int.mul_nonneg (by omega) (Int.le_of_lt (p2pos _))) (by rw [Int.one_mul]; exact Int.le_of_lt (p2pos _))
  · by_cases q : 0 ≤ (B : Int) + (ex + 1 - e)
    · obtain ⟨v, hv⟩ : ∃ v : Nat, (v : Int) = B + (ex + 1 - e) := ⟨((B : Int) + (ex + 1 - e)).toNat, by omega⟩
      rcases qf1_bits hp hB _ hv with ⟨h, _⟩ | ⟨_, h⟩
      · rw [h]; exact p2pos _
      · exact Int.lt_of_lt_of_le h.lt (p2le (by omega))
    · have : qf X 1 (ex + 1 - e) = 0 := by
        unfold qf
        rw [Int.one_mul, show (ex + 1 - e).toNat = 0 by omega, Int.pow_zero, Int.mul_one]
        exact Int.ediv_eq_zero_of_lt (by omega) (Int.lt_of_lt_of_le hXB (p2le (by omega)))
      rw [this]; exact p2pos _
  · intro q
    rcases qf1_bits (k := pr b + 1) hp hB (ex + 1 - e) (by omega) with ⟨_, h⟩ | ⟨_, h⟩
    · omega
    · have := h.le
      rw [Int.pow_succ] at this
      omega
theorem val_bits {n : Bool} {z : List Int} {ex : Int} (g : DG n z ex) : ∃ B, BitLen (Nt.val z) B ∧ B ≤ 131072 := by
  obtain ⟨B, hB⟩ := bitLen_ex g.good.nonneg
  refine ⟨B, hB, ?_⟩
  have h9 : Nt.val z < 4294967296 ^ z.length := (Nt.can_len g.can z.length).2 (Nat.le_refl _)
  rw [show (4294967296 : Int) = 2 ^ 32 from rfl, ← Int.pow_mul] at h9
  have := bl_le hB h9
  have := g.len
  omega
end Go.Proofs.YtdnghibkagcbcaaGreatDoor

namespace Go.Proofs.YtdnghibkagcbcaaGreatDoor
open Go.RowKit Go.Wd Go.Box
set_option linter.unusedVariables false
set_option maxRecDepth 3000
/-- Where a magnitude lies among the sizes: f is the greatest one whose value is not above it, p tells where between that one's value and the next one's. -/
structure Sits (b : Bool) (M f p : Int) : Prop where
  nn : 0 ≤ f
  le : vz b f ≤ M
  lt : M < vz b (f + 1)
  cs : (p = 0 ∧ M = vz b f) ∨ (p = 1 ∧ vz b f < M ∧ 2 * M < vz b f + vz b (f + 1)) ∨ (p = 2 ∧ vz b f < M ∧ 2 * M = vz b f + vz b (f + 1)) ∨ (p = 3 ∧ vz b f < M ∧ vz b f + vz b (f + 1) < 2 * M)
def tkf (m : Int) (n : Bool) (f p : Int) : Int := if p = 0 then f else if outw m n (decide (f % 2 = 1)) p then f + 1 else f
def wcap (b : Bool) (m : Int) (n : Bool) (s : Int) : Int := if inf b ≤ s then (if outw m n false 3 then inf b else inf b - 1) else s
theorem qr {F q r : Int} (hF : 0 < F) (h0 : 0 ≤ r) (h1 : r < F) : (q * F + r) / F = q ∧ (q * F + r) % F = r :=
  (Int.ediv_emod_unique hF).2 ⟨by rw [Int.mul_comm F q]; omega, h0, h1⟩
/-- The value of so many units. -/
theorem vz_unit (b : Bool) {e u : Int} (he : lo b ≤ e) (u0 : 0 ≤ u) (u1 : u ≤ 2 ^ pr b) (u2 : e ≠ lo b → 2 ^ (pr b - 1) ≤ u) : vz b ((e - lo b) * fr b + u) = u * pK e := by
  have hF := fr_pos b
  have hp := pr_bd b
  have hlo := lo_bd b
  have hK := KK_int
  rw [show pr b = pr b - 1 + 1 by omega, Int.pow_succ, ← fr_pr] at u1
  rw [← fr_pr] at u2
  by_cases c1 : u < fr b
  · have he2 : e = lo b := by
      by_cases c : e = lo b
      · exact c
      · have := u2 c; omega
    obtain ⟨d1, d2⟩ := qr (q := 0) hF u0 c1
    have hs : (e - lo b) * fr b + u = 0 * fr b + u := by rw [he2, Int.sub_self]
    unfold vz us es
    rw [hs, d1, d2, if_pos rfl, show max ((0 : Int) - 1) 0 + lo b = e by omega]
  · by_cases c2 : u < 2 * fr b
    · have hs : (e - lo b) * fr b + u = (e - lo b + 1) * fr b + (u - fr b) := by rw [Int.add_mul, Int.one_mul]; omega
      obtain ⟨d1, d2⟩ := qr (q := e - lo b + 1) hF (show 0 ≤ u - fr b by omega) (by omega)
      unfold vz us es
      rw [hs, d1, d2, if_neg (by omega), show max (e - lo b + 1 - 1) 0 + lo b = e by omega, show fr b + (u - fr b) = u by omega]
    · have hu : u = 2 * fr b := by omega
      have hs : (e - lo b) * fr b + u = (e - lo b + 2) * fr b + 0 := by rw [Int.add_mul]; omega
      obtain ⟨d1, d2⟩ := qr (q := e - lo b + 2) hF (Int.le_refl 0) hF
      unfold vz us es
      rw [hs, d1, d2, if_neg (by omega), show max (e - lo b + 2 - 1) 0 + lo b = e + 1 by omega, pK_two (by omega), hu, Int.add_zero, ← Int.mul_assoc, Int.mul_comm (fr b) 2]
theorem ov_iff (b : Bool) {e u : Int} (he : lo b ≤ e) (u0 : 0 ≤ u) (u1 : u ≤ 2 ^ pr b) (u2 : e ≠ lo b → 2 ^ (pr b - 1) ≤ u) : 2 ^ (hi b - e).toNat ≤ u ↔ inf b ≤ (e - lo b) * fr b + u := by
  rcases (show e < hi b - pr b ∨ e = hi b - pr b ∨ hi b - pr b < e by omega) with c | c | c
  · have h1 := p2le (show pr b + 1 ≤ (hi b - e).toNat by omega)
    generalize (2 : Int) ^ (hi b - e).toNat = P at *
    cases b <;> simp only [hi, lo, fr, pr, inf] at * <;> constructor <;> intro q <;> omega
  · rw [show (hi b - e).toNat = pr b by omega]
    cases b <;> simp only [hi, lo, fr, pr, inf] at * <;> constructor <;> intro q <;> omega
  · have h1 := p2le (show (hi b - e).toNat ≤ pr b - 1 by omega)
    have h2 := u2 (by cases b <;> simp only [hi, lo, pr] at * <;> omega)
    generalize (2 : Int) ^ (hi b - e).toNat = P at *
    cases b <;> simp only [hi, lo, fr, pr, inf] at * <;> constructor <;> intro q <;> omega
/-- A number's place among the sizes, and what it is rounded to. -/
theorem rd_sits (b : Bool) {X ex : Int} {B : Nat} (hp : 0 < X) (hB : BitLen X B) (hx : -(KK : Int) ≤ ex) : ∃ f p, Sits b (X * pK ex) f p ∧
    (∀ m n, rdW b m n (B + ex) (qf X 1 (ex + 1 - ulp b (B + ex))) (qg X 1 (ex + 1 - ulp b (B + ex))) = sd b (wcap b m n (tkf m n f p)) n) ∧
    (∀ m n I J, (inf b ≤ tkf m n f p → rdX b m n (B + ex) (qf X 1 (ex + 1 - ulp b (B + ex))) (qg X 1 (ex + 1 - ulp b (B + ex))) I J = 20) ∧
      (tkf m n f p < inf b → p = 0 → rdX b m n (B + ex) (qf X 1 (ex + 1 - ulp b (B + ex))) (qg X 1 (ex + 1 - ulp b (B + ex))) I J = 0) ∧
      (tkf m n f p < inf b → p ≠ 0 → rdX b m n (B + ex) (qf X 1 (ex + 1 - ulp b (B + ex))) (qg X 1 (ex + 1 - ulp b (B + ex))) I J = 24 ∨ rdX b m n (B + ex) (qf X 1 (ex + 1 - ulp b (B + ex))) (qg X 1 (ex + 1 - ulp b (B + ex))) I J = 16)) := by
  obtain ⟨h0, h1, h2⟩ := half_bd b hp hB ex (B + ex) rfl
  obtain ⟨_, hlo, _⟩ := ulp_ge b (B + ex)
  have hlb := lo_bd b
  have hK := KK_int
  have hpb := pr_bd b
  have hF := fr_pos b
  generalize he : ulp b (B + ex) = e at *
  obtain ⟨E, k, j, hE, hj, h00, hEK⟩ : ∃ (E : Int) (k j : Nat), E + k = e ∧ E + j = ex ∧ (k = 0 ∨ j = 0) ∧ -(KK : Int) ≤ E := by
    by_cases c : e ≤ ex
    · exact ⟨e, 0, (ex - e).toNat, by omega, by omega, .inl rfl, by omega⟩
    · exact ⟨ex, (e - ex).toNat, 0, by omega, by omega, .inr rfl, by omega⟩
  have HA := half_of hp hE hj h00
  generalize qf X 1 (ex + 1 - e) = H at *
  generalize qg X 1 (ex + 1 - e) = G at *
  obtain ⟨b0, b1, b2, b3, b4, b5, b6⟩ := HA.between
  have hq1 := halfu_lt h1
  have hq2 : e ≠ lo b → 2 ^ (pr b - 1) ≤ H / 2 := fun c => by
    have := h2 c
    rw [show pr b = pr b - 1 + 1 by omega] at this
    exact halfu_ge this
  have v1 := vz_unit b hlo b0 (by omega) hq2
  have v2 := vz_unit b (u := H / 2 + 1) hlo (by omega) (by omega) (fun c => by have := hq2 c; omega)
  rw [← Int.add_assoc] at v2
  have pe : pK e = 2 ^ k * pK E := by rw [← hE, pK_add hEK, Int.mul_comm]
  have px : X * pK ex = X * 2 ^ j * pK E := by rw [← hj, pK_add hEK, Int.mul_assoc, Int.mul_comm (pK E)]
  have hP := pK_pos E
  rw [pe, ← Int.mul_assoc] at v1 v2
  have hpar : ((e - lo b) * fr b + H / 2) % 2 = H / 2 % 2 := by
    have : (e - lo b) * fr b = 2 * ((e - lo b) * (fr b / 2)) := by
      rw [show (2 : Int) * ((e - lo b) * (fr b / 2)) = (e - lo b) * (2 * (fr b / 2)) by rw [Int.mul_left_comm], show 2 * (fr b / 2) = fr b by cases b <;> simp [fr]]
    omega
  have htk : ∀ m n, tkf m n ((e - lo b) * fr b + H / 2) (plc H G) = (e - lo b) * fr b + tk m n H G := by
    intro m n
    unfold tkf tk
    rw [hpar]
    split
    · rfl
    · split
      · omega
      · rfl
  have hov : ∀ m n, 2 ^ (hi b - e).toNat ≤ tk m n H G ↔ inf b ≤ tkf m n ((e - lo b) * fr b + H / 2) (plc H G) := by
    intro m n
    have hb := tk_bd m n H G
    rw [htk]
    exact ov_iff b hlo (by omega) (by omega) (fun c => by have := hq2 c; omega)
  refine ⟨(e - lo b) * fr b + H / 2, plc H G, ?_, ?_, ?_⟩
  · have hnn : 0 ≤ (e - lo b) * fr b + H / 2 := Int.add_nonneg (Int.mul_nonneg (by omega) (by omega)) b0
    rw [px]
    generalize X * 2 ^ j = A at *
    generalize (2 : Int) ^ k = K at *
    generalize pK E = P at *
    have g1 := Int.mul_le_mul_of_nonneg_right b1 (Int.le_of_lt hP)
    have g2 := Int.mul_lt_mul_of_pos_right b2 hP
    have e1 : vz b ((e - lo b) * fr b + H / 2) + vz b ((e - lo b) * fr b + H / 2 + 1) = (2 * (H / 2) + 1) * K * P := by
      rw [v1, v2]
      generalize H / 2 = q
      grind
    have e2 : 2 * (A * P) = 2 * A * P := by rw [Int.mul_assoc]
    have gs : plc H G ≠ 0 → vz b ((e - lo b) * fr b + H / 2) < A * P := fun c => by
      rw [v1]
      have : H / 2 * K ≠ A := fun q => c (b3.2 q)
      exact Int.mul_lt_mul_of_pos_right (by omega) hP
    refine ⟨hnn, by rw [v1]; exact g1, by rw [v2]; exact g2, ?_⟩
    rcases plc_cases H G with ⟨c, _⟩ | ⟨c, _⟩ | ⟨c, _⟩ | ⟨c, _⟩
    · refine .inl ⟨c, ?_⟩
      rw [v1, b3.1 c]
    · refine .inr (.inl ⟨c, gs (by omega), ?_⟩)
      rw [e1, e2]
      exact Int.mul_lt_mul_of_pos_right (b4 c) hP
    · refine .inr (.inr (.inl ⟨c, gs (by omega), ?_⟩))
      rw [e1, e2, b5 c]
    · refine .inr (.inr (.inr ⟨c, gs (by omega), ?_⟩))
      rw [e1, e2]
      exact Int.mul_lt_mul_of_pos_right (b6 c) hP
  · intro m n
    unfold rdW wcap ovw
    rw [he, ← htk]
    by_cases c : inf b ≤ tkf m n ((e - lo b) * fr b + H / 2) (plc H G)
    · rw [if_pos ((hov m n).2 c), if_pos c]
    · rw [if_neg (mt (hov m n).1 c), if_neg c]
  · intro m n I J
    unfold rdX
    rw [he]
    refine ⟨fun c => by rw [if_pos ((hov m n).2 c)], fun c d => by rw [if_neg (mt (hov m n).1 (by omega)), if_pos d], fun c d => ?_⟩
    rw [if_neg (mt (hov m n).1 (by omega)), if_neg d]
    split
    · exact .inl rfl
    · exact .inr rfl
theorem Sits.p_bd {b : Bool} {M f p : Int} (S : Sits b M f p) : 0 ≤ p ∧ p ≤ 3 := by
  rcases S.cs with ⟨h, _⟩ | ⟨h, _⟩ | ⟨h, _⟩ | ⟨h, _⟩ <;> omega
theorem Sits.f_le {b : Bool} {M1 f1 p1 M2 f2 p2 : Int} (S1 : Sits b M1 f1 p1) (S2 : Sits b M2 f2 p2) (h : M1 ≤ M2) : f1 ≤ f2 := by
  by_cases c : f1 ≤ f2
  · exact c
  · have := vz_mono b (s := f2 + 1) (t := f1) (by have := S2.nn; omega) (by omega)
    have := S1.le
    have := S2.lt
    omega
theorem outw_mono (m : Int) (n o : Bool) {p q : Int} (h0 : 1 ≤ p) (h : p ≤ q) (hq : q ≤ 3) (c : outw m n o p = true) : outw m n o q = true := by
  unfold outw at *
  by_cases m1 : m = 1
  · simp only [if_pos m1] at c ⊢
    by_cases p2 : p = 2
    · by_cases q2 : q = 2
      · simp only [if_pos p2] at c
        simp only [if_pos q2]
        exact c
      · simp only [if_neg q2]
        exact decide_eq_true (by omega)
    · simp only [if_neg p2] at c
      have := of_decide_eq_true c
      simp only [if_neg (show ¬ q = 2 by omega)]
      exact decide_eq_true (by omega)
  · by_cases m2 : m = 2
    · simp only [if_neg m1, if_pos m2] at c ⊢
      have := of_decide_eq_true c
      exact decide_eq_true (by omega)
    · simp only [if_neg m1, if_neg m2] at c ⊢
      exact c
theorem tkf_bd (m : Int) (n : Bool) (f p : Int) : f ≤ tkf m n f p ∧ tkf m n f p ≤ f + 1 := by
  unfold tkf
  split
  · omega
  · split <;> omega
/-- What is greater is not rounded to less. -/
theorem tkf_mono {b : Bool} {M1 f1 p1 M2 f2 p2 : Int} (m : Int) (n : Bool) (S1 : Sits b M1 f1 p1) (S2 : Sits b M2 f2 p2) (h : M1 ≤ M2) : tkf m n f1 p1 ≤ tkf m n f2 p2 := by
  have h1 := S1.f_le S2 h
  have t1 := tkf_bd m n f1 p1
  have t2 := tkf_bd m n f2 p2
  by_cases c : f1 < f2
  · omega
  · obtain rfl : f1 = f2 := by omega
    have hp : p1 ≤ p2 := by
      have c1 := S1.cs
      have c2 := S2.cs
      omega
    have b1 := S1.p_bd
    have b2 := S2.p_bd
    unfold tkf at *
    by_cases d1 : p1 = 0
    · rw [if_pos d1]; omega
    · rw [if_neg d1, if_neg (show ¬ p2 = 0 by omega)]
      by_cases d2 : outw m n (decide (f1 % 2 = 1)) p1 = true
      · rw [if_pos d2, if_pos (outw_mono m n _ (by omega) hp b2.2 d2)]; omega
      · rw [if_neg d2]; split <;> omega
theorem wcap_mono (b : Bool) (m : Int) (n : Bool) {s t : Int} (h : s ≤ t) : wcap b m n s ≤ wcap b m n t := by
  unfold wcap
  by_cases c : inf b ≤ s
  · rw [if_pos c, if_pos (show inf b ≤ t by omega)]; omega
  · rw [if_neg c]
    by_cases d : inf b ≤ t
    · rw [if_pos d]; split <;> omega
    · rw [if_neg d]; exact h
theorem wcap_bd (b : Bool) (m : Int) (n : Bool) {s : Int} (h : 0 ≤ s) : 0 ≤ wcap b m n s ∧ wcap b m n s ≤ inf b := by
  have := inf_bd b
  unfold wcap
  split
  · split <;> omega
  · omega
/-- The size of the word to which a magnitude is rounded. -/
def Rdd (b : Bool) (m : Int) (n : Bool) (M s : Int) : Prop := (M = 0 ∧ s = 0 ∧ n = false) ∨ (0 < M ∧ ∃ f p, Sits b M f p ∧ s = wcap b m n (tkf m n f p))
theorem Rdd.bd {b : Bool} {m : Int} {n : Bool} {M s : Int} (R : Rdd b m n M s) : 0 ≤ s ∧ s ≤ inf b ∧ 0 ≤ M := by
  have := inf_bd b
  rcases R with ⟨rfl, rfl, _⟩ | ⟨hM, f, p, S, rfl⟩
  · omega
  · have h1 := S.nn
    have h2 := tkf_bd m n f p
    have h3 := wcap_bd b m n (s := tkf m n f p) (by omega)
    omega
theorem Rdd.mono {b : Bool} {m : Int} {n1 n2 : Bool} {M1 s1 M2 s2 : Int} (R1 : Rdd b m n1 M1 s1) (R2 : Rdd b m n2 M2 s2) (h : sv n1 M1 ≤ sv n2 M2) : sv n1 s1 ≤ sv n2 s2 := by
  have d1 := R1.bd
  have d2 := R2.bd
  rcases R1 with ⟨e1, e2, rfl⟩ | ⟨hM1, f1, p1, S1, e1⟩
  · cases n2
    · simp only [sv_f] at *; omega
    · rcases R2 with ⟨_, _, q⟩ | ⟨hM2, _⟩
      · exact absurd q (by decide)
      · simp only [sv_f, sv_t] at *; omega
  · rcases R2 with ⟨e3, e4, rfl⟩ | ⟨hM2, f2, p2, S2, e3⟩
    · cases n1 <;> simp only [sv_f, sv_t] at * <;> omega
    · cases n1 <;> cases n2 <;> simp only [sv_f, sv_t] at *
      · rw [e1, e3]
        exact wcap_mono b m false (tkf_mono m false S1 S2 h)
      · omega
      · omega
      · have := wcap_mono b m true (tkf_mono m true S2 S1 (by omega))
        rw [← e1, ← e3] at this
        omega
theorem wv_sd (b : Bool) {s : Int} (h0 : 0 ≤ s) (h1 : s ≤ inf b) (n : Bool) : wv b (sd b s n) = sv n (vz b s) := by
  have hi := inf_lt b
  have hs := sg_pos b
  have h2 : sz b (sd b s n) = s := by
    unfold sz sd
    cases n
    · rw [if_neg (by decide)]; exact Int.emod_eq_of_lt h0 (by omega)
    · rw [if_pos rfl, Int.add_emod_right]; exact Int.emod_eq_of_lt h0 (by omega)
  have h3 : ng b (sd b s n) = n := by
    unfold ng sd
    cases n
    · rw [if_neg (by decide)]; exact decide_eq_false (by omega)
    · rw [if_pos rfl]; exact decide_eq_true (by omega)
  rw [wv_vz, h2, h3]
end Go.Proofs.YtdnghibkagcbcaaGreatDoor

namespace Go.Proofs.YtdnghibkagcbcaaGreatDoor
open Go.RowKit Go.Wd Go.Box
set_option linter.unusedVariables false
set_option maxRecDepth 3000
end Go.Proofs.YtdnghibkagcbcaaGreatDoor

namespace Go.Proofs.YtdnghibkagcbcaaGreatDoor
open Go.RowKit Go.Wd Go.Box
set_option linter.unusedVariables false
set_option maxRecDepth 3000
theorem sd_ok (b : Bool) {s : Int} (n : Bool) (h0 : 0 ≤ s) (h1 : s < sg b) : Ok b (sd b s n) := by
  unfold Ok sd
  cases n <;> simp <;> omega
theorem lSmall_pos (n : Bool) (a : Option Addr) (c k : Nat) (ex : Int) (hk : (0 : Int) < (k : Int)) (hx1 : -16777216 ≤ ex) (hx2 : ex ≤ 16777216) (w : World) :
    Calls Tryz.prog 37 #[dV n a k c ex] w fun e w' => e = .returned (dV n a k c (ex.tmod 1200)) ∧ Below w.heap.size w w' := by
  have B1 := ((Bx.nil w).push (DO n a k c ex)).push (DO false none 0 0 0)
  rw [show (w.alloc (DO n a k c ex)).heap.size = w.heap.size + 1 by simp] at B1
  obtain ⟨⟨q0, q1, q2⟩, p0, p1, p2⟩ := cells3 B1 w.heap.size _ _ _ _ (.tail _ (.head _))
  obtain ⟨⟨s0, s1, s2⟩, r0, r1, r2⟩ := cells3 B1 (w.heap.size + 1) _ _ _ _ (.head _)
  go_enter Tryz.func37, Tryz.ntmps37
  clear B1
  go_wp2
  have B9 := ((Bx.nil w).push (DO n a k c (ex.tmod 1200))).push (DO n a k c (ex.tmod 1200))
  rw [show (w.alloc (DO n a k c (ex.tmod 1200))).heap.size = w.heap.size + 1 by simp] at B9
  refine bodyPost_ret (results_D1 rfl _ _ (w.heap.size + 1) _ rfl ⟨B9.head, rfl⟩) rfl ?_
  exact ⟨rfl, B9.bel⟩
theorem lSmall_zero (n : Bool) (a : Option Addr) (c : Nat) (ex : Int) (w : World) :
    Calls Tryz.prog 37 #[dV n a 0 c ex] w fun e w' => e = .returned (dV n a 0 c ex) ∧ Below w.heap.size w w' := by
  have B1 := ((Bx.nil w).push (DO n a 0 c ex)).push (DO false none 0 0 0)
  rw [show (w.alloc (DO n a 0 c ex)).heap.size = w.heap.size + 1 by simp] at B1
  obtain ⟨⟨q0, q1, q2⟩, p0, p1, p2⟩ := cells3 B1 w.heap.size _ _ _ _ (.tail _ (.head _))
  obtain ⟨⟨s0, s1, s2⟩, r0, r1, r2⟩ := cells3 B1 (w.heap.size + 1) _ _ _ _ (.head _)
  clear B1
  go_enter Tryz.func37, Tryz.ntmps37
  go_wp2
  have B9 := ((Bx.nil w).push (DO n a 0 c ex)).push (DO n a 0 c ex)
  rw [show (w.alloc (DO n a 0 c ex)).heap.size = w.heap.size + 1 by simp] at B9
  refine bodyPost_ret (results_D1 rfl _ _ (w.heap.size + 1) _ rfl ⟨B9.head, rfl⟩) rfl ?_
  exact ⟨rfl, B9.bel⟩
end Go.Proofs.YtdnghibkagcbcaaGreatDoor

namespace Go.Proofs.YtdnghibkagcbcaaGreatDoor
open Go.RowKit Go.Wd Go.Box
set_option linter.unusedVariables false
set_option maxRecDepth 3000
end Go.Proofs.YtdnghibkagcbcaaGreatDoor

namespace Go.Proofs.YtdnghibkagcbcaaGreatDoor
open Go.RowKit Go.Wd Go.Box
set_option linter.unusedVariables false
set_option maxRecDepth 3000
theorem small_any {n : Bool} {z : List Int} {ex : Int} (g : DG n z ex) : ∃ x, DG n z x ∧ -1200 < x ∧ x < 1200 ∧ ∀ (a : Option Addr) (c : Nat) (W : World),
    Calls Tryz.prog 37 #[dV n a z.length c ex] W fun e w' => e = .returned (dV n a z.length c x) ∧ Below W.heap.size W w' := by
  have hb := g.ex_bd
  by_cases hz : 0 < z.length
  · have h1 := Int.tmod_lt_of_pos ex (show (0 : Int) < 1200 by decide)
    have h2 : -1200 < ex.tmod 1200 := by
      have := Int.tmod_lt_of_pos (-ex) (show (0 : Int) < 1200 by decide)
      rw [Int.neg_tmod] at this
      omega
    refine ⟨ex.tmod 1200, ?_, h2, h1, fun a c W => lSmall_pos n a c z.length ex (by omega) hb.1 hb.2 W⟩
    rcases g.form with ⟨rfl, _⟩ | ⟨_, h, _⟩
    · simp at hz
    · exact ⟨g.can, g.len, .inr ⟨hz, h, by omega, by omega⟩⟩
  · obtain ⟨h1, h2, h3⟩ := g.nil (by omega)
    subst h1
    exact ⟨ex, g, by omega, by omega, fun a c W => lSmall_zero n a c ex W⟩
end Go.Proofs.YtdnghibkagcbcaaGreatDoor

namespace Go.Proofs.YtdnghibkagcbcaaGreatDoor
open Go.RowKit Go.Wd Go.Box
set_option linter.unusedVariables false
set_option maxRecDepth 3000
set_option maxHeartbeats 20000000 in
theorem rn_long (n : Bool) (a : Option Addr) (c : Nat) (z : List Int) (ex y : Int) (f : Int) (hl : (300 : Int) < (z.length : Int)) (w : World) (u : DLie w a z) (hT : Tab w) :
    Calls Tryz.prog 7 #[.int .u8 f, dV n a z.length c ex, .int .u64 y] w fun e w' => e = .returned (.bool true) ∧ Below w.heap.size w w' := by
  have BX := (Bx.nil w).push (DO n a z.length c ex)
  obtain ⟨⟨q0, q1, q2⟩, _⟩ := cells3 BX w.heap.size _ _ _ _ (show (w.heap.size, DO n a z.length c ex) ∈ _ by simp)
  go_enter Tryz.func7, Tryz.ntmps7
  go_wp2_with fail
  refine (lLong4 n a z.length c ex _ true (decide_eq_true hl)).mono ?_
  rintro e v1 ⟨rfl, hk⟩
  replace BX := BX.keep hk
  clear hk q0 q1 q2
  obtain ⟨⟨q0, q1, q2⟩, _⟩ := cells3 BX w.heap.size _ _ _ _ (show (w.heap.size, DO n a z.length c ex) ∈ _ by simp)
  go_wp2_with fail
  refine (lKnown4 _ (hT.below BX.bel (Nat.le_refl _))).mono ?_
  rintro e v2 ⟨rfl, hk⟩
  replace BX := BX.keep hk
  clear hk q0 q1 q2
  obtain ⟨⟨q0, q1, q2⟩, _⟩ := cells3 BX w.heap.size _ _ _ _ (show (w.heap.size, DO n a z.length c ex) ∈ _ by simp)
  go_wp2
  go_ret
  exact ⟨by first | rfl | simp, BX.bel⟩
set_option maxHeartbeats 20000000 in
theorem rn_open (n : Bool) (a : Option Addr) (c : Nat) (z : List Int) (ex y : Int) (f code : Int) (hc : (code == 0) = false) (KO : ∀ W g, DLie W a z → At3 W g 0 n a z.length c ex → Calls Tryz.prog 16 #[.int .u8 f, .int .u8 1, .slice (some ⟨g, 0, none⟩) 1 1] W fun e w' => e = .returned (.int .i64 code) ∧ Below W.heap.size W w') (hl : (z.length : Int) ≤ 300) (w : World) (u : DLie w a z) (hT : Tab w) :
    Calls Tryz.prog 7 #[.int .u8 f, dV n a z.length c ex, .int .u64 y] w fun e w' => e = .returned (.bool true) ∧ Below w.heap.size w w' := by
  have HO := fun W g h1 h2 => Hide.mk (KO W g h1 h2)
  clear KO
  have hc2 : (code != 0) = true := by simp only [bne, hc, Bool.not_false]
  have BX := (Bx.nil w).push (DO n a z.length c ex)
  obtain ⟨⟨q0, q1, q2⟩, _⟩ := cells3 BX w.heap.size _ _ _ _ (show (w.heap.size, DO n a z.length c ex) ∈ _ by simp)
  go_enter Tryz.func7, Tryz.ntmps7
  go_wp2_with fail
  refine (lLong4 n a z.length c ex _ false (decide_eq_false (by omega))).mono ?_
  rintro e v3 ⟨rfl, hk⟩
  replace BX := BX.keep hk
  clear hk q0 q1 q2
  obtain ⟨⟨q0, q1, q2⟩, _⟩ := cells3 BX w.heap.size _ _ _ _ (show (w.heap.size, DO n a z.length c ex) ∈ _ by simp)
  go_wp2_with fail
  replace BX := BX.push (DO n a z.length c ex)
  clear q0 q1 q2
  obtain ⟨⟨q0, q1, q2⟩, _⟩ := cells3 BX w.heap.size _ _ _ _ (show (w.heap.size, DO n a z.length c ex) ∈ _ by simp)
  refine ((HO _ _ (u.below BX.bel) (at3_of BX (.head _))).out).mono ?_
  rintro e v4 ⟨rfl, hk⟩
  replace BX := BX.keep hk
  clear hk q0 q1 q2
  obtain ⟨⟨q0, q1, q2⟩, _⟩ := cells3 BX w.heap.size _ _ _ _ (show (w.heap.size, DO n a z.length c ex) ∈ _ by simp)
  go_wp2_with fail
  refine (lKnown4 _ (hT.below BX.bel (Nat.le_refl _))).mono ?_
  rintro e v5 ⟨rfl, hk⟩
  replace BX := BX.keep hk
  clear hk q0 q1 q2
  obtain ⟨⟨q0, q1, q2⟩, _⟩ := cells3 BX w.heap.size _ _ _ _ (show (w.heap.size, DO n a z.length c ex) ∈ _ by simp)
  go_wp2
  go_ret
  exact ⟨by first | rfl | simp, BX.bel⟩
set_option maxHeartbeats 20000000 in
theorem rn_word (n : Bool) (a : Option Addr) (c : Nat) (z : List Int) (ex y : Int) (b : Bool) (KO : ∀ W g, DLie W a z → At3 W g 0 n a z.length c ex → Calls Tryz.prog 16 #[.int .u8 (fm b), .int .u8 1, .slice (some ⟨g, 0, none⟩) 1 1] W fun e w' => e = .returned (.int .i64 0) ∧ Below W.heap.size W w') (cc : Int) (hcc : (cc == 0) = false) (hg : GE (fm b) y cc) (hy1 : y < 18446744073709551616) (hl : (z.length : Int) ≤ 300) (w : World) (u : DLie w a z) (hT : Tab w) :
    Calls Tryz.prog 7 #[.int .u8 (fm b), dV n a z.length c ex, .int .u64 y] w fun e w' => e = .returned (.bool true) ∧ Below w.heap.size w w' := by
  have HO := fun W g h1 h2 => Hide.mk (KO W g h1 h2)
  clear KO
  have hc2 : (cc != 0) = true := by simp only [bne, hcc, Bool.not_false]
  have BX := (Bx.nil w).push (DO n a z.length c ex)
  obtain ⟨⟨q0, q1, q2⟩, _⟩ := cells3 BX w.heap.size _ _ _ _ (show (w.heap.size, DO n a z.length c ex) ∈ _ by simp)
  go_enter Tryz.func7, Tryz.ntmps7
  go_wp2_with fail
  refine (lLong4 n a z.length c ex _ false (decide_eq_false (by omega))).mono ?_
  rintro e v6 ⟨rfl, hk⟩
  replace BX := BX.keep hk
  clear hk q0 q1 q2
  obtain ⟨⟨q0, q1, q2⟩, _⟩ := cells3 BX w.heap.size _ _ _ _ (show (w.heap.size, DO n a z.length c ex) ∈ _ by simp)
  go_wp2_with fail
  replace BX := BX.push (DO n a z.length c ex)
  clear q0 q1 q2
  obtain ⟨⟨q0, q1, q2⟩, _⟩ := cells3 BX w.heap.size _ _ _ _ (show (w.heap.size, DO n a z.length c ex) ∈ _ by simp)
  refine ((HO _ _ (u.below BX.bel) (at3_of BX (.head _))).out).mono ?_
  rintro e v7 ⟨rfl, hk⟩
  replace BX := BX.keep hk
  clear hk q0 q1 q2
  obtain ⟨⟨q0, q1, q2⟩, _⟩ := cells3 BX w.heap.size _ _ _ _ (show (w.heap.size, DO n a z.length c ex) ∈ _ by simp)
  go_wp2_with fail
  refine (rGood_err (fm b) y cc hg hy1 _).mono ?_
  rintro e v8 ⟨rfl, hk⟩
  replace BX := BX.keep hk
  clear hk q0 q1 q2
  obtain ⟨⟨q0, q1, q2⟩, _⟩ := cells3 BX w.heap.size _ _ _ _ (show (w.heap.size, DO n a z.length c ex) ∈ _ by simp)
  go_wp2_with fail
  refine (lKnown4 _ (hT.below BX.bel (Nat.le_refl _))).mono ?_
  rintro e v9 ⟨rfl, hk⟩
  replace BX := BX.keep hk
  clear hk q0 q1 q2
  obtain ⟨⟨q0, q1, q2⟩, _⟩ := cells3 BX w.heap.size _ _ _ _ (show (w.heap.size, DO n a z.length c ex) ∈ _ by simp)
  go_wp2
  go_ret
  exact ⟨by first | rfl | simp, BX.bel⟩
set_option maxHeartbeats 20000000 in
theorem rn_inf (n : Bool) (a : Option Addr) (c : Nat) (z : List Int) (ex y : Int) (b : Bool) (KO : ∀ W g, DLie W a z → At3 W g 0 n a z.length c ex → Calls Tryz.prog 16 #[.int .u8 (fm b), .int .u8 1, .slice (some ⟨g, 0, none⟩) 1 1] W fun e w' => e = .returned (.int .i64 0) ∧ Below W.heap.size W w') (hy : Ok b y) (hf : inf b ≤ sz b y) (hl : (z.length : Int) ≤ 300) (w : World) (u : DLie w a z) (hT : Tab w) :
    Calls Tryz.prog 7 #[.int .u8 (fm b), dV n a z.length c ex, .int .u64 y] w fun e w' => e = .returned (.bool true) ∧ Below w.heap.size w w' := by
  have HO := fun W g h1 h2 => Hide.mk (KO W g h1 h2)
  clear KO
  have BX := (Bx.nil w).push (DO n a z.length c ex)
  obtain ⟨⟨q0, q1, q2⟩, _⟩ := cells3 BX w.heap.size _ _ _ _ (show (w.heap.size, DO n a z.length c ex) ∈ _ by simp)
  go_enter Tryz.func7, Tryz.ntmps7
  go_wp2_with fail
  refine (lLong4 n a z.length c ex _ false (decide_eq_false (by omega))).mono ?_
  rintro e v10 ⟨rfl, hk⟩
  replace BX := BX.keep hk
  clear hk q0 q1 q2
  obtain ⟨⟨q0, q1, q2⟩, _⟩ := cells3 BX w.heap.size _ _ _ _ (show (w.heap.size, DO n a z.length c ex) ∈ _ by simp)
  go_wp2_with fail
  replace BX := BX.push (DO n a z.length c ex)
  clear q0 q1 q2
  obtain ⟨⟨q0, q1, q2⟩, _⟩ := cells3 BX w.heap.size _ _ _ _ (show (w.heap.size, DO n a z.length c ex) ∈ _ by simp)
  refine ((HO _ _ (u.below BX.bel) (at3_of BX (.head _))).out).mono ?_
  rintro e v11 ⟨rfl, hk⟩
  replace BX := BX.keep hk
  clear hk q0 q1 q2
  obtain ⟨⟨q0, q1, q2⟩, _⟩ := cells3 BX w.heap.size _ _ _ _ (show (w.heap.size, DO n a z.length c ex) ∈ _ by simp)
  go_wp2_with fail
  refine (rGood b y hy _).mono ?_
  rintro e v12 ⟨rfl, hk⟩
  replace BX := BX.keep hk
  clear hk q0 q1 q2
  obtain ⟨⟨q0, q1, q2⟩, _⟩ := cells3 BX w.heap.size _ _ _ _ (show (w.heap.size, DO n a z.length c ex) ∈ _ by simp)
  go_wp2_with fail
  refine (rFinite_no b y hy hf _).mono ?_
  rintro e v13 ⟨rfl, hk⟩
  replace BX := BX.keep hk
  clear hk q0 q1 q2
  obtain ⟨⟨q0, q1, q2⟩, _⟩ := cells3 BX w.heap.size _ _ _ _ (show (w.heap.size, DO n a z.length c ex) ∈ _ by simp)
  go_wp2_with fail
  refine (lKnown4 _ (hT.below BX.bel (Nat.le_refl _))).mono ?_
  rintro e v14 ⟨rfl, hk⟩
  replace BX := BX.keep hk
  clear hk q0 q1 q2
  obtain ⟨⟨q0, q1, q2⟩, _⟩ := cells3 BX w.heap.size _ _ _ _ (show (w.heap.size, DO n a z.length c ex) ∈ _ by simp)
  go_wp2
  go_ret
  exact ⟨by first | rfl | simp, BX.bel⟩
end Go.Proofs.YtdnghibkagcbcaaGreatDoor
