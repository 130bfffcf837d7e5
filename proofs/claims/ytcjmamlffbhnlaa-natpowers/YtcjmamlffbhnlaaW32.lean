import Derived.Test.YtcjmamlffbhnlaaW31
namespace Go.Proofs.Ytcjmamlffbhnlaa
open Go.RowKit
set_option linter.unusedVariables false
theorem sgn_neg {x y : Int} : sgn x y < 0 ↔ x < y := by unfold sgn; split <;> (try split) <;> omega
theorem sgn_pos {x y : Int} : 0 < sgn x y ↔ y < x := by unfold sgn; split <;> (try split) <;> omega
theorem sgn_zero {x y : Int} : sgn x y = 0 ↔ x = y := by unfold sgn; split <;> (try split) <;> omega

/-- What a root answers. -/
def Roots (w w' : World) (za : List Int) (e : Ending) : Prop := ∃ zr a c, e = .returned (.tuple #[.slice a zr.length c, .bool (decide (Nt.val zr * Nt.val zr = Nt.val za)), .int .i64 0]) ∧ Own w.heap.size w' (.slice a zr.length c) zr ∧ Nt.Can zr ∧ Nt.val zr * Nt.val zr ≤ Nt.val za ∧ Nt.val za < (Nt.val zr + 1) * (Nt.val zr + 1) ∧ Below w.heap.size w w'

set_option maxHeartbeats 4000000 in
set_option maxRecDepth 100000 in
theorem root30 (a : Option Addr) (ca : Nat) (za : List Int) (w : World) (ha : Lie w a za) (ra : Nt.Rng za) (pa : mayB za = true) (hn : 0 < za.length) :
    Calls Try.prog 30 #[.slice a za.length ca] w fun e w' => Roots w w' za e := by
  obtain ⟨qa, la⟩ := may_can ra pa
  have C1 := Hide.mk (may_yes a ca za w ha (by unfold maxLen; omega) pa)
  have C2 := Hide.mk (near49 a ca za w ha ra pa hn)
  have hne : ((za.length : Int) == 0) = false := beq_eq_false_iff_ne.2 (by omega)
  have QA := Hide.mk qa
  have HA := Hide.mk ha
  have VA := Hide.mk (Nt.val_bd ra)
  clear ha ra pa qa
  go_enter Try.func30, Try.ntmps30
  go_wp2_with fail
  refine C1.out.mono ?_
  rintro e w' ⟨rfl, rfl⟩
  go_wp2_with fail
  refine C2.out.mono ?_
  rintro e w1 ⟨v, zr, rfl, ho, hc, hb1, h1, h2, h3⟩
  obtain ⟨ar, cr, hve, hzc, hcm, hlr⟩ := ho.lie
  have hlen : zr.length ≤ za.length + 1 := by
    refine (Nt.can_len hc _).1 ?_
    have := VA.out
    rw [Nt.pw_succ]
    have := Nt.pw_pos za.length
    have h4 : (Nt.val zr - 1) * 1 ≤ (Nt.val zr - 1) * (Nt.val zr - 1) ∨ Nt.val zr = 1 := by
      by_cases e : Nt.val zr = 1
      · exact .inr e
      · exact .inl (Int.mul_le_mul_of_nonneg_left (by omega) (by omega))
    rcases h4 with h4 | h4 <;> omega
  have C3 := Hide.mk (product42 ar ar cr cr zr zr w1 hlr hlr hc.1 hc.1 (by omega) (by omega))
  have HO := Hide.mk ho
  have HL := Hide.mk hlr
  have HC := Hide.mk hc
  have H23 := Hide.mk (And.intro h2 h3)
  have H1 := Hide.mk h1
  rw [hve]
  have HVE := Hide.mk hve
  clear ho hlr hc h2 h3 h1 C1 C2 hve
  go_wp2_with fail
  refine C3.out.mono ?_
  rintro e w2 ⟨vp, zp, rfl, hop, hcp, hvp, hb2⟩
  obtain ⟨ap, cp, hpe, _, _, hlp⟩ := hop.lie
  have hb12 := below_then hb1 hb2
  have hlenp : zp.length ≤ 100000 := by
    have := (Nt.can_len hcp (zr.length + zr.length)).1 (by
      rw [hvp, Nt.pw_add]
      have h1 := Nt.val_bd HC.out.1
      have a1 : Nt.val zr * Nt.val zr ≤ Nt.val zr * 4294967296 ^ zr.length := Int.mul_le_mul_of_nonneg_left (by omega) h1.1
      have a2 : Nt.val zr * 4294967296 ^ zr.length < 4294967296 ^ zr.length * 4294967296 ^ zr.length := Int.mul_lt_mul_of_pos_right h1.2 (Nt.pw_pos _)
      omega)
    omega
  have C4 := Hide.mk (compare38 ap a cp ca zp za w2 hlp (HA.out.below hb12 (Nat.le_refl _)) hcp QA.out (by unfold maxLen; omega))
  rw [hvp] at C4
  rw [hpe]
  have hs2 := hb2.size
  have HL2 := Hide.mk (HL.out.below hb2 (Nat.le_refl _))
  have HO2 := Hide.mk (HO.out.below hb2 (Nat.le_refl _))
  clear hop hcp hvp hpe hlp C3 hb1 hb2 HL HO
  go_wp2_with fail
  refine C4.out.mono ?_
  rintro e w3 ⟨rfl, hb3⟩
  have hb13 := below_then hb12 hb3
  have HL3 := Hide.mk (HL2.out.below hb3 (Nat.le_refl _))
  have HO3 := Hide.mk (HO2.out.below hb3 (Nat.le_refl _))
  have E0 := Hide.mk (@sgn_zero (Nt.val zr * Nt.val zr) (Nt.val za))
  have EP := Hide.mk (@sgn_pos (Nt.val zr * Nt.val zr) (Nt.val za))
  have HD : Hide (∀ b : Bool, b = decide (Nt.val zr * Nt.val zr = Nt.val za) → True) := ⟨fun _ _ => trivial⟩
  clear C4 HL2 HO2 hb12 hb3 HD
  generalize sgn (Nt.val zr * Nt.val zr) (Nt.val za) = sg at *
  by_cases hsg : 0 < sg
  · have hgt := EP.out.1 hsg
    have hsz : (sg == 0) = false := beq_eq_false_iff_ne.2 (by omega)
    have HGT := Hide.mk hgt
    clear hgt
    go_wp2_with fail
    refine (of16 1 (by decide) (by decide) w3).mono ?_
    rintro e w4 ⟨z1, a1, c1, rfl, hnum, ho1⟩
    have hl1 : z1.length ≤ zr.length := by
      refine (Nt.can_len hnum.can _).1 ?_
      rw [hnum.val]
      have := H1.out
      have := (Nt.val_bd HC.out.1).2
      omega
    have C5 := Hide.mk (dif41 ar a1 cr c1 zr z1 w4 (HL3.out.below hnum.bel (Nat.le_refl _)) hnum.lie HC.out.1 hnum.can.1 hl1 (by rw [hnum.val]; exact H1.out) (by omega))
    rw [hnum.val] at C5
    have hb14 := below_then hb13 hnum.bel
    clear hnum ho1 hl1
    go_wp2_with fail
    refine C5.out.mono ?_
    rintro e w5 ⟨vd, zd, rfl, hod, hcd, hvd, hb5⟩
    obtain ⟨ad, cd, hde, _⟩ := hod.lie
    have HF : Hide (Roots w w5 za (.returned (.tuple #[vd, .bool false, .int .i64 0]))) := ⟨by
      rw [hde] at hod ⊢
      have h1 := H23.out
      have h2 := H1.out
      have h3 := HGT.out
      refine ⟨zd, ad, cd, ?_, hod.mono hb14.size, hcd, by rw [hvd]; omega, by rw [hvd, show Nt.val zr - 1 + 1 = Nt.val zr by omega]; exact h3, below_then hb14 hb5⟩
      have : ¬ (Nt.val zd * Nt.val zd = Nt.val za) := by rw [hvd]; omega
      simp [this]⟩
    clear hod hcd hvd hde hb5 C5
    go_wp2
    go_ret3
    exact HF.out
  · have HF : Hide (Roots w w3 za (.returned (.tuple #[.slice ar zr.length cr, .bool (sg == 0), .int .i64 0]))) := ⟨by
      have h1 := H23.out
      have h4 : ¬ Nt.val za < Nt.val zr * Nt.val zr := fun c => hsg (EP.out.2 c)
      have ho := HO3.out
      rw [HVE.out] at ho
      refine ⟨zr, ar, cr, ?_, ho, HC.out, by omega, h1.2, hb13⟩
      have : (sg == 0) = decide (Nt.val zr * Nt.val zr = Nt.val za) := by
        by_cases c : sg = 0
        · rw [c, decide_eq_true (E0.out.1 c)]; rfl
        · rw [beq_eq_false_iff_ne.2 c, decide_eq_false (fun e => c (E0.out.2 e))]
      rw [this]⟩
    go_wp2
    go_ret3
    exact HF.out
set_option maxHeartbeats 1000000 in
theorem root_none (a : Option Addr) (ca : Nat) (w : World) :
    Calls Try.prog 30 #[.slice a 0 ca] w fun e w' => e = .returned (.tuple #[.slice none 0 0, .bool true, .int .i64 0]) ∧ w = w' := by
  have C1 := Hide.mk (may_yes a ca [] w (.inl rfl) (by unfold maxLen; simp) (by decide))
  go_enter Try.func30, Try.ntmps30
  go_wp2_with fail
  refine C1.out.mono ?_
  rintro e w' ⟨rfl, rfl⟩
  go_wp2
  go_ret3
  exact ⟨rfl, rfl⟩
theorem root_any (a : Option Addr) (ca : Nat) (za : List Int) (w : World) (ha : Lie w a za) (ra : Nt.Rng za) (pa : mayB za = true) :
    Calls Try.prog 30 #[.slice a za.length ca] w fun e w' => Roots w w' za e := by
  by_cases h : 0 < za.length
  · exact root30 a ca za w ha ra pa h
  · have : za = [] := List.length_eq_zero_iff.1 (by omega)
    subst this
    refine (root_none a ca w).mono ?_
    rintro e w' ⟨rfl, rfl⟩
    exact ⟨[], none, 0, by simp [Nt.val_nil], Own.nil _ _, Nt.can_nil, by rw [Nt.val_nil]; decide, by rw [Nt.val_nil]; decide, Below.refl _ _⟩
set_option maxHeartbeats 1000000 in
theorem root_no (a : Option Addr) (ca : Nat) (za : List Int) (w : World) (ha : Lie w a za) (la : za.length ≤ maxLen) (pa : mayB za = false) :
    Calls Try.prog 30 #[.slice a za.length ca] w fun e w' => e = .returned (.tuple #[.slice none 0 0, .bool false, .int .i64 2]) ∧ w = w' := by
  have C1 := Hide.mk (may_no a ca za w ha la pa)
  clear ha pa
  go_enter Try.func30, Try.ntmps30
  go_wp2_with fail
  refine C1.out.mono ?_
  rintro e w' ⟨rfl, rfl⟩
  go_wp2
  go_ret3
  exact ⟨rfl, rfl⟩
end Go.Proofs.Ytcjmamlffbhnlaa
