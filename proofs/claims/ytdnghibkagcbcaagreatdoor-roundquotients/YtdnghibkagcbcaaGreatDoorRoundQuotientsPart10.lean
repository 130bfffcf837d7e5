import Derived.Test.YtdnghibkagcbcaaGreatDoorRoundQuotientsPart9
import Derived.Test.YtdnghibkagcbcaaGreatDoorRoundQuotientsPart8
import Derived.Test.YtdnghibkagcbcaaGreatDoorRoundQuotientsPart7
set_option maxHeartbeats 4000000
namespace Go.Proofs.YtdnghibkagcbcaaGreatDoor
open Go.RowKit Go.Wd Go.Box
set_option linter.unusedVariables false
set_option maxRecDepth 3000
theorem addX_z1 (a1 a2 : Option Addr) (c1 c2 k2 : Nat) (n1 n2 : Bool) (e1 e2 : Int) (w : World) :
    Calls Tryz.prog 69 #[dV n1 a1 0 c1 e1, dV n2 a2 k2 c2 e2] w fun e w' => e = .returned (dV n2 a2 k2 c2 e2) ∧ Below w.heap.size w w' := by
  have B1 := (((Bx.nil w).push (DO n1 a1 0 c1 e1)).push (DO n2 a2 k2 c2 e2)).push (DO n2 a2 k2 c2 e2)
  go_enter Tryz.func69, Tryz.ntmps69
  go_wp2
  refine bodyPost_ret (results_D1 rfl _ _ (w.heap.size + 1 + 1) _ rfl ⟨by simpa using B1.head, rfl⟩) rfl ?_
  exact ⟨rfl, B1.bel⟩
theorem addX_z2 (a1 a2 : Option Addr) (c1 c2 k1 : Nat) (n1 n2 : Bool) (e1 e2 : Int) (hk : 0 < k1) (w : World) :
    Calls Tryz.prog 69 #[dV n1 a1 k1 c1 e1, dV n2 a2 0 c2 e2] w fun e w' => e = .returned (dV n1 a1 k1 c1 e1) ∧ Below w.heap.size w w' := by
  have B1 := (((Bx.nil w).push (DO n1 a1 k1 c1 e1)).push (DO n2 a2 0 c2 e2)).push (DO n1 a1 k1 c1 e1)
  have d1 : ((k1 : Int) == 0) = false := beq_eq_false_iff_ne.2 (by omega)
  go_enter Tryz.func69, Tryz.ntmps69
  go_wp2
  refine bodyPost_ret (results_D1 rfl _ _ (w.heap.size + 1 + 1) _ rfl ⟨by simpa using B1.head, rfl⟩) rfl ?_
  exact ⟨rfl, B1.bel⟩


theorem rSgnAny (n : Bool) (a : Option Addr) (c k : Nat) (ex s : Int) (hs : (k = 0 ∧ s = 0) ∨ (0 < k ∧ n = false ∧ s = 1) ∨ (0 < k ∧ n = true ∧ s = -1)) (w : World) :
    Calls Tryz.prog 23 #[dV n a k c ex] w fun e w' => e = .returned (.int .i64 s) ∧ Below w.heap.size w w' := by
  rcases hs with ⟨rfl, rfl⟩ | ⟨hk, rfl, rfl⟩ | ⟨hk, rfl, rfl⟩
  · go_enter Tryz.func23, Tryz.ntmps23
    go_wp2
    go_ret
    exact ⟨rfl, below_alloc _ _⟩
  · have hne : ((k : Int) == 0) = false := beq_eq_false_iff_ne.2 (by omega)
    go_enter Tryz.func23, Tryz.ntmps23
    go_wp2
    go_ret
    exact ⟨rfl, below_alloc _ _⟩
  · have hne : ((k : Int) == 0) = false := beq_eq_false_iff_ne.2 (by omega)
    go_enter Tryz.func23, Tryz.ntmps23
    go_wp2
    go_ret
    exact ⟨rfl, below_alloc _ _⟩
def SgnOf (n : Bool) (k : Nat) (s : Int) : Prop := (k = 0 ∧ s = 0) ∨ (0 < k ∧ n = false ∧ s = 1) ∨ (0 < k ∧ n = true ∧ s = -1)

theorem fm_sgn {s E : Int} {n : Bool} {zs : List Int} {ex : Int} (h : Fm s E n zs ex) : SgnOf n zs.length (sgn s 0) := by
  rcases h with ⟨rfl, rfl, rfl, rfl⟩ | ⟨h0, t, ht, rfl, rfl, hc, hv⟩
  · exact .inl ⟨rfl, rfl⟩
  · have hz : 0 < zs.length := by
      by_cases c : zs.length = 0
      · obtain rfl := List.length_eq_zero_iff.1 c
        rw [Nt.val_nil] at hv
        have := ht.one
        rw [← hv] at this
        simp at this
      · omega
    by_cases c : s < 0
    · refine .inr (.inr ⟨hz, decide_eq_true c, ?_⟩)
      unfold sgn
      rw [if_pos c]
    · refine .inr (.inl ⟨hz, decide_eq_false c, ?_⟩)
      unfold sgn
      rw [if_neg c, if_pos (by omega)]

theorem sgn_is1 {x y : Int} (h : x < y) : sgn x y = -1 := by unfold sgn; rw [if_pos h]
theorem sgn_is2 {x y : Int} (h : y < x) : sgn x y = 1 := by unfold sgn; rw [if_neg (by omega), if_pos h]
theorem sgn_is0 {x y : Int} (h : x = y) : sgn x y = 0 := by unfold sgn; rw [if_neg (by omega), if_neg (by omega)]
theorem sgn_diff (x y : Int) : sgn (x + -y) 0 = sgn x y := by
  rcases Int.lt_trichotomy x y with h | h | h
  · rw [sgn_is1 h, sgn_is1 (by omega)]
  · rw [sgn_is0 h, sgn_is0 (by omega)]
  · rw [sgn_is2 h, sgn_is2 (by omega)]
theorem cls {n : Bool} {zs : List Int} {ex u : Int} (N : DN n zs ex u) :
    (SgnOf n zs.length 0 ∧ u = 0) ∨ (SgnOf n zs.length 1 ∧ 0 < u ∧ 0 < zs.length ∧ n = false) ∨ (SgnOf n zs.length (-1) ∧ u < 0 ∧ 0 < zs.length ∧ n = true) := by
  obtain ⟨d1, d2, d3⟩ := dv_sgn N
  by_cases hz : 0 < zs.length
  · cases n
    · exact .inr (.inl ⟨.inr (.inl ⟨hz, rfl, rfl⟩), d3 hz rfl, hz, rfl⟩)
    · exact .inr (.inr ⟨.inr (.inr ⟨hz, rfl, rfl⟩), d2 hz rfl, hz, rfl⟩)
  · exact .inl ⟨.inl ⟨by omega, rfl⟩, d1 (by omega)⟩

theorem dTop (n : Bool) (a : Option Addr) (c : Nat) (zs : List Int) (ex : Int) (w : World) (hl : Lie w a zs) (g : DG n zs ex) :
    Calls Tryz.prog 116 #[dV n a zs.length c ex] w fun e w' => ∃ B : Nat, e = .returned (.int .i64 (B + ex)) ∧ BitLen (Nt.val zs) B ∧ B ≤ 131072 ∧ Below w.heap.size w w' := by
  have B1 := (Bx.nil w).push (DO n a zs.length c ex)
  have u := g.lie hl
  go_enter Tryz.func116, Tryz.ntmps116
  go_wp2_with fail
  refine (u.may n c ex true g.may _ B1.bel).mono ?_
  rintro e w2 ⟨rfl, h2⟩
  have B2 := B1.keep h2
  obtain ⟨⟨f0, f1, f2⟩, _⟩ := cells3 B2 w.heap.size _ _ _ _ (.head _)
  have l2 := hl.below B2.bel (Nat.le_refl _)
  clear h2 B1 u
  go_wp2_with fail
  refine (dtop96 n a c zs ex _ l2 g).mono ?_
  rintro e w3 ⟨B, rfl, hB, hB2, h3⟩
  have B3 := B2.keep h3
  have HB := Hide.mk (And.intro hB hB2)
  clear h3 B2 hB hB2 f0 f1 f2 l2
  go_wp2
  go_ret
  exact ⟨B, rfl, HB.out.1, HB.out.2, B3.bel⟩
theorem fc_bd (b : Bool) : 23 ≤ fc b ∧ fc b ≤ 52 := by cases b <;> decide
def uu (b : Bool) (T : Int) : Int := max (T - fc b - 1) (lo b)
theorem p2fc (b : Bool) : (2 : Int) ^ (fc b).toNat = fr b := by cases b <;> decide
theorem units_fit (b : Bool) {M : Int} {B k : Nat} (hM : BitLen M B) (h0 : 0 ≤ M) (hk : (B : Int) + k ≤ fc b + 1) : 0 ≤ M * 2 ^ k ∧ M * 2 ^ k < 2 * fr b := by
  have hp := p2pos k
  refine ⟨Int.mul_nonneg h0 (by omega), ?_⟩
  have e : ∃ F : Nat, (F : Int) = fc b ∧ (2 : Int) ^ (F + 1) = 2 * fr b := by
    cases b
    · exact ⟨23, rfl, by decide⟩
    · exact ⟨52, rfl, by decide⟩
  obtain ⟨F, hF, e⟩ := e
  rw [← e]
  rcases hM with ⟨rfl, _⟩ | ⟨_, c⟩
  · rw [Int.zero_mul]; exact p2pos _
  · have h1 := (c.up k).lt
    have := p2mono (show B + k ≤ F + 1 by omega)
    omega
theorem wWordOf (b n : Bool) (a : Option Addr) (c : Nat) (zs : List Int) (ex : Int) (w : World) (hl : Lie w a zs) (g : DG n zs ex) {B : Nat} (hB : BitLen (Nt.val zs) B) (hb : B ≤ 131072)
    (hc1 : uu b (B + ex) - lo b + 1 < tp b) (hc2 : uu b (B + ex) ≤ ex) (k : Nat) (hk : (k : Int) = ex - uu b (B + ex)) :
    Calls Tryz.prog 128 #[S b, dV n a zs.length c ex] w fun e w' => e = .returned (.tuple #[.int .u64 (sd b ((uu b (B + ex) - lo b) * fr b + Nt.val zs * 2 ^ k) n), .int .i64 0]) ∧ Below w.heap.size w w' := by
  have B1 := ((Bx.nil w).push (SO b)).push (DO n a zs.length c ex)
  have hx := g.ex_bd
  have hf := fc_bd b
  have hlo := lo_bd b
  have hlu : lo b ≤ uu b (B + ex) := by unfold uu; omega
  have hkf : (B : Int) + k ≤ fc b + 1 := by unfold uu at hk; omega
  have hn0 := g.good.nonneg
  obtain ⟨m0, m1⟩ := units_fit b hB hn0 hkf
  have m2 : Nt.val zs < 18446744073709551616 := by
    have hp := p2pos k
    have h5 : Nt.val zs * 1 ≤ Nt.val zs * 2 ^ k := Int.mul_le_mul_of_nonneg_left (by omega) hn0
    have := fr_le b
    omega
  have H2 := Hide.mk (two_digits g.good m2)
  have G := Hide.mk g.good
  have HBL := Hide.mk hB
  have HKF := Hide.mk hkf
  clear hB hkf
  go_enter Tryz.func128, Tryz.ntmps128
  go_wp2_with fail
  rw [show (w.alloc (SO b)).heap.size = w.heap.size + 1 by simp] at B1
  generalize hw1 : (w.alloc (SO b)).alloc (DO n a zs.length c ex) = w1 at *
  clear hw1
  have HI := B1.drew
  have sh := fun W (hW : Bx w [(w.heap.size + 1, DO n a zs.length c ex), (w.heap.size, SO b)] W) => And.intro (shape_cells hW w.heap.size b (.tail _ (.head _))) (cells3 hW (w.heap.size + 1) _ _ _ _ (.head _)).1
  refine Drawn.enter (Bx w [(w.heap.size + 1, DO n a zs.length c ex), (w.heap.size, SO b)]) (by kernel_rfl) ?_
  refine Drawn.tk (i := 0) (v := ?v16) rfl (fun W hW => ?_) HI ?_
  rotate_left
  · have ⟨⟨e0, e1, e2, e3⟩, q0, q1, q2⟩ := sh W hW
    go_simp <;> exact rfl
  refine Drawn.tk (i := 2) (v := ?v17) rfl (fun W hW => ?_) HI ?_
  rotate_left
  · have ⟨⟨e0, e1, e2, e3⟩, q0, q1, q2⟩ := sh W hW
    go_simp <;> exact rfl
  refine Drawn.tk (i := 3) (v := ?v18) rfl (fun W hW => ?_) HI ?_
  rotate_left
  · have ⟨⟨e0, e1, e2, e3⟩, q0, q1, q2⟩ := sh W hW
    go_simp <;> exact rfl
  refine Drawn.tk (i := 6) (v := ?v19) rfl (fun W hW => ?_) HI ?_
  rotate_left
  · have ⟨⟨e0, e1, e2, e3⟩, q0, q1, q2⟩ := sh W hW
    go_simp <;> exact rfl
  refine Drawn.tk (i := 7) (v := ?v20) rfl (fun W hW => ?_) HI ?_
  rotate_left
  · have ⟨⟨e0, e1, e2, e3⟩, q0, q1, q2⟩ := sh W hW
    go_simp <;> exact rfl
  refine Drawn.one (j := 1) (by kernel_rfl) rfl (fun K hK => ?_)
  go_simp
  refine (dTop n a c zs ex _ (hl.below HI.bel (Nat.le_refl _)) g).mono ?_
  rintro e wn ⟨B2, rfl, hB2, _, hn⟩
  obtain rfl := hB2.unique HBL.out
  refine hK _ _ (HI.keep hn) ?_
  clear hK K hB2
  replace HI := HI.keep hn
  clear hn
  have hT1 : -20000000 ≤ (B2 : Int) + ex := by omega
  have hT2 : (B2 : Int) + ex ≤ 20000000 := by omega
  have hU2 : uu b (B2 + ex) ≤ 20000100 := by unfold uu; omega
  refine Drawn.tk (i := 4) (v := .int .i64 (B2 + ex - fc b)) rfl (fun W hW => ?_) HI ?_
  · have ⟨⟨e0, e1, e2, e3⟩, q0, q1, q2⟩ := sh W hW
    go_simp <;> (exact wrap_ok (by omega) (by omega))
  refine Drawn.tk (i := 5) (v := .int .i64 (B2 + ex - fc b - 1)) rfl (fun W hW => ?_) HI ?_
  · have ⟨⟨e0, e1, e2, e3⟩, q0, q1, q2⟩ := sh W hW
    go_simp <;> (exact wrap_ok (by omega) (by omega))
  refine Drawn.tk (i := 8) (v := .int .i64 (uu b (B2 + ex))) rfl (fun W hW => ?_) HI ?_
  · have ⟨⟨e0, e1, e2, e3⟩, q0, q1, q2⟩ := sh W hW
    go_simp <;> (rfl)
  refine Drawn.tk (i := 9) (v := ?v21) rfl (fun W hW => ?_) HI ?_
  rotate_left
  · have ⟨⟨e0, e1, e2, e3⟩, q0, q1, q2⟩ := sh W hW
    go_simp <;> exact rfl
  refine Drawn.done (by kernel_rfl) ?_
  try go_simp
  obtain ⟨⟨e0, e1, e2, e3⟩, q0, q1, q2⟩ := sh _ HI
  have htp := tp_bd b
  generalize hU : uu b (B2 + ex) = U at *
  have HU := Hide.mk hU
  clear hU hT1 hT2
  have l2 := hl.below HI.bel (Nat.le_refl _)
  go_wp2_with fail
  refine (num_yes a c zs _ G.out.may l2 G.out.can.1 H2.out).mono ?_
  rintro e w5 ⟨rfl, rfl⟩
  clear l2
  generalize hM : Nt.val zs = M at *
  have HM := Hide.mk hM
  clear hM
  have hk0 : 0 ≤ ex - U := by omega
  have hkk : (ex - U).toNat = k := by omega
  have hk64 : k ≤ 64 := by have := HKF.out; omega
  have hfl := fr_le b
  have hw : IntKind.u64.wrap (M * 2 ^ min (ex - U).toNat 64) = M * 2 ^ k := by
    rw [hkk, Nat.min_eq_left hk64, IntKind.wrap_u64]
    exact Int.emod_eq_of_lt m0 (by omega)
  have HW := Hide.mk hw
  have hU0 : 0 ≤ U - lo b := by omega
  have hU1 : U - lo b ≤ 2047 := by omega
  have hs1 : 0 ≤ (U - lo b) * fr b ∧ (U - lo b) * fr b < 18446744073709551616 ∧ (U - lo b) * fr b + M * 2 ^ k < sg b := by
    generalize M * 2 ^ k = Y at *
    cases b <;> simp only [fr, tp, sg, lo] at * <;> omega
  obtain ⟨s0, s1, s2⟩ := hs1
  have hsl := sg_le b
  clear hw hkk hk64
  go_wp2_with fail
  rw [HW.out]
  replace HI := HI.drew
  clear e0 e1 e2 e3 q0 q1 q2
  refine Drawn.enter (Bx w [(w.heap.size + 1, DO n a zs.length c ex), (w.heap.size, SO b)]) (by kernel_rfl) ?_
  refine Drawn.tk (i := 0) (v := ?v22) rfl (fun W hW => ?_) HI ?_
  rotate_left
  · have ⟨⟨e0, e1, e2, e3⟩, q0, q1, q2⟩ := sh W hW
    go_simp <;> exact rfl
  refine Drawn.tk (i := 1) (v := ?v23) rfl (fun W hW => ?_) HI ?_
  rotate_left
  · have ⟨⟨e0, e1, e2, e3⟩, q0, q1, q2⟩ := sh W hW
    go_simp <;> exact rfl
  refine Drawn.tk (i := 2) (v := .int .i64 (U - lo b)) rfl (fun W hW => ?_) HI ?_
  · have ⟨⟨e0, e1, e2, e3⟩, q0, q1, q2⟩ := sh W hW
    go_simp <;> (exact (wrap_ok (by omega) (by omega)).trans (by omega))
  refine Drawn.tk (i := 3) (v := .int .u64 (U - lo b)) rfl (fun W hW => ?_) HI ?_
  · have ⟨⟨e0, e1, e2, e3⟩, q0, q1, q2⟩ := sh W hW
    go_simp <;> (rw [IntKind.wrap_u64]; omega)
  refine Drawn.tk (i := 4) (v := ?v24) rfl (fun W hW => ?_) HI ?_
  rotate_left
  · have ⟨⟨e0, e1, e2, e3⟩, q0, q1, q2⟩ := sh W hW
    go_simp <;> exact rfl
  refine Drawn.tk (i := 5) (v := ?v25) rfl (fun W hW => ?_) HI ?_
  rotate_left
  · have ⟨⟨e0, e1, e2, e3⟩, q0, q1, q2⟩ := sh W hW
    go_simp <;> exact rfl
  refine Drawn.tk (i := 6) (v := .int .u64 ((U - lo b) * fr b)) rfl (fun W hW => ?_) HI ?_
  · have ⟨⟨e0, e1, e2, e3⟩, q0, q1, q2⟩ := sh W hW
    go_simp <;> (rw [p2fc, IntKind.wrap_u64, Int.emod_eq_of_lt s0 s1])
  refine Drawn.tk (i := 7) (v := ?v26) rfl (fun W hW => ?_) HI ?_
  rotate_left
  · have ⟨⟨e0, e1, e2, e3⟩, q0, q1, q2⟩ := sh W hW
    go_simp <;> exact rfl
  refine Drawn.tk (i := 8) (v := .int .u64 ((U - lo b) * fr b + M * 2 ^ k)) rfl (fun W hW => ?_) HI ?_
  · have ⟨⟨e0, e1, e2, e3⟩, q0, q1, q2⟩ := sh W hW
    go_simp <;> (rw [IntKind.wrap_u64]; exact Int.emod_eq_of_lt (by omega) (by omega))
  refine Drawn.tk (i := 9) (v := ?v27) rfl (fun W hW => ?_) HI ?_
  rotate_left
  · have ⟨⟨e0, e1, e2, e3⟩, q0, q1, q2⟩ := sh W hW
    go_simp <;> exact rfl
  refine Drawn.tk (i := 10) (v := ?v28) rfl (fun W hW => ?_) HI ?_
  rotate_left
  · have ⟨⟨e0, e1, e2, e3⟩, q0, q1, q2⟩ := sh W hW
    go_simp <;> exact rfl
  refine Drawn.one (j := 11) (by kernel_rfl) rfl (fun K hK => ?_)
  go_simp
  refine (wSigned b ((U - lo b) * fr b + M * 2 ^ k) n (by omega) s2 _).mono ?_
  rintro e wn ⟨rfl, hn⟩
  refine hK _ _ (HI.keep hn) ?_
  clear hK K
  replace HI := HI.keep hn
  clear hn
  refine Drawn.tk (i := 12) (v := ?v29) rfl (fun W hW => ?_) HI ?_
  rotate_left
  · have ⟨⟨e0, e1, e2, e3⟩, q0, q1, q2⟩ := sh W hW
    go_simp <;> exact rfl
  refine Drawn.tk (i := 13) (v := ?v30) rfl (fun W hW => ?_) HI ?_
  rotate_left
  · have ⟨⟨e0, e1, e2, e3⟩, q0, q1, q2⟩ := sh W hW
    go_simp <;> exact rfl
  refine Drawn.done (by kernel_rfl) ?_
  try go_simp
  clear sh
  go_wp2
  go_ret2
  exact ⟨by rw [HU.out, HM.out]; rfl, HI.bel⟩

theorem sgn_dv {n : Bool} {zs : List Int} {ex : Int} (g : DG n zs ex) (hz : 0 < zs.length) : ∃ s, sgn (dv n zs ex) 0 = s ∧ (s == 0) = false := by
  refine ⟨_, rfl, ?_⟩
  have hp := g.pos hz
  have hq := pK_pos ex
  have h0 : 0 < Nt.val zs * pK ex := Int.mul_pos hp hq
  unfold dv
  cases n
  · rw [sv_f]
    generalize Nt.val zs * pK ex = X at *
    unfold sgn
    first | (simp; omega) | (split <;> first | rfl | omega)
  · rw [sv_t, Int.neg_mul]
    generalize Nt.val zs * pK ex = X at *
    unfold sgn
    first | (simp; omega) | (split <;> first | rfl | omega)
theorem wOf_call (b n : Bool) (a : Option Addr) (c : Nat) (zs : List Int) (ex : Int) (w : World) (hl : Lie w a zs) (g : DG n zs ex) (hz : 0 < zs.length) (y k : Int)
    (H : ∀ W, Lie W a zs → Calls Tryz.prog 128 #[S b, dV n a zs.length c ex] W fun e w' => e = .returned (.tuple #[.int .u64 y, .int .i64 k]) ∧ Below W.heap.size W w') :
    Calls Tryz.prog 112 #[.int .u8 (fm b), dV n a zs.length c ex] w fun e w' => e = .returned (.tuple #[.int .u64 y, .int .i64 k]) ∧ Below w.heap.size w w' := by
  have B1 := (Bx.nil w).push (DO n a zs.length c ex)
  have u := g.lie hl
  obtain ⟨s, hs, hs2⟩ := sgn_dv g hz
  have HS := Hide.mk hs
  have HH := Hide.mk H
  clear hs H
  go_enter Tryz.func112, Tryz.ntmps112
  go_wp2_with fail
  refine (wShapeOf b _).mono ?_
  rintro e w2 ⟨rfl, h2⟩
  have B2 := (B1.keep h2).push (SO b)
  have hlt : w.heap.size < w2.heap.size := (B1.keep h2).lt (.head _)
  obtain ⟨⟨f0, f1, f2⟩, _⟩ := cells3 (B1.keep h2) w.heap.size _ _ _ _ (.head _)
  clear h2 B1
  go_wp2_with fail
  refine (u.may n c ex true g.may _ B2.bel).mono ?_
  rintro e w3 ⟨rfl, h3⟩
  have B3 := B2.keep h3
  obtain ⟨⟨f0, f1, f2⟩, _⟩ := cells3 B3 w.heap.size _ _ _ _ (.tail _ (.head _))
  have l3 := hl.below B3.bel (Nat.le_refl _)
  clear h3 B2 u
  go_wp2_with fail
  refine (dsign49 n a c zs ex _ _ l3 ⟨g, rfl⟩ s HS.out).mono ?_
  rintro e w4 ⟨rfl, h4⟩
  have B4 := B3.keep h4
  obtain ⟨⟨f0, f1, f2⟩, _⟩ := cells3 B4 w.heap.size _ _ _ _ (.tail _ (.head _))
  obtain ⟨e0, e1, e2, e3⟩ := shape_cells B4 w2.heap.size b (.head _)
  have l4 := hl.below B4.bel (Nat.le_refl _)
  have H4 := Hide.mk (HH.out w4 l4)
  clear h4 B3 l3 HH HS l4
  go_wp2_with fail
  refine H4.out.mono ?_
  rintro e w5 ⟨rfl, h5⟩
  have B5 := B4.keep h5
  clear h5 B4 f0 f1 f2 e0 e1 e2 e3 H4
  go_wp2
  go_ret2
  exact ⟨rfl, B5.bel⟩
theorem wOf_ok (b n : Bool) (a : Option Addr) (c : Nat) (zs : List Int) (ex : Int) (w : World) (hl : Lie w a zs) (g : DG n zs ex) (hz : 0 < zs.length) {B : Nat} (hB : BitLen (Nt.val zs) B) (hb : B ≤ 131072)
    (hc1 : uu b (B + ex) - lo b + 1 < tp b) (hc2 : uu b (B + ex) ≤ ex) (k : Nat) (hk : (k : Int) = ex - uu b (B + ex)) :
    Calls Tryz.prog 112 #[.int .u8 (fm b), dV n a zs.length c ex] w fun e w' => e = .returned (.tuple #[.int .u64 (sd b ((uu b (B + ex) - lo b) * fr b + Nt.val zs * 2 ^ k) n), .int .i64 0]) ∧ Below w.heap.size w w' :=
  wOf_call b n a c zs ex w hl g hz _ 0 (fun W hW => wWordOf b n a c zs ex W hW g hB hb hc1 hc2 k hk)

theorem apart {b n : Bool} {E F : Int} (h0 : 0 ≤ E) (h1 : E ≤ tp b) (h2 : 0 ≤ F) (h3 : F < fr b) :
    Ok b (sd b (E * fr b + F) n) ∧ ng b (sd b (E * fr b + F) n) = n ∧ fd b (sd b (E * fr b + F) n) = E ∧ fn b (sd b (E * fr b + F) n) = F := by
  cases b <;> cases n <;> simp only [Ok, sd, ng, fd, fn, tp, fr, sg, if_true, Bool.false_eq_true, if_false, decide_eq_true_eq, decide_eq_false_iff_not] at * <;> omega

def us (b : Bool) (s : Int) : Int := if s / fr b = 0 then s % fr b else fr b + s % fr b
def es (b : Bool) (s : Int) : Int := max (s / fr b - 1) 0 + lo b
def vz (b : Bool) (s : Int) : Int := us b s * pK (es b s)

structure NextUp (b : Bool) (x : Int) : Prop where
  ok : Ok b (up b x)
  rise : wv b (up b x) = wv b x + pK (ue b x) ∨ wv b (up b x) = wv b x + pK (ue b (up b x))
  none : ∀ z, Ok b z → wv b z ≤ wv b x ∨ wv b (up b x) ≤ wv b z
  fin : fl b (up b x) ≠ inf b
  back : wv b (fl b (up b (fl b (up b x)))) = wv b x
  okb : Ok b (fl b (up b (fl b (up b x))))
  finb : sz b (fl b (up b (fl b (up b x)))) < inf b

theorem DN.zero {n : Bool} {zs : List Int} {ex u : Int} (h : DN n zs ex u) (hz : zs.length ≤ 0) : zs = [] ∧ n = false ∧ ex = 0 ∧ u = 0 := by
  obtain ⟨rfl, rfl, rfl⟩ := h.dg.nil hz
  exact ⟨rfl, rfl, rfl, by rw [← h.val]; exact zero_dv _ _⟩

open Go.RowKit

def Big (s : Int) : Prop := s ≠ 0 ∧ ∀ t : Nat, LowBit (s.natAbs : Int) t → 4294967296 ^ 4096 ≤ (s.natAbs : Int) / 2 ^ t
theorem Fm.scale {s E : Int} {k : Nat} {n : Bool} {zs : List Int} {ex : Int} (h : Fm s (E + k) n zs ex) : Fm (s * 2 ^ k) E n zs ex := by
  have hp := p2pos k
  rcases h with ⟨rfl, he⟩ | ⟨hs, t, ht, rfl, rfl, hc, hv⟩
  · exact .inl ⟨by simp, he⟩
  · refine .inr ⟨fun c => by rcases Int.mul_eq_zero.1 c with c | c <;> omega, t + k, by rw [natAbs_mul_pow]; exact ht.up k, ?_, by omega, hc, ?_⟩
    · by_cases c : s < 0
      · have : s * 2 ^ k < 0 := Int.mul_neg_of_neg_of_pos c hp
        simp [c, this]
      · have : ¬ s * 2 ^ k < 0 := by have := Int.mul_nonneg (show 0 ≤ s by omega) (Int.le_of_lt hp); omega
        simp [c, this]
    · rw [hv, natAbs_mul_pow, Int.pow_add, Int.mul_ediv_mul_of_pos_left _ _ hp]
theorem Fm.toK {s E : Int} {n : Bool} {zs : List Int} {ex : Int} (h : Fm s E n zs ex) (hE : -(KK : Int) ≤ E) : Fm (s * pK E) (-(KK : Int)) n zs ex := by
  have e : E = -(KK : Int) + ((E + KK).toNat : Nat) := by omega
  rw [e] at h
  exact h.scale
theorem DN.fm {n : Bool} {zs : List Int} {ex u : Int} (N : DN n zs ex u) : Fm u (-(KK : Int)) n zs ex := by
  have hK := KK_int
  have hx := N.dg.ex_bd
  by_cases hz : 0 < zs.length
  · have hp := N.dg.pos hz
    have h0 : Fm (sv n (Nt.val zs)) ex n zs ex := by
      refine .inr ⟨fun c => by rw [sv_zero] at c; omega, 0, ?_, ?_, by omega, N.dg.can, ?_⟩
      · rw [sv_abs _ (by omega)]; exact odd_low (N.dg.odd hz)
      · rw [sv_neg _ hp]
      · rw [sv_abs _ (by omega)]; simp
    have h1 := h0.toK (by omega)
    rw [show sv n (Nt.val zs) * pK ex = u from N.val] at h1
    exact h1
  · obtain ⟨rfl, rfl, rfl, rfl⟩ := N.zero (by omega)
    exact .inl ⟨rfl, rfl, rfl, rfl⟩
def rn (n : Bool) (z : List Int) : Bool := if z.length = 0 then n else !n
theorem rNegD (n : Bool) (a : Option Addr) (c : Nat) (z : List Int) (ex : Int) (w : World) :
    Calls Tryz.prog 40 #[dV n a z.length c ex] w fun e w' => e = .returned (dV (rn n z) a z.length c ex) ∧ Below w.heap.size w w' := by
  by_cases hz : 0 < z.length
  · rw [show rn n z = !n by unfold rn; rw [if_neg (by omega)]]; exact rNegX n a c z.length ex hz w
  · obtain rfl : z = [] := List.length_eq_zero_iff.1 (by omega)
    exact rNegZ a c ex n w
theorem rAbsD (n : Bool) (a : Option Addr) (c k : Nat) (ex : Int) (w : World) :
    Calls Tryz.prog 34 #[dV n a k c ex] w fun e w' => e = .returned (dV false a k c ex) ∧ Below w.heap.size w w' := by
  have B1 := ((Bx.nil w).push (DO false a k c ex)).push (DO false a k c ex)
  go_enter Tryz.func34, Tryz.ntmps34
  go_wp2
  refine bodyPost_ret (results_D1 rfl _ _ (w.heap.size + 1) _ rfl ⟨by simpa using B1.head, rfl⟩) rfl ?_
  exact ⟨rfl, B1.bel⟩
theorem rSignD (n : Bool) (a : Option Addr) (c : Nat) (z : List Int) (ex : Int) {u : Int} (N : DN n z ex u) (s : Int) (hs : sgn u 0 = s) (w : World) :
    Calls Tryz.prog 23 #[dV n a z.length c ex] w fun e w' => e = .returned (.int .i64 s) ∧ Below w.heap.size w w' := by
  subst hs
  rcases cls N with ⟨h, h0⟩ | ⟨h, h0, _, _⟩ | ⟨h, h0, _, _⟩
  · rw [sgn_is0 h0]; exact rSgnAny n a c z.length ex 0 h w
  · rw [sgn_is2 h0]; exact rSgnAny n a c z.length ex 1 h w
  · rw [sgn_is1 h0]; exact rSgnAny n a c z.length ex (-1) h w
theorem rTopZ (n : Bool) (a : Option Addr) (c : Nat) (ex : Int) (w : World) :
    Calls Tryz.prog 55 #[dV n a 0 c ex] w fun e w' => e = .returned (.int .i64 0) ∧ Below w.heap.size w w' := by
  have B1 := (Bx.nil w).push (DO n a 0 c ex)
  go_enter Tryz.func55, Tryz.ntmps55
  go_wp2
  go_ret
  exact ⟨rfl, B1.bel⟩
theorem sub_viaP (P : Bool → List Int → Int → Prop) (n1 n2 n3 : Bool) (a1 a2 : Option Addr) (k1 k2 c1 c2 : Nat) (e1 e2 : Int) (w : World)
    (HN : ∀ W, Calls Tryz.prog 40 #[dV n2 a2 k2 c2 e2] W fun e w' => e = .returned (dV n3 a2 k2 c2 e2) ∧ Below W.heap.size W w')
    (HA : ∀ W, Below w.heap.size w W → Calls Tryz.prog 69 #[dV n1 a1 k1 c1 e1, dV n3 a2 k2 c2 e2] W fun e w' => ∃ n zs ex a c, e = .returned (dV n a zs.length c ex) ∧ P n zs ex ∧ Lie w' a zs ∧ Below W.heap.size W w') :
    Calls Tryz.prog 35 #[dV n1 a1 k1 c1 e1, dV n2 a2 k2 c2 e2] w fun e w' => ∃ n zs ex a c, e = .returned (dV n a zs.length c ex) ∧ P n zs ex ∧ Lie w' a zs ∧ Below w.heap.size w w' := by
  have B1 := (((Bx.nil w).push (DO n1 a1 k1 c1 e1)).push (DO n2 a2 k2 c2 e2)).push (DO false none 0 0 0)
  go_enter Tryz.func35, Tryz.ntmps35
  go_wp2_with fail
  rw [show ((w.alloc (DO n1 a1 k1 c1 e1)).alloc (DO n2 a2 k2 c2 e2)).heap.size = w.heap.size + 1 + 1 by simp, show (w.alloc (DO n1 a1 k1 c1 e1)).heap.size = w.heap.size + 1 by simp] at B1
  generalize hw1 : ((w.alloc (DO n1 a1 k1 c1 e1)).alloc (DO n2 a2 k2 c2 e2)).alloc (DO false none 0 0 0) = w1 at *
  clear hw1
  have HF := B1.drew
  have HI := HF.sub (L' := [(w.heap.size + 1, DO n2 a2 k2 c2 e2), (w.heap.size, DO n1 a1 k1 c1 e1)]) (by simp)
  have sh := fun W (hW : Bx w [(w.heap.size + 1, DO n2 a2 k2 c2 e2), (w.heap.size, DO n1 a1 k1 c1 e1)] W) => And.intro (cells3 hW (w.heap.size + 1) _ _ _ _ (.head _)).1 (cells3 hW w.heap.size _ _ _ _ (.tail _ (.head _))).1
  refine Drawn.enter (Bx w [(w.heap.size + 1, DO n2 a2 k2 c2 e2), (w.heap.size, DO n1 a1 k1 c1 e1)]) (by kernel_rfl) ?_
  refine Drawn.tk (i := 0) (v := ?v258) rfl (fun W hW => ?_) HI ?_
  rotate_left
  · have ⟨⟨s0, s1, s2⟩, q0, q3, q4⟩ := sh W hW
    go_simp <;> exact rfl
  refine Drawn.tk (i := 1) (v := ?v259) rfl (fun W hW => ?_) HI ?_
  rotate_left
  · have ⟨⟨s0, s1, s2⟩, q0, q3, q4⟩ := sh W hW
    go_simp <;> exact rfl
  refine Drawn.one (j := 2) (by kernel_rfl) rfl (fun K hK => ?_)
  go_simp
  refine (HN _).mono ?_
  rintro e wn ⟨rfl, hn⟩
  refine hK _ _ (HI.keep hn) ?_
  clear hK K
  replace HI := HI.keep hn
  replace HF := HF.keep hn
  clear hn
  refine Drawn.one (j := 3) (by kernel_rfl) rfl (fun K hK => ?_)
  go_simp
  refine (HA _ HI.bel).mono ?_
  rintro e w6 ⟨n6, z6, x6, a6, c6, rfl, F6, l6, h6⟩
  refine hK _ _ (HI.keep h6) ?_
  clear hK K
  replace HI := HI.keep h6
  replace HF := HF.keep h6
  have H6 := Hide.mk (And.intro F6 l6)
  clear F6 l6 h6
  obtain ⟨⟨f0, f1, f2⟩, r0, r1, r2⟩ := cells3 HF (w.heap.size + 1 + 1) _ _ _ _ (.head _)
  have HF2 := HF.fill3 (by omega) (by simp; omega) (.bool n6) (.slice a6 z6.length c6) (.int .i64 x6)
  refine Drawn.one (j := 4) (by kernel_rfl) rfl (fun K hK => ?_)
  go_simp
  replace HI := HF2.sub (L' := [(w.heap.size + 1, DO n2 a2 k2 c2 e2), (w.heap.size, DO n1 a1 k1 c1 e1)]) (by simp)
  refine hK _ _ HI ?_
  clear hK K f0 f1 f2 r0 r1 r2
  refine Drawn.done (by kernel_rfl) ?_
  try go_simp
  go_wp2
  refine bodyPost_ret (results_D1 rfl _ _ (w.heap.size + 1 + 1) _ rfl ⟨HF2.head, rfl⟩) rfl ?_
  have L := Live.set3 (g := w.heap.size + 1 + 1) ⟨HF.head, rfl⟩ (.bool n6) (.slice a6 z6.length c6) (.int .i64 x6) (Live.one H6.out.2)
  exact ⟨n6, z6, x6, a6, c6, rfl, H6.out.1, L.all (a6, z6) (.head _), HF2.bel⟩

def DCut (w w' : World) (s E : Int) (q : Bool) (e : Ending) : Prop := ∃ n a k c ex code lost, e = .returned (.tuple #[dV n a k c ex, .bool lost, .int .i64 code]) ∧ DV w w' s E n a k c ex code ∧ (code = 0 → lost = q) ∧ (code ≠ 0 → lost = false)
theorem DV.bad {w w' : World} {s E : Int} {n : Bool} {a : Option Addr} {k c : Nat} {ex code : Int} (h : DV w w' s E n a k c ex code) (hc : code ≠ 0) : n = false ∧ a = none ∧ k = 0 ∧ c = 0 ∧ ex = 0 := by
  rcases h.all with ⟨_, _, _, _, _, _, h0⟩ | ⟨_, t, _, ⟨_, _, _, _, h0, _⟩ | ⟨_, h1, h2, h3, h4, h5, _⟩ | ⟨_, _, h1, h2, h3, h4, h5, _⟩⟩
  · exact absurd h0 hc
  · exact absurd h0 hc
  · exact ⟨h1, h2, h3, h4, h5⟩
  · exact ⟨h1, h2, h3, h4, h5⟩
theorem cutC (ng : Bool) (a : Option Addr) (ca : Nat) (za : List Int) (ex bits : Int) (more : Bool) (w : World) {x : Int} (ha : Lie w a za) (ga : Good za x) (hT : Tab w) (hb1 : 1 ≤ bits) (hb2 : bits ≤ 8192) (hx1 : -100000000 ≤ ex) (hx2 : ex ≤ 100000000) {B : Nat} (hB : BitLen x B) (hB2 : B ≤ 131072) (d : Nat) (hd : max ((B : Int) - bits) 0 = (d : Int)) :
    Calls Tryz.prog 114 #[.bool ng, .slice a za.length ca, .int .i64 ex, .int .i64 bits, .bool more] w fun e w' => DCut w w' (sv ng (x / 2 ^ d)) (ex + d) (decide (x % 2 ^ d ≠ 0) || more) e := by
  have hd3 : (d : Int) ≤ 131072 := by omega
  obtain ⟨q, hq⟩ : ∃ q, decide (x % 2 ^ d ≠ 0) = q := ⟨_, rfl⟩
  have HQ := Hide.mk hq
  have HD := Hide.mk hd
  have HB := Hide.mk hB
  have B1 := (Bx.nil w).push (DO false none 0 0 0)
  have HL := fun W (h : Below w.heap.size w W) => Hide.mk (lenN a ca za W (ha.below h (Nat.le_refl _)) ga)
  have HS := fun W (h : Below w.heap.size w W) M hM => Hide.mk (shiftDi a ca za W (ha.below h (Nat.le_refl _)) ga M d hM (by omega) (hT.below h (Nat.le_refl _)) q hq)
  clear hd hB ha hq
  go_enter Tryz.func114, Tryz.ntmps114
  go_wp2_with fail
  refine (HL _ B1.bel).out.mono ?_
  rintro e w2 ⟨rfl, B2, rfl, hB2', h3⟩
  obtain rfl := hB2'.unique HB.out
  clear hB2' h3
  go_wp2_with fail
  rw [HD.out]
  refine (HS _ B1.bel _ rfl).out.mono ?_
  rintro e w3 ⟨z3, a3, c3, rfl, h3, _⟩
  have B3 := B1.keep h3.bel
  have HF := Hide.mk (formedR ng a3 c3 z3 (ex + d) w3 h3.lie h3.good (hT.below B3.bel (Nat.le_refl _)) (by omega) (by omega))
  clear h3 HS HL B1
  go_wp2_with fail
  refine HF.out.mono ?_
  rintro e w4 ⟨n4, a4, k4, c4, x4, code, rfl, h4⟩
  have B4 := B3.keep h4.bel
  have hlt : w.heap.size < w3.heap.size := B3.lt (.head _)
  have hlt4 : w.heap.size < w4.heap.size := B4.lt (.head _)
  have hne : w.heap.size ≠ w4.heap.size := by omega
  have V := Hide.mk h4
  have HE := Hide.mk (DV.bad h4)
  clear HF h4
  obtain ⟨⟨t0, t1, t2⟩, u0, u1, u2⟩ := cells3 B4 w.heap.size _ _ _ _ (.head _)
  by_cases hc : code = 0
  · subst hc
    cases q <;> go_wp2
    · refine bodyPost_ret (results_D3 rfl _ _ w.heap.size _ rfl ⟨((B4.fill3 (Nat.le_refl _) (by simp) _ _ _).push _).tail.head, rfl⟩) rfl ?_
      exact ⟨n4, a4, k4, c4, x4, 0, more, rfl, (V.out.back B3.bel (Nat.le_refl _) hlt _ _ _).after ((Below.refl _ _).alloc (Nat.le_refl _) _), fun _ => by rw [HQ.out]; rfl, fun h => absurd rfl h⟩
    · refine bodyPost_ret (results_D3 rfl _ _ w.heap.size _ rfl ⟨((B4.fill3 (Nat.le_refl _) (by simp) _ _ _).push _).tail.head, rfl⟩) rfl ?_
      exact ⟨n4, a4, k4, c4, x4, 0, true, rfl, (V.out.back B3.bel (Nat.le_refl _) hlt _ _ _).after ((Below.refl _ _).alloc (Nat.le_refl _) _), fun _ => by rw [HQ.out]; rfl, fun h => absurd rfl h⟩
  · obtain ⟨rfl, rfl, rfl, rfl, rfl⟩ := HE.out hc
    have hc2 : (code == 0) = false := by simpa using hc
    have hc3 : (code != 0) = true := by simpa using hc
    go_wp2
    refine bodyPost_ret (results_D3 rfl _ _ w.heap.size _ rfl ⟨((B4.fill3 (Nat.le_refl _) (by simp) _ _ _).push _).tail.head, rfl⟩) rfl ?_
    exact ⟨false, none, 0, 0, 0, code, false, rfl, (V.out.back B3.bel (Nat.le_refl _) hlt _ _ _).after ((Below.refl _ _).alloc (Nat.le_refl _) _), fun h => absurd h hc, fun _ => rfl⟩
def askB (bits : Int) (m : Bool) : Int := if bits < 1 ∨ m = false then 2 else if 8192 < bits then 3 else 0
theorem ask1 (bits : Int) (b : Nat) (m : Bool) (w : World) (HM : ∀ W, Below w.heap.size w W → Calls Tryz.prog 129 #[.slice (some ⟨b, 0, none⟩) 1 1] W fun e w' => e = .returned (.bool m) ∧ Below W.heap.size W w') :
    Calls Tryz.prog 113 #[.int .i64 bits, .slice (some ⟨b, 0, none⟩) 1 1] w fun e w' => e = .returned (.int .i64 (askB bits m)) ∧ Below w.heap.size w w' := by
  have H := Hide.mk (HM w (Below.refl _ _))
  clear HM
  by_cases h1 : bits < 1
  · rw [show askB bits m = 2 by unfold askB; rw [if_pos (.inl h1)]]
    go_enter Tryz.func113, Tryz.ntmps113
    go_wp2
    go_ret
    exact ⟨rfl, Below.refl _ _⟩
  · cases m
    · rw [show askB bits false = 2 by unfold askB; rw [if_pos (.inr rfl)]]
      go_enter Tryz.func113, Tryz.ntmps113
      go_wp2_with fail
      refine H.out.mono ?_
      rintro e w2 ⟨rfl, h2⟩
      clear H
      go_wp2
      go_ret
      exact ⟨rfl, h2⟩
    · by_cases h3 : 8192 < bits
      · rw [show askB bits true = 3 by unfold askB; rw [if_neg (by simp; omega), if_pos h3]]
        go_enter Tryz.func113, Tryz.ntmps113
        go_wp2_with fail
        refine H.out.mono ?_
        rintro e w2 ⟨rfl, h2⟩
        clear H
        go_wp2
        go_ret
        exact ⟨rfl, h2⟩
      · rw [show askB bits true = 0 by unfold askB; rw [if_neg (by simp; omega), if_neg h3]]
        go_enter Tryz.func113, Tryz.ntmps113
        go_wp2_with fail
        refine H.out.mono ?_
        rintro e w2 ⟨rfl, h2⟩
        clear H
        go_wp2
        go_ret
        exact ⟨rfl, h2⟩

set_option maxRecDepth 20000
theorem part_hi (x up : Int) (o m : Nat) (hm : (o : Int) - up = (m : Int)) : x * 2 ^ up.toNat / 2 ^ (-up).toNat / 2 ^ o = x / 2 ^ m := by
  rw [← cut_div (p2pos _), ← Int.pow_add, show (-up).toNat + o = m + up.toNat by omega, Int.pow_add, Int.mul_ediv_mul_of_pos_left _ _ (p2pos _)]
theorem part_hi2 (x up : Int) (o m : Nat) (hm : up - (o : Int) = (m : Int)) : x * 2 ^ up.toNat / 2 ^ (-up).toNat / 2 ^ o = x * 2 ^ m := by
  rw [show (-up).toNat = 0 by omega, show up.toNat = m + o by omega, Int.pow_add, Int.pow_zero, Int.ediv_one, ← Int.mul_assoc, Int.mul_ediv_cancel _ (by have := p2pos o; omega)]
theorem part_lo2 (x up : Int) (o m : Nat) (hm : up - (o : Int) = (m : Int)) : x * 2 ^ up.toNat / 2 ^ (-up).toNat % 2 ^ o = 0 := by
  rw [show (-up).toNat = 0 by omega, show up.toNat = m + o by omega, Int.pow_add, Int.pow_zero, Int.ediv_one, ← Int.mul_assoc, Int.mul_emod_left]
theorem part_fl (x up : Int) : decide (x * 2 ^ up.toNat % 2 ^ (-up).toNat ≠ 0) = decide (x % 2 ^ (-up).toNat ≠ 0) := by
  by_cases h : 0 ≤ up
  · rw [show (-up).toNat = 0 by omega, Int.pow_zero, Int.emod_one, Int.emod_one]
  · rw [show up.toNat = 0 by omega, Int.pow_zero, Int.mul_one]
theorem part_lo (x up : Int) (o m k : Nat) (hm : (o : Int) - up = (m : Int)) (hm0 : 0 < m) (hk : o = k + up.toNat) : x * 2 ^ up.toNat / 2 ^ (-up).toNat % 2 ^ o = (x / 2 ^ (-up).toNat - x / 2 ^ m * 2 ^ k) * 2 ^ up.toNat := by
  have e1 : x / 2 ^ m = x / 2 ^ (-up).toNat / 2 ^ k := by
    rw [← cut_div (p2pos _), ← Int.pow_add]; congr 2; omega
  have e2 := Int.mul_ediv_add_emod (x / 2 ^ (-up).toNat) (2 ^ k)
  have e3 : x / 2 ^ (-up).toNat - x / 2 ^ m * 2 ^ k = x / 2 ^ (-up).toNat % 2 ^ k := by rw [e1, Int.mul_comm (x / 2 ^ (-up).toNat / 2 ^ k)]; omega
  rw [e3]
  by_cases h : 0 ≤ up
  · rw [show (-up).toNat = 0 by omega, Int.pow_zero, Int.ediv_one, Int.ediv_one, hk, Int.pow_add, Int.mul_comm x, Int.mul_comm ((2 : Int) ^ k), Int.mul_emod_mul_of_pos _ _ (p2pos _), Int.mul_comm]
  · rw [show up.toNat = 0 by omega] at hk ⊢
    rw [Int.pow_zero, Int.mul_one, Int.mul_one, hk, Nat.add_zero]
theorem lim_le {x y M : Int} (h : x < M) (k : y ≤ x) : y < M := Int.lt_of_le_of_lt k h
theorem div_le {x : Int} (h : 0 ≤ x) (n : Nat) : x / 2 ^ n ≤ x := Int.ediv_le_self _ h
def Parts (w w' : World) (x up : Int) (o : Nat) (e : Ending) : Prop :=
  ∃ zh ah ch zl al cl, e = .returned (.tuple #[.slice ah (List.length zh) ch, .slice al (List.length zl) cl, .bool (decide (x * 2 ^ up.toNat % 2 ^ (-up).toNat ≠ 0))]) ∧ Good zh (x * 2 ^ up.toNat / 2 ^ (-up).toNat / 2 ^ o) ∧ Good zl (x * 2 ^ up.toNat / 2 ^ (-up).toNat % 2 ^ o) ∧ Lie w' ah zh ∧ Lie w' al zl ∧ Below w.heap.size w w'
theorem parted_up (a : Option Addr) (ca : Nat) (za : List Int) (w : World) {x : Int} (ha : Lie w a za) (ga : Good za x) (up : Int) (o m : Nat) (hm : up - (o : Int) = (m : Int)) (h0 : (o : Int) ≤ up) (hu : up ≤ 1000000) (hf : x * 2 ^ m < 4294967296 ^ 4096) :
    Calls Tryz.prog 132 #[.slice a za.length ca, .int .i64 up, .int .i64 o] w fun e w' => Parts w w' x up o e := by
  have HS := Hide.mk (shiftedU a ca za w ha ga _ m hm hf)
  have HM := Hide.mk hm
  clear ha hf hm
  go_enter Tryz.func132, Tryz.ntmps132
  go_wp2_with fail
  refine HS.out.mono ?_
  rintro e w' ⟨zs, a', c, rfl, h1, h2⟩
  have H := Hide.mk (And.intro h1 h2)
  clear h1 h2 HS
  go_wp2
  go_ret3
  refine ⟨zs, a', c, [], none, 0, ?_, ?_, ?_, H.out.1.lie, .inl rfl, H.out.1.bel⟩
  · rw [part_fl, show (-up).toNat = 0 by omega, Int.pow_zero, Int.emod_one]; rfl
  · rw [part_hi2 x up o m HM.out]; exact H.out.1.good
  · rw [part_lo2 x up o m HM.out]; exact ⟨Nt.can_nil, by simp, rfl⟩
theorem parted_down (a : Option Addr) (ca : Nat) (za : List Int) (w : World) {x : Int} (ha : Lie w a za) (ga : Good za x) (hT : Tab w) (up : Int) (o : Nat) (h0 : up < (o : Int)) (hu : -1000000 ≤ up) (ho : o ≤ 131072) :
    Calls Tryz.prog 132 #[.slice a za.length ca, .int .i64 up, .int .i64 o] w fun e w' => Parts w w' x up o e := by
  obtain ⟨m, hm⟩ : ∃ m : Nat, (o : Int) - up = (m : Int) := ⟨((o : Int) - up).toNat, by omega⟩
  obtain ⟨k, hk⟩ : ∃ k : Nat, o = k + up.toNat := ⟨o - up.toNat, by omega⟩
  obtain ⟨q, hq⟩ : ∃ q : Bool, decide (x % 2 ^ (-up).toNat ≠ 0) = q := ⟨_, rfl⟩
  have hx := ga.lt
  have v0 := Int.ediv_nonneg hx.1 (Int.le_of_lt (p2pos (-up).toNat))
  have e1 : x / 2 ^ m = x / 2 ^ (-up).toNat / 2 ^ k := by
    rw [← cut_div (p2pos _), ← Int.pow_add]; congr 2; omega
  have e2 := Int.mul_ediv_add_emod (x / 2 ^ (-up).toNat) (2 ^ k)
  have e4 := Int.emod_nonneg (x / 2 ^ (-up).toNat) (show (2 : Int) ^ k ≠ 0 by have := p2pos k; omega)
  have hle : x / 2 ^ m * 2 ^ k ≤ x / 2 ^ (-up).toNat := by rw [e1, Int.mul_comm]; omega
  have H1 := Hide.mk (shiftedD a ca za w ha ga (up - o) m (by omega) (by omega) hT)
  have H2 := fun W (h : Below w.heap.size w W) => Hide.mk (shiftDi a ca za W (ha.below h (Nat.le_refl _)) ga (-((-up).toNat : Int)) (-up).toNat rfl (by omega) (hT.below h (Nat.le_refl _)) q hq)
  have H3 := fun W A C Z (l : Lie W A Z) (g : Good Z (x / 2 ^ m)) => Hide.mk (shiftedU A C Z W l g ((o : Int) - up.toNat) k (by omega) (lim_le hx.2 (Int.le_trans hle (div_le hx.1 _))))
  have H4 := fun W A C Z B D Y (l1 : Lie W A Z) (l2 : Lie W B Y) (g1 : Good Z (x / 2 ^ (-up).toNat)) (g2 : Good Y (x / 2 ^ m * 2 ^ k)) => Hide.mk (less132 A B C D Z Y W l1 l2 g1 g2 hle)
  have hlo := part_lo x up o m k hm (by omega) hk
  have hlim : (x / 2 ^ (-up).toNat - x / 2 ^ m * 2 ^ k) * 2 ^ up.toNat < 4294967296 ^ 4096 := by
    rw [← hlo, pw32]
    have := Int.emod_lt_of_pos (x * 2 ^ up.toNat / 2 ^ (-up).toNat) (p2pos o)
    have := p2le ho
    omega
  have H5 := fun W A C Z (l : Lie W A Z) (g : Good Z (x / 2 ^ (-up).toNat - x / 2 ^ m * 2 ^ k)) => Hide.mk (shiftedU A C Z W l g (up.toNat : Int) up.toNat rfl hlim)
  have hfl := part_fl x up
  rw [hq] at hfl
  have HZ := Hide.mk (And.intro (part_hi x up o m hm) (And.intro hlo hfl))
  have hmin : Hide (min up 0 = -((-up).toNat : Int)) := ⟨by omega⟩
  have hmax : Hide (max up 0 = (up.toNat : Int)) := ⟨by omega⟩
  clear ha hlim hle e1 e2 e4 v0 hlo hfl hq hx hm hk
  go_enter Tryz.func132, Tryz.ntmps132
  go_wp2_with fail
  refine H1.out.mono ?_
  rintro e w1 ⟨z1, a1, c1, rfl, h1, _⟩
  have b1 := h1.bel
  have l1 := h1.lie
  have g1 := h1.good
  clear h1 H1
  go_wp2_with fail
  rw [hmin.out]
  refine (H2 _ b1).out.mono ?_
  rintro e w2 ⟨z2, a2, c2, rfl, h2, _⟩
  have b2 := below_then b1 h2.bel
  have l2 := h2.lie
  have g2 := h2.good
  replace l1 := l1.below h2.bel (Nat.le_refl _)
  clear h2 H2
  go_wp2_with fail
  rw [hmax.out]
  refine (H3 _ _ _ _ l1 g1).out.mono ?_
  rintro e w3 ⟨z3, a3, c3, rfl, h3, _⟩
  have b3 := below_then b2 h3.bel
  have l3 := h3.lie
  have g3 := h3.good
  replace l1 := l1.below h3.bel (Nat.le_refl _)
  replace l2 := l2.below h3.bel (Nat.le_refl _)
  clear h3 H3
  go_wp2_with fail
  refine (H4 _ _ _ _ _ _ _ l2 l3 g2 g3).out.mono ?_
  rintro e w4 ⟨z4, a4, c4, rfl, h4, _⟩
  have b4 := below_then b3 h4.bel
  have l4 := h4.lie
  have g4 := h4.good
  replace l1 := l1.below h4.bel (Nat.le_refl _)
  clear h4 H4 l2 l3 g2 g3
  go_wp2_with fail
  rw [hmax.out]
  refine (H5 _ _ _ _ l4 g4).out.mono ?_
  rintro e w5 ⟨z5, a5, c5, rfl, h5, _⟩
  have b5 := below_then b4 h5.bel
  have l5 := h5.lie
  have g5 := h5.good
  replace l1 := l1.below h5.bel (Nat.le_refl _)
  clear h5 H5 l4 g4
  go_wp2
  go_ret3
  refine ⟨z1, a1, c1, z5, a5, c5, by rw [HZ.out.2.2]; rfl, by rw [HZ.out.1]; exact g1, by rw [HZ.out.2.1]; exact g5, l1, l5, b5⟩

theorem mod_splitG {N D c : Int} (hD : 0 < D) (hc : 0 < c) : N % (D * c) = D * (N / D % c) + N % D := by
  have h1 := Int.emod_nonneg (N / D) (show c ≠ 0 by omega)
  have h2 := Int.emod_lt_of_pos (N / D) hc
  have h3 := Int.emod_nonneg N (show D ≠ 0 by omega)
  have h4 := Int.emod_lt_of_pos N hD
  have e1 := Int.mul_ediv_add_emod N D
  have e2 := Int.mul_ediv_add_emod (N / D) c
  generalize N / D = q at *
  generalize N % D = r at *
  generalize q % c = u at *
  generalize q / c = v at *
  have e3 : N = (D * u + r) + D * c * v := by rw [← e1, ← e2, Int.mul_add, ← Int.mul_assoc]; omega
  rw [e3, Int.add_mul_emod_self_left]
  refine Int.emod_eq_of_lt (by have := Int.mul_nonneg (show 0 ≤ D by omega) h1; omega) ?_
  have : D * u + D ≤ D * c := by
    have := Int.mul_le_mul_of_nonneg_left (show u + 1 ≤ c by omega) (show 0 ≤ D by omega)
    rw [Int.mul_add, Int.mul_one] at this; exact this
  omega
theorem qf_two (x y up : Int) : qf x y up = x * 2 ^ up.toNat / 2 ^ (-up).toNat / y := by
  unfold qf
  rw [Int.mul_comm y, Int.ediv_ediv_of_nonneg (Int.le_of_lt (p2pos _))]
theorem qg_two (x y up : Int) (hy : 0 < y) : qg x y up = (decide (x * 2 ^ up.toNat / 2 ^ (-up).toNat % y ≠ 0) || decide (x * 2 ^ up.toNat % 2 ^ (-up).toNat ≠ 0)) := by
  unfold qg
  rw [Int.mul_comm y, mod_splitG (p2pos _) hy]
  exact dec_or (p2pos _) (Int.emod_nonneg _ (by omega)) (Int.emod_nonneg _ (by have := p2pos (-up).toNat; omega))
theorem xtop {x up : Int} {La : Nat} (hx : Bits x La) (k : Nat) (h : (La : Int) + up ≤ k) : x * 2 ^ up.toNat / 2 ^ (-up).toNat < 2 ^ k := by
  refine Int.ediv_lt_of_lt_mul (p2pos _) ?_
  have h2 := (hx.up up.toNat).lt
  rw [← Int.pow_add]
  have := p2le (show La + up.toNat ≤ k + (-up).toNat by omega)
  omega
theorem took_lt {X y T P q S YL K : Int} (hK : T * P = K) (hT : 0 < T) (hP : 1 ≤ P) (h1 : K * 4294967296 ≤ 2 * y) (h2 : X < P * (K * 4294967296)) (h3 : S + YL = y) (h4 : 0 ≤ YL) (h5 : YL < T) (h6 : q * S ≤ X) (h7 : 0 ≤ q) : q * YL < y := by
  have hTK : T ≤ K := by
    have := Int.mul_le_mul_of_nonneg_left hP (show 0 ≤ T by omega)
    omega
  have hKp : 0 < K * 4294967296 := by omega
  have a1 : K * 4294967296 ≤ 4 * S := by omega
  have a2 := Int.mul_le_mul_of_nonneg_left a1 h7
  have a3 : q * (4 * S) = 4 * (q * S) := by grind
  have a4 : 4 * P * (K * 4294967296) = 4 * (P * (K * 4294967296)) := by grind
  have a5 : q * (K * 4294967296) < 4 * P * (K * 4294967296) := by omega
  have a6 : q < 4 * P := Int.lt_of_mul_lt_mul_right a5 (by omega)
  have a7 := Int.mul_le_mul_of_nonneg_left (Int.le_of_lt h5) h7
  have a8 := Int.mul_le_mul_of_nonneg_right (Int.le_of_lt a6) (show 0 ≤ T by omega)
  have a9 : 4 * P * T = 4 * K := by rw [← hK]; grind
  omega
theorem whole_math {X y T q r XH XL YH YL : Int} (hy : 0 < y) (e1 : T * XH + XL = X) (e2 : T * YH + YL = y) (hq : XH = q * YH + r) (hr : r < YH) (hr0 : 0 ≤ r) (hXL : 0 ≤ XL) (hXT : XL < T) (hYL : 0 ≤ YL) (hq0 : 0 ≤ q) (ht : q * YL < y) :
    r * T + XL < y ∧ (r * T + XL < q * YL → X / y = q - 1 ∧ X % y ≠ 0) ∧ (q * YL ≤ r * T + XL → X / y = q ∧ X % y = r * T + XL - q * YL) := by
  have hT : 0 < T := by omega
  have b1 : (r + 1) * T ≤ YH * T := Int.mul_le_mul_of_nonneg_right (by omega) (by omega)
  have b2 : (r + 1) * T = r * T + T := by grind
  have b3 : YH * T = T * YH := Int.mul_comm _ _
  have b4 : r * T + XL < y := by omega
  have b5 : X = q * y + (r * T + XL - q * YL) := by rw [← e1, ← e2, hq]; grind
  have b6 : 0 ≤ r * T := Int.mul_nonneg hr0 (by omega)
  refine ⟨b4, fun h => ?_, fun h => ?_⟩
  · have e : X = (y + (r * T + XL - q * YL)) + y * (q - 1) := by rw [b5]; grind
    have u1 : 0 < y + (r * T + XL - q * YL) := by omega
    have u2 : y + (r * T + XL - q * YL) < y := by omega
    generalize y + (r * T + XL - q * YL) = u at *
    refine ⟨?_, ?_⟩
    · rw [e, Int.add_mul_ediv_left _ _ (by omega), Int.ediv_eq_zero_of_lt (by omega) u2]; omega
    · rw [e, Int.add_mul_emod_self_left, Int.emod_eq_of_lt (by omega) u2]; omega
  · have e : X = (r * T + XL - q * YL) + y * q := by rw [b5]; grind
    have u1 : 0 ≤ r * T + XL - q * YL := by omega
    have u2 : r * T + XL - q * YL < y := by
      have := Int.mul_nonneg hq0 hYL
      omega
    generalize r * T + XL - q * YL = u at *
    refine ⟨?_, ?_⟩
    · rw [e, Int.add_mul_ediv_left _ _ (by omega), Int.ediv_eq_zero_of_lt u1 u2]; omega
    · rw [e, Int.add_mul_emod_self_left, Int.emod_eq_of_lt u1 u2]
theorem quoG (a b : Option Addr) (ca cb : Nat) (za zb : List Int) (w : World) {x y : Int} (ha : Lie w a za) (hb : Lie w b zb) (ga : Good za x) (gb : Good zb y) (hy : 0 < y) :
    Calls Tryz.prog 133 #[.slice a za.length ca, .slice b zb.length cb] w fun e w' => ∃ zq zr aq cq ar cr, e = .returned (.tuple #[.slice aq (List.length zq) cq, .slice ar (List.length zr) cr, .int .i64 0]) ∧ Good zq (x / y) ∧ Good zr (x % y) ∧ Lie w' aq zq ∧ Lie w' ar zr ∧ Below w.heap.size w w' := by
  refine (quo27 a b ca cb za zb w ha hb ga.can.1 gb.can.1 ga.may gb.may (gb.ne hy)).mono ?_
  rintro e w' ⟨zq, zr, aq, cq, ar, cr, rfl, h1, h2, h3, h4, h5, h6, h7⟩
  rw [ga.val, gb.val] at h5
  rw [gb.val] at h6
  have n1 := (Nt.val_bd h3.1).1
  have n2 := (Nt.val_bd h4.1).1
  have e1 : x / y = Nt.val zq := by
    rw [h5, Int.add_comm, Int.add_mul_ediv_right _ _ (by omega), Int.ediv_eq_zero_of_lt n2 h6]; omega
  have e2 : x % y = Nt.val zr := by
    rw [h5, Int.add_comm, Int.add_mul_emod_self_right, Int.emod_eq_of_lt n2 h6]
  have l1 := ga.lt.2
  have l2 := gb.lt.2
  have k1 : Nt.val zq ≤ x := by rw [← e1]; exact Int.ediv_le_self _ ga.nonneg
  obtain ⟨a1, c1, he, _, _, m1⟩ := h1.lie
  simp only [Value.slice.injEq, true_and] at he
  obtain ⟨rfl, rfl⟩ := he
  obtain ⟨a2, c2, he, _, _, m2⟩ := h2.lie
  simp only [Value.slice.injEq, true_and] at he
  obtain ⟨rfl, rfl⟩ := he
  exact ⟨zq, zr, aq, cq, ar, cr, rfl, ⟨h3, (Nt.can_len h3 4096).1 (lim_le l1 k1), e1.symm⟩, ⟨h4, (Nt.can_len h4 4096).1 (lim_le l2 (Int.le_of_lt h6)), e2.symm⟩, m1, m2, h7⟩
theorem parts_zero (y : Int) : y * 2 ^ (0 : Int).toNat / 2 ^ (-(0 : Int)).toNat = y := by
  rw [show (0 : Int).toNat = 0 from rfl, show (-(0 : Int)).toNat = 0 from rfl, Int.pow_zero, Int.mul_one, Int.ediv_one]
theorem partedC (a : Option Addr) (ca : Nat) (za : List Int) (w : World) {x : Int} (ha : Lie w a za) (ga : Good za x) (hT : Tab w) (up : Int) (o : Nat) (hu : -1000000 ≤ up) (hu2 : up ≤ 1000000) (ho : o ≤ 131072) (hf : ∀ m : Nat, up - (o : Int) = (m : Int) → x * 2 ^ m < 4294967296 ^ 4096) :
    Calls Tryz.prog 132 #[.slice a za.length ca, .int .i64 up, .int .i64 o] w fun e w' => Parts w w' x up o e := by
  by_cases h : up < (o : Int)
  · exact parted_down a ca za w ha ga hT up o h hu ho
  · have hm : up - (o : Int) = ((up - (o : Int)).toNat : Int) := by omega
    exact parted_up a ca za w ha ga up o _ hm (by omega) hu2 (hf _ hm)
def WQuo (w w' : World) (Q : Int) (g : Bool) (e : Ending) : Prop :=
  ∃ zq aq cq, e = .returned (.tuple #[.slice aq (List.length zq) cq, .bool g]) ∧ Good zq Q ∧ Lie w' aq zq ∧ Below w.heap.size w w'
theorem wholeQuoC (a b : Option Addr) (ca cb : Nat) (za zb : List Int) (w : World) {x y : Int} (ha : Lie w a za) (hb : Lie w b zb) (ga : Good za x) (gb : Good zb y) (hT : Tab w) (hx : 0 < x) (hy : 0 < y) {La Lb : Nat} (bx : Bits x La) (bY : Bits y Lb) (hLa : La ≤ 131072) (hLb : Lb ≤ 131072) (bits : Int) (hb1 : 1 ≤ bits) (hb2 : bits ≤ 8192) (up : Int) (hup : up = bits + Lb - La) :
    Calls Tryz.prog 120 #[.slice a za.length ca, .slice b zb.length cb, .int .i64 up, .int .i64 bits] w fun e w' => WQuo w w' (qf x y up) (qg x y up) e := by
  obtain ⟨o, ho⟩ : ∃ o : Nat, max ((Lb : Int) - bits - 32) 0 = (o : Int) := ⟨(max ((Lb : Int) - bits - 32) 0).toNat, by omega⟩
  obtain ⟨n, hn⟩ : ∃ n : Nat, bits = (n : Int) := ⟨bits.toNat, by omega⟩
  have hTp := p2pos o
  have ho2 : o ≤ 131072 := by omega
  have HL := Hide.mk (lenN b cb zb w hb gb)
  have HB := Hide.mk (show BitLen y Lb from .inr ⟨hy, bY⟩)
  have HO := Hide.mk ho
  have H1 := Hide.mk (partedC a ca za w ha ga hT up o (by omega) (by omega) ho2 (fun m hm => by
    rw [pw32]
    have h1 := (bx.up m).lt
    have h2 := p2le (show La + m ≤ 131072 by omega)
    omega))
  have H2 := fun W (h : Below w.heap.size w W) => Hide.mk (partedC b cb zb W (hb.below h (Nat.le_refl _)) gb (hT.below h (Nat.le_refl _)) 0 o (by omega) (by omega) ho2 (fun m hm => by
    rw [pw32]
    have h1 := bY.lt
    have h2 := p2le (show Lb ≤ 131072 by omega)
    rw [show m = 0 by omega, Int.pow_zero, Int.mul_one]
    omega))
  generalize hX : x * 2 ^ up.toNat / 2 ^ (-up).toNat = X at *
  have hX0 : 0 ≤ X := by rw [← hX]; exact Int.ediv_nonneg (Int.mul_nonneg (by omega) (Int.le_of_lt (p2pos _))) (Int.le_of_lt (p2pos _))
  have hYH : 0 < y / 2 ^ o := by
    have h1 : (1 : Int) ≤ y / 2 ^ o := by
      rw [Int.le_ediv_iff_mul_le hTp, Int.one_mul]
      have := bY.le
      by_cases h0 : o = 0
      · rw [h0, Int.pow_zero]; omega
      · have := p2le (show o + 1 ≤ Lb by omega)
        rw [Int.pow_succ] at this
        omega
    omega
  have hXH0 : 0 ≤ X / 2 ^ o := Int.ediv_nonneg hX0 (by omega)
  have f1 := Int.mul_ediv_add_emod X (2 ^ o)
  have f2 := Int.mul_ediv_add_emod y (2 ^ o)
  have f3 := Int.emod_nonneg X (show (2 : Int) ^ o ≠ 0 by omega)
  have f4 := Int.emod_lt_of_pos X hTp
  have f5 := Int.emod_nonneg y (show (2 : Int) ^ o ≠ 0 by omega)
  have f6 := Int.emod_lt_of_pos y hTp
  have f7 := Int.mul_ediv_add_emod (X / 2 ^ o) (y / 2 ^ o)
  have f8 := Int.emod_nonneg (X / 2 ^ o) (show y / 2 ^ o ≠ 0 by omega)
  have f9 := Int.emod_lt_of_pos (X / 2 ^ o) hYH
  have f10 := Int.ediv_nonneg hXH0 (Int.le_of_lt hYH)
  have ht : X / 2 ^ o / (y / 2 ^ o) * (y % 2 ^ o) < y := by
    by_cases h0 : o = 0
    · subst h0
      rw [Int.pow_zero, Int.emod_one, Int.mul_zero]; exact hy
    · have hLo : Lb = o + n + 32 := by omega
      have h1 := bY.le
      have h2 := xtop bx (n + Lb) (show (La : Int) + up ≤ (n + Lb : Nat) by omega)
      rw [hX] at h2
      rw [hLo, show n + (o + n + 32) = n + (o + n + 32) from rfl, Int.pow_add 2 n, Int.pow_add 2 (o + n), Int.pow_add 2 o] at h2
      rw [hLo, Int.pow_add 2 (o + n), Int.pow_add 2 o] at h1
      refine took_lt (S := 2 ^ o * (y / 2 ^ o)) (T := 2 ^ o) (P := 2 ^ n) rfl hTp (by have := p2pos n; omega) h1 h2 f2 f5 f6 ?_ f10
      have g1 : X / 2 ^ o / (y / 2 ^ o) * (2 ^ o * (y / 2 ^ o)) = 2 ^ o * (y / 2 ^ o * (X / 2 ^ o / (y / 2 ^ o))) := by grind
      rw [g1]
      have g2 := Int.mul_le_mul_of_nonneg_left (show y / 2 ^ o * (X / 2 ^ o / (y / 2 ^ o)) ≤ X / 2 ^ o by omega) (show (0 : Int) ≤ 2 ^ o by omega)
      omega
  have WM := whole_math hy f1 f2 (show X / 2 ^ o = X / 2 ^ o / (y / 2 ^ o) * (y / 2 ^ o) + X / 2 ^ o % (y / 2 ^ o) by rw [Int.mul_comm (X / 2 ^ o / (y / 2 ^ o))]; omega) f9 f8 f3 f4 f5 f10 ht
  have e1 := qf_two x y up
  have e2 := qg_two x y up hy
  rw [hX] at e1 e2
  have hlim := gb.lt.2
  generalize hlost : decide (x * 2 ^ up.toNat % 2 ^ (-up).toNat ≠ 0) = lost at *
  generalize hq : X / 2 ^ o / (y / 2 ^ o) = q at *
  generalize hr : X / 2 ^ o % (y / 2 ^ o) = r at *
  have c0 : 0 ≤ r * 2 ^ o := Int.mul_nonneg f8 (by omega)
  have H3 := fun W A C Z B D Y (l1 : Lie W A Z) (l2 : Lie W B Y) (g1 : Good Z (X / 2 ^ o)) (g2 : Good Y (y / 2 ^ o)) => Hide.mk (quoG A B C D Z Y W l1 l2 g1 g2 hYH)
  rw [hq, hr] at H3
  have H4 := fun W A C Z (l : Lie W A Z) (g : Good Z r) => Hide.mk (shiftedU A C Z W l g (o : Int) o rfl (lim_le hlim (by have := WM.1; omega)))
  have H5 := fun W A C Z B D Y (l1 : Lie W A Z) (l2 : Lie W B Y) (g1 : Good Z (r * 2 ^ o)) (g2 : Good Y (X % 2 ^ o)) => Hide.mk (plus110 A B C D Z Y W l1 l2 g1 g2 (lim_le hlim (Int.le_of_lt WM.1)))
  have H6 := fun W A C Z B D Y (l1 : Lie W A Z) (l2 : Lie W B Y) (g1 : Good Z q) (g2 : Good Y (y % 2 ^ o)) => Hide.mk (mul_fit A B C D Z Y W l1 l2 g1 g2 ⟨Int.mul_nonneg f10 f5, lim_le hlim (Int.le_of_lt ht)⟩)
  have H7 := fun s (hs : sgn (r * 2 ^ o + X % 2 ^ o) (q * (y % 2 ^ o)) = s) W A C Z B D Y (l1 : Lie W A Z) (l2 : Lie W B Y) (g1 : Good Z (r * 2 ^ o + X % 2 ^ o)) (g2 : Good Y (q * (y % 2 ^ o))) => Hide.mk (cmpM126 A B C D Z Y W l1 l2 g1 g2 s hs)
  have H8 := fun W => Hide.mk (of16 1 (by decide) (by decide) W)
  have H9 := fun (h : 1 ≤ q) W A C Z B D Y (l1 : Lie W A Z) (l2 : Lie W B Y) (g1 : Good Z q) (g2 : Good Y 1) => Hide.mk (less132 A B C D Z Y W l1 l2 g1 g2 h)
  have hq1 : r * 2 ^ o + X % 2 ^ o < q * (y % 2 ^ o) → 1 ≤ q := fun h => by
    refine Classical.byContradiction fun c => ?_
    rw [show q = 0 by omega, Int.zero_mul] at h
    omega
  have WN := Hide.mk WM.2
  have HE := Hide.mk (And.intro e1 e2)
  have HX := Hide.mk hX
  have HY := parts_zero y
  clear WM e1 e2 hX ht f1 f2 f3 f4 f5 f6 f7 f8 f9 f10 hXH0 hYH hX0 hlim c0 ho hn hup ha bx bY hTp hq hr
  generalize hYL : y % 2 ^ o = YL at *
  generalize hXL : X % 2 ^ o = XL at *
  generalize hYH : y / 2 ^ o = YH at *
  generalize hXH : X / 2 ^ o = XH at *
  go_enter Tryz.func120, Tryz.ntmps120
  go_wp2_with fail
  refine HL.out.mono ?_
  rintro e w1 ⟨rfl, B1, rfl, hB1, hB2⟩
  obtain rfl := hB1.unique HB.out
  clear HL hB1 HB
  go_wp2_with fail
  rw [HO.out]
  refine H1.out.mono ?_
  rintro e w1 ⟨z1, a1, c1, y1, b1, d1, rfl, g1, k1, l1, m1, h1⟩
  rw [HX.out] at g1 k1
  rw [hXH] at g1
  rw [hXL] at k1
  rw [hlost]
  clear H1
  go_wp2_with fail
  try rw [HO.out]
  refine (H2 _ h1).out.mono ?_
  rintro e w2 ⟨z2, a2, c2, y2, b2, d2, rfl, g2, k2, l2, m2, h2⟩
  rw [HY] at g2 k2
  rw [hYH] at g2
  rw [hYL] at k2
  replace l1 := l1.below h2 (Nat.le_refl _)
  replace m1 := m1.below h2 (Nat.le_refl _)
  replace h1 := below_then h1 h2
  clear H2 h2
  go_wp2_with fail
  refine (H3 _ _ _ _ _ _ _ l1 l2 g1 g2).out.mono ?_
  rintro e w3 ⟨z3, y3, a3, c3, b3, d3, rfl, g3, k3, l3, m3, h3⟩
  replace m1 := m1.below h3 (Nat.le_refl _)
  replace m2 := m2.below h3 (Nat.le_refl _)
  replace h1 := below_then h1 h3
  clear H3 h3 l1 l2 g1 g2
  go_wp2_with fail
  try rw [HO.out]
  refine (H4 _ _ _ _ m3 k3).out.mono ?_
  rintro e w4 ⟨z4, a4, c4, rfl, h4, _⟩
  have g4 := h4.good
  have l4 := h4.lie
  replace m1 := m1.below h4.bel (Nat.le_refl _)
  replace m2 := m2.below h4.bel (Nat.le_refl _)
  replace l3 := l3.below h4.bel (Nat.le_refl _)
  replace h1 := below_then h1 h4.bel
  clear H4 h4 m3 k3
  go_wp2_with fail
  refine (H5 _ _ _ _ _ _ _ l4 m1 g4 k1).out.mono ?_
  rintro e w5 ⟨z5, a5, c5, rfl, h5, _⟩
  have g5 := h5.good
  have l5 := h5.lie
  replace m2 := m2.below h5.bel (Nat.le_refl _)
  replace l3 := l3.below h5.bel (Nat.le_refl _)
  replace h1 := below_then h1 h5.bel
  clear H5 h5 l4 g4 m1 k1
  go_wp2_with fail
  refine (H6 _ _ _ _ _ _ _ l3 m2 g3 k2).out.mono ?_
  rintro e w6 ⟨z6, a6, c6, rfl, h6, _⟩
  have g6 := h6.good
  have l6 := h6.lie
  replace l5 := l5.below h6.bel (Nat.le_refl _)
  replace l3 := l3.below h6.bel (Nat.le_refl _)
  replace h1 := below_then h1 h6.bel
  clear H6 h6 m2 k2
  go_wp2_with fail
  by_cases hlt : r * 2 ^ o + XL < q * YL
  · have hq1' := hq1 hlt
    have E := WN.out.1 hlt
    refine (H7 (-1) (sgn_lt hlt) _ _ _ _ _ _ _ l5 l6 g5 g6).out.mono ?_
    rintro e w7 ⟨rfl, h7⟩
    replace l3 := l3.below h7 (Nat.le_refl _)
    replace h1 := below_then h1 h7
    clear H7 h7 hlt
    go_wp2_with fail
    refine (H8 _).out.mono ?_
    rintro e w8 ⟨z8, a8, c8, rfl, h8, _⟩
    have g8 := h8.good
    have l8 := h8.lie
    replace l3 := l3.below h8.bel (Nat.le_refl _)
    replace h1 := below_then h1 h8.bel
    clear h8 H8
    go_wp2_with fail
    refine (H9 hq1' _ _ _ _ _ _ _ l3 l8 g3 g8).out.mono ?_
    rintro e w9 ⟨z9, a9, c9, rfl, h9, _⟩
    have g9 := h9.good
    have l9 := h9.lie
    replace h1 := below_then h1 h9.bel
    clear h9 H9
    go_wp2
    go_ret2
    refine ⟨z9, a9, c9, ?_, by rw [HE.out.1, E.1]; exact g9, l9, h1⟩
    rw [HE.out.2, decide_eq_true E.2]; rfl
  · have E := WN.out.2 (Int.not_lt.1 hlt)
    by_cases heq : r * 2 ^ o + XL = q * YL
    · have hz : X % y = 0 := by rw [E.2]; omega
      have eg : qg x y up = lost := by rw [HE.out.2, hz]; simp
      have HG := Hide.mk (And.intro (HE.out.1.trans E.1) eg)
      refine (H7 0 (sgn_eq heq) _ _ _ _ _ _ _ l5 l6 g5 g6).out.mono ?_
      rintro e w7 ⟨rfl, h7⟩
      replace l3 := l3.below h7 (Nat.le_refl _)
      replace l5 := l5.below h7 (Nat.le_refl _)
      replace l6 := l6.below h7 (Nat.le_refl _)
      replace h1 := below_then h1 h7
      have H := (H7 0 (sgn_eq heq) _ _ c5 _ _ c6 _ l5 l6 g5 g6)
      clear H7 h7 hlt heq E hz eg
      cases lost
      · go_wp2_with fail
        refine H.out.mono ?_
        rintro e w8 ⟨rfl, h8⟩
        replace l3 := l3.below h8 (Nat.le_refl _)
        replace h1 := below_then h1 h8
        go_wp2
        go_ret2
        exact ⟨z3, a3, c3, by rw [HG.out.2]; rfl, by rw [HG.out.1]; exact g3, l3, h1⟩
      · go_wp2
        go_ret2
        exact ⟨z3, a3, c3, by rw [HG.out.2]; rfl, by rw [HG.out.1]; exact g3, l3, h1⟩
    · have hz : X % y ≠ 0 := by rw [E.2]; omega
      have eg : qg x y up = true := by rw [HE.out.2, decide_eq_true hz]; rfl
      have HG := Hide.mk (And.intro (HE.out.1.trans E.1) eg)
      have hgt : q * YL < r * 2 ^ o + XL := by omega
      refine (H7 1 (sgn_gt2 hgt) _ _ _ _ _ _ _ l5 l6 g5 g6).out.mono ?_
      rintro e w7 ⟨rfl, h7⟩
      replace l3 := l3.below h7 (Nat.le_refl _)
      replace l5 := l5.below h7 (Nat.le_refl _)
      replace l6 := l6.below h7 (Nat.le_refl _)
      replace h1 := below_then h1 h7
      have H := (H7 1 (sgn_gt2 hgt) _ _ c5 _ _ c6 _ l5 l6 g5 g6)
      clear H7 h7 hlt heq E hz eg hgt
      cases lost
      · go_wp2_with fail
        refine H.out.mono ?_
        rintro e w8 ⟨rfl, h8⟩
        replace l3 := l3.below h8 (Nat.le_refl _)
        replace h1 := below_then h1 h8
        go_wp2
        go_ret2
        exact ⟨z3, a3, c3, by rw [HG.out.2]; rfl, by rw [HG.out.1]; exact g3, l3, h1⟩
      · go_wp2
        go_ret2
        exact ⟨z3, a3, c3, by rw [HG.out.2]; rfl, by rw [HG.out.1]; exact g3, l3, h1⟩

theorem refDownBig (a : Option Addr) (ca : Nat) (za : List Int) (w : World) {x : Int} (ha : Lie w a za) (ga : Good za x) (M : Int) (hM : 131072 ≤ M) (hM2 : M ≤ 9000000000) (hz : 0 < (za.length : Int)) :
    Calls Tryz.prog 104 #[.slice a za.length ca, .int .i64 M] w fun e w' => e = .returned (.tuple #[.slice none 0 0, .bool true]) ∧ w = w' := by
  have HL := Hide.mk (refLenN a ca za w ha ga)
  clear ha
  go_enter Tryz.func104, Tryz.ntmps104
  go_wp2_with fail
  refine HL.out.mono ?_
  rintro e w' ⟨rfl, B, rfl, _, hB⟩
  have hB2 : (B : Int) ≤ M := by omega
  clear HL hB
  go_wp2
  go_ret2
  refine ⟨?_, rfl⟩
  show Ending.returned (.tuple #[.slice none 0 0, .bool (decide (0 < za.length))]) = _
  rw [decide_eq_true (show 0 < za.length by omega)]
theorem refDownAny (a : Option Addr) (ca : Nat) (za : List Int) (w : World) {x : Int} (ha : Lie w a za) (ga : Good za x) (M : Int) (n : Nat) (hM : M = (n : Int)) (hn : n ≤ 9000000000) (q : Bool) (hq : decide (x % 2 ^ n ≠ 0) = q) :
    Calls Tryz.prog 104 #[.slice a za.length ca, .int .i64 M] w fun e w' => ∃ zs a' c, e = .returned (.tuple #[.slice a' zs.length c, .bool q]) ∧ IsNum w w' a' zs (x / 2 ^ n) := by
  by_cases hs : n ≤ 1000000
  · refine (refDownN a ca za w ha ga M n hM hs q hq).mono ?_
    rintro e w' ⟨zs, a', c, h1, h2, _⟩
    exact ⟨zs, a', c, h1, h2⟩
  · by_cases hz : 0 < za.length
    · refine (refDownBig a ca za w ha ga M (by omega) (by omega) (by omega)).mono ?_
      rintro e w' ⟨rfl, rfl⟩
      have h1 := ga.lt.2
      have h0 := ga.pos hz
      rw [pw32] at h1
      have h2 := p2mono (show 131072 ≤ n by omega)
      have h3 : x % 2 ^ n = x := Int.emod_eq_of_lt (by omega) (by omega)
      refine ⟨[], none, 0, ?_, isNum_nil _ (Int.ediv_eq_zero_of_lt (by omega) (by omega))⟩
      rw [← hq, h3, decide_eq_true (by omega : x ≠ 0)]
      rfl
    · obtain ⟨rfl, rfl⟩ := ga.nil (by omega)
      refine (refDown_nil a ca w _ (by omega)).mono ?_
      rintro e w' ⟨rfl, rfl⟩
      refine ⟨[], none, 0, ?_, isNum_nil _ (by simp)⟩
      rw [← hq]; simp
theorem rShiftX (n : Bool) (a : Option Addr) (c k : Nat) (ex cnt : Int) (hk : 0 < (k : Int)) (h1 : -100000000 ≤ ex + cnt) (h2 : ex + cnt ≤ 100000000) (w : World) :
    Calls Tryz.prog 90 #[dV n a k c ex, .int .i64 cnt] w fun e w' => e = .returned (dV n a k c (ex + cnt)) ∧ Below w.heap.size w w' := by
  have B1 := ((Bx.nil w).push (DO n a k c (ex + cnt))).push (DO n a k c (ex + cnt))
  go_enter Tryz.func90, Tryz.ntmps90
  go_wp2
  refine bodyPost_ret (results_D1 rfl _ _ (w.heap.size + 1) _ rfl ⟨by simpa using B1.head, rfl⟩) rfl ?_
  exact ⟨rfl, B1.bel⟩
theorem rShiftZ (n : Bool) (a : Option Addr) (c : Nat) (ex cnt : Int) (w : World) :
    Calls Tryz.prog 90 #[dV n a 0 c ex, .int .i64 cnt] w fun e w' => e = .returned (dV n a 0 c ex) ∧ Below w.heap.size w w' := by
  have B1 := ((Bx.nil w).push (DO n a 0 c ex)).push (DO n a 0 c ex)
  go_enter Tryz.func90, Tryz.ntmps90
  go_wp2
  refine bodyPost_ret (results_D1 rfl _ _ (w.heap.size + 1) _ rfl ⟨by simpa using B1.head, rfl⟩) rfl ?_
  exact ⟨rfl, B1.bel⟩

theorem cut_ask (n : Bool) (a : Option Addr) (c : Nat) (zs : List Int) (ex bits code : Int) (w W : World) {L : List (Nat × Obj)} {g : Nat} (u : DLie w a zs) (B : Bx w ((g, DO n a zs.length c ex) :: L) W) (hc : askB bits (dmayB n zs ex) = code) :
    Calls Tryz.prog 113 #[.int .i64 bits, .slice (some ⟨g, 0, none⟩) 1 1] W fun e w' => e = .returned (.int .i64 code) ∧ Below W.heap.size W w' := by
  subst hc
  refine ask1 bits g _ W (fun W2 h2 => ?_)
  have B2 := B.keep h2
  obtain ⟨⟨s0, s1, s2⟩, _⟩ := cells3 B2 g _ _ _ _ (.head _)
  exact dallMay1 g n a c zs ex W2 (u.below B2.bel) _ rfl s0 s1 s2
theorem cut_good (n : Bool) (a : Option Addr) (c : Nat) (zs : List Int) (ex bits : Int) (w : World) (hl : Lie w a zs) (g : DG n zs ex) (hT : Tab w) (hb1 : 1 ≤ bits) (hb2 : bits ≤ 8192) {B : Nat} (hB : BitLen (Nt.val zs) B) (hB2 : B ≤ 131072) (d : Nat) (hd : max ((B : Int) - bits) 0 = (d : Int)) :
    Calls Tryz.prog 80 #[dV n a zs.length c ex, .int .i64 bits] w fun e w' => DCut w w' (sv n (Nt.val zs / 2 ^ d)) (ex + d) (decide (Nt.val zs % 2 ^ d ≠ 0) || false) e := by
  have B1 := (((Bx.nil w).push (DO n a zs.length c ex)).push (DO false none 0 0 0)).push (DO n a zs.length c ex)
  rw [show ((w.alloc (DO n a zs.length c ex)).alloc (DO false none 0 0 0)).heap.size = w.heap.size + 1 + 1 by simp, show (w.alloc (DO n a zs.length c ex)).heap.size = w.heap.size + 1 by simp] at B1
  have H := Hide.mk (cut_ask n a c zs ex bits 0 w _ (g.lie hl) B1 (by rw [g.may]; unfold askB; rw [if_neg (by simp; omega), if_neg (by omega)]))
  have HC := fun W (h : Below w.heap.size w W) => Hide.mk (cutC n a c zs ex bits false W (hl.below h (Nat.le_refl _)) g.good (hT.below h (Nat.le_refl _)) hb1 hb2 (by have := g.ex_bd; omega) (by have := g.ex_bd; omega) hB hB2 d hd)
  clear hd hB hl hT
  go_enter Tryz.func80, Tryz.ntmps80
  go_wp2_with fail
  refine H.out.mono ?_
  rintro e w2 ⟨rfl, h2⟩
  have B2 := B1.keep h2
  clear h2 B1 H
  obtain ⟨⟨s0, s1, s2⟩, _⟩ := cells3 B2 w.heap.size _ _ _ _ (.tail _ (.tail _ (.head _)))
  go_wp2_with fail
  refine (HC _ B2.bel).out.mono ?_
  rintro e w4 ⟨n4, a4, k4, c4, x4, code, lost, rfl, h4, h5, h6⟩
  have B4 := (B2.keep h4.bel).sub (L' := [(w.heap.size + 1, DO false none 0 0 0)]) (by simp)
  have hlt : w.heap.size + 1 < w2.heap.size := B2.lt (.tail _ (.head _))
  have V := Hide.mk (And.intro h4 (And.intro h5 h6))
  clear h4 h5 h6 s0 s1 s2 HC
  obtain ⟨⟨t0, t1, t2⟩, u0, u1, u2⟩ := cells3 B4 (w.heap.size + 1) _ _ _ _ (.head _)
  go_wp2
  refine bodyPost_ret (results_D3 rfl _ _ (w.heap.size + 1) _ rfl ⟨(B4.fill3 (by omega) (by simp) _ _ _).head, rfl⟩) rfl ?_
  exact ⟨n4, a4, k4, c4, x4, code, lost, rfl, V.out.1.back B2.bel (by omega) hlt _ _ _, V.out.2.1, V.out.2.2⟩
end Go.Proofs.YtdnghibkagcbcaaGreatDoor
