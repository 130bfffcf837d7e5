import Derived.Test.YtgfpbmjknknflaaRankOrdersPart6
import Derived.Test.YtgfpbmjknknflaaRankOrdersPart5
namespace Go.Proofs.Ytgfpbmjknknflaa
open Go.RowKit Go.Wd Go.Box
set_option linter.unusedVariables false
set_option maxRecDepth 3000
theorem fm_sgn {s E : Int} {n : Bool} {zs : List Int} {ex : Int} (h : Fm s E n zs ex) : SgnOf n zs.length (sgn s 0) := by
  rcases h with ⟨rfl, rfl, rfl, rfl⟩ | ⟨h0, t, ht, rfl, rfl, hc, hv⟩
  · exact .inl ⟨rfl, rfl⟩
  · have hz : 0 < zs.length := by
      by_cases c : zs.length = 0
      · obtain rfl := List.length_eq_zero_iff.1 c
        rw [Nt.val_nil] at hv
        have := ht.one
        rw [← hv] at this
        simp at this
      · omega
    by_cases c : s < 0
    · refine .inr (.inr ⟨hz, decide_eq_true c, ?_⟩)
      unfold sgn
      rw [if_pos c]
    · refine .inr (.inl ⟨hz, decide_eq_false c, ?_⟩)
      unfold sgn
      rw [if_neg c, if_pos (by omega)]
set_option maxHeartbeats 2000000 in
theorem cmpX_eqp (n1 n2 : Bool) (a1 a2 : Option Addr) (c1 c2 : Nat) (z1 z2 : List Int) (e1 e2 : Int) (w : World) (h1 : SgnOf n1 z1.length 1) (h2 : SgnOf n2 z2.length 1) (l1 : Lie w a1 z1) (l2 : Lie w a2 z2) (g1 : DG n1 z1 e1) (g2 : DG n2 z2 e2) (hz1 : 0 < z1.length) (hz2 : 0 < z2.length) {T1 T2 : Nat} (hT1 : BitLen (Nt.val z1) T1) (hT2 : BitLen (Nt.val z2) T2) (ht : e1 + T1 = e2 + T2) (k1 k2 : Nat) (hk1 : k1 ≤ 150000) (hk2 : k2 ≤ 150000) (hh1 : e1 - min e1 e2 = k1) (hh2 : e2 - min e1 e2 = k2) (v : Int) (hv : sgn (sv n1 (Nt.val z1 * 2 ^ k1) + sv (!n2) (Nt.val z2 * 2 ^ k2)) 0 = v) :
    Calls Try.prog 38 #[dV n1 a1 z1.length c1 e1, dV n2 a2 z2.length c2 e2] w fun e w' => e = .returned (.int .i64 v) ∧ Below w.heap.size w w' := by
  have H1 := Hide.mk hT1
  have H2 := Hide.mk hT2
  have HV := Hide.mk hv
  have HK := Hide.mk (And.intro hh1 hh2)
  have x1 := g1.ex_bd
  have x2 := g2.ex_bd
  clear hT1 hT2 hv hh1 hh2
  have B1 := ((Bx.nil w).push (DO n1 a1 z1.length c1 e1)).push (DO n2 a2 z2.length c2 e2)
  go_enter Try.func38, Try.ntmps38
  go_wp2_with fail
  rw [show (w.alloc (DO n1 a1 z1.length c1 e1)).heap.size = w.heap.size + 1 by simp] at B1
  generalize hw1 : (w.alloc (DO n1 a1 z1.length c1 e1)).alloc (DO n2 a2 z2.length c2 e2) = w1 at *
  clear hw1
  have HI := B1.drew
  have sh := fun W (hW : Bx w [(w.heap.size + 1, DO n2 a2 z2.length c2 e2), (w.heap.size, DO n1 a1 z1.length c1 e1)] W) => And.intro (cells3 hW (w.heap.size + 1) _ _ _ _ (.head _)).1 (cells3 hW w.heap.size _ _ _ _ (.tail _ (.head _))).1
  refine Drawn.enter (Bx w [(w.heap.size + 1, DO n2 a2 z2.length c2 e2), (w.heap.size, DO n1 a1 z1.length c1 e1)]) (by kernel_rfl) ?_
  refine Drawn.tk (i := 0) (v := ?v129) rfl (fun W hW => ?_) HI ?_
  rotate_left
  · have ⟨⟨s0, s1, s2⟩, q0, q3, q4⟩ := sh W hW
    go_simp <;> exact rfl
  refine Drawn.tk (i := 2) (v := ?v130) rfl (fun W hW => ?_) HI ?_
  rotate_left
  · have ⟨⟨s0, s1, s2⟩, q0, q3, q4⟩ := sh W hW
    go_simp <;> exact rfl
  refine Drawn.one (j := 1) (by kernel_rfl) rfl (fun K hK => ?_)
  go_simp
  refine (rSgnAny n1 a1 c1 z1.length e1 1 h1 _).mono ?_
  rintro e wn ⟨rfl, hn⟩
  refine hK _ _ (HI.keep hn) ?_
  clear hK K
  replace HI := HI.keep hn
  clear hn
  refine Drawn.one (j := 3) (by kernel_rfl) rfl (fun K hK => ?_)
  go_simp
  refine (rSgnAny n2 a2 c2 z2.length e2 1 h2 _).mono ?_
  rintro e wn ⟨rfl, hn⟩
  refine hK _ _ (HI.keep hn) ?_
  clear hK K
  replace HI := HI.keep hn
  clear hn
  refine Drawn.tk (i := 4) (v := ?v131) rfl (fun W hW => ?_) HI ?_
  rotate_left
  · have ⟨⟨s0, s1, s2⟩, q0, q3, q4⟩ := sh W hW
    go_simp <;> exact rfl
  refine Drawn.tk (i := 5) (v := ?v132) rfl (fun W hW => ?_) HI ?_
  rotate_left
  · have ⟨⟨s0, s1, s2⟩, q0, q3, q4⟩ := sh W hW
    go_simp <;> exact rfl
  refine Drawn.done (by kernel_rfl) ?_
  try go_simp
  go_wp2_with fail
  replace HI := HI.drew
  refine Drawn.enter (Bx w [(w.heap.size + 1, DO n2 a2 z2.length c2 e2), (w.heap.size, DO n1 a1 z1.length c1 e1)]) (by kernel_rfl) ?_
  refine Drawn.tk (i := 0) (v := ?v133) rfl (fun W hW => ?_) HI ?_
  rotate_left
  · have ⟨⟨s0, s1, s2⟩, q0, q3, q4⟩ := sh W hW
    go_simp <;> exact rfl
  refine Drawn.tk (i := 2) (v := ?v134) rfl (fun W hW => ?_) HI ?_
  rotate_left
  · have ⟨⟨s0, s1, s2⟩, q0, q3, q4⟩ := sh W hW
    go_simp <;> exact rfl
  refine Drawn.one (j := 1) (by kernel_rfl) rfl (fun K hK => ?_)
  go_simp
  refine (dreftop54 n1 a1 c1 z1 e1 _ (l1.below HI.bel (Nat.le_refl _)) g1 hz1).mono ?_
  rintro e w5 ⟨B5, rfl, hB5, hb5, h5⟩
  obtain rfl := hB5.unique H1.out
  refine hK _ _ (HI.keep h5) ?_
  clear hK K hB5
  replace HI := HI.keep h5
  clear h5
  refine Drawn.one (j := 3) (by kernel_rfl) rfl (fun K hK => ?_)
  go_simp
  refine (dreftop54 n2 a2 c2 z2 e2 _ (l2.below HI.bel (Nat.le_refl _)) g2 hz2).mono ?_
  rintro e w6 ⟨B6, rfl, hB6, hb6, h6⟩
  obtain rfl := hB6.unique H2.out
  refine hK _ _ (HI.keep h6) ?_
  clear hK K hB6
  replace HI := HI.keep h6
  clear h6
  refine Drawn.tk (i := 4) (v := .bool false) rfl (fun W hW => ?_) HI ?_
  · have ⟨⟨s0, s1, s2⟩, q0, q3, q4⟩ := sh W hW
    go_simp <;> (first | omega | (simp; omega))
  refine Drawn.done (by kernel_rfl) ?_
  try go_simp
  obtain ⟨⟨s0, s1, s2⟩, q0, q3, q4⟩ := sh _ HI
  clear sh
  go_wp2_with fail
  have hlen1 := g1.len
  have hlen2 := g2.len
  refine (subX n1 n2 a1 a2 c1 c2 z1 z2 e1 e2 _ (l1.below HI.bel (Nat.le_refl _)) (l2.below HI.bel (Nat.le_refl _)) g1.can g2.can (by omega) (by omega) hz1 hz2 (by omega) (by omega) (by omega) (by omega) k1 k2 hk1 hk2 HK.out.1 HK.out.2).mono ?_
  rintro e w9 ⟨n9, z9, x9, a9, c9, rfl, F9, l9, h9⟩
  replace HI := HI.keep h9
  have HS := fm_sgn F9
  rw [HV.out] at HS
  have HSS := fun W => Hide.mk (rSgnAny n9 a9 c9 z9.length x9 v HS W)
  clear h9 F9 l9 HS s0 s1 s2 q0 q3 q4
  go_wp2_with fail
  refine (HSS _).out.mono ?_
  rintro e w10 ⟨rfl, h10⟩
  replace HI := HI.keep h10
  clear h10 HSS
  go_wp2
  go_ret
  exact ⟨rfl, HI.bel⟩
set_option maxHeartbeats 2000000 in
theorem cmpX_eqn (n1 n2 : Bool) (a1 a2 : Option Addr) (c1 c2 : Nat) (z1 z2 : List Int) (e1 e2 : Int) (w : World) (h1 : SgnOf n1 z1.length (-1)) (h2 : SgnOf n2 z2.length (-1)) (l1 : Lie w a1 z1) (l2 : Lie w a2 z2) (g1 : DG n1 z1 e1) (g2 : DG n2 z2 e2) (hz1 : 0 < z1.length) (hz2 : 0 < z2.length) {T1 T2 : Nat} (hT1 : BitLen (Nt.val z1) T1) (hT2 : BitLen (Nt.val z2) T2) (ht : e1 + T1 = e2 + T2) (k1 k2 : Nat) (hk1 : k1 ≤ 150000) (hk2 : k2 ≤ 150000) (hh1 : e1 - min e1 e2 = k1) (hh2 : e2 - min e1 e2 = k2) (v : Int) (hv : sgn (sv n1 (Nt.val z1 * 2 ^ k1) + sv (!n2) (Nt.val z2 * 2 ^ k2)) 0 = v) :
    Calls Try.prog 38 #[dV n1 a1 z1.length c1 e1, dV n2 a2 z2.length c2 e2] w fun e w' => e = .returned (.int .i64 v) ∧ Below w.heap.size w w' := by
  have H1 := Hide.mk hT1
  have H2 := Hide.mk hT2
  have HV := Hide.mk hv
  have HK := Hide.mk (And.intro hh1 hh2)
  have x1 := g1.ex_bd
  have x2 := g2.ex_bd
  clear hT1 hT2 hv hh1 hh2
  have B1 := ((Bx.nil w).push (DO n1 a1 z1.length c1 e1)).push (DO n2 a2 z2.length c2 e2)
  go_enter Try.func38, Try.ntmps38
  go_wp2_with fail
  rw [show (w.alloc (DO n1 a1 z1.length c1 e1)).heap.size = w.heap.size + 1 by simp] at B1
  generalize hw1 : (w.alloc (DO n1 a1 z1.length c1 e1)).alloc (DO n2 a2 z2.length c2 e2) = w1 at *
  clear hw1
  have HI := B1.drew
  have sh := fun W (hW : Bx w [(w.heap.size + 1, DO n2 a2 z2.length c2 e2), (w.heap.size, DO n1 a1 z1.length c1 e1)] W) => And.intro (cells3 hW (w.heap.size + 1) _ _ _ _ (.head _)).1 (cells3 hW w.heap.size _ _ _ _ (.tail _ (.head _))).1
  refine Drawn.enter (Bx w [(w.heap.size + 1, DO n2 a2 z2.length c2 e2), (w.heap.size, DO n1 a1 z1.length c1 e1)]) (by kernel_rfl) ?_
  refine Drawn.tk (i := 0) (v := ?v135) rfl (fun W hW => ?_) HI ?_
  rotate_left
  · have ⟨⟨s0, s1, s2⟩, q0, q3, q4⟩ := sh W hW
    go_simp <;> exact rfl
  refine Drawn.tk (i := 2) (v := ?v136) rfl (fun W hW => ?_) HI ?_
  rotate_left
  · have ⟨⟨s0, s1, s2⟩, q0, q3, q4⟩ := sh W hW
    go_simp <;> exact rfl
  refine Drawn.one (j := 1) (by kernel_rfl) rfl (fun K hK => ?_)
  go_simp
  refine (rSgnAny n1 a1 c1 z1.length e1 (-1) h1 _).mono ?_
  rintro e wn ⟨rfl, hn⟩
  refine hK _ _ (HI.keep hn) ?_
  clear hK K
  replace HI := HI.keep hn
  clear hn
  refine Drawn.one (j := 3) (by kernel_rfl) rfl (fun K hK => ?_)
  go_simp
  refine (rSgnAny n2 a2 c2 z2.length e2 (-1) h2 _).mono ?_
  rintro e wn ⟨rfl, hn⟩
  refine hK _ _ (HI.keep hn) ?_
  clear hK K
  replace HI := HI.keep hn
  clear hn
  refine Drawn.tk (i := 4) (v := ?v137) rfl (fun W hW => ?_) HI ?_
  rotate_left
  · have ⟨⟨s0, s1, s2⟩, q0, q3, q4⟩ := sh W hW
    go_simp <;> exact rfl
  refine Drawn.tk (i := 5) (v := ?v138) rfl (fun W hW => ?_) HI ?_
  rotate_left
  · have ⟨⟨s0, s1, s2⟩, q0, q3, q4⟩ := sh W hW
    go_simp <;> exact rfl
  refine Drawn.done (by kernel_rfl) ?_
  try go_simp
  go_wp2_with fail
  replace HI := HI.drew
  refine Drawn.enter (Bx w [(w.heap.size + 1, DO n2 a2 z2.length c2 e2), (w.heap.size, DO n1 a1 z1.length c1 e1)]) (by kernel_rfl) ?_
  refine Drawn.tk (i := 0) (v := ?v139) rfl (fun W hW => ?_) HI ?_
  rotate_left
  · have ⟨⟨s0, s1, s2⟩, q0, q3, q4⟩ := sh W hW
    go_simp <;> exact rfl
  refine Drawn.tk (i := 2) (v := ?v140) rfl (fun W hW => ?_) HI ?_
  rotate_left
  · have ⟨⟨s0, s1, s2⟩, q0, q3, q4⟩ := sh W hW
    go_simp <;> exact rfl
  refine Drawn.one (j := 1) (by kernel_rfl) rfl (fun K hK => ?_)
  go_simp
  refine (dreftop54 n1 a1 c1 z1 e1 _ (l1.below HI.bel (Nat.le_refl _)) g1 hz1).mono ?_
  rintro e w5 ⟨B5, rfl, hB5, hb5, h5⟩
  obtain rfl := hB5.unique H1.out
  refine hK _ _ (HI.keep h5) ?_
  clear hK K hB5
  replace HI := HI.keep h5
  clear h5
  refine Drawn.one (j := 3) (by kernel_rfl) rfl (fun K hK => ?_)
  go_simp
  refine (dreftop54 n2 a2 c2 z2 e2 _ (l2.below HI.bel (Nat.le_refl _)) g2 hz2).mono ?_
  rintro e w6 ⟨B6, rfl, hB6, hb6, h6⟩
  obtain rfl := hB6.unique H2.out
  refine hK _ _ (HI.keep h6) ?_
  clear hK K hB6
  replace HI := HI.keep h6
  clear h6
  refine Drawn.tk (i := 4) (v := .bool false) rfl (fun W hW => ?_) HI ?_
  · have ⟨⟨s0, s1, s2⟩, q0, q3, q4⟩ := sh W hW
    go_simp <;> (first | omega | (simp; omega))
  refine Drawn.done (by kernel_rfl) ?_
  try go_simp
  obtain ⟨⟨s0, s1, s2⟩, q0, q3, q4⟩ := sh _ HI
  clear sh
  go_wp2_with fail
  have hlen1 := g1.len
  have hlen2 := g2.len
  refine (subX n1 n2 a1 a2 c1 c2 z1 z2 e1 e2 _ (l1.below HI.bel (Nat.le_refl _)) (l2.below HI.bel (Nat.le_refl _)) g1.can g2.can (by omega) (by omega) hz1 hz2 (by omega) (by omega) (by omega) (by omega) k1 k2 hk1 hk2 HK.out.1 HK.out.2).mono ?_
  rintro e w9 ⟨n9, z9, x9, a9, c9, rfl, F9, l9, h9⟩
  replace HI := HI.keep h9
  have HS := fm_sgn F9
  rw [HV.out] at HS
  have HSS := fun W => Hide.mk (rSgnAny n9 a9 c9 z9.length x9 v HS W)
  clear h9 F9 l9 HS s0 s1 s2 q0 q3 q4
  go_wp2_with fail
  refine (HSS _).out.mono ?_
  rintro e w10 ⟨rfl, h10⟩
  replace HI := HI.keep h10
  clear h10 HSS
  go_wp2
  go_ret
  exact ⟨rfl, HI.bel⟩
end Go.Proofs.Ytgfpbmjknknflaa

namespace Go.Proofs.Ytgfpbmjknknflaa
open Go.RowKit Go.Wd Go.Box
set_option linter.unusedVariables false
set_option maxRecDepth 3000
theorem sgn_is1 {x y : Int} (h : x < y) : sgn x y = -1 := by unfold sgn; rw [if_pos h]
theorem sgn_is2 {x y : Int} (h : y < x) : sgn x y = 1 := by unfold sgn; rw [if_neg (by omega), if_pos h]
theorem sgn_is0 {x y : Int} (h : x = y) : sgn x y = 0 := by unfold sgn; rw [if_neg (by omega), if_neg (by omega)]
theorem sgn_diff (x y : Int) : sgn (x + -y) 0 = sgn x y := by
  rcases Int.lt_trichotomy x y with h | h | h
  · rw [sgn_is1 h, sgn_is1 (by omega)]
  · rw [sgn_is0 h, sgn_is0 (by omega)]
  · rw [sgn_is2 h, sgn_is2 (by omega)]
theorem sgn_negs (x y : Int) : sgn (-x) (-y) = sgn y x := by
  rcases Int.lt_trichotomy x y with h | h | h
  · rw [sgn_is2 h, sgn_is2 (by omega)]
  · rw [sgn_is0 (show -x = -y by omega), sgn_is0 (by omega)]
  · rw [sgn_is1 h, sgn_is1 (by omega)]
theorem cls {n : Bool} {zs : List Int} {ex u : Int} (N : DN n zs ex u) :
    (SgnOf n zs.length 0 ∧ u = 0) ∨ (SgnOf n zs.length 1 ∧ 0 < u ∧ 0 < zs.length ∧ n = false) ∨ (SgnOf n zs.length (-1) ∧ u < 0 ∧ 0 < zs.length ∧ n = true) := by
  obtain ⟨d1, d2, d3⟩ := dv_sgn N
  by_cases hz : 0 < zs.length
  · cases n
    · exact .inr (.inl ⟨.inr (.inl ⟨hz, rfl, rfl⟩), d3 hz rfl, hz, rfl⟩)
    · exact .inr (.inr ⟨.inr (.inr ⟨hz, rfl, rfl⟩), d2 hz rfl, hz, rfl⟩)
  · exact .inl ⟨.inl ⟨by omega, rfl⟩, d1 (by omega)⟩
theorem top_ex {n : Bool} {zs : List Int} {ex : Int} (g : DG n zs ex) (hz : 0 < zs.length) : ∃ T : Nat, BitLen (Nt.val zs) T ∧ Bits (Nt.val zs) T ∧ T ≤ 131072 := by
  obtain ⟨T, hT⟩ := bitLen_ex g.good.nonneg
  have hp := g.pos hz
  rcases hT with ⟨h0, _⟩ | ⟨_, h9⟩
  · omega
  · have h10 : Nt.val zs < 4294967296 ^ 4096 := g.good.lt.2
    have := h9.fits (n := 0) (by rw [Int.pow_zero, Int.mul_one]; exact h10)
    exact ⟨T, .inr ⟨hp, h9⟩, h9, by omega⟩
/-- Cmp of the reference tells how the values stand to each other. -/
theorem cmpX (n1 n2 : Bool) (a1 a2 : Option Addr) (c1 c2 : Nat) (z1 z2 : List Int) (e1 e2 : Int) (w : World) {u v : Int} (l1 : Lie w a1 z1) (l2 : Lie w a2 z2) (N1 : DN n1 z1 e1 u) (N2 : DN n2 z2 e2 v) (s : Int) (hs : sgn u v = s) :
    Calls Try.prog 38 #[dV n1 a1 z1.length c1 e1, dV n2 a2 z2.length c2 e2] w fun e w' => e = .returned (.int .i64 s) ∧ Below w.heap.size w w' := by
  have g1 := N1.dg
  have g2 := N2.dg
  have x1 := g1.ex_bd
  have x2 := g2.ex_bd
  have hK := KK_eq
  subst hs
  rcases cls N1 with ⟨s1, q1⟩ | ⟨s1, q1, hz1, rfl⟩ | ⟨s1, q1, hz1, rfl⟩ <;> rcases cls N2 with ⟨s2, q2⟩ | ⟨s2, q2, hz2, rfl⟩ | ⟨s2, q2, hz2, rfl⟩
  · rw [sgn_is0 (by omega)]; exact cmpX_zero _ _ a1 a2 c1 c2 z1 z2 e1 e2 w s1 s2
  · rw [sgn_is1 (by omega)]; exact cmpX_less _ _ a1 a2 c1 c2 z1 z2 e1 e2 w _ _ s1 s2 (by decide)
  · rw [sgn_is2 (by omega)]; exact cmpX_more _ _ a1 a2 c1 c2 z1 z2 e1 e2 w _ _ s1 s2 (by decide)
  · rw [sgn_is2 (by omega)]; exact cmpX_more _ _ a1 a2 c1 c2 z1 z2 e1 e2 w _ _ s1 s2 (by decide)
  · obtain ⟨T1, t1, t1', b1⟩ := top_ex g1 hz1
    obtain ⟨T2, t2, t2', b2⟩ := top_ex g2 hz2
    have hu : u = Nt.val z1 * pK e1 := by rw [← N1.val]; rfl
    have hv : v = Nt.val z2 * pK e2 := by rw [← N2.val]; rfl
    rcases Int.lt_trichotomy (e1 + T1) (e2 + T2) with h | h | h
    · have hlt := tops_lt t1' t2' (e1 := e1) (e2 := e2) (by omega) (by omega) (by omega)
      rw [sgn_is1 (by rw [hu, hv]; exact hlt)]
      exact cmpX_pl _ _ a1 a2 c1 c2 z1 z2 e1 e2 w s1 s2 l1 l2 g1 g2 hz1 hz2 t1 t2 h
    · refine cmpX_eqp _ _ a1 a2 c1 c2 z1 z2 e1 e2 w s1 s2 l1 l2 g1 g2 hz1 hz2 t1 t2 h (e1 - min e1 e2).toNat (e2 - min e1 e2).toNat (by omega) (by omega) (by omega) (by omega) _ ?_
      rw [show (!false) = true from rfl, sv_f, sv_t, sgn_diff, hu, hv]
      exact (sizes_eq (by omega) (by omega) (by omega)).symm
    · have hlt := tops_lt t2' t1' (e1 := e2) (e2 := e1) (by omega) (by omega) (by omega)
      rw [sgn_is2 (by rw [hu, hv]; exact hlt)]
      exact cmpX_pg _ _ a1 a2 c1 c2 z1 z2 e1 e2 w s1 s2 l1 l2 g1 g2 hz1 hz2 t1 t2 h
  · rw [sgn_is2 (by omega)]; exact cmpX_more _ _ a1 a2 c1 c2 z1 z2 e1 e2 w _ _ s1 s2 (by decide)
  · rw [sgn_is1 (by omega)]; exact cmpX_less _ _ a1 a2 c1 c2 z1 z2 e1 e2 w _ _ s1 s2 (by decide)
  · rw [sgn_is1 (by omega)]; exact cmpX_less _ _ a1 a2 c1 c2 z1 z2 e1 e2 w _ _ s1 s2 (by decide)
  · obtain ⟨T1, t1, t1', b1⟩ := top_ex g1 hz1
    obtain ⟨T2, t2, t2', b2⟩ := top_ex g2 hz2
    have hu : u = -(Nt.val z1 * pK e1) := by rw [← N1.val]; unfold dv; rw [sv_t, Int.neg_mul]
    have hv : v = -(Nt.val z2 * pK e2) := by rw [← N2.val]; unfold dv; rw [sv_t, Int.neg_mul]
    rcases Int.lt_trichotomy (e1 + T1) (e2 + T2) with h | h | h
    · have hlt := tops_lt t1' t2' (e1 := e1) (e2 := e2) (by omega) (by omega) (by omega)
      rw [sgn_is2 (by rw [hu, hv]; exact Int.neg_lt_neg hlt)]
      exact cmpX_nl _ _ a1 a2 c1 c2 z1 z2 e1 e2 w s1 s2 l1 l2 g1 g2 hz1 hz2 t1 t2 h
    · refine cmpX_eqn _ _ a1 a2 c1 c2 z1 z2 e1 e2 w s1 s2 l1 l2 g1 g2 hz1 hz2 t1 t2 h (e1 - min e1 e2).toNat (e2 - min e1 e2).toNat (by omega) (by omega) (by omega) (by omega) _ ?_
      rw [show (!true) = false from rfl, sv_f, sv_t, Int.add_comm, sgn_diff, hu, hv, sgn_negs]
      exact (sizes_eq (by omega) (by omega) (by omega)).symm
    · have hlt := tops_lt t2' t1' (e1 := e2) (e2 := e1) (by omega) (by omega) (by omega)
      rw [sgn_is1 (by rw [hu, hv]; exact Int.neg_lt_neg hlt)]
      exact cmpX_ng _ _ a1 a2 c1 c2 z1 z2 e1 e2 w s1 s2 l1 l2 g1 g2 hz1 hz2 t1 t2 h
end Go.Proofs.Ytgfpbmjknknflaa

namespace Go.Proofs.Ytgfpbmjknknflaa
open Go.RowKit Go.Wd Go.Box
set_option linter.unusedVariables false
set_option maxRecDepth 3000
/-- Units, unit and value of a size. -/
def us (b : Bool) (s : Int) : Int := if s / fr b = 0 then s % fr b else fr b + s % fr b
def es (b : Bool) (s : Int) : Int := max (s / fr b - 1) 0 + lo b
def vz (b : Bool) (s : Int) : Int := us b s * pK (es b s)
theorem fn_sz (b : Bool) (x : Int) : sz b x % fr b = fn b x := by
  cases b <;> simp only [sz, fn, sg, fr] <;> omega
theorem un_us (b : Bool) (x : Int) : un b x = us b (sz b x) := by
  unfold un us
  rw [fn_sz]
  rfl
theorem ue_es (b : Bool) (x : Int) : ue b x = es b (sz b x) := rfl
theorem wv_vz (b : Bool) (x : Int) : wv b x = sv (ng b x) (vz b (sz b x)) := by
  unfold wv vz
  rw [un_us, ue_es]
  cases ng b x
  · rfl
  · rw [sv_t, sv_t, Int.neg_mul]
theorem pK_two {e : Int} (h : -(KK : Int) ≤ e) : pK (e + 1) = 2 * pK e := by
  unfold pK
  rw [show (e + 1 + (KK : Int)).toNat = (e + KK).toNat + 1 by omega, p2succ]
theorem es_lo (b : Bool) (s : Int) : lo b ≤ es b s := by unfold es; omega
theorem vz_step (b : Bool) (s : Int) (h : 0 ≤ s) : vz b (s + 1) = vz b s + pK (es b s) := by
  have hf := fr_pos b
  have hlo := lo_bd b
  have hK := KK_eq
  have hq := Int.emod_add_mul_ediv s (fr b)
  have hr1 := Int.emod_nonneg s (show fr b ≠ 0 by omega)
  have hr2 := Int.emod_lt_of_pos s hf
  have hq0 : 0 ≤ s / fr b := Int.ediv_nonneg h (by omega)
  by_cases c : s % fr b + 1 < fr b
  · have e1 : (s + 1) / fr b = s / fr b := by
      have : s + 1 = (s % fr b + 1) + fr b * (s / fr b) := by omega
      rw [this, Int.add_mul_ediv_left _ _ (by omega), Int.ediv_eq_zero_of_lt (by omega) c, Int.zero_add]
    have e2 : (s + 1) % fr b = s % fr b + 1 := by
      have : s + 1 = (s % fr b + 1) + fr b * (s / fr b) := by omega
      rw [this, Int.add_mul_emod_self_left, Int.emod_eq_of_lt (by omega) c]
    have e3 : es b (s + 1) = es b s := by unfold es; rw [e1]
    have e4 : us b (s + 1) = us b s + 1 := by
      unfold us
      rw [e1, e2]
      by_cases d : s / fr b = 0
      · rw [if_pos d, if_pos d]
      · rw [if_neg d, if_neg d]; omega
    unfold vz
    rw [e3, e4, Int.add_mul, Int.one_mul]
  · have hr : s % fr b = fr b - 1 := by omega
    have hs : s + 1 = 0 + fr b * (s / fr b + 1) := by rw [Int.mul_add]; omega
    have e1 : (s + 1) / fr b = s / fr b + 1 := by
      rw [hs, Int.add_mul_ediv_left _ _ (by omega)]; simp
    have e2 : (s + 1) % fr b = 0 := by
      rw [hs, Int.add_mul_emod_self_left]; simp
    have e4 : us b (s + 1) = fr b := by
      unfold us
      rw [e1, e2, if_neg (by omega)]; omega
    by_cases d : s / fr b = 0
    · have e3 : es b (s + 1) = es b s := by unfold es; rw [e1, d]; omega
      have e5 : us b s = fr b - 1 := by unfold us; rw [if_pos d, hr]
      unfold vz
      rw [e3, e4, e5, Int.sub_mul]; omega
    · have e3 : es b (s + 1) = es b s + 1 := by unfold es; rw [e1]; omega
      have e5 : us b s = fr b + (fr b - 1) := by unfold us; rw [if_neg d, hr]
      have h6 := es_lo b s
      unfold vz
      rw [e3, e4, e5, pK_two (by omega), Int.add_mul, Int.sub_mul, Int.mul_left_comm]; omega
theorem vz_le (b : Bool) (s : Int) (h : 0 ≤ s) (k : Nat) : vz b s ≤ vz b (s + k) := by
  induction k with
  | zero => simp
  | succ k ih =>
    have := vz_step b (s + k) (by omega)
    have hp := pK_pos (es b (s + k))
    rw [show s + ((k + 1 : Nat) : Int) = s + k + 1 by omega]
    omega
theorem vz_mono (b : Bool) {s t : Int} (h : 0 ≤ s) (hst : s ≤ t) : vz b s ≤ vz b t := by
  have := vz_le b s h (t - s).toNat
  rw [show s + ((t - s).toNat : Int) = t by omega] at this
  exact this
theorem vz_zero (b : Bool) : vz b 0 = 0 := by
  unfold vz us
  rw [if_pos (by simp)]
  simp
theorem vz_nonneg (b : Bool) {s : Int} (h : 0 ≤ s) : 0 ≤ vz b s := by
  have := vz_mono b (Int.le_refl 0) h
  rw [vz_zero] at this
  exact this
end Go.Proofs.Ytgfpbmjknknflaa

namespace Go.Proofs.Ytgfpbmjknknflaa
open Go.RowKit Go.Wd Go.Box
set_option linter.unusedVariables false
set_option maxRecDepth 3000
/-- What is true of a step up between finite words. -/
structure NextUp (b : Bool) (x : Int) : Prop where
  ok : Ok b (up b x)
  rise : wv b (up b x) = wv b x + pK (ue b x) ∨ wv b (up b x) = wv b x + pK (ue b (up b x))
  none : ∀ z, Ok b z → wv b z ≤ wv b x ∨ wv b (up b x) ≤ wv b z
  fin : fl b (up b x) ≠ inf b
  back : wv b (fl b (up b (fl b (up b x)))) = wv b x
  okb : Ok b (fl b (up b (fl b (up b x))))
  finb : sz b (fl b (up b (fl b (up b x)))) < inf b
end Go.Proofs.Ytgfpbmjknknflaa

namespace Go.Proofs.Ytgfpbmjknknflaa
open Go.RowKit Go.Wd Go.Box
set_option linter.unusedVariables false
set_option maxRecDepth 3000
/-- Where a word stands: the box and the value. -/
abbrev KO (x : Int) (n g : Bool) (p : Int) : Obj := .cells #[.int .u64 x, .bool n, .bool g, .int .i64 p] 58 (0, 0)
abbrev KV (x : Int) (n g : Bool) (p : Int) : Value := .agg #[.int .u64 x, .bool n, .bool g, .int .i64 p]
theorem Try.sizeStand : (Try.prog.info? 58).map (·.size) = some 4 := by kernel_rfl
theorem results_K2 {fn : Func} {p u : Tmp} (h : fn.results = #[.cell p 58, .tmp u]) (tmps : Array Value) (w : World) (g : Nat) (cs : Array Value) (hp : tmps.getD p undef = .pointer (some ⟨g, 0, none⟩)) (hg : w.heap[g]? = some (.cells cs 58 (0, 0))) (hs : cs.size = 4) :
    (results fn tmps).run Try.prog w = .ok (.tuple #[.agg cs, tmps.getD u undef]) w := by
  rw [results_cell_tmp h, hp]
  simp [asAddr, run_loadVar_row w g 58 58 cs (0, 0) _ hg Try.underlying58 rfl (by rw [Try.sizeStand, hs])]
/-- The place of a word. -/
def pl (b : Bool) (x : Int) : Int := sv (ng b x) (sz b x)
theorem pl_bd (b : Bool) (x : Int) : -9223372036854775808 < pl b x ∧ pl b x < 9223372036854775808 := by
  have h := sz_bd b x
  have h2 : sg b ≤ 9223372036854775808 := by cases b <;> decide
  unfold pl
  cases ng b x <;> simp only [sv_f, sv_t] <;> omega
/-- What standOf tells. -/
def stV (b : Bool) (x : Int) : Value := if inf b < sz b x then KV (nan b) true false 0 else KV x false (ng b x) (pl b x)
theorem wStandOf_err (f x c : Int) (h : GE f x c) (w : World) :
    Calls Try.prog 43 #[.int .u8 f, .int .u64 x] w fun e w' => e = .returned (.tuple #[KV 0 false false 0, .int .i64 c]) ∧ Below w.heap.size w w' := by
  have hne := h.ne
  have hn2 : (c != 0) = true := by simp only [bne, hne, Bool.not_false]
  have B1 := (Bx.nil w).push (KO 0 false false 0)
  go_enter Try.func43, Try.ntmps43
  go_wp2_with fail
  refine (wClass_err f x c h _).mono ?_
  rintro e w2 ⟨rfl, h2⟩
  have B2 := B1.keep h2
  obtain ⟨⟨f0, f1, f2, f3⟩, r0, r1, r2, r3⟩ := cells4 B2 w.heap.size _ _ _ _ _ (.head _)
  clear h2 B1
  go_wp2
  have B4 := B2.fill4 (Nat.le_refl _) (by simp) (.int .u64 0) (.bool false) (.bool false) (.int .i64 0)
  refine bodyPost_ret (results_K2 rfl _ _ w.heap.size _ rfl B4.head rfl) rfl ?_
  exact ⟨rfl, B4.bel⟩
theorem wStandOf_nan (b : Bool) (x : Int) (h : Ok b x) (hc : inf b < sz b x) (w : World) :
    Calls Try.prog 43 #[.int .u8 (fm b), .int .u64 x] w fun e w' => e = .returned (.tuple #[KV (nan b) true false 0, .int .i64 0]) ∧ Below w.heap.size w w' := by
  have d1 : (cl b x == 5) = true := by simp [(cl_5 b x).2 hc]
  have B1 := (Bx.nil w).push (KO 0 false false 0)
  go_enter Try.func43, Try.ntmps43
  go_wp2_with fail
  refine (wClass b x h _).mono ?_
  rintro e w2 ⟨rfl, h2⟩
  have B2 := B1.keep h2
  clear h2 B1
  go_wp2_with fail
  refine (wNoneF b _).mono ?_
  rintro e w3 ⟨rfl, h3⟩
  have B3 := B2.keep h3
  obtain ⟨⟨f0, f1, f2, f3⟩, r0, r1, r2, r3⟩ := cells4 B3 w.heap.size _ _ _ _ _ (.head _)
  clear h3 B2
  go_wp2
  have B4 := B3.fill4 (Nat.le_refl _) (by simp) (.int .u64 (nan b)) (.bool true) (.bool false) (.int .i64 0)
  refine bodyPost_ret (results_K2 rfl _ _ w.heap.size _ rfl B4.head rfl) rfl ?_
  exact ⟨rfl, B4.bel⟩
theorem wStandOf_num (b : Bool) (x : Int) (h : Ok b x) (hc : ¬ inf b < sz b x) (n : Bool) (hn : ng b x = n) (p : Int) (hp : pl b x = p) (w : World) :
    Calls Try.prog 43 #[.int .u8 (fm b), .int .u64 x] w fun e w' => e = .returned (.tuple #[KV x false n p, .int .i64 0]) ∧ Below w.heap.size w w' := by
  have d1 : (cl b x == 5) = false := beq_eq_false_iff_ne.2 (fun q => hc ((cl_5 b x).1 q))
  have HS := fun W => Hide.mk (wSplit b x h W)
  have HA := fun W => Hide.mk (wAbs b x h W)
  rw [hn] at HS
  rw [show abx b x = sz b x by unfold abx; rw [if_neg hc]] at HA
  have hs1 := sz_bd b x
  have hs2 : sg b ≤ 9223372036854775808 := by cases b <;> decide
  have hw : IntKind.i64.wrap (sz b x) = sz b x := by rw [IntKind.wrap_i64]; omega
  have hw2 : IntKind.i64.wrap (-(sz b x)) = -(sz b x) := by rw [IntKind.wrap_i64]; omega
  have hpl : Hide (sv n (sz b x) = p) := ⟨by rw [← hp, ← hn]; rfl⟩
  clear hp hn hs1 hs2
  have B1 := (Bx.nil w).push (KO 0 false false 0)
  cases n
  · go_enter Try.func43, Try.ntmps43
    go_wp2_with fail
    refine (wClass b x h _).mono ?_
    rintro e w2 ⟨rfl, h2⟩
    have B2 := B1.keep h2
    clear h2 B1
    go_wp2_with fail
    refine (HS _).out.mono ?_
    rintro e w3 ⟨rfl, h3⟩
    have B3 := (B2.keep h3).push (.cells #[.bool false, .int .i64 (fd b x), .int .u64 (fn b x)] 70 (0, 0))
    have o7 : w.heap.size < w3.heap.size := (B2.keep h3).lt (p := (w.heap.size, KO 0 false false 0)) (by simp)
    clear h3 B2
    go_wp2_with fail
    refine (HA _).out.mono ?_
    rintro e w4 ⟨rfl, h4⟩
    have B4 := B3.keep h4
    obtain ⟨⟨f0, f1, f2, f3⟩, r0, r1, r2, r3⟩ := cells4 B4 w.heap.size _ _ _ _ _ (.tail _ (.head _))
    obtain ⟨⟨t0, t1, t2⟩, _⟩ := cells3 B4 w3.heap.size _ _ _ _ (.head _)
    clear h4 B3
    go_wp2
    have B5 := (B4.sub (L' := [(w.heap.size, KO 0 false false 0)]) (by simp)).fill4 (Nat.le_refl _) (by simp) (.int .u64 x) (.bool false) (.bool false) (.int .i64 (sz b x))
    refine bodyPost_ret (results_K2 rfl _ _ w.heap.size _ rfl B5.head rfl) rfl ?_
    exact ⟨by rw [← hpl.out]; rfl, B5.bel⟩
  · go_enter Try.func43, Try.ntmps43
    go_wp2_with fail
    refine (wClass b x h _).mono ?_
    rintro e w2 ⟨rfl, h2⟩
    have B2 := B1.keep h2
    clear h2 B1
    go_wp2_with fail
    refine (HS _).out.mono ?_
    rintro e w3 ⟨rfl, h3⟩
    have B3 := (B2.keep h3).push (.cells #[.bool true, .int .i64 (fd b x), .int .u64 (fn b x)] 70 (0, 0))
    have o7 : w.heap.size < w3.heap.size := (B2.keep h3).lt (p := (w.heap.size, KO 0 false false 0)) (by simp)
    clear h3 B2
    go_wp2_with fail
    refine (HA _).out.mono ?_
    rintro e w4 ⟨rfl, h4⟩
    have B4 := B3.keep h4
    obtain ⟨⟨f0, f1, f2, f3⟩, r0, r1, r2, r3⟩ := cells4 B4 w.heap.size _ _ _ _ _ (.tail _ (.head _))
    obtain ⟨⟨t0, t1, t2⟩, _⟩ := cells3 B4 w3.heap.size _ _ _ _ (.head _)
    clear h4 B3
    go_wp2
    have B5 := (B4.sub (L' := [(w.heap.size, KO 0 false false 0)]) (by simp)).fill4 (Nat.le_refl _) (by simp) (.int .u64 x) (.bool false) (.bool true) (.int .i64 (-(sz b x)))
    refine bodyPost_ret (results_K2 rfl _ _ w.heap.size _ rfl B5.head rfl) rfl ?_
    exact ⟨by rw [← hpl.out]; rfl, B5.bel⟩
theorem wStandOf (b : Bool) (x : Int) (h : Ok b x) (w : World) :
    Calls Try.prog 43 #[.int .u8 (fm b), .int .u64 x] w fun e w' => e = .returned (.tuple #[stV b x, .int .i64 0]) ∧ Below w.heap.size w w' := by
  unfold stV
  by_cases c : inf b < sz b x
  · rw [if_pos c]; exact wStandOf_nan b x h c w
  · rw [if_neg c]; exact wStandOf_num b x h c _ rfl _ rfl w
end Go.Proofs.Ytgfpbmjknknflaa

namespace Go.Proofs.Ytgfpbmjknknflaa
open Go.RowKit Go.Wd Go.Box
set_option linter.unusedVariables false
set_option maxRecDepth 3000
theorem results_K3 {fn : Func} {p q u : Tmp} (h : fn.results = #[.cell p 58, .cell q 58, .tmp u]) (tmps : Array Value) (w : World) (g k : Nat) (cs ds : Array Value) (hp : tmps.getD p undef = .pointer (some ⟨g, 0, none⟩)) (hq : tmps.getD q undef = .pointer (some ⟨k, 0, none⟩)) (hg : w.heap[g]? = some (.cells cs 58 (0, 0))) (hk : w.heap[k]? = some (.cells ds 58 (0, 0))) (hs : cs.size = 4) (ht : ds.size = 4) :
    (results fn tmps).run Try.prog w = .ok (.tuple #[.agg cs, .agg ds, tmps.getD u undef]) w := by
  have e : (results fn tmps).run Try.prog w = ((asAddr (tmps.getD p undef)).run Try.prog w).andThen fun a w₁ => ((loadVar 58 a).run Try.prog w₁).andThen fun v w₂ => ((asAddr (tmps.getD q undef)).run Try.prog w₂).andThen fun a' w₃ => ((loadVar 58 a').run Try.prog w₃).andThen fun v' w₄ => .ok (.tuple #[v, v', tmps.getD u undef]) w₄ := by
    simp only [results, h]
    simp [Sem.run_bind, Result.andThen]
  rw [e, hp, hq]
  simp [asAddr, Result.andThen, run_loadVar_row w g 58 58 cs (0, 0) _ hg Try.underlying58 rfl (by rw [Try.sizeStand, hs]), run_loadVar_row w k 58 58 ds (0, 0) _ hk Try.underlying58 rfl (by rw [Try.sizeStand, ht])]
theorem wStandsOf_1 (f x y c : Int) (h : GE f x c) (w : World) :
    Calls Try.prog 34 #[.int .u8 f, .int .u64 x, .int .u64 y] w fun e w' => e = .returned (.tuple #[KV 0 false false 0, KV 0 false false 0, .int .i64 c]) ∧ Below w.heap.size w w' := by
  have hne := h.ne
  have hn2 : (c != 0) = true := by simp only [bne, hne, Bool.not_false]
  have B1 := ((Bx.nil w).push (KO 0 false false 0)).push (KO 0 false false 0)
  rw [show (w.alloc (KO 0 false false 0)).heap.size = w.heap.size + 1 by simp] at B1
  go_enter Try.func34, Try.ntmps34
  go_wp2_with fail
  refine (wStandOf_err f x c h _).mono ?_
  rintro e w2 ⟨rfl, h2⟩
  have B2 := B1.keep h2
  obtain ⟨⟨f0, f1, f2, f3⟩, r0, r1, r2, r3⟩ := cells4 B2 w.heap.size _ _ _ _ _ (.tail _ (.head _))
  obtain ⟨⟨t0, t1, t2, t3⟩, s0, s1, s2, s3⟩ := cells4 B2 (w.heap.size + 1) _ _ _ _ _ (.head _)
  clear h2 B1
  go_wp2
  have B3 := ((B2.sub (L' := [(w.heap.size, KO 0 false false 0), (w.heap.size + 1, KO 0 false false 0)]) (by simp)).fill4 (Nat.le_refl _) (by simp) (.int .u64 0) (.bool false) (.bool false) (.int .i64 0)).fill4 (Nat.le_refl _) (by simp) (.int .u64 0) (.bool false) (.bool false) (.int .i64 0)
  have B4 := (B3.sub (L' := [(w.heap.size + 1, KO 0 false false 0), (w.heap.size, KO 0 false false 0)]) (by simp)).fill4 (by omega) (by simp) (.int .u64 0) (.bool false) (.bool false) (.int .i64 0)
  refine bodyPost_ret (results_K3 rfl _ _ w.heap.size (w.heap.size + 1) _ _ rfl rfl B4.tail.head B4.head rfl rfl) rfl ?_
  exact ⟨rfl, B4.bel⟩
theorem wStandsOf_2 (b : Bool) (x y c : Int) (hx : Ok b x) (h : GE (fm b) y c) (w : World) :
    Calls Try.prog 34 #[.int .u8 (fm b), .int .u64 x, .int .u64 y] w fun e w' => e = .returned (.tuple #[KV 0 false false 0, KV 0 false false 0, .int .i64 c]) ∧ Below w.heap.size w w' := by
  have hne := h.ne
  have hn2 : (c != 0) = true := by simp only [bne, hne, Bool.not_false]
  obtain ⟨u1, n1, g1, p1, e1⟩ : ∃ u1 n1 g1 p1, stV b x = KV u1 n1 g1 p1 := by
    unfold stV
    split
    · exact ⟨_, _, _, _, rfl⟩
    · exact ⟨_, _, _, _, rfl⟩
  have H1 := fun W => Hide.mk (wStandOf b x hx W)
  rw [e1] at H1
  clear e1
  have B1 := ((Bx.nil w).push (KO 0 false false 0)).push (KO 0 false false 0)
  rw [show (w.alloc (KO 0 false false 0)).heap.size = w.heap.size + 1 by simp] at B1
  go_enter Try.func34, Try.ntmps34
  go_wp2_with fail
  refine (H1 _).out.mono ?_
  rintro e w2 ⟨rfl, h2⟩
  have B2 := (B1.keep h2).sub (L' := [(w.heap.size, KO 0 false false 0), (w.heap.size + 1, KO 0 false false 0)]) (by simp)
  obtain ⟨⟨f0, f1, f2, f3⟩, r0, r1, r2, r3⟩ := cells4 B2 w.heap.size _ _ _ _ _ (.head _)
  replace B2 := B2.fill4 (Nat.le_refl _) (by simp) (.int .u64 u1) (.bool n1) (.bool g1) (.int .i64 p1)
  clear h2 B1 H1
  go_wp2_with fail
  clear f0 f1 f2 f3 r0 r1 r2 r3
  refine (wStandOf_err (fm b) y c h _).mono ?_
  rintro e w3 ⟨rfl, h3⟩
  have B3 := B2.keep h3
  clear h3 B2
  obtain ⟨⟨f0, f1, f2, f3⟩, r0, r1, r2, r3⟩ := cells4 B3 w.heap.size _ _ _ _ _ (.head _)
  obtain ⟨⟨t0, t1, t2, t3⟩, s0, s1, s2, s3⟩ := cells4 B3 (w.heap.size + 1) _ _ _ _ _ (.tail _ (.head _))
  go_wp2
  have B4 := (B3.sub (L' := [(w.heap.size + 1, KO 0 false false 0), (w.heap.size, KO u1 n1 g1 p1)]) (by simp)).fill4 (by omega) (by simp) (.int .u64 0) (.bool false) (.bool false) (.int .i64 0)
  have B5 := (B4.sub (L' := [(w.heap.size, KO u1 n1 g1 p1), (w.heap.size + 1, KO 0 false false 0)]) (by simp)).fill4 (by omega) (by simp) (.int .u64 0) (.bool false) (.bool false) (.int .i64 0)
  have B6 := (B5.sub (L' := [(w.heap.size + 1, KO 0 false false 0), (w.heap.size, KO 0 false false 0)]) (by simp)).fill4 (by omega) (by simp) (.int .u64 0) (.bool false) (.bool false) (.int .i64 0)
  refine bodyPost_ret (results_K3 rfl _ _ w.heap.size (w.heap.size + 1) _ _ rfl rfl B6.tail.head B6.head rfl rfl) rfl ?_
  exact ⟨rfl, B6.bel⟩
theorem wStandsOf_ok (b : Bool) (x y : Int) (hx : Ok b x) (hy : Ok b y) (w : World) {u1 u2 : Int} {n1 n2 g1 g2 : Bool} {p1 p2 : Int} (e1 : stV b x = KV u1 n1 g1 p1) (e2 : stV b y = KV u2 n2 g2 p2) :
    Calls Try.prog 34 #[.int .u8 (fm b), .int .u64 x, .int .u64 y] w fun e w' => e = .returned (.tuple #[KV u1 n1 g1 p1, KV u2 n2 g2 p2, .int .i64 0]) ∧ Below w.heap.size w w' := by
  have H1 := fun W => Hide.mk (wStandOf b x hx W)
  have H2 := fun W => Hide.mk (wStandOf b y hy W)
  rw [e1] at H1
  rw [e2] at H2
  clear e1 e2
  have B1 := ((Bx.nil w).push (KO 0 false false 0)).push (KO 0 false false 0)
  rw [show (w.alloc (KO 0 false false 0)).heap.size = w.heap.size + 1 by simp] at B1
  go_enter Try.func34, Try.ntmps34
  go_wp2_with fail
  refine (H1 _).out.mono ?_
  rintro e w2 ⟨rfl, h2⟩
  have B2 := (B1.keep h2).sub (L' := [(w.heap.size, KO 0 false false 0), (w.heap.size + 1, KO 0 false false 0)]) (by simp)
  obtain ⟨⟨f0, f1, f2, f3⟩, r0, r1, r2, r3⟩ := cells4 B2 w.heap.size _ _ _ _ _ (.head _)
  replace B2 := (B2.fill4 (Nat.le_refl _) (by simp) (.int .u64 u1) (.bool n1) (.bool g1) (.int .i64 p1))
  clear h2 B1 H1
  go_wp2_with fail
  clear f0 f1 f2 f3 r0 r1 r2 r3
  refine (H2 _).out.mono ?_
  rintro e w3 ⟨rfl, h3⟩
  have B3 := (B2.keep h3).sub (L' := [(w.heap.size + 1, KO 0 false false 0), (w.heap.size, KO u1 n1 g1 p1)]) (by simp)
  clear h3 B2 H2
  obtain ⟨⟨f0, f1, f2, f3⟩, r0, r1, r2, r3⟩ := cells4 B3 (w.heap.size + 1) _ _ _ _ _ (.head _)
  replace B3 := (B3.fill4 (by omega) (by simp) (.int .u64 u2) (.bool n2) (.bool g2) (.int .i64 p2))
  go_wp2_with fail
  clear f0 f1 f2 f3 r0 r1 r2 r3
  generalize (((w3.setCell ⟨w.heap.size + 1, 0, none⟩ (.int .u64 u2)).setCell ⟨w.heap.size + 1, 1, none⟩ (.bool n2)).setCell ⟨w.heap.size + 1, 2, none⟩ (.bool g2)).setCell ⟨w.heap.size + 1, 3, none⟩ (.int .i64 p2) = W4 at *
  have HI := B3.drew
  clear B3
  have sh := fun W (hW : Bx w [(w.heap.size + 1, KO u2 n2 g2 p2), (w.heap.size, KO u1 n1 g1 p1)] W) => And.intro (cells4 hW (w.heap.size + 1) _ _ _ _ _ (.head _)).1 (cells4 hW w.heap.size _ _ _ _ _ (.tail _ (.head _))).1
  refine Drawn.enter (Bx w [(w.heap.size + 1, KO u2 n2 g2 p2), (w.heap.size, KO u1 n1 g1 p1)]) (by kernel_rfl) ?_
  refine Drawn.tk (i := 0) (v := ?v0) rfl (fun W hW => ?_) HI ?_
  rotate_left
  · have ⟨⟨t0, t1, t2, t3⟩, f0, f1, f2, f3⟩ := sh W hW
    go_simp <;> exact rfl
  refine Drawn.tk (i := 1) (v := ?v1) rfl (fun W hW => ?_) HI ?_
  rotate_left
  · have ⟨⟨t0, t1, t2, t3⟩, f0, f1, f2, f3⟩ := sh W hW
    go_simp <;> exact rfl
  generalize W4.drew = W5 at *
  obtain ⟨⟨f0, f1, f2, f3⟩, r0, r1, r2, r3⟩ := cells4 HI w.heap.size _ _ _ _ _ (.tail _ (.head _))
  replace HI := (HI.sub (L' := [(w.heap.size, KO u1 n1 g1 p1), (w.heap.size + 1, KO u2 n2 g2 p2)]) (by simp)).fill4 (Nat.le_refl _) (by simp) (.int .u64 u1) (.bool n1) (.bool g1) (.int .i64 p1)
  refine Drawn.one (j := 2) (by kernel_rfl) rfl (fun K hK => ?_)
  go_simp
  refine hK _ _ (HI.sub (by simp)) ?_
  clear hK K f0 f1 f2 f3 r0 r1 r2 r3
  replace HI := HI.sub (L' := [(w.heap.size + 1, KO u2 n2 g2 p2), (w.heap.size, KO u1 n1 g1 p1)]) (by simp)
  obtain ⟨⟨f0, f1, f2, f3⟩, r0, r1, r2, r3⟩ := cells4 HI (w.heap.size + 1) _ _ _ _ _ (.head _)
  replace HI := HI.fill4 (by omega) (by simp) (.int .u64 u2) (.bool n2) (.bool g2) (.int .i64 p2)
  refine Drawn.one (j := 3) (by kernel_rfl) rfl (fun K hK => ?_)
  go_simp
  refine hK _ _ (HI.sub (by simp)) ?_
  clear hK K f0 f1 f2 f3 r0 r1 r2 r3
  refine Drawn.tk (i := 4) (v := ?v2) rfl (fun W hW => ?_) HI ?_
  rotate_left
  · have ⟨⟨t0, t1, t2, t3⟩, f0, f1, f2, f3⟩ := sh W hW
    go_simp <;> exact rfl
  refine Drawn.done (by kernel_rfl) ?_
  try go_simp
  go_wp2
  refine bodyPost_ret (results_K3 rfl _ _ w.heap.size (w.heap.size + 1) _ _ rfl rfl HI.tail.head HI.head rfl rfl) rfl ?_
  exact ⟨rfl, HI.bel⟩
end Go.Proofs.Ytgfpbmjknknflaa

namespace Go.Proofs.Ytgfpbmjknknflaa
open Go.RowKit Go.Wd Go.Box
set_option linter.unusedVariables false
set_option maxRecDepth 3000
theorem vz_strict (b : Bool) {s t : Int} (h : 0 ≤ s) (hst : s < t) : vz b s < vz b t := by
  have h1 := vz_mono b (s := s + 1) (t := t) (by omega) (by omega)
  have h2 := vz_step b s h
  have h3 := pK_pos (es b s)
  omega
theorem sv_vz_lt (b : Bool) {n1 n2 : Bool} {s1 s2 : Int} (h1 : 0 ≤ s1) (h2 : 0 ≤ s2) (h : sv n1 s1 < sv n2 s2) : sv n1 (vz b s1) < sv n2 (vz b s2) := by
  have v1 := vz_nonneg b h1
  have v2 := vz_nonneg b h2
  cases n1 <;> cases n2 <;> simp only [sv_f, sv_t] at *
  · exact vz_strict b h1 h
  · omega
  · by_cases c : s1 = 0
    · have := vz_strict b (s := 0) (t := s2) (by omega) (by omega)
      rw [vz_zero] at this
      omega
    · have := vz_strict b (s := 0) (t := s1) (by omega) (by omega)
      rw [vz_zero] at this
      omega
  · have := vz_strict b h2 (show s2 < s1 by omega)
    omega
/-- Words' values stand to each other as their places. -/
theorem sgn_pl (b : Bool) (x y : Int) : sgn (wv b x) (wv b y) = sgn (pl b x) (pl b y) := by
  have hx := (sz_bd b x).1
  have hy := (sz_bd b y).1
  rw [wv_vz, wv_vz]
  unfold pl
  rcases (show sv (ng b x) (sz b x) < sv (ng b y) (sz b y) ∨ sv (ng b x) (sz b x) = sv (ng b y) (sz b y) ∨ sv (ng b y) (sz b y) < sv (ng b x) (sz b x) by omega) with h | h | h
  · rw [sgn_is1 h, sgn_is1 (sv_vz_lt b hx hy h)]
  · rw [sgn_is0 h]
    apply sgn_is0
    cases hn : ng b x <;> cases hm : ng b y <;> rw [hn, hm] at h <;> simp only [sv_f, sv_t] at *
    · rw [h]
    · obtain ⟨e1, e2⟩ : sz b x = 0 ∧ sz b y = 0 := by omega
      rw [e1, e2, vz_zero]; rfl
    · obtain ⟨e1, e2⟩ : sz b x = 0 ∧ sz b y = 0 := by omega
      rw [e1, e2, vz_zero]; rfl
    · rw [show sz b x = sz b y by omega]
  · rw [sgn_is2 h, sgn_is2 (sv_vz_lt b hy hx h)]
theorem pl_eq {b : Bool} {x y : Int} (hx : Ok b x) (hy : Ok b y) (h : pl b x = pl b y) : x = y ∨ (sz b x = 0 ∧ sz b y = 0) := by
  have h1 := (sz_bd b x).1
  have h2 := (sz_bd b y).1
  unfold pl at h
  by_cases c : sg b ≤ x <;> by_cases d : sg b ≤ y
  · have e1 := sz_neg hx c
    have e2 := sz_neg hy d
    rw [show ng b x = true from decide_eq_true c, show ng b y = true from decide_eq_true d, sv_t, sv_t] at h
    exact .inl (by omega)
  · have e1 := sz_neg hx c
    have e2 := sz_pos hy d
    rw [show ng b x = true from decide_eq_true c, show ng b y = false from decide_eq_false d, sv_t, sv_f] at h
    exact .inr (by omega)
  · have e1 := sz_pos hx c
    have e2 := sz_neg hy d
    rw [show ng b x = false from decide_eq_false c, show ng b y = true from decide_eq_true d, sv_t, sv_f] at h
    exact .inr (by omega)
  · have e1 := sz_pos hx c
    have e2 := sz_pos hy d
    rw [show ng b x = false from decide_eq_false c, show ng b y = false from decide_eq_false d, sv_f, sv_f] at h
    exact .inl (by omega)
/-- How two words stand by their values. -/
def co (b : Bool) (x y : Int) : Int := if inf b < sz b x ∨ inf b < sz b y then 4 else if pl b x < pl b y then 1 else if pl b y < pl b x then 3 else 2
/-- A word's height in the total order. -/
def ht (b : Bool) (x : Int) : Int := if inf b < sz b x then 9223372036854775807 else if ng b x = true then pl b x - 1 else pl b x
theorem wHeight (u : Int) (n g : Bool) (p : Int) (h1 : -9223372036854775808 < p) (h2 : p < 9223372036854775808) (w : World) :
    Calls Try.prog 36 #[KV u n g p] w fun e w' => e = .returned (.int .i64 (if n = true then 9223372036854775807 else if g = true then p - 1 else p)) ∧ Below w.heap.size w w' := by
  have B1 := (Bx.nil w).push (KO u n g p)
  obtain ⟨⟨f0, f1, f2, f3⟩, _⟩ := cells4 B1 w.heap.size _ _ _ _ _ (.head _)
  have hw : IntKind.i64.wrap (p - 1) = p - 1 := by rw [IntKind.wrap_i64]; omega
  cases n
  · cases g
    · go_enter Try.func36, Try.ntmps36
      go_wp2
      go_ret
      exact ⟨by simp, B1.bel⟩
    · go_enter Try.func36, Try.ntmps36
      go_wp2
      go_ret
      exact ⟨by simp, B1.bel⟩
  · go_enter Try.func36, Try.ntmps36
    go_wp2
    go_ret
    exact ⟨by simp, B1.bel⟩
theorem cmp64 (x y : Int) (w : World) : Calls Try.prog 35 #[.int .i64 x, .int .i64 y] w fun e w' => e = .returned (.int .i64 (sgn x y)) ∧ Below w.heap.size w w' := by
  by_cases c : x < y
  · rw [sgn_is1 c]
    go_enter Try.func35, Try.ntmps35
    go_wp2
    go_ret
    exact ⟨by simp, Below.refl _ _⟩
  · by_cases d : y < x
    · rw [sgn_is2 d]
      go_enter Try.func35, Try.ntmps35
      go_wp2
      go_ret
      exact ⟨by simp, Below.refl _ _⟩
    · rw [sgn_is0 (show x = y by omega)]
      go_enter Try.func35, Try.ntmps35
      go_wp2
      go_ret
      exact ⟨by simp, Below.refl _ _⟩
end Go.Proofs.Ytgfpbmjknknflaa

namespace Go.Proofs.Ytgfpbmjknknflaa
open Go.RowKit Go.Wd Go.Box
set_option linter.unusedVariables false
set_option maxRecDepth 3000
theorem stV_cases (b : Bool) (x : Int) : (inf b < sz b x ∧ stV b x = KV (nan b) true false 0 ∧ ht b x = 9223372036854775807) ∨ (¬ inf b < sz b x ∧ stV b x = KV x false (ng b x) (pl b x) ∧ ht b x = if ng b x = true then pl b x - 1 else pl b x) := by
  unfold stV ht
  by_cases c : inf b < sz b x
  · exact .inl ⟨c, by rw [if_pos c], by rw [if_pos c]⟩
  · exact .inr ⟨c, by rw [if_neg c], by rw [if_neg c]⟩
theorem wCmp_n1 (b : Bool) (x y : Int) (hx : Ok b x) (hy : Ok b y) (c : inf b < sz b x) {u2 : Int} {n2 g2 : Bool} {p2 : Int} (e2 : stV b y = KV u2 n2 g2 p2) (w : World) :
    Calls Try.prog 11 #[.int .u8 (fm b), .int .u64 x, .int .u64 y] w fun e w' => e = .returned (.tuple #[.int .u8 4, .int .i64 0]) ∧ Below w.heap.size w w' := by
  have HS := fun W => Hide.mk (wStandsOf_ok b x y hx hy W (show stV b x = KV (nan b) true false 0 by unfold stV; rw [if_pos c]) e2)
  go_enter Try.func11, Try.ntmps11
  go_wp2_with fail
  refine (HS _).out.mono ?_
  rintro e w2 ⟨rfl, h2⟩
  have BX := (((Bx.nil w).keep h2).push (KO (nan b) true false 0)).push (KO u2 n2 g2 p2)
  rw [show (w2.alloc (KO (nan b) true false 0)).heap.size = w2.heap.size + 1 by simp] at BX
  obtain ⟨⟨f0, f1, f2, f3⟩, _⟩ := cells4 BX w2.heap.size _ _ _ _ _ (.tail _ (.head _))
  obtain ⟨⟨t0, t1, t2, t3⟩, _⟩ := cells4 BX (w2.heap.size + 1) _ _ _ _ _ (.head _)
  clear h2 HS
  clear hx hy
  go_wp2
  go_ret2
  exact ⟨rfl, BX.bel⟩
theorem wCmp_n2 (b : Bool) (x y : Int) (hx : Ok b x) (hy : Ok b y) (d : ¬ inf b < sz b x) (c : inf b < sz b y) (w : World) :
    Calls Try.prog 11 #[.int .u8 (fm b), .int .u64 x, .int .u64 y] w fun e w' => e = .returned (.tuple #[.int .u8 4, .int .i64 0]) ∧ Below w.heap.size w w' := by
  have HS := fun W => Hide.mk (wStandsOf_ok b x y hx hy W (show stV b x = KV x false (ng b x) (pl b x) by unfold stV; rw [if_neg d]) (show stV b y = KV (nan b) true false 0 by unfold stV; rw [if_pos c]))
  go_enter Try.func11, Try.ntmps11
  go_wp2_with fail
  refine (HS _).out.mono ?_
  rintro e w2 ⟨rfl, h2⟩
  have BX := (((Bx.nil w).keep h2).push (KO x false (ng b x) (pl b x))).push (KO (nan b) true false 0)
  rw [show (w2.alloc (KO x false (ng b x) (pl b x))).heap.size = w2.heap.size + 1 by simp] at BX
  obtain ⟨⟨f0, f1, f2, f3⟩, _⟩ := cells4 BX w2.heap.size _ _ _ _ _ (.tail _ (.head _))
  obtain ⟨⟨t0, t1, t2, t3⟩, _⟩ := cells4 BX (w2.heap.size + 1) _ _ _ _ _ (.head _)
  clear h2 HS
  clear hx hy
  go_wp2
  go_ret2
  exact ⟨rfl, BX.bel⟩
theorem wCmp_lt (b : Bool) (x y : Int) (hx : Ok b x) (hy : Ok b y) (c : ¬ inf b < sz b x) (d : ¬ inf b < sz b y) (h : pl b x < pl b y) (w : World) :
    Calls Try.prog 11 #[.int .u8 (fm b), .int .u64 x, .int .u64 y] w fun e w' => e = .returned (.tuple #[.int .u8 1, .int .i64 0]) ∧ Below w.heap.size w w' := by
  have HS := fun W => Hide.mk (wStandsOf_ok b x y hx hy W (show stV b x = KV x false (ng b x) (pl b x) by unfold stV; rw [if_neg c]) (show stV b y = KV y false (ng b y) (pl b y) by unfold stV; rw [if_neg d]))
  go_enter Try.func11, Try.ntmps11
  go_wp2_with fail
  refine (HS _).out.mono ?_
  rintro e w2 ⟨rfl, h2⟩
  have BX := (((Bx.nil w).keep h2).push (KO x false (ng b x) (pl b x))).push (KO y false (ng b y) (pl b y))
  rw [show (w2.alloc (KO x false (ng b x) (pl b x))).heap.size = w2.heap.size + 1 by simp] at BX
  obtain ⟨⟨f0, f1, f2, f3⟩, _⟩ := cells4 BX w2.heap.size _ _ _ _ _ (.tail _ (.head _))
  obtain ⟨⟨t0, t1, t2, t3⟩, _⟩ := cells4 BX (w2.heap.size + 1) _ _ _ _ _ (.head _)
  clear h2 HS
  clear hx hy
  go_wp2
  go_ret2
  exact ⟨rfl, BX.bel⟩
theorem wCmp_gt (b : Bool) (x y : Int) (hx : Ok b x) (hy : Ok b y) (c : ¬ inf b < sz b x) (d : ¬ inf b < sz b y) (h : pl b y < pl b x) (w : World) :
    Calls Try.prog 11 #[.int .u8 (fm b), .int .u64 x, .int .u64 y] w fun e w' => e = .returned (.tuple #[.int .u8 3, .int .i64 0]) ∧ Below w.heap.size w w' := by
  have HS := fun W => Hide.mk (wStandsOf_ok b x y hx hy W (show stV b x = KV x false (ng b x) (pl b x) by unfold stV; rw [if_neg c]) (show stV b y = KV y false (ng b y) (pl b y) by unfold stV; rw [if_neg d]))
  have h0 : ¬ pl b x < pl b y := by omega
  go_enter Try.func11, Try.ntmps11
  go_wp2_with fail
  refine (HS _).out.mono ?_
  rintro e w2 ⟨rfl, h2⟩
  have BX := (((Bx.nil w).keep h2).push (KO x false (ng b x) (pl b x))).push (KO y false (ng b y) (pl b y))
  rw [show (w2.alloc (KO x false (ng b x) (pl b x))).heap.size = w2.heap.size + 1 by simp] at BX
  obtain ⟨⟨f0, f1, f2, f3⟩, _⟩ := cells4 BX w2.heap.size _ _ _ _ _ (.tail _ (.head _))
  obtain ⟨⟨t0, t1, t2, t3⟩, _⟩ := cells4 BX (w2.heap.size + 1) _ _ _ _ _ (.head _)
  clear h2 HS
  clear hx hy
  go_wp2
  go_ret2
  exact ⟨rfl, BX.bel⟩
theorem wCmp_eq (b : Bool) (x y : Int) (hx : Ok b x) (hy : Ok b y) (c : ¬ inf b < sz b x) (d : ¬ inf b < sz b y) (h : pl b x = pl b y) (w : World) :
    Calls Try.prog 11 #[.int .u8 (fm b), .int .u64 x, .int .u64 y] w fun e w' => e = .returned (.tuple #[.int .u8 2, .int .i64 0]) ∧ Below w.heap.size w w' := by
  have HS := fun W => Hide.mk (wStandsOf_ok b x y hx hy W (show stV b x = KV x false (ng b x) (pl b x) by unfold stV; rw [if_neg c]) (show stV b y = KV y false (ng b y) (pl b y) by unfold stV; rw [if_neg d]))
  have h0 : ¬ pl b x < pl b y := by omega
  have h1 : ¬ pl b y < pl b x := by omega
  clear h
  go_enter Try.func11, Try.ntmps11
  go_wp2_with fail
  refine (HS _).out.mono ?_
  rintro e w2 ⟨rfl, h2⟩
  have BX := (((Bx.nil w).keep h2).push (KO x false (ng b x) (pl b x))).push (KO y false (ng b y) (pl b y))
  rw [show (w2.alloc (KO x false (ng b x) (pl b x))).heap.size = w2.heap.size + 1 by simp] at BX
  obtain ⟨⟨f0, f1, f2, f3⟩, _⟩ := cells4 BX w2.heap.size _ _ _ _ _ (.tail _ (.head _))
  obtain ⟨⟨t0, t1, t2, t3⟩, _⟩ := cells4 BX (w2.heap.size + 1) _ _ _ _ _ (.head _)
  clear h2 HS
  clear hx hy
  go_wp2
  go_ret2
  exact ⟨rfl, BX.bel⟩
theorem wCmp (b : Bool) (x y : Int) (hx : Ok b x) (hy : Ok b y) (w : World) :
    Calls Try.prog 11 #[.int .u8 (fm b), .int .u64 x, .int .u64 y] w fun e w' => e = .returned (.tuple #[.int .u8 (co b x y), .int .i64 0]) ∧ Below w.heap.size w w' := by
  unfold co
  by_cases c : inf b < sz b x
  · rw [if_pos (.inl c)]
    rcases stV_cases b y with ⟨_, h, _⟩ | ⟨_, h, _⟩ <;> exact wCmp_n1 b x y hx hy c h w
  · by_cases d : inf b < sz b y
    · rw [if_pos (.inr d)]; exact wCmp_n2 b x y hx hy c d w
    · rw [if_neg (by simp [c, d])]
      by_cases h : pl b x < pl b y
      · rw [if_pos h]; exact wCmp_lt b x y hx hy c d h w
      · rw [if_neg h]
        by_cases k : pl b y < pl b x
        · rw [if_pos k]; exact wCmp_gt b x y hx hy c d k w
        · rw [if_neg k]; exact wCmp_eq b x y hx hy c d (by omega) w
theorem wTotal0 (b : Bool) (x y : Int) (hx : Ok b x) (hy : Ok b y) {u1 u2 : Int} {n1 n2 g1 g2 : Bool} {p1 p2 : Int} (e1 : stV b x = KV u1 n1 g1 p1) (e2 : stV b y = KV u2 n2 g2 p2) (a1 a2 : Int) (K1 : ∀ W, Calls Try.prog 36 #[KV u1 n1 g1 p1] W fun e w' => e = .returned (.int .i64 a1) ∧ Below W.heap.size W w') (K2 : ∀ W, Calls Try.prog 36 #[KV u2 n2 g2 p2] W fun e w' => e = .returned (.int .i64 a2) ∧ Below W.heap.size W w') (w : World) :
    Calls Try.prog 12 #[.int .u8 (fm b), .int .u64 x, .int .u64 y] w fun e w' => e = .returned (.tuple #[.int .i64 (sgn a1 a2), .int .i64 0]) ∧ Below w.heap.size w w' := by
  have HS := fun W => Hide.mk (wStandsOf_ok b x y hx hy W e1 e2)
  clear e1 e2
  go_enter Try.func12, Try.ntmps12
  go_wp2_with fail
  refine (HS _).out.mono ?_
  rintro e w2 ⟨rfl, h2⟩
  have BX := (((Bx.nil w).keep h2).push (KO u1 n1 g1 p1)).push (KO u2 n2 g2 p2)
  rw [show (w2.alloc (KO u1 n1 g1 p1)).heap.size = w2.heap.size + 1 by simp] at BX
  obtain ⟨⟨f0, f1, f2, f3⟩, _⟩ := cells4 BX w2.heap.size _ _ _ _ _ (.tail _ (.head _))
  obtain ⟨⟨t0, t1, t2, t3⟩, _⟩ := cells4 BX (w2.heap.size + 1) _ _ _ _ _ (.head _)
  clear h2 HS
  have H1 := fun W => Hide.mk (K1 W)
  have H2 := fun W => Hide.mk (K2 W)
  clear K1 K2
  go_wp2_with fail
  clear f0 f1 f2 f3 t0 t1 t2 t3
  generalize w2.heap.size + 1 = kb at *
  generalize w2.heap.size = ka at *
  generalize (w2.alloc (KO u1 n1 g1 p1)).alloc (KO u2 n2 g2 p2) = W1 at *
  have HI := BX.drew
  clear BX
  have sh := fun W (hW : Bx w [(kb, KO u2 n2 g2 p2), (ka, KO u1 n1 g1 p1)] W) => And.intro (cells4 hW kb _ _ _ _ _ (.head _)).1 (cells4 hW ka _ _ _ _ _ (.tail _ (.head _))).1
  refine Drawn.enter (Bx w [(kb, KO u2 n2 g2 p2), (ka, KO u1 n1 g1 p1)]) (by kernel_rfl) ?_
  refine Drawn.tk (i := 0) (v := ?v3) rfl (fun W hW => ?_) HI ?_
  rotate_left
  · have ⟨⟨t0, t1, t2, t3⟩, f0, f1, f2, f3⟩ := sh W hW
    go_simp <;> exact rfl
  refine Drawn.tk (i := 2) (v := ?v4) rfl (fun W hW => ?_) HI ?_
  rotate_left
  · have ⟨⟨t0, t1, t2, t3⟩, f0, f1, f2, f3⟩ := sh W hW
    go_simp <;> exact rfl
  refine Drawn.one (j := 1) (by kernel_rfl) rfl (fun K hK => ?_)
  go_simp
  refine ((H1 _).out).mono ?_
  rintro e wn ⟨rfl, hn⟩
  refine hK _ _ (HI.keep hn) ?_
  clear hK K
  replace HI := HI.keep hn
  clear hn
  refine Drawn.one (j := 3) (by kernel_rfl) rfl (fun K hK => ?_)
  go_simp
  refine ((H2 _).out).mono ?_
  rintro e wn ⟨rfl, hn⟩
  refine hK _ _ (HI.keep hn) ?_
  clear hK K
  replace HI := HI.keep hn
  clear hn
  refine Drawn.one (j := 4) (by kernel_rfl) rfl (fun K hK => ?_)
  go_simp
  refine (cmp64 a1 a2 _).mono ?_
  rintro e wn ⟨rfl, hn⟩
  refine hK _ _ (HI.keep hn) ?_
  clear hK K
  replace HI := HI.keep hn
  clear hn
  refine Drawn.tk (i := 5) (v := ?v5) rfl (fun W hW => ?_) HI ?_
  rotate_left
  · have ⟨⟨t0, t1, t2, t3⟩, f0, f1, f2, f3⟩ := sh W hW
    go_simp <;> exact rfl
  refine Drawn.tk (i := 6) (v := ?v6) rfl (fun W hW => ?_) HI ?_
  rotate_left
  · have ⟨⟨t0, t1, t2, t3⟩, f0, f1, f2, f3⟩ := sh W hW
    go_simp <;> exact rfl
  refine Drawn.done (by kernel_rfl) ?_
  try go_simp
  go_wp2
  go_ret2
  exact ⟨rfl, HI.bel⟩
theorem wTotal (b : Bool) (x y : Int) (hx : Ok b x) (hy : Ok b y) (w : World) :
    Calls Try.prog 12 #[.int .u8 (fm b), .int .u64 x, .int .u64 y] w fun e w' => e = .returned (.tuple #[.int .i64 (sgn (ht b x) (ht b y)), .int .i64 0]) ∧ Below w.heap.size w w' := by
  have hpx := pl_bd b x
  have hpy := pl_bd b y
  have hX : ∃ u n g p, stV b x = KV u n g p ∧ ∀ W, Calls Try.prog 36 #[KV u n g p] W fun e w' => e = .returned (.int .i64 (ht b x)) ∧ Below W.heap.size W w' := by
    rcases stV_cases b x with ⟨_, h, k⟩ | ⟨_, h, k⟩
    · exact ⟨_, _, _, _, h, fun W => by have := wHeight (nan b) true false 0 (by decide) (by decide) W; rw [k]; exact this⟩
    · exact ⟨_, _, _, _, h, fun W => by have := wHeight x false (ng b x) (pl b x) hpx.1 hpx.2 W; rw [k]; exact this⟩
  have hY : ∃ u n g p, stV b y = KV u n g p ∧ ∀ W, Calls Try.prog 36 #[KV u n g p] W fun e w' => e = .returned (.int .i64 (ht b y)) ∧ Below W.heap.size W w' := by
    rcases stV_cases b y with ⟨_, h, k⟩ | ⟨_, h, k⟩
    · exact ⟨_, _, _, _, h, fun W => by have := wHeight (nan b) true false 0 (by decide) (by decide) W; rw [k]; exact this⟩
    · exact ⟨_, _, _, _, h, fun W => by have := wHeight y false (ng b y) (pl b y) hpy.1 hpy.2 W; rw [k]; exact this⟩
  obtain ⟨u1, n1, g1, p1, e1, K1⟩ := hX
  obtain ⟨u2, n2, g2, p2, e2, K2⟩ := hY
  exact wTotal0 b x y hx hy e1 e2 _ _ K1 K2 w
theorem wCmp_err1 (f x y c : Int) (h : GE f x c) (w : World) :
    Calls Try.prog 11 #[.int .u8 f, .int .u64 x, .int .u64 y] w fun e w' => e = .returned (.tuple #[.int .u8 0, .int .i64 c]) ∧ Below w.heap.size w w' := by
  have hne := h.ne
  have hn2 : (c != 0) = true := by simp only [bne, hne, Bool.not_false]
  go_enter Try.func11, Try.ntmps11
  go_wp2_with fail
  refine (wStandsOf_1 f x y c h _).mono ?_
  rintro e w2 ⟨rfl, h2⟩
  have BX := (((Bx.nil w).keep h2).push (KO 0 false false 0)).push (KO 0 false false 0)
  rw [show (w2.alloc (KO 0 false false 0)).heap.size = w2.heap.size + 1 by simp] at BX
  clear h2
  go_wp2
  go_ret2
  exact ⟨rfl, BX.bel⟩
theorem wCmp_err2 (b : Bool) (x y c : Int) (hx : Ok b x) (h : GE (fm b) y c) (w : World) :
    Calls Try.prog 11 #[.int .u8 (fm b), .int .u64 x, .int .u64 y] w fun e w' => e = .returned (.tuple #[.int .u8 0, .int .i64 c]) ∧ Below w.heap.size w w' := by
  have hne := h.ne
  have hn2 : (c != 0) = true := by simp only [bne, hne, Bool.not_false]
  go_enter Try.func11, Try.ntmps11
  go_wp2_with fail
  refine (wStandsOf_2 b x y c hx h _).mono ?_
  rintro e w2 ⟨rfl, h2⟩
  have BX := (((Bx.nil w).keep h2).push (KO 0 false false 0)).push (KO 0 false false 0)
  rw [show (w2.alloc (KO 0 false false 0)).heap.size = w2.heap.size + 1 by simp] at BX
  clear h2
  go_wp2
  go_ret2
  exact ⟨rfl, BX.bel⟩
theorem wTotal_err1 (f x y c : Int) (h : GE f x c) (w : World) :
    Calls Try.prog 12 #[.int .u8 f, .int .u64 x, .int .u64 y] w fun e w' => e = .returned (.tuple #[.int .i64 0, .int .i64 c]) ∧ Below w.heap.size w w' := by
  have hne := h.ne
  have hn2 : (c != 0) = true := by simp only [bne, hne, Bool.not_false]
  go_enter Try.func12, Try.ntmps12
  go_wp2_with fail
  refine (wStandsOf_1 f x y c h _).mono ?_
  rintro e w2 ⟨rfl, h2⟩
  have BX := (((Bx.nil w).keep h2).push (KO 0 false false 0)).push (KO 0 false false 0)
  rw [show (w2.alloc (KO 0 false false 0)).heap.size = w2.heap.size + 1 by simp] at BX
  clear h2
  go_wp2
  go_ret2
  exact ⟨rfl, BX.bel⟩
theorem wTotal_err2 (b : Bool) (x y c : Int) (hx : Ok b x) (h : GE (fm b) y c) (w : World) :
    Calls Try.prog 12 #[.int .u8 (fm b), .int .u64 x, .int .u64 y] w fun e w' => e = .returned (.tuple #[.int .i64 0, .int .i64 c]) ∧ Below w.heap.size w w' := by
  have hne := h.ne
  have hn2 : (c != 0) = true := by simp only [bne, hne, Bool.not_false]
  go_enter Try.func12, Try.ntmps12
  go_wp2_with fail
  refine (wStandsOf_2 b x y c hx h _).mono ?_
  rintro e w2 ⟨rfl, h2⟩
  have BX := (((Bx.nil w).keep h2).push (KO 0 false false 0)).push (KO 0 false false 0)
  rw [show (w2.alloc (KO 0 false false 0)).heap.size = w2.heap.size + 1 by simp] at BX
  clear h2
  go_wp2
  go_ret2
  exact ⟨rfl, BX.bel⟩
end Go.Proofs.Ytgfpbmjknknflaa

namespace Go.Proofs.Ytgfpbmjknknflaa
open Go.RowKit Go.Wd Go.Box
set_option linter.unusedVariables false
set_option maxRecDepth 3000
/-- Finite numbers are below two to that. -/
def wd (b : Bool) : Int := match b with | true => 1024 | false => 128
theorem rLow (b : Bool) (w : World) :
    Calls Try.prog 60 #[.int .u8 (fm b)] w fun e w' => e = .returned (.int .i64 (lo b)) ∧ Below w.heap.size w w' := by
  cases b
  · rw [show fm false = 1 from rfl]
    go_enter Try.func60, Try.ntmps60
    go_wp2
    go_ret
    exact ⟨rfl, Below.refl _ _⟩
  · rw [show fm true = 2 from rfl]
    go_enter Try.func60, Try.ntmps60
    go_wp2
    go_ret
    exact ⟨rfl, Below.refl _ _⟩
theorem dformZ (n : Bool) (a : Option Addr) (ca : Nat) (ex : Int) (w : World) :
    Calls Try.prog 58 #[.bool n, .slice a 0 ca, .int .i64 ex] w fun e w' => e = .returned noD ∧ Below w.heap.size w w' := by
  go_enter Try.func58, Try.ntmps58
  go_wp2
  refine bodyPost_ret (results_D1 rfl _ _ w.heap.size _ rfl (dcell_new _ _ _ _)) rfl ?_
  exact ⟨rfl, below_alloc _ _⟩
theorem sv_mul (n : Bool) (x y : Int) : sv n x * y = sv n (x * y) := by
  cases n
  · rfl
  · rw [sv_t, sv_t, Int.neg_mul]
/-- The number x times 2 to the e, in its form. -/
theorem dformD (n : Bool) (a : Option Addr) (ca : Nat) (za : List Int) (e : Int) (w : World) {x : Int} (ha : Lie w a za) (ga : Good za x) (hx : x < 9007199254740992) (h0 : -1074 ≤ e) (h1 : e ≤ 2000) :
    Calls Try.prog 58 #[.bool n, .slice a za.length ca, .int .i64 e] w fun e' w' => ∃ n2 zs ex a' c, e' = .returned (dV n2 a' zs.length c ex) ∧ DN n2 zs ex (sv n x * pK e) ∧ Lie w' a' zs ∧ Below w.heap.size w w' := by
  have hK := KK_eq
  have hx0 := ga.nonneg
  by_cases hz : 0 < za.length
  · have hp := ga.pos hz
    obtain ⟨t, ht⟩ := low_ex hp
    refine (dform41 n a ca za e w ha ga hz ht (by omega) (by omega)).mono ?_
    rintro e' w' ⟨zs, a', c, rfl, h⟩
    have e2 := low_half ht
    have hpt := p2pos t
    have h5 : 1 ≤ x / 2 ^ t := by
      have := Int.ediv_nonneg hx0 (Int.le_of_lt hpt)
      have := ht.one
      omega
    have h6 : 1 * 2 ^ t ≤ x / 2 ^ t * 2 ^ t := Int.mul_le_mul_of_nonneg_right h5 (Int.le_of_lt hpt)
    have h7 : t < 64 := p2lt (by have : (2 : Int) ^ 64 = 18446744073709551616 := by decide
                                 omega)
    have hg := h.good
    have hz2 := hg.ne (show 0 < x / 2 ^ t by omega)
    refine ⟨n, zs, e + t, a', c, rfl, ⟨⟨hg.can, hg.len, .inr ⟨hz2, by rw [hg.val]; exact ht.one, by omega, by omega⟩⟩, ?_⟩, h.lie, h.bel⟩
    unfold dv pK
    rw [hg.val, show (e + (t : Int) + KK).toNat = (e + KK).toNat + t by omega, Int.pow_add, sv_mul, sv_mul, Int.mul_comm ((2 : Int) ^ (e + KK).toNat), ← Int.mul_assoc, ← e2]
  · obtain ⟨rfl, hx2⟩ := ga.nil (by omega)
    refine (dformZ n a ca e w).mono ?_
    rintro e' w' ⟨rfl, hb⟩
    refine ⟨false, [], 0, none, 0, rfl, ⟨zeroDG, ?_⟩, .inl rfl, hb⟩
    rw [zero_dv, hx2]
    cases n <;> simp [sv]
set_option maxHeartbeats 2000000 in
theorem rValue0 (b : Bool) (x : Int) (h : Ok b x) (hd : fd b x = 0) (w : World) :
    Calls Try.prog 39 #[.int .u8 (fm b), .int .u64 x] w fun e w' => ∃ n zs ex a c, e = .returned (dV n a zs.length c ex) ∧ DN n zs ex (wv b x) ∧ Lie w' a zs ∧ Below w.heap.size w w' := by
  have B1 := (Bx.nil w).push (DO false none 0 0 0)
  have hu : un b x = fn b x := by unfold un; rw [if_pos hd]
  have hue : ue b x = lo b := by unfold ue; rw [hd]; omega
  have HWV : Hide (wv b x = sv (ng b x) (fn b x) * pK (lo b)) := ⟨by unfold wv; rw [hu, hue]⟩
  have hfn := fn_bd b x
  have hfr := fr_le b
  have hlo := lo_bd b
  have d1 : (fd b x == 0) = true := by simp [hd]
  clear hu hue hd
  go_enter Try.func39, Try.ntmps39
  go_wp2_with fail
  refine (rSplit b x h _).mono ?_
  rintro e w2 ⟨rfl, h2⟩
  have HF := (B1.keep h2).push (FO (ng b x) (fd b x) (fn b x))
  have hlt : w.heap.size < w2.heap.size := (B1.keep h2).lt (.head _)
  clear h2 B1
  go_wp2_with fail
  generalize hw3 : w2.alloc (FO (ng b x) (fd b x) (fn b x)) = w3 at *
  clear hw3
  replace HF := HF.drew
  have HI := HF.sub (L' := [(w2.heap.size, FO (ng b x) (fd b x) (fn b x))]) (by simp)
  have sh := fun W (hW : Bx w [(w2.heap.size, FO (ng b x) (fd b x) (fn b x))] W) => fields_cells hW w2.heap.size (ng b x) (fd b x) (fn b x) (.head _)
  refine Drawn.enter (Bx w [(w2.heap.size, FO (ng b x) (fd b x) (fn b x))]) (by kernel_rfl) ?_
  refine Drawn.tk (i := 0) (v := ?v36) rfl (fun W hW => ?_) HI ?_
  rotate_left
  · have ⟨q0, q1, q2⟩ := sh W hW
    go_simp <;> exact rfl
  refine Drawn.tk (i := 1) (v := ?v37) rfl (fun W hW => ?_) HI ?_
  rotate_left
  · have ⟨q0, q1, q2⟩ := sh W hW
    go_simp <;> exact rfl
  refine Drawn.tk (i := 2) (v := ?v38) rfl (fun W hW => ?_) HI ?_
  rotate_left
  · have ⟨q0, q1, q2⟩ := sh W hW
    go_simp <;> exact rfl
  refine Drawn.tk (i := 3) (v := ?v39) rfl (fun W hW => ?_) HI ?_
  rotate_left
  · have ⟨q0, q1, q2⟩ := sh W hW
    go_simp <;> exact rfl
  refine Drawn.tk (i := 5) (v := ?v40) rfl (fun W hW => ?_) HI ?_
  rotate_left
  · have ⟨q0, q1, q2⟩ := sh W hW
    go_simp <;> exact rfl
  refine Drawn.one (j := 4) (by kernel_rfl) rfl (fun K hK => ?_)
  go_simp
  refine (of17 (fn b x) hfn.1 (by omega) _).mono ?_
  rintro e wn ⟨zs, a, c, rfl, hN, _⟩
  refine hK _ _ (HI.keep hN.bel) ?_
  clear hK K
  replace HI := HI.keep hN.bel
  replace HF := HF.keep hN.bel
  have hl := hN.lie
  have G := Hide.mk hN.good
  clear hN
  refine Drawn.one (j := 6) (by kernel_rfl) rfl (fun K hK => ?_)
  go_simp
  refine (rLow b _).mono ?_
  rintro e wm ⟨rfl, hn⟩
  refine hK _ _ (HI.keep hn) ?_
  clear hK K
  replace HI := HI.keep hn
  replace HF := HF.keep hn
  replace hl := hl.below hn (Nat.le_refl _)
  clear hn
  refine Drawn.one (j := 7) (by kernel_rfl) rfl (fun K hK => ?_)
  go_simp
  refine (dformD (ng b x) a c zs (lo b) _ hl G.out (by omega) (by omega) (by omega)).mono ?_
  rintro e wd2 ⟨n9, z9, x9, a9, c9, rfl, hD, l9, hb9⟩
  refine hK _ _ (HI.keep hb9) ?_
  clear hK K
  replace HI := HI.keep hb9
  replace HF := HF.keep hb9
  have HD := Hide.mk (And.intro hD l9)
  clear hD l9 hb9 G hl
  obtain ⟨⟨f0, f1, f2⟩, r0, r1, r2⟩ := cells3 HF w.heap.size _ _ _ _ (.tail _ (.head _))
  have HF2 := (HF.sub (L' := [(w.heap.size, DO false none 0 0 0), (w2.heap.size, FO (ng b x) (fd b x) (fn b x))]) (by simp)).fill3 (Nat.le_refl _) (by simp; omega) (.bool n9) (.slice a9 z9.length c9) (.int .i64 x9)
  refine Drawn.one (j := 8) (by kernel_rfl) rfl (fun K hK => ?_)
  go_simp
  replace HI := HF2.sub (L' := [(w2.heap.size, FO (ng b x) (fd b x) (fn b x))]) (by simp)
  refine hK _ _ HI ?_
  clear hK K f0 f1 f2 r0 r1 r2
  refine Drawn.done (by kernel_rfl) ?_
  try go_simp
  go_wp2
  refine bodyPost_ret (results_D1 rfl _ _ w.heap.size _ rfl ⟨HF2.head, rfl⟩) rfl ?_
  have L := Live.set3 (g := w.heap.size) ⟨(HF.sub (L' := [(w.heap.size, DO false none 0 0 0)]) (by simp)).head, rfl⟩ (.bool n9) (.slice a9 z9.length c9) (.int .i64 x9) (Live.one HD.out.2)
  exact ⟨n9, z9, x9, a9, c9, rfl, by rw [HWV.out]; exact HD.out.1, L.all (a9, z9) (.head _), HF2.bel⟩
end Go.Proofs.Ytgfpbmjknknflaa
