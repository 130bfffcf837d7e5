import Derived.Test.YteejaghimppcgaaDoorDyadCutsPart16
import Derived.Test.YteejaghimppcgaaDoorDyadCutsPart14
import Derived.Test.YteejaghimppcgaaDoorDyadCutsPart13
namespace Go.Proofs.YteejaghimppcgaaDoor
open Go.RowKit Go.Wd Go.Box
set_option linter.unusedVariables false
set_option maxRecDepth 3000
theorem fm_sgn {s E : Int} {n : Bool} {zs : List Int} {ex : Int} (h : Fm s E n zs ex) : SgnOf n zs.length (sgn s 0) := by
  rcases h with ⟨rfl, rfl, rfl, rfl⟩ | ⟨h0, t, ht, rfl, rfl, hc, hv⟩
  · exact .inl ⟨rfl, rfl⟩
  · have hz : 0 < zs.length := by
      by_cases c : zs.length = 0
      · obtain rfl := List.length_eq_zero_iff.1 c
        rw [Nt.val_nil] at hv
        have := ht.one
        rw [← hv] at this
        simp at this
      · omega
    by_cases c : s < 0
    · refine .inr (.inr ⟨hz, decide_eq_true c, ?_⟩)
      unfold sgn
      rw [if_pos c]
    · refine .inr (.inl ⟨hz, decide_eq_false c, ?_⟩)
      unfold sgn
      rw [if_neg c, if_pos (by omega)]
set_option maxHeartbeats 2000000 in
theorem cmpX_eqp (n1 n2 : Bool) (a1 a2 : Option Addr) (c1 c2 : Nat) (z1 z2 : List Int) (e1 e2 : Int) (w : World) (h1 : SgnOf n1 z1.length 1) (h2 : SgnOf n2 z2.length 1) (l1 : Lie w a1 z1) (l2 : Lie w a2 z2) (g1 : DG n1 z1 e1) (g2 : DG n2 z2 e2) (hz1 : 0 < z1.length) (hz2 : 0 < z2.length) {T1 T2 : Nat} (hT1 : BitLen (Nt.val z1) T1) (hT2 : BitLen (Nt.val z2) T2) (ht : e1 + T1 = e2 + T2) (k1 k2 : Nat) (hk1 : k1 ≤ 150000) (hk2 : k2 ≤ 150000) (hh1 : e1 - min e1 e2 = k1) (hh2 : e2 - min e1 e2 = k2) (v : Int) (hv : sgn (sv n1 (Nt.val z1 * 2 ^ k1) + sv (!n2) (Nt.val z2 * 2 ^ k2)) 0 = v) :
    Calls Tryd.prog 38 #[dV n1 a1 z1.length c1 e1, dV n2 a2 z2.length c2 e2] w fun e w' => e = .returned (.int .i64 v) ∧ Below w.heap.size w w' := by
  have H1 := Hide.mk hT1
  have H2 := Hide.mk hT2
  have HV := Hide.mk hv
  have HK := Hide.mk (And.intro hh1 hh2)
  have x1 := g1.ex_bd
  have x2 := g2.ex_bd
  clear hT1 hT2 hv hh1 hh2
  have B1 := ((Bx.nil w).push (DO n1 a1 z1.length c1 e1)).push (DO n2 a2 z2.length c2 e2)
  go_enter Tryd.func38, Tryd.ntmps38
  go_wp2_with fail
  rw [show (w.alloc (DO n1 a1 z1.length c1 e1)).heap.size = w.heap.size + 1 by simp] at B1
  generalize hw1 : (w.alloc (DO n1 a1 z1.length c1 e1)).alloc (DO n2 a2 z2.length c2 e2) = w1 at *
  clear hw1
  have HI := B1.drew
  have sh := fun W (hW : Bx w [(w.heap.size + 1, DO n2 a2 z2.length c2 e2), (w.heap.size, DO n1 a1 z1.length c1 e1)] W) => And.intro (cells3 hW (w.heap.size + 1) _ _ _ _ (.head _)).1 (cells3 hW w.heap.size _ _ _ _ (.tail _ (.head _))).1
  refine Drawn.enter (Bx w [(w.heap.size + 1, DO n2 a2 z2.length c2 e2), (w.heap.size, DO n1 a1 z1.length c1 e1)]) (by kernel_rfl) ?_
  refine Drawn.take (i := 0) (v := ?v237) rfl (by kernel_rfl) (by kernel_rfl) (by kernel_rfl) (fun _ _ _ h => h) (by kernel_rfl) (fun W hW => ?_) HI ?_
  rotate_left
  · have ⟨⟨s0, s1, s2⟩, q0, q3, q4⟩ := sh W hW
    go_simp <;> exact rfl
  refine Drawn.take (i := 2) (v := ?v238) rfl (by kernel_rfl) (by kernel_rfl) (by kernel_rfl) (fun _ _ _ h => h) (by kernel_rfl) (fun W hW => ?_) HI ?_
  rotate_left
  · have ⟨⟨s0, s1, s2⟩, q0, q3, q4⟩ := sh W hW
    go_simp <;> exact rfl
  refine Drawn.one (j := 1) (by kernel_rfl) rfl (fun K hK => ?_)
  go_simp
  refine (rSgnAny n1 a1 c1 z1.length e1 1 h1 _).mono ?_
  rintro e wn ⟨rfl, hn⟩
  refine hK _ _ (HI.keep hn) ?_
  clear hK K
  replace HI := HI.keep hn
  clear hn
  refine Drawn.one (j := 3) (by kernel_rfl) rfl (fun K hK => ?_)
  go_simp
  refine (rSgnAny n2 a2 c2 z2.length e2 1 h2 _).mono ?_
  rintro e wn ⟨rfl, hn⟩
  refine hK _ _ (HI.keep hn) ?_
  clear hK K
  replace HI := HI.keep hn
  clear hn
  refine Drawn.take (i := 4) (v := ?v239) rfl (by kernel_rfl) (by kernel_rfl) (by kernel_rfl) (fun _ _ _ h => h) (by kernel_rfl) (fun W hW => ?_) HI ?_
  rotate_left
  · have ⟨⟨s0, s1, s2⟩, q0, q3, q4⟩ := sh W hW
    go_simp <;> exact rfl
  refine Drawn.take (i := 5) (v := ?v240) rfl (by kernel_rfl) (by kernel_rfl) (by kernel_rfl) (fun _ _ _ h => h) (by kernel_rfl) (fun W hW => ?_) HI ?_
  rotate_left
  · have ⟨⟨s0, s1, s2⟩, q0, q3, q4⟩ := sh W hW
    go_simp <;> exact rfl
  refine Drawn.done (by kernel_rfl) ?_
  try go_simp
  go_wp2_with fail
  replace HI := HI.drew
  refine Drawn.enter (Bx w [(w.heap.size + 1, DO n2 a2 z2.length c2 e2), (w.heap.size, DO n1 a1 z1.length c1 e1)]) (by kernel_rfl) ?_
  refine Drawn.take (i := 0) (v := ?v241) rfl (by kernel_rfl) (by kernel_rfl) (by kernel_rfl) (fun _ _ _ h => h) (by kernel_rfl) (fun W hW => ?_) HI ?_
  rotate_left
  · have ⟨⟨s0, s1, s2⟩, q0, q3, q4⟩ := sh W hW
    go_simp <;> exact rfl
  refine Drawn.take (i := 2) (v := ?v242) rfl (by kernel_rfl) (by kernel_rfl) (by kernel_rfl) (fun _ _ _ h => h) (by kernel_rfl) (fun W hW => ?_) HI ?_
  rotate_left
  · have ⟨⟨s0, s1, s2⟩, q0, q3, q4⟩ := sh W hW
    go_simp <;> exact rfl
  refine Drawn.one (j := 1) (by kernel_rfl) rfl (fun K hK => ?_)
  go_simp
  refine (dreftop54 n1 a1 c1 z1 e1 _ (l1.below HI.bel (Nat.le_refl _)) g1 hz1).mono ?_
  rintro e w5 ⟨B5, rfl, hB5, hb5, h5⟩
  obtain rfl := hB5.unique H1.out
  refine hK _ _ (HI.keep h5) ?_
  clear hK K hB5
  replace HI := HI.keep h5
  clear h5
  refine Drawn.one (j := 3) (by kernel_rfl) rfl (fun K hK => ?_)
  go_simp
  refine (dreftop54 n2 a2 c2 z2 e2 _ (l2.below HI.bel (Nat.le_refl _)) g2 hz2).mono ?_
  rintro e w6 ⟨B6, rfl, hB6, hb6, h6⟩
  obtain rfl := hB6.unique H2.out
  refine hK _ _ (HI.keep h6) ?_
  clear hK K hB6
  replace HI := HI.keep h6
  clear h6
  refine Drawn.take (i := 4) (v := .bool false) rfl (by kernel_rfl) (by kernel_rfl) (by kernel_rfl) (fun _ _ _ h => h) (by kernel_rfl) (fun W hW => ?_) HI ?_
  · have ⟨⟨s0, s1, s2⟩, q0, q3, q4⟩ := sh W hW
    go_simp <;> (first | omega | (simp; omega))
  refine Drawn.done (by kernel_rfl) ?_
  try go_simp
  obtain ⟨⟨s0, s1, s2⟩, q0, q3, q4⟩ := sh _ HI
  clear sh
  go_wp2_with fail
  have hlen1 := g1.len
  have hlen2 := g2.len
  refine (subX n1 n2 a1 a2 c1 c2 z1 z2 e1 e2 _ (l1.below HI.bel (Nat.le_refl _)) (l2.below HI.bel (Nat.le_refl _)) g1.can g2.can (by omega) (by omega) hz1 hz2 (by omega) (by omega) (by omega) (by omega) k1 k2 hk1 hk2 HK.out.1 HK.out.2).mono ?_
  rintro e w9 ⟨n9, z9, x9, a9, c9, rfl, F9, l9, h9⟩
  replace HI := HI.keep h9
  have HS := fm_sgn F9
  rw [HV.out] at HS
  have HSS := fun W => Hide.mk (rSgnAny n9 a9 c9 z9.length x9 v HS W)
  clear h9 F9 l9 HS s0 s1 s2 q0 q3 q4
  go_wp2_with fail
  refine (HSS _).out.mono ?_
  rintro e w10 ⟨rfl, h10⟩
  replace HI := HI.keep h10
  clear h10 HSS
  go_wp2
  go_ret
  exact ⟨rfl, HI.bel⟩
set_option maxHeartbeats 2000000 in
theorem cmpX_eqn (n1 n2 : Bool) (a1 a2 : Option Addr) (c1 c2 : Nat) (z1 z2 : List Int) (e1 e2 : Int) (w : World) (h1 : SgnOf n1 z1.length (-1)) (h2 : SgnOf n2 z2.length (-1)) (l1 : Lie w a1 z1) (l2 : Lie w a2 z2) (g1 : DG n1 z1 e1) (g2 : DG n2 z2 e2) (hz1 : 0 < z1.length) (hz2 : 0 < z2.length) {T1 T2 : Nat} (hT1 : BitLen (Nt.val z1) T1) (hT2 : BitLen (Nt.val z2) T2) (ht : e1 + T1 = e2 + T2) (k1 k2 : Nat) (hk1 : k1 ≤ 150000) (hk2 : k2 ≤ 150000) (hh1 : e1 - min e1 e2 = k1) (hh2 : e2 - min e1 e2 = k2) (v : Int) (hv : sgn (sv n1 (Nt.val z1 * 2 ^ k1) + sv (!n2) (Nt.val z2 * 2 ^ k2)) 0 = v) :
    Calls Tryd.prog 38 #[dV n1 a1 z1.length c1 e1, dV n2 a2 z2.length c2 e2] w fun e w' => e = .returned (.int .i64 v) ∧ Below w.heap.size w w' := by
  have H1 := Hide.mk hT1
  have H2 := Hide.mk hT2
  have HV := Hide.mk hv
  have HK := Hide.mk (And.intro hh1 hh2)
  have x1 := g1.ex_bd
  have x2 := g2.ex_bd
  clear hT1 hT2 hv hh1 hh2
  have B1 := ((Bx.nil w).push (DO n1 a1 z1.length c1 e1)).push (DO n2 a2 z2.length c2 e2)
  go_enter Tryd.func38, Tryd.ntmps38
  go_wp2_with fail
  rw [show (w.alloc (DO n1 a1 z1.length c1 e1)).heap.size = w.heap.size + 1 by simp] at B1
  generalize hw1 : (w.alloc (DO n1 a1 z1.length c1 e1)).alloc (DO n2 a2 z2.length c2 e2) = w1 at *
  clear hw1
  have HI := B1.drew
  have sh := fun W (hW : Bx w [(w.heap.size + 1, DO n2 a2 z2.length c2 e2), (w.heap.size, DO n1 a1 z1.length c1 e1)] W) => And.intro (cells3 hW (w.heap.size + 1) _ _ _ _ (.head _)).1 (cells3 hW w.heap.size _ _ _ _ (.tail _ (.head _))).1
  refine Drawn.enter (Bx w [(w.heap.size + 1, DO n2 a2 z2.length c2 e2), (w.heap.size, DO n1 a1 z1.length c1 e1)]) (by kernel_rfl) ?_
  refine Drawn.take (i := 0) (v := ?v243) rfl (by kernel_rfl) (by kernel_rfl) (by kernel_rfl) (fun _ _ _ h => h) (by kernel_rfl) (fun W hW => ?_) HI ?_
  rotate_left
  · have ⟨⟨s0, s1, s2⟩, q0, q3, q4⟩ := sh W hW
    go_simp <;> exact rfl
  refine Drawn.take (i := 2) (v := ?v244) rfl (by kernel_rfl) (by kernel_rfl) (by kernel_rfl) (fun _ _ _ h => h) (by kernel_rfl) (fun W hW => ?_) HI ?_
  rotate_left
  · have ⟨⟨s0, s1, s2⟩, q0, q3, q4⟩ := sh W hW
    go_simp <;> exact rfl
  refine Drawn.one (j := 1) (by kernel_rfl) rfl (fun K hK => ?_)
  go_simp
  refine (rSgnAny n1 a1 c1 z1.length e1 (-1) h1 _).mono ?_
  rintro e wn ⟨rfl, hn⟩
  refine hK _ _ (HI.keep hn) ?_
  clear hK K
  replace HI := HI.keep hn
  clear hn
  refine Drawn.one (j := 3) (by kernel_rfl) rfl (fun K hK => ?_)
  go_simp
  refine (rSgnAny n2 a2 c2 z2.length e2 (-1) h2 _).mono ?_
  rintro e wn ⟨rfl, hn⟩
  refine hK _ _ (HI.keep hn) ?_
  clear hK K
  replace HI := HI.keep hn
  clear hn
  refine Drawn.take (i := 4) (v := ?v245) rfl (by kernel_rfl) (by kernel_rfl) (by kernel_rfl) (fun _ _ _ h => h) (by kernel_rfl) (fun W hW => ?_) HI ?_
  rotate_left
  · have ⟨⟨s0, s1, s2⟩, q0, q3, q4⟩ := sh W hW
    go_simp <;> exact rfl
  refine Drawn.take (i := 5) (v := ?v246) rfl (by kernel_rfl) (by kernel_rfl) (by kernel_rfl) (fun _ _ _ h => h) (by kernel_rfl) (fun W hW => ?_) HI ?_
  rotate_left
  · have ⟨⟨s0, s1, s2⟩, q0, q3, q4⟩ := sh W hW
    go_simp <;> exact rfl
  refine Drawn.done (by kernel_rfl) ?_
  try go_simp
  go_wp2_with fail
  replace HI := HI.drew
  refine Drawn.enter (Bx w [(w.heap.size + 1, DO n2 a2 z2.length c2 e2), (w.heap.size, DO n1 a1 z1.length c1 e1)]) (by kernel_rfl) ?_
  refine Drawn.take (i := 0) (v := ?v247) rfl (by kernel_rfl) (by kernel_rfl) (by kernel_rfl) (fun _ _ _ h => h) (by kernel_rfl) (fun W hW => ?_) HI ?_
  rotate_left
  · have ⟨⟨s0, s1, s2⟩, q0, q3, q4⟩ := sh W hW
    go_simp <;> exact rfl
  refine Drawn.take (i := 2) (v := ?v248) rfl (by kernel_rfl) (by kernel_rfl) (by kernel_rfl) (fun _ _ _ h => h) (by kernel_rfl) (fun W hW => ?_) HI ?_
  rotate_left
  · have ⟨⟨s0, s1, s2⟩, q0, q3, q4⟩ := sh W hW
    go_simp <;> exact rfl
  refine Drawn.one (j := 1) (by kernel_rfl) rfl (fun K hK => ?_)
  go_simp
  refine (dreftop54 n1 a1 c1 z1 e1 _ (l1.below HI.bel (Nat.le_refl _)) g1 hz1).mono ?_
  rintro e w5 ⟨B5, rfl, hB5, hb5, h5⟩
  obtain rfl := hB5.unique H1.out
  refine hK _ _ (HI.keep h5) ?_
  clear hK K hB5
  replace HI := HI.keep h5
  clear h5
  refine Drawn.one (j := 3) (by kernel_rfl) rfl (fun K hK => ?_)
  go_simp
  refine (dreftop54 n2 a2 c2 z2 e2 _ (l2.below HI.bel (Nat.le_refl _)) g2 hz2).mono ?_
  rintro e w6 ⟨B6, rfl, hB6, hb6, h6⟩
  obtain rfl := hB6.unique H2.out
  refine hK _ _ (HI.keep h6) ?_
  clear hK K hB6
  replace HI := HI.keep h6
  clear h6
  refine Drawn.take (i := 4) (v := .bool false) rfl (by kernel_rfl) (by kernel_rfl) (by kernel_rfl) (fun _ _ _ h => h) (by kernel_rfl) (fun W hW => ?_) HI ?_
  · have ⟨⟨s0, s1, s2⟩, q0, q3, q4⟩ := sh W hW
    go_simp <;> (first | omega | (simp; omega))
  refine Drawn.done (by kernel_rfl) ?_
  try go_simp
  obtain ⟨⟨s0, s1, s2⟩, q0, q3, q4⟩ := sh _ HI
  clear sh
  go_wp2_with fail
  have hlen1 := g1.len
  have hlen2 := g2.len
  refine (subX n1 n2 a1 a2 c1 c2 z1 z2 e1 e2 _ (l1.below HI.bel (Nat.le_refl _)) (l2.below HI.bel (Nat.le_refl _)) g1.can g2.can (by omega) (by omega) hz1 hz2 (by omega) (by omega) (by omega) (by omega) k1 k2 hk1 hk2 HK.out.1 HK.out.2).mono ?_
  rintro e w9 ⟨n9, z9, x9, a9, c9, rfl, F9, l9, h9⟩
  replace HI := HI.keep h9
  have HS := fm_sgn F9
  rw [HV.out] at HS
  have HSS := fun W => Hide.mk (rSgnAny n9 a9 c9 z9.length x9 v HS W)
  clear h9 F9 l9 HS s0 s1 s2 q0 q3 q4
  go_wp2_with fail
  refine (HSS _).out.mono ?_
  rintro e w10 ⟨rfl, h10⟩
  replace HI := HI.keep h10
  clear h10 HSS
  go_wp2
  go_ret
  exact ⟨rfl, HI.bel⟩
end Go.Proofs.YteejaghimppcgaaDoor

namespace Go.Proofs.YteejaghimppcgaaDoor
open Go.RowKit Go.Wd Go.Box
set_option linter.unusedVariables false
set_option maxRecDepth 3000
theorem sgn_is1 {x y : Int} (h : x < y) : sgn x y = -1 := by unfold sgn; rw [if_pos h]
theorem sgn_is2 {x y : Int} (h : y < x) : sgn x y = 1 := by unfold sgn; rw [if_neg (by omega), if_pos h]
theorem sgn_is0 {x y : Int} (h : x = y) : sgn x y = 0 := by unfold sgn; rw [if_neg (by omega), if_neg (by omega)]
theorem sgn_diff (x y : Int) : sgn (x + -y) 0 = sgn x y := by
  rcases Int.lt_trichotomy x y with h | h | h
  · rw [sgn_is1 h, sgn_is1 (by omega)]
  · rw [sgn_is0 h, sgn_is0 (by omega)]
  · rw [sgn_is2 h, sgn_is2 (by omega)]
theorem sgn_negs (x y : Int) : sgn (-x) (-y) = sgn y x := by
  rcases Int.lt_trichotomy x y with h | h | h
  · rw [sgn_is2 h, sgn_is2 (by omega)]
  · rw [sgn_is0 (show -x = -y by omega), sgn_is0 (by omega)]
  · rw [sgn_is1 h, sgn_is1 (by omega)]
theorem cls {n : Bool} {zs : List Int} {ex u : Int} (N : DN n zs ex u) :
    (SgnOf n zs.length 0 ∧ u = 0) ∨ (SgnOf n zs.length 1 ∧ 0 < u ∧ 0 < zs.length ∧ n = false) ∨ (SgnOf n zs.length (-1) ∧ u < 0 ∧ 0 < zs.length ∧ n = true) := by
  obtain ⟨d1, d2, d3⟩ := dv_sgn N
  by_cases hz : 0 < zs.length
  · cases n
    · exact .inr (.inl ⟨.inr (.inl ⟨hz, rfl, rfl⟩), d3 hz rfl, hz, rfl⟩)
    · exact .inr (.inr ⟨.inr (.inr ⟨hz, rfl, rfl⟩), d2 hz rfl, hz, rfl⟩)
  · exact .inl ⟨.inl ⟨by omega, rfl⟩, d1 (by omega)⟩
theorem top_ex {n : Bool} {zs : List Int} {ex : Int} (g : DG n zs ex) (hz : 0 < zs.length) : ∃ T : Nat, BitLen (Nt.val zs) T ∧ Bits (Nt.val zs) T ∧ T ≤ 131072 := by
  obtain ⟨T, hT⟩ := bitLen_ex g.good.nonneg
  have hp := g.pos hz
  rcases hT with ⟨h0, _⟩ | ⟨_, h9⟩
  · omega
  · have h10 : Nt.val zs < 4294967296 ^ 4096 := g.good.lt.2
    have := h9.fits (n := 0) (by rw [Int.pow_zero, Int.mul_one]; exact h10)
    exact ⟨T, .inr ⟨hp, h9⟩, h9, by omega⟩
/-- Cmp of the reference tells how the values stand to each other. -/
theorem cmpX (n1 n2 : Bool) (a1 a2 : Option Addr) (c1 c2 : Nat) (z1 z2 : List Int) (e1 e2 : Int) (w : World) {u v : Int} (l1 : Lie w a1 z1) (l2 : Lie w a2 z2) (N1 : DN n1 z1 e1 u) (N2 : DN n2 z2 e2 v) (s : Int) (hs : sgn u v = s) :
    Calls Tryd.prog 38 #[dV n1 a1 z1.length c1 e1, dV n2 a2 z2.length c2 e2] w fun e w' => e = .returned (.int .i64 s) ∧ Below w.heap.size w w' := by
  have g1 := N1.dg
  have g2 := N2.dg
  have x1 := g1.ex_bd
  have x2 := g2.ex_bd
  have hK := KK_eq
  subst hs
  rcases cls N1 with ⟨s1, q1⟩ | ⟨s1, q1, hz1, rfl⟩ | ⟨s1, q1, hz1, rfl⟩ <;> rcases cls N2 with ⟨s2, q2⟩ | ⟨s2, q2, hz2, rfl⟩ | ⟨s2, q2, hz2, rfl⟩
  · rw [sgn_is0 (by omega)]; exact cmpX_zero _ _ a1 a2 c1 c2 z1 z2 e1 e2 w s1 s2
  · rw [sgn_is1 (by omega)]; exact cmpX_less _ _ a1 a2 c1 c2 z1 z2 e1 e2 w _ _ s1 s2 (by decide)
  · rw [sgn_is2 (by omega)]; exact cmpX_more _ _ a1 a2 c1 c2 z1 z2 e1 e2 w _ _ s1 s2 (by decide)
  · rw [sgn_is2 (by omega)]; exact cmpX_more _ _ a1 a2 c1 c2 z1 z2 e1 e2 w _ _ s1 s2 (by decide)
  · obtain ⟨T1, t1, t1', b1⟩ := top_ex g1 hz1
    obtain ⟨T2, t2, t2', b2⟩ := top_ex g2 hz2
    have hu : u = Nt.val z1 * pK e1 := by rw [← N1.val]; rfl
    have hv : v = Nt.val z2 * pK e2 := by rw [← N2.val]; rfl
    rcases Int.lt_trichotomy (e1 + T1) (e2 + T2) with h | h | h
    · have hlt := tops_lt t1' t2' (e1 := e1) (e2 := e2) (by omega) (by omega) (by omega)
      rw [sgn_is1 (by rw [hu, hv]; exact hlt)]
      exact cmpX_pl _ _ a1 a2 c1 c2 z1 z2 e1 e2 w s1 s2 l1 l2 g1 g2 hz1 hz2 t1 t2 h
    · refine cmpX_eqp _ _ a1 a2 c1 c2 z1 z2 e1 e2 w s1 s2 l1 l2 g1 g2 hz1 hz2 t1 t2 h (e1 - min e1 e2).toNat (e2 - min e1 e2).toNat (by omega) (by omega) (by omega) (by omega) _ ?_
      rw [show (!false) = true from rfl, sv_f, sv_t, sgn_diff, hu, hv]
      exact (sizes_eq (by omega) (by omega) (by omega)).symm
    · have hlt := tops_lt t2' t1' (e1 := e2) (e2 := e1) (by omega) (by omega) (by omega)
      rw [sgn_is2 (by rw [hu, hv]; exact hlt)]
      exact cmpX_pg _ _ a1 a2 c1 c2 z1 z2 e1 e2 w s1 s2 l1 l2 g1 g2 hz1 hz2 t1 t2 h
  · rw [sgn_is2 (by omega)]; exact cmpX_more _ _ a1 a2 c1 c2 z1 z2 e1 e2 w _ _ s1 s2 (by decide)
  · rw [sgn_is1 (by omega)]; exact cmpX_less _ _ a1 a2 c1 c2 z1 z2 e1 e2 w _ _ s1 s2 (by decide)
  · rw [sgn_is1 (by omega)]; exact cmpX_less _ _ a1 a2 c1 c2 z1 z2 e1 e2 w _ _ s1 s2 (by decide)
  · obtain ⟨T1, t1, t1', b1⟩ := top_ex g1 hz1
    obtain ⟨T2, t2, t2', b2⟩ := top_ex g2 hz2
    have hu : u = -(Nt.val z1 * pK e1) := by rw [← N1.val]; unfold dv; rw [sv_t, Int.neg_mul]
    have hv : v = -(Nt.val z2 * pK e2) := by rw [← N2.val]; unfold dv; rw [sv_t, Int.neg_mul]
    rcases Int.lt_trichotomy (e1 + T1) (e2 + T2) with h | h | h
    · have hlt := tops_lt t1' t2' (e1 := e1) (e2 := e2) (by omega) (by omega) (by omega)
      rw [sgn_is2 (by rw [hu, hv]; exact Int.neg_lt_neg hlt)]
      exact cmpX_nl _ _ a1 a2 c1 c2 z1 z2 e1 e2 w s1 s2 l1 l2 g1 g2 hz1 hz2 t1 t2 h
    · refine cmpX_eqn _ _ a1 a2 c1 c2 z1 z2 e1 e2 w s1 s2 l1 l2 g1 g2 hz1 hz2 t1 t2 h (e1 - min e1 e2).toNat (e2 - min e1 e2).toNat (by omega) (by omega) (by omega) (by omega) _ ?_
      rw [show (!true) = false from rfl, sv_f, sv_t, Int.add_comm, sgn_diff, hu, hv, sgn_negs]
      exact (sizes_eq (by omega) (by omega) (by omega)).symm
    · have hlt := tops_lt t2' t1' (e1 := e2) (e2 := e1) (by omega) (by omega) (by omega)
      rw [sgn_is1 (by rw [hu, hv]; exact Int.neg_lt_neg hlt)]
      exact cmpX_ng _ _ a1 a2 c1 c2 z1 z2 e1 e2 w s1 s2 l1 l2 g1 g2 hz1 hz2 t1 t2 h
end Go.Proofs.YteejaghimppcgaaDoor

namespace Go.Proofs.YteejaghimppcgaaDoor
open Go.RowKit Go.Wd Go.Box
set_option linter.unusedVariables false
set_option maxRecDepth 3000
set_option maxHeartbeats 1000000 in
theorem dTop (n : Bool) (a : Option Addr) (c : Nat) (zs : List Int) (ex : Int) (w : World) (hl : Lie w a zs) (g : DG n zs ex) :
    Calls Tryd.prog 27 #[dV n a zs.length c ex] w fun e w' => ∃ B : Nat, e = .returned (.int .i64 (B + ex)) ∧ BitLen (Nt.val zs) B ∧ B ≤ 131072 ∧ Below w.heap.size w w' := by
  have B1 := (Bx.nil w).push (DO n a zs.length c ex)
  have u := g.lie hl
  go_enter Tryd.func27, Tryd.ntmps27
  go_wp2_with fail
  refine (u.may n c ex true g.may _ B1.bel).mono ?_
  rintro e w2 ⟨rfl, h2⟩
  have B2 := B1.keep h2
  obtain ⟨⟨f0, f1, f2⟩, _⟩ := cells3 B2 w.heap.size _ _ _ _ (.head _)
  have l2 := hl.below B2.bel (Nat.le_refl _)
  clear h2 B1 u
  go_wp2_with fail
  refine (dtop96 n a c zs ex _ l2 g).mono ?_
  rintro e w3 ⟨B, rfl, hB, hB2, h3⟩
  have B3 := B2.keep h3
  have HB := Hide.mk (And.intro hB hB2)
  clear h3 B2 hB hB2 f0 f1 f2 l2
  go_wp2
  go_ret
  exact ⟨B, rfl, HB.out.1, HB.out.2, B3.bel⟩
theorem fc_bd (b : Bool) : 23 ≤ fc b ∧ fc b ≤ 52 := by cases b <;> decide
/-- The exponent of the unit of a number with the top T. -/
def uu (b : Bool) (T : Int) : Int := max (T - fc b - 1) (lo b)
theorem p2fc (b : Bool) : (2 : Int) ^ (fc b).toNat = fr b := by cases b <;> decide
/-- The number of units. -/
theorem units_fit (b : Bool) {M : Int} {B k : Nat} (hM : BitLen M B) (h0 : 0 ≤ M) (hk : (B : Int) + k ≤ fc b + 1) : 0 ≤ M * 2 ^ k ∧ M * 2 ^ k < 2 * fr b := by
  have hp := p2pos k
  refine ⟨Int.mul_nonneg h0 (by omega), ?_⟩
  have e : ∃ F : Nat, (F : Int) = fc b ∧ (2 : Int) ^ (F + 1) = 2 * fr b := by
    cases b
    · exact ⟨23, rfl, by decide⟩
    · exact ⟨52, rfl, by decide⟩
  obtain ⟨F, hF, e⟩ := e
  rw [← e]
  rcases hM with ⟨rfl, _⟩ | ⟨_, c⟩
  · rw [Int.zero_mul]; exact p2pos _
  · have h1 := (c.up k).lt
    have := p2mono (show B + k ≤ F + 1 by omega)
    omega
end Go.Proofs.YteejaghimppcgaaDoor

namespace Go.Proofs.YteejaghimppcgaaDoor
open Go.RowKit Go.Wd Go.Box
set_option linter.unusedVariables false
set_option maxRecDepth 3000
theorem sgn_dv {n : Bool} {zs : List Int} {ex : Int} (g : DG n zs ex) (hz : 0 < zs.length) : ∃ s, sgn (dv n zs ex) 0 = s ∧ (s == 0) = false := by
  refine ⟨_, rfl, ?_⟩
  have hp := g.pos hz
  have hq := pK_pos ex
  have h0 : 0 < Nt.val zs * pK ex := Int.mul_pos hp hq
  unfold dv
  cases n
  · rw [sv_f]
    generalize Nt.val zs * pK ex = X at *
    unfold sgn
    first | (simp; omega) | (split <;> first | rfl | omega)
  · rw [sv_t, Int.neg_mul]
    generalize Nt.val zs * pK ex = X at *
    unfold sgn
    first | (simp; omega) | (split <;> first | rfl | omega)
end Go.Proofs.YteejaghimppcgaaDoor

namespace Go.Proofs.YteejaghimppcgaaDoor
open Go.RowKit Go.Wd Go.Box
set_option linter.unusedVariables false
set_option maxRecDepth 3000
theorem sz_pos {b : Bool} {x : Int} (h : Ok b x) (hn : ¬ sg b ≤ x) : sz b x = x := Int.emod_eq_of_lt h.1 (by omega)
theorem sz_neg {b : Bool} {x : Int} (h : Ok b x) (hn : sg b ≤ x) : sz b x = x - sg b := by
  have := h.2
  unfold sz
  rw [← Int.sub_emod_right]
  exact Int.emod_eq_of_lt (by omega) (by omega)
theorem sd_same {b : Bool} {x : Int} (h : Ok b x) : sd b (sz b x) (ng b x) = x := by
  unfold sd ng
  by_cases c : sg b ≤ x
  · rw [decide_eq_true c, sz_neg h c]; simp
  · rw [decide_eq_false c, sz_pos h c]; rfl
theorem sz_fields (b : Bool) (x : Int) : sz b x = fd b x * fr b + fn b x := by
  cases b <;> simp only [sz, fd, fn, sg, fr] <;> omega
theorem fin_fd {b : Bool} {x : Int} (h : sz b x < inf b) : fd b x < tp b := by
  have := sz_bd b x
  cases b <;> simp only [sz, fd, sg, fr, inf, tp] at * <;> omega
theorem fd_tp (b : Bool) (x : Int) : fd b x ≤ tp b := by
  have := sz_bd b x
  cases b <;> simp only [sz, fd, sg, fr, tp] at * <;> omega
/-- What the fields make is taken apart into them. -/
theorem apart {b n : Bool} {E F : Int} (h0 : 0 ≤ E) (h1 : E ≤ tp b) (h2 : 0 ≤ F) (h3 : F < fr b) :
    Ok b (sd b (E * fr b + F) n) ∧ ng b (sd b (E * fr b + F) n) = n ∧ fd b (sd b (E * fr b + F) n) = E ∧ fn b (sd b (E * fr b + F) n) = F := by
  cases b <;> cases n <;> simp only [Ok, sd, ng, fd, fn, tp, fr, sg, if_true, Bool.false_eq_true, if_false, decide_eq_true_eq, decide_eq_false_iff_not] at * <;> omega
theorem un_pos {b : Bool} {x : Int} (h : sz b x ≠ 0) : 0 < un b x := by
  have h1 := fn_bd b x
  have h2 := sz_fields b x
  have h3 := fr_pos b
  have h4 := fd_bd b x
  unfold un
  by_cases c : fd b x = 0
  · rw [if_pos c]; rw [c, Int.zero_mul] at h2; omega
  · rw [if_neg c]; omega
/-- The value of a word, told. -/
theorem wValueE (b : Bool) (x : Int) (h : Ok b x) (hf : sz b x < inf b) (w : World) (hT : Tab w) :
    Calls Tryd.prog 56 #[.int .u8 (fm b), .int .u64 x] w fun e w' => ∃ n zs ex a c, e = .returned (.tuple #[dV n a zs.length c ex, .int .i64 0]) ∧ DG n zs ex ∧ Lie w' a zs ∧ Below w.heap.size w w' ∧
      ((un b x = 0 ∧ zs = []) ∨ (0 < zs.length ∧ n = ng b x ∧ ∃ t : Nat, ex = ue b x + t ∧ Nt.val zs * 2 ^ t = un b x)) := by
  have hu := un_bd b x
  have hx := ue_bd b x
  have hK := KK_eq
  refine (wValueR b x h hf w hT).mono ?_
  rintro e w' ⟨n, a, k, c, ex, code, rfl, hv⟩
  have habs : ((sv (ng b x) (un b x)).natAbs : Int) = un b x := by
    cases ng b x
    · rw [sv_f]; omega
    · rw [sv_t]; omega
  rcases hv.all with ⟨hs, rfl, rfl, rfl, rfl, rfl, rfl⟩ | ⟨hs, t, ht, hh⟩
  · refine ⟨false, [], 0, none, 0, rfl, zeroDG, .inl rfl, hv.bel, .inl ⟨?_, rfl⟩⟩
    cases hq : ng b x <;> rw [hq] at hs <;> simp only [sv_f, sv_t] at hs <;> omega
  · rw [habs] at ht hh
    have e2 := low_half ht
    have hp := p2pos t
    have h5 : 1 ≤ un b x / 2 ^ t := by
      have := Int.ediv_nonneg hu.1 (Int.le_of_lt hp)
      have := ht.one
      omega
    have h6 : 1 * 2 ^ t ≤ un b x / 2 ^ t * 2 ^ t := Int.mul_le_mul_of_nonneg_right h5 (Int.le_of_lt hp)
    have h7 : t < 64 := p2lt (by have : (2 : Int) ^ 64 = 18446744073709551616 := by decide
                                 omega)
    have h8 : un b x / 2 ^ t ≤ un b x := Int.ediv_le_self _ hu.1
    have h9 := small_pow (x := un b x) (by have : (4294967296 : Int) ^ 2 = 18446744073709551616 := by decide
                                           omega)
    rcases hh with ⟨j1, j2, rfl, rfl, rfl, zs, rfl, j3, j4⟩ | ⟨j1, _⟩ | ⟨_, j1, _⟩
    · obtain ⟨a2, c2, he, _, _, hl⟩ := j4.lie
      simp only [Value.slice.injEq, true_and] at he
      obtain ⟨rfl, rfl⟩ := he
      have hz := j3.ne (show 0 < un b x / 2 ^ t by omega)
      refine ⟨_, zs, _, a, c, rfl, ⟨j3.can, j3.len, .inr ⟨hz, by rw [j3.val]; exact ht.one, by omega, by omega⟩⟩, hl, hv.bel, .inr ⟨hz, ?_, t, rfl, by rw [j3.val]; exact e2.symm⟩⟩
      have hne : un b x ≠ 0 := by omega
      cases hq : ng b x
      · rw [sv_f]; exact decide_eq_false (by omega)
      · rw [sv_t]; exact decide_eq_true (by omega)
    · omega
    · omega
theorem uu_back {b : Bool} {x : Int} {M : Int} {B t : Nat} (hB : BitLen M B) (hM : 0 < M) (hu : M * 2 ^ t = un b x) : uu b (B + (ue b x + t)) = ue b x := by
  have h1 := hB.up hM t
  rw [hu] at h1
  have hp : 0 < un b x := by
    have := Int.mul_pos hM (p2pos t)
    omega
  have h2 : Bits (un b x) (B + t) := by
    rcases h1 with ⟨h1, _⟩ | ⟨_, h1⟩
    · omega
    · exact h1
  have hf := fn_bd b x
  have hd := fd_bd b x
  have hF : ∃ F : Nat, (F : Int) = fc b ∧ (2 : Int) ^ F = fr b := by
    cases b
    · exact ⟨23, rfl, by decide⟩
    · exact ⟨52, rfl, by decide⟩
  obtain ⟨F, hF1, hF2⟩ := hF
  unfold uu ue
  by_cases c : fd b x = 0
  · have hue : un b x = fn b x := by unfold un; rw [if_pos c]
    have h3 : B + t ≤ F := by
      have h4 := h2.le
      rw [hue] at h4
      have h5 : (2 : Int) ^ (B + t) < 2 ^ (F + 1) := by rw [p2succ, hF2]; omega
      have := p2lt h5
      omega
    rw [c]
    omega
  · have hue : un b x = fr b + fn b x := by unfold un; rw [if_neg c]
    have h3 : B + t = F + 1 := h2.unique ⟨by rw [p2succ, hF2, hue]; omega, by rw [p2succ, hF2, hue]; omega⟩
    omega
theorem word_back {b : Bool} {x : Int} (h : Ok b x) : sd b ((ue b x - lo b) * fr b + un b x) (ng b x) = x := by
  have h1 : (ue b x - lo b) * fr b + un b x = sz b x := by
    rw [sz_fields]
    have hd := fd_bd b x
    unfold ue un
    by_cases c : fd b x = 0
    · rw [if_pos c, c, show max ((0 : Int) - 1) 0 + lo b - lo b = 0 by omega]
    · rw [if_neg c, show max (fd b x - 1) 0 + lo b - lo b = fd b x - 1 by omega, Int.sub_mul]; omega
  rw [h1]
  exact sd_same h
theorem lKnown (w : World) :
    Calls Tryd.prog 58 #[] w fun e w' => e = .returned (.bool true) ∧ Below w.heap.size w w' := by
  have HJ := fun w => Hide.mk (wJoin false false 127 0 (by decide) (by decide) (by decide) (by decide) w)
  have HS := fun w => Hide.mk (wSplit true 13832806255468478465 (by unfold Ok; decide) w)
  go_enter Tryd.func58, Tryd.ntmps58
  go_wp2_with fail
  refine (HJ _).out.mono ?_
  rintro e w2 ⟨rfl, h2⟩
  rw [show sd false (127 * fr false + 0) false = 1065353216 from rfl]
  go_wp2_with fail
  refine (HS _).out.mono ?_
  rintro e w3 ⟨rfl, h3⟩
  rw [show ng true 13832806255468478465 = true from rfl, show fd true 13832806255468478465 = 1023 from rfl, show fn true 13832806255468478465 = 2251799813685249 from rfl]
  have B3 := (((Bx.nil w).keep h2).keep h3).push (FO true 1023 2251799813685249)
  clear HJ HS h2 h3
  go_wp2
  go_ret
  exact ⟨rfl, B3.bel⟩
end Go.Proofs.YteejaghimppcgaaDoor

namespace Go.Proofs.YteejaghimppcgaaDoor
open Go.RowKit Go.Wd Go.Box
set_option linter.unusedVariables false
set_option maxRecDepth 3000
/-- Units, unit and value of a size. -/
def us (b : Bool) (s : Int) : Int := if s / fr b = 0 then s % fr b else fr b + s % fr b
def es (b : Bool) (s : Int) : Int := max (s / fr b - 1) 0 + lo b
def vz (b : Bool) (s : Int) : Int := us b s * pK (es b s)
theorem fn_sz (b : Bool) (x : Int) : sz b x % fr b = fn b x := by
  cases b <;> simp only [sz, fn, sg, fr] <;> omega
theorem un_us (b : Bool) (x : Int) : un b x = us b (sz b x) := by
  unfold un us
  rw [fn_sz]
  rfl
theorem ue_es (b : Bool) (x : Int) : ue b x = es b (sz b x) := rfl
theorem wv_vz (b : Bool) (x : Int) : wv b x = sv (ng b x) (vz b (sz b x)) := by
  unfold wv vz
  rw [un_us, ue_es]
  cases ng b x
  · rfl
  · rw [sv_t, sv_t, Int.neg_mul]
theorem pK_two {e : Int} (h : -(KK : Int) ≤ e) : pK (e + 1) = 2 * pK e := by
  unfold pK
  rw [show (e + 1 + (KK : Int)).toNat = (e + KK).toNat + 1 by omega, p2succ]
theorem es_lo (b : Bool) (s : Int) : lo b ≤ es b s := by unfold es; omega
theorem vz_step (b : Bool) (s : Int) (h : 0 ≤ s) : vz b (s + 1) = vz b s + pK (es b s) := by
  have hf := fr_pos b
  have hlo := lo_bd b
  have hK := KK_eq
  have hq := Int.emod_add_mul_ediv s (fr b)
  have hr1 := Int.emod_nonneg s (show fr b ≠ 0 by omega)
  have hr2 := Int.emod_lt_of_pos s hf
  have hq0 : 0 ≤ s / fr b := Int.ediv_nonneg h (by omega)
  by_cases c : s % fr b + 1 < fr b
  · have e1 : (s + 1) / fr b = s / fr b := by
      have : s + 1 = (s % fr b + 1) + fr b * (s / fr b) := by omega
      rw [this, Int.add_mul_ediv_left _ _ (by omega), Int.ediv_eq_zero_of_lt (by omega) c, Int.zero_add]
    have e2 : (s + 1) % fr b = s % fr b + 1 := by
      have : s + 1 = (s % fr b + 1) + fr b * (s / fr b) := by omega
      rw [this, Int.add_mul_emod_self_left, Int.emod_eq_of_lt (by omega) c]
    have e3 : es b (s + 1) = es b s := by unfold es; rw [e1]
    have e4 : us b (s + 1) = us b s + 1 := by
      unfold us
      rw [e1, e2]
      by_cases d : s / fr b = 0
      · rw [if_pos d, if_pos d]
      · rw [if_neg d, if_neg d]; omega
    unfold vz
    rw [e3, e4, Int.add_mul, Int.one_mul]
  · have hr : s % fr b = fr b - 1 := by omega
    have hs : s + 1 = 0 + fr b * (s / fr b + 1) := by rw [Int.mul_add]; omega
    have e1 : (s + 1) / fr b = s / fr b + 1 := by
      rw [hs, Int.add_mul_ediv_left _ _ (by omega)]; simp
    have e2 : (s + 1) % fr b = 0 := by
      rw [hs, Int.add_mul_emod_self_left]; simp
    have e4 : us b (s + 1) = fr b := by
      unfold us
      rw [e1, e2, if_neg (by omega)]; omega
    by_cases d : s / fr b = 0
    · have e3 : es b (s + 1) = es b s := by unfold es; rw [e1, d]; omega
      have e5 : us b s = fr b - 1 := by unfold us; rw [if_pos d, hr]
      unfold vz
      rw [e3, e4, e5, Int.sub_mul]; omega
    · have e3 : es b (s + 1) = es b s + 1 := by unfold es; rw [e1]; omega
      have e5 : us b s = fr b + (fr b - 1) := by unfold us; rw [if_neg d, hr]
      have h6 := es_lo b s
      unfold vz
      rw [e3, e4, e5, pK_two (by omega), Int.add_mul, Int.sub_mul, Int.mul_left_comm]; omega
theorem vz_le (b : Bool) (s : Int) (h : 0 ≤ s) (k : Nat) : vz b s ≤ vz b (s + k) := by
  induction k with
  | zero => simp
  | succ k ih =>
    have := vz_step b (s + k) (by omega)
    have hp := pK_pos (es b (s + k))
    rw [show s + ((k + 1 : Nat) : Int) = s + k + 1 by omega]
    omega
theorem vz_mono (b : Bool) {s t : Int} (h : 0 ≤ s) (hst : s ≤ t) : vz b s ≤ vz b t := by
  have := vz_le b s h (t - s).toNat
  rw [show s + ((t - s).toNat : Int) = t by omega] at this
  exact this
theorem vz_zero (b : Bool) : vz b 0 = 0 := by
  unfold vz us
  rw [if_pos (by simp)]
  simp
theorem vz_nonneg (b : Bool) {s : Int} (h : 0 ≤ s) : 0 ≤ vz b s := by
  have := vz_mono b (Int.le_refl 0) h
  rw [vz_zero] at this
  exact this
end Go.Proofs.YteejaghimppcgaaDoor

namespace Go.Proofs.YteejaghimppcgaaDoor
open Go.RowKit Go.Wd Go.Box
set_option linter.unusedVariables false
set_option maxRecDepth 3000
theorem wv_pos {b : Bool} {x : Int} (h : Ok b x) (c : ¬ sg b ≤ x) : wv b x = vz b x ∧ 0 ≤ x := by
  rw [wv_vz, show ng b x = false from decide_eq_false c, sv_f, sz_pos h c]
  exact ⟨rfl, h.1⟩
theorem wv_neg {b : Bool} {x : Int} (h : Ok b x) (c : sg b ≤ x) : wv b x = -vz b (x - sg b) ∧ 0 ≤ x - sg b := by
  rw [wv_vz, show ng b x = true from decide_eq_true c, sv_t, sz_neg h c]
  exact ⟨rfl, by omega⟩
/-- What is true of a step up between finite words. -/
structure NextUp (b : Bool) (x : Int) : Prop where
  ok : Ok b (up b x)
  rise : wv b (up b x) = wv b x + pK (ue b x) ∨ wv b (up b x) = wv b x + pK (ue b (up b x))
  none : ∀ z, Ok b z → wv b z ≤ wv b x ∨ wv b (up b x) ≤ wv b z
  fin : fl b (up b x) ≠ inf b
  back : wv b (fl b (up b (fl b (up b x)))) = wv b x
  okb : Ok b (fl b (up b (fl b (up b x))))
  finb : sz b (fl b (up b (fl b (up b x)))) < inf b
theorem next_up {b : Bool} {x : Int} (h : Ok b x) (hf : sz b x < inf b) : NextUp b x := by
  have h1 := sg_one b
  have hi := inf_lt b
  have hp := inf_bd b
  have ho := up_ok b h
  have hx0 := h.1
  have hx1 := h.2
  have okz : Ok b 0 := ⟨by omega, by omega⟩
  have ok1 : Ok b 1 := ⟨by omega, by omega⟩
  have sz0 : sz b 0 = 0 := by cases b <;> rfl
  have hi1 : 1 < inf b := by cases b <;> decide
  by_cases c1 : sz b x = 0
  · have e1 : up b x = 1 := by unfold up; rw [if_pos c1]
    have v0 : wv b x = 0 := by
      rw [wv_vz, c1, vz_zero]; cases ng b x <;> rfl
    have v1 := wv_pos ok1 (show ¬ sg b ≤ 1 by omega)
    have st := vz_step b 0 (Int.le_refl 0)
    rw [vz_zero] at st
    have hue : ue b x = es b 0 := by rw [ue_es, c1]
    have f1 : fl b 1 = 1 + sg b := by unfold fl; rw [if_neg (by omega)]
    have ok2 : Ok b (1 + sg b) := ⟨by omega, by omega⟩
    have s2 : sz b (1 + sg b) = 1 := by rw [sz_neg ok2 (by omega)]; omega
    have u2 : up b (1 + sg b) = sg b := by unfold up; rw [if_neg (by omega), if_pos (by omega)]; omega
    have f3 : fl b (sg b) = 0 := by unfold fl; rw [if_pos (by omega)]; omega
    have vz0 : wv b 0 = 0 := by rw [(wv_pos okz (by omega)).1, vz_zero]
    refine ⟨ho, .inl ?_, ?_, ?_, ?_, ?_, ?_⟩
    · rw [e1, v1.1, v0, hue]; simpa using st
    · intro z hz
      rw [e1, v1.1, v0]
      by_cases c : sg b ≤ z
      · have := wv_neg hz c
        have := vz_nonneg b this.2
        exact .inl (by omega)
      · have k := wv_pos hz c
        by_cases d : z = 0
        · subst d; exact .inl (by omega)
        · exact .inr (by rw [k.1]; exact vz_mono b (by omega) (by omega))
    · rw [e1, f1]; omega
    · rw [e1, f1, u2, f3, vz0, v0]
    · rw [e1, f1, u2, f3]; exact okz
    · rw [e1, f1, u2, f3, sz0]; omega
  · by_cases c2 : sg b ≤ x
    · have e1 : up b x = x - 1 := by unfold up; rw [if_neg c1, if_pos c2]
      have hs := sz_neg h c2
      rw [hs] at c1 hf
      have okm : Ok b (x - 1) := ⟨by omega, by omega⟩
      have v0 := wv_neg h c2
      have v1 := wv_neg okm (show sg b ≤ x - 1 by omega)
      have st := vz_step b (x - 1 - sg b) (by omega)
      rw [show x - 1 - sg b + 1 = x - sg b by omega] at st
      have hue : ue b (x - 1) = es b (x - 1 - sg b) := by rw [ue_es, sz_neg okm (by omega)]
      have f1 : fl b (x - 1) = x - 1 - sg b := by unfold fl; rw [if_pos (by omega)]
      have ok2 : Ok b (x - 1 - sg b) := ⟨by omega, by omega⟩
      have s2 : sz b (x - 1 - sg b) = x - 1 - sg b := sz_pos ok2 (by omega)
      have u2 : up b (x - 1 - sg b) = x - sg b := by
        unfold up
        by_cases d : x - 1 - sg b = 0
        · rw [if_pos (by omega)]; omega
        · rw [if_neg (by omega), if_neg (by omega)]; omega
      have f3 : fl b (x - sg b) = x := by unfold fl; rw [if_neg (by omega)]; omega
      refine ⟨ho, .inr ?_, ?_, ?_, ?_, ?_, ?_⟩
      · rw [e1, v1.1, v0.1, hue]; omega
      · intro z hz
        rw [e1, v1.1, v0.1]
        by_cases c : sg b ≤ z
        · have k := wv_neg hz c
          rw [k.1]
          by_cases d : x ≤ z
          · have := vz_mono b (s := x - sg b) (t := z - sg b) (by omega) (by omega)
            exact .inl (by omega)
          · have := vz_mono b (s := z - sg b) (t := x - 1 - sg b) (by omega) (by omega)
            exact .inr (by omega)
        · have k := wv_pos hz c
          have := vz_nonneg b k.2
          have := vz_nonneg b v1.2
          exact .inr (by omega)
      · rw [e1, f1]; omega
      · rw [e1, f1, u2, f3]
      · rw [e1, f1, u2, f3]; exact h
      · rw [e1, f1, u2, f3, hs]; exact hf
    · have e1 : up b x = x + 1 := by unfold up; rw [if_neg c1, if_neg c2]
      have hs := sz_pos h c2
      rw [hs] at c1 hf
      have okm : Ok b (x + 1) := ⟨by omega, by omega⟩
      have v0 := wv_pos h c2
      have v1 := wv_pos okm (show ¬ sg b ≤ x + 1 by omega)
      have st := vz_step b x h.1
      have hue : ue b x = es b x := by rw [ue_es, hs]
      have f1 : fl b (x + 1) = x + 1 + sg b := by unfold fl; rw [if_neg (by omega)]
      have ok2 : Ok b (x + 1 + sg b) := ⟨by omega, by omega⟩
      have s2 : sz b (x + 1 + sg b) = x + 1 := by rw [sz_neg ok2 (by omega)]; omega
      have u2 : up b (x + 1 + sg b) = x + sg b := by
        unfold up
        rw [if_neg (by omega), if_pos (by omega)]; omega
      have f3 : fl b (x + sg b) = x := by unfold fl; rw [if_pos (by omega)]; omega
      refine ⟨ho, .inl ?_, ?_, ?_, ?_, ?_, ?_⟩
      · rw [e1, v1.1, v0.1, hue]; exact st
      · intro z hz
        rw [e1, v1.1, v0.1]
        by_cases c : sg b ≤ z
        · have k := wv_neg hz c
          have := vz_nonneg b k.2
          have := vz_nonneg b v0.2
          exact .inl (by omega)
        · have k := wv_pos hz c
          rw [k.1]
          by_cases d : z ≤ x
          · exact .inl (vz_mono b k.2 d)
          · exact .inr (vz_mono b (by omega) (by omega))
      · rw [e1, f1]; omega
      · rw [e1, f1, u2, f3]
      · rw [e1, f1, u2, f3]; exact h
      · rw [e1, f1, u2, f3, hs]; exact hf
end Go.Proofs.YteejaghimppcgaaDoor

namespace Go.Proofs.YteejaghimppcgaaDoor
open Go.RowKit Go.Wd Go.Box
set_option linter.unusedVariables false
set_option maxRecDepth 3000
/-- A form whose number fits is a number that may be. -/
theorem Fm.dn {s E : Int} {n : Bool} {zs : List Int} {ex : Int} {lo hi : Nat} (F : Fm s E n zs ex) (hE : -(KK : Int) ≤ E) (hb : DB lo hi (s * pK E)) (h1 : hi ≤ lo + 131072) (h2 : hi ≤ 2 * KK) : DN n zs ex (s * pK E) := by
  have hK := KK_int
  rcases F with ⟨rfl, rfl, rfl, rfl⟩ | ⟨hs, t, ht, rfl, rfl, hc, hv⟩
  · rw [Int.zero_mul]; exact ⟨zeroDG, zero_dv _ _⟩
  · have hp := pK_pos E
    have e0 : pK E = 2 ^ (E + KK).toNat := rfl
    have hs2 : s * pK E ≠ 0 := fun c => by rcases Int.mul_eq_zero.1 c with c | c <;> omega
    have ht2 : LowBit ((s * pK E).natAbs : Int) (t + (E + KK).toNat) := by rw [e0, natAbs_mul_pow]; exact ht.up _
    obtain ⟨k1, k2, k3⟩ := hb.low hs2 ht2
    have e1 : ((s * pK E).natAbs : Int) / 2 ^ (t + (E + KK).toNat) = (s.natAbs : Int) / 2 ^ t := by
      rw [e0, natAbs_mul_pow, Int.pow_add, Int.mul_ediv_mul_of_pos_left _ _ (p2pos _)]
    rw [e1] at k3
    have k4 : (s.natAbs : Int) / 2 ^ t < 4294967296 ^ 4096 := by
      have := p2mono (show hi - lo ≤ 131072 by omega)
      rw [pw32]; omega
    have hg : Good zs ((s.natAbs : Int) / 2 ^ t) := ⟨hc, (Nt.can_len hc 4096).1 (by rw [hv]; exact k4), hv⟩
    have hp2 : 0 < (s.natAbs : Int) / 2 ^ t := by
      have := ht.one
      have := Int.ediv_nonneg (show 0 ≤ (s.natAbs : Int) by omega) (Int.le_of_lt (p2pos t))
      omega
    refine ⟨⟨hc, hg.len, .inr ⟨hg.ne hp2, by rw [hv]; exact ht.one, by omega, by omega⟩⟩, ?_⟩
    have h9 := dv_back (k := 0) hs2 ht2 (by rw [e1]; exact hg) (by omega)
    have e3 : decide (s * pK E < 0) = decide (s < 0) := by
      by_cases c : s < 0
      · have : s * pK E < 0 := Int.mul_neg_of_neg_of_pos c hp
        simp [c, this]
      · have : ¬ s * pK E < 0 := by have := Int.mul_nonneg (show 0 ≤ s by omega) (Int.le_of_lt hp); omega
        simp [c, this]
    rw [e3, show -(KK : Int) - (0 : Nat) + ((t + (E + KK).toNat : Nat) : Int) = E + t by omega, Int.pow_zero, Int.mul_one] at h9
    exact h9
/-- Sub by way of its two calls. -/
theorem sub_via (n1 n2 n3 : Bool) (a1 a2 : Option Addr) (k1 k2 c1 c2 : Nat) (e1 e2 r : Int) (w : World)
    (HN : ∀ W, Calls Tryd.prog 29 #[dV n2 a2 k2 c2 e2] W fun e w' => e = .returned (dV n3 a2 k2 c2 e2) ∧ Below W.heap.size W w')
    (HA : ∀ W, Below w.heap.size w W → Calls Tryd.prog 42 #[dV n1 a1 k1 c1 e1, dV n3 a2 k2 c2 e2] W fun e w' => ∃ n zs ex a c, e = .returned (dV n a zs.length c ex) ∧ DN n zs ex r ∧ Lie w' a zs ∧ Below W.heap.size W w') :
    Calls Tryd.prog 43 #[dV n1 a1 k1 c1 e1, dV n2 a2 k2 c2 e2] w fun e w' => ∃ n zs ex a c, e = .returned (dV n a zs.length c ex) ∧ DN n zs ex r ∧ Lie w' a zs ∧ Below w.heap.size w w' := by
  have B1 := (((Bx.nil w).push (DO n1 a1 k1 c1 e1)).push (DO n2 a2 k2 c2 e2)).push (DO false none 0 0 0)
  go_enter Tryd.func43, Tryd.ntmps43
  go_wp2_with fail
  rw [show ((w.alloc (DO n1 a1 k1 c1 e1)).alloc (DO n2 a2 k2 c2 e2)).heap.size = w.heap.size + 1 + 1 by simp, show (w.alloc (DO n1 a1 k1 c1 e1)).heap.size = w.heap.size + 1 by simp] at B1
  generalize hw1 : ((w.alloc (DO n1 a1 k1 c1 e1)).alloc (DO n2 a2 k2 c2 e2)).alloc (DO false none 0 0 0) = w1 at *
  clear hw1
  have HF := B1.drew
  have HI := HF.sub (L' := [(w.heap.size + 1, DO n2 a2 k2 c2 e2), (w.heap.size, DO n1 a1 k1 c1 e1)]) (by simp)
  have sh := fun W (hW : Bx w [(w.heap.size + 1, DO n2 a2 k2 c2 e2), (w.heap.size, DO n1 a1 k1 c1 e1)] W) => And.intro (cells3 hW (w.heap.size + 1) _ _ _ _ (.head _)).1 (cells3 hW w.heap.size _ _ _ _ (.tail _ (.head _))).1
  refine Drawn.enter (Bx w [(w.heap.size + 1, DO n2 a2 k2 c2 e2), (w.heap.size, DO n1 a1 k1 c1 e1)]) (by kernel_rfl) ?_
  refine Drawn.take (i := 0) (v := ?v249) rfl (by kernel_rfl) (by kernel_rfl) (by kernel_rfl) (fun _ _ _ h => h) (by kernel_rfl) (fun W hW => ?_) HI ?_
  rotate_left
  · have ⟨⟨s0, s1, s2⟩, q0, q3, q4⟩ := sh W hW
    go_simp <;> exact rfl
  refine Drawn.take (i := 1) (v := ?v250) rfl (by kernel_rfl) (by kernel_rfl) (by kernel_rfl) (fun _ _ _ h => h) (by kernel_rfl) (fun W hW => ?_) HI ?_
  rotate_left
  · have ⟨⟨s0, s1, s2⟩, q0, q3, q4⟩ := sh W hW
    go_simp <;> exact rfl
  refine Drawn.one (j := 2) (by kernel_rfl) rfl (fun K hK => ?_)
  go_simp
  refine (HN _).mono ?_
  rintro e wn ⟨rfl, hn⟩
  refine hK _ _ (HI.keep hn) ?_
  clear hK K
  replace HI := HI.keep hn
  replace HF := HF.keep hn
  clear hn
  refine Drawn.one (j := 3) (by kernel_rfl) rfl (fun K hK => ?_)
  go_simp
  refine (HA _ HI.bel).mono ?_
  rintro e w6 ⟨n6, z6, x6, a6, c6, rfl, F6, l6, h6⟩
  refine hK _ _ (HI.keep h6) ?_
  clear hK K
  replace HI := HI.keep h6
  replace HF := HF.keep h6
  have H6 := Hide.mk (And.intro F6 l6)
  clear F6 l6 h6
  obtain ⟨⟨f0, f1, f2⟩, r0, r1, r2⟩ := cells3 HF (w.heap.size + 1 + 1) _ _ _ _ (.head _)
  have HF2 := HF.fill3 (by omega) (by simp; omega) (.bool n6) (.slice a6 z6.length c6) (.int .i64 x6)
  refine Drawn.one (j := 4) (by kernel_rfl) rfl (fun K hK => ?_)
  go_simp
  replace HI := HF2.sub (L' := [(w.heap.size + 1, DO n2 a2 k2 c2 e2), (w.heap.size, DO n1 a1 k1 c1 e1)]) (by simp)
  refine hK _ _ HI ?_
  clear hK K f0 f1 f2 r0 r1 r2
  refine Drawn.done (by kernel_rfl) ?_
  try go_simp
  go_wp2
  refine bodyPost_ret (results_D1 rfl _ _ (w.heap.size + 1 + 1) _ rfl ⟨HF2.head, rfl⟩) rfl ?_
  have L := Live.set3 (g := w.heap.size + 1 + 1) ⟨HF.head, rfl⟩ (.bool n6) (.slice a6 z6.length c6) (.int .i64 x6) (Live.one H6.out.2)
  exact ⟨n6, z6, x6, a6, c6, rfl, H6.out.1, L.all (a6, z6) (.head _), HF2.bel⟩
theorem sizes_val {n : Bool} {z : List Int} {e u m : Int} {k : Nat} (h : DN n z e u) (hm : -(KK : Int) ≤ m) (hk : e - m = (k : Int)) : sv n (Nt.val z * 2 ^ k) * pK m = u := by
  rw [← h.val]
  unfold dv
  rw [show e = m + (k : Int) by omega, pK_add hm]
  cases n
  · rw [sv_f, sv_f, Int.mul_assoc, Int.mul_comm (2 ^ k)]
  · rw [sv_t, sv_t, Int.neg_mul, Int.neg_mul, Int.mul_assoc, Int.mul_comm (2 ^ k)]
theorem DN.neg {n : Bool} {zs : List Int} {ex u : Int} (h : DN n zs ex u) (hz : 0 < zs.length) : DN (!n) zs ex (-u) := by
  have g := h.dg
  refine ⟨⟨g.can, g.len, .inr ⟨hz, g.odd hz, ?_, ?_⟩⟩, ?_⟩
  · exact g.ex_bd.1
  · exact g.ex_bd.2
  · rw [← h.val]; unfold dv; rw [sv_not, Int.neg_mul]
theorem DN.zero {n : Bool} {zs : List Int} {ex u : Int} (h : DN n zs ex u) (hz : zs.length ≤ 0) : zs = [] ∧ n = false ∧ ex = 0 ∧ u = 0 := by
  obtain ⟨rfl, rfl, rfl⟩ := h.dg.nil hz
  exact ⟨rfl, rfl, rfl, by rw [← h.val]; exact zero_dv _ _⟩
theorem ex_near {n : Bool} {z : List Int} {e u : Int} {lo hi : Nat} (h : DN n z e u) (d : DB lo hi u) (hz : 0 < z.length) : (lo : Int) ≤ e + KK ∧ e + KK < hi := by
  obtain ⟨hl, hu⟩ := h.low hz
  obtain ⟨k1, k2, _⟩ := d.low hu hl
  have := h.dg.ex_bd
  have := KK_int
  omega
/-- The reference's difference of two numbers that are not far from each other. -/
theorem subD (n1 n2 : Bool) (a1 a2 : Option Addr) (c1 c2 : Nat) (z1 z2 : List Int) (e1 e2 : Int) (w : World) {u v : Int} {lo hi : Nat} (l1 : Lie w a1 z1) (l2 : Lie w a2 z2) (N1 : DN n1 z1 e1 u) (N2 : DN n2 z2 e2 v) (d1 : DB lo hi u) (d2 : DB lo hi v) (h1 : hi + 1 ≤ lo + 131072) (h2 : hi + 1 ≤ 2 * KK) :
    Calls Tryd.prog 43 #[dV n1 a1 z1.length c1 e1, dV n2 a2 z2.length c2 e2] w fun e w' => ∃ n zs ex a c, e = .returned (dV n a zs.length c ex) ∧ DN n zs ex (u - v) ∧ Lie w' a zs ∧ Below w.heap.size w w' := by
  by_cases hz2 : 0 < z2.length
  · by_cases hz1 : 0 < z1.length
    · have g1 := N1.dg
      have g2 := N2.dg
      have x1 := g1.ex_bd
      have x2 := g2.ex_bd
      have y1 := ex_near N1 d1 hz1
      have y2 := ex_near N2 d2 hz2
      have hK := KK_int
      have k1 := g1.len
      have k2 := g2.len
      have b := d1.add d2.neg
      refine (subX n1 n2 a1 a2 c1 c2 z1 z2 e1 e2 w l1 l2 g1.can g2.can (by omega) (by omega) hz1 hz2 (by omega) (by omega) (by omega) (by omega) (e1 - min e1 e2).toNat (e2 - min e1 e2).toNat (by omega) (by omega) (by omega) (by omega)).mono ?_
      rintro e w' ⟨n, zs, ex, a, c, rfl, F, l, hb⟩
      have hm : -(KK : Int) ≤ min e1 e2 := by omega
      have e3 : (sv n1 (Nt.val z1 * 2 ^ (e1 - min e1 e2).toNat) + sv (!n2) (Nt.val z2 * 2 ^ (e2 - min e1 e2).toNat)) * pK (min e1 e2) = u + -v := by
        rw [sv_not, Int.add_mul, Int.neg_mul, sizes_val N1 hm (by omega), sizes_val N2 hm (by omega)]
      have R := F.dn hm (by rw [e3]; exact b) h1 h2
      rw [e3] at R
      exact ⟨n, zs, ex, a, c, rfl, R, l, hb⟩
    · obtain ⟨rfl, rfl, rfl, rfl⟩ := N1.zero (by omega)
      refine sub_via _ n2 (!n2) a1 a2 0 z2.length c1 c2 0 e2 (0 - v) w (rNegX n2 a2 c2 z2.length e2 hz2) (fun W hW => ?_)
      refine (addX_z1 a1 a2 c1 c2 z2.length false (!n2) 0 e2 W).mono ?_
      rintro e w' ⟨rfl, hb⟩
      exact ⟨!n2, z2, e2, a2, c2, rfl, by rw [Int.zero_sub]; exact N2.neg hz2, (l2.below hW (Nat.le_refl _)).below hb (Nat.le_refl _), hb⟩
  · obtain ⟨rfl, rfl, rfl, rfl⟩ := N2.zero (by omega)
    refine sub_via n1 false false a1 a2 z1.length 0 c1 c2 e1 0 (u - 0) w (rNegZ a2 c2 0 false) (fun W hW => ?_)
    rw [Int.sub_zero]
    by_cases hz1 : 0 < z1.length
    · refine (addX_z2 a1 a2 c1 c2 z1.length n1 false e1 0 hz1 W).mono ?_
      rintro e w' ⟨rfl, hb⟩
      exact ⟨n1, z1, e1, a1, c1, rfl, N1, (l1.below hW (Nat.le_refl _)).below hb (Nat.le_refl _), hb⟩
    · obtain ⟨rfl, rfl, rfl, rfl⟩ := N1.zero (by omega)
      refine (addX_z1 a1 a2 c1 c2 0 false false 0 0 W).mono ?_
      rintro e w' ⟨rfl, hb⟩
      exact ⟨false, [], 0, a2, c2, rfl, N2, (l2.below hW (Nat.le_refl _)).below hb (Nat.le_refl _), hb⟩
end Go.Proofs.YteejaghimppcgaaDoor

namespace Go.Proofs.YteejaghimppcgaaDoor
open Go.RowKit
set_option linter.unusedVariables false
set_option maxRecDepth 3000
set_option maxHeartbeats 2000000 in
theorem dneg47 (ng : Bool) (a : Option Addr) (c : Nat) (zs : List Int) (ex : Int)  (w : World) (hl : Lie w a zs) (g : DG ng zs ex) (hT : Tab w) :
    Calls Tryd.prog 22 #[dV ng a zs.length c ex] w fun e w' => DRes w w' (-dv ng zs ex) (-(KK : Int)) e := by
  obtain ⟨d1, d2, hs2⟩ := dcell2 w #[.bool ng, .slice a zs.length c, .int .i64 ex] #[.bool false, .slice none 0 0, .int .i64 0] rfl rfl
  have hb2 := below2 w (.cells #[.bool ng, .slice a zs.length c, .int .i64 ex] 36) (.cells #[.bool false, .slice none 0 0, .int .i64 0] 36)
  have hx := g.ex_bd
  have hK := KK_int
  have u := g.lie hl
  go_enter Tryd.func22, Tryd.ntmps22
  go_wp2_with fail
  generalize hw2 : (w.alloc (.cells #[.bool ng, .slice a zs.length c, .int .i64 ex] 36)).alloc (.cells #[.bool false, .slice none 0 0, .int .i64 0] 36) = w2 at *
  clear hw2
  refine (u.may ng c ex true g.may _ hb2).mono ?_
  rintro e w3 ⟨rfl, h3⟩
  have HB := below_then hb2 h3
  replace d1 := d1.below h3 (by omega)
  replace d2 := d2.below h3 (by omega)
  have hsz : w.heap.size + 1 < w3.heap.size := by have := h3.size; omega
  clear h3 hb2 hs2 u
  have q0 := d1.c0
  have q1 := d1.c1
  have q2 := d1.c2
  have l3 := hl.below HB (Nat.le_refl _)
  have t3 := hT.below HB (Nat.le_refl _)
  go_wp2_with fail
  refine (formedR (!ng) a c zs ex _ l3 g.good t3 (by omega) (by omega)).mono ?_
  rintro e w9 ⟨n9, a9, k9, c9, x9, code, rfl, hv⟩
  replace d2 := d2.below hv.bel hsz
  have HV := Hide.mk hv
  clear hv q0 q1 q2
  have f0 := d2.c0
  have f1 := d2.c1
  have f2 := d2.c2
  have r0 := d2.fr 0
  have r1 := d2.fr 1
  have r2 := d2.fr 2
  go_wp2
  refine bodyPost_ret (results_D2 rfl _ _ (w.heap.size + 1) _ rfl (((d2.set 0 _).set 1 _).set 2 _)) rfl ?_
  have e0 : -dv ng zs ex = sv (!ng) (Nt.val zs) * pK ex := by unfold dv; rw [sv_not, Int.neg_mul]
  rw [e0]
  exact DRes.toK (DRes.back HV.out HB (by omega) hsz _ _ _) (by omega)
set_option maxHeartbeats 2000000 in
theorem dneg_bad (ng : Bool) (a : Option Addr) (c : Nat) (zs : List Int) (ex : Int)  (w : World) (u : DLie w a zs) (hq : dmayB ng zs ex = false) :
    Calls Tryd.prog 22 #[dV ng a zs.length c ex] w fun e w' => e = .returned (.tuple #[noD, .int .i64 2]) ∧ Below w.heap.size w w' := by
  obtain ⟨d1, d2, hs2⟩ := dcell2 w #[.bool ng, .slice a zs.length c, .int .i64 ex] #[.bool false, .slice none 0 0, .int .i64 0] rfl rfl
  have hb2 := below2 w (.cells #[.bool ng, .slice a zs.length c, .int .i64 ex] 36) (.cells #[.bool false, .slice none 0 0, .int .i64 0] 36)
  go_enter Tryd.func22, Tryd.ntmps22
  go_wp2_with fail
  generalize hw2 : (w.alloc (.cells #[.bool ng, .slice a zs.length c, .int .i64 ex] 36)).alloc (.cells #[.bool false, .slice none 0 0, .int .i64 0] 36) = w2 at *
  clear hw2
  refine (u.may ng c ex false hq _ hb2).mono ?_
  rintro e w3 ⟨rfl, h3⟩
  have HB := below_then hb2 h3
  replace d1 := d1.below h3 (by omega)
  replace d2 := d2.below h3 (by omega)
  have hsz : w.heap.size + 1 < w3.heap.size := by have := h3.size; omega
  clear h3 hb2 hs2 u
  have f0 := d2.c0
  have f1 := d2.c1
  have f2 := d2.c2
  have r0 := d2.fr 0
  have r1 := d2.fr 1
  have r2 := d2.fr 2
  go_wp2
  refine bodyPost_ret (results_D2 rfl _ _ (w.heap.size + 1) _ rfl (((d2.set 0 _).set 1 _).set 2 _)) rfl ?_
  exact ⟨rfl, ((HB.setCell (p := ⟨w.heap.size + 1, 0, none⟩) (by show w.heap.size ≤ w.heap.size + 1; omega) _).setCell (p := ⟨w.heap.size + 1, 1, none⟩) (by show w.heap.size ≤ w.heap.size + 1; omega) _).setCell (p := ⟨w.heap.size + 1, 2, none⟩) (by show w.heap.size ≤ w.heap.size + 1; omega) _⟩
set_option maxHeartbeats 2000000 in
theorem dabs48 (ng : Bool) (a : Option Addr) (c : Nat) (zs : List Int) (ex : Int)  (w : World) (hl : Lie w a zs) (g : DG ng zs ex) (hT : Tab w) :
    Calls Tryd.prog 23 #[dV ng a zs.length c ex] w fun e w' => DRes w w' (Nt.val zs * pK ex) (-(KK : Int)) e := by
  obtain ⟨d1, d2, hs2⟩ := dcell2 w #[.bool ng, .slice a zs.length c, .int .i64 ex] #[.bool false, .slice none 0 0, .int .i64 0] rfl rfl
  have hb2 := below2 w (.cells #[.bool ng, .slice a zs.length c, .int .i64 ex] 36) (.cells #[.bool false, .slice none 0 0, .int .i64 0] 36)
  have hx := g.ex_bd
  have hK := KK_int
  have u := g.lie hl
  go_enter Tryd.func23, Tryd.ntmps23
  go_wp2_with fail
  generalize hw2 : (w.alloc (.cells #[.bool ng, .slice a zs.length c, .int .i64 ex] 36)).alloc (.cells #[.bool false, .slice none 0 0, .int .i64 0] 36) = w2 at *
  clear hw2
  refine (u.may ng c ex true g.may _ hb2).mono ?_
  rintro e w3 ⟨rfl, h3⟩
  have HB := below_then hb2 h3
  replace d1 := d1.below h3 (by omega)
  replace d2 := d2.below h3 (by omega)
  have hsz : w.heap.size + 1 < w3.heap.size := by have := h3.size; omega
  clear h3 hb2 hs2 u
  have q0 := d1.c0
  have q1 := d1.c1
  have q2 := d1.c2
  have l3 := hl.below HB (Nat.le_refl _)
  have t3 := hT.below HB (Nat.le_refl _)
  go_wp2_with fail
  refine (formedR false a c zs ex _ l3 g.good t3 (by omega) (by omega)).mono ?_
  rintro e w9 ⟨n9, a9, k9, c9, x9, code, rfl, hv⟩
  replace d2 := d2.below hv.bel hsz
  have HV := Hide.mk hv
  clear hv q0 q1 q2
  have f0 := d2.c0
  have f1 := d2.c1
  have f2 := d2.c2
  have r0 := d2.fr 0
  have r1 := d2.fr 1
  have r2 := d2.fr 2
  go_wp2
  refine bodyPost_ret (results_D2 rfl _ _ (w.heap.size + 1) _ rfl (((d2.set 0 _).set 1 _).set 2 _)) rfl ?_
  exact DRes.toK (DRes.back HV.out HB (by omega) hsz _ _ _) (by omega)
set_option maxHeartbeats 2000000 in
theorem dabs_bad (ng : Bool) (a : Option Addr) (c : Nat) (zs : List Int) (ex : Int)  (w : World) (u : DLie w a zs) (hq : dmayB ng zs ex = false) :
    Calls Tryd.prog 23 #[dV ng a zs.length c ex] w fun e w' => e = .returned (.tuple #[noD, .int .i64 2]) ∧ Below w.heap.size w w' := by
  obtain ⟨d1, d2, hs2⟩ := dcell2 w #[.bool ng, .slice a zs.length c, .int .i64 ex] #[.bool false, .slice none 0 0, .int .i64 0] rfl rfl
  have hb2 := below2 w (.cells #[.bool ng, .slice a zs.length c, .int .i64 ex] 36) (.cells #[.bool false, .slice none 0 0, .int .i64 0] 36)
  go_enter Tryd.func23, Tryd.ntmps23
  go_wp2_with fail
  generalize hw2 : (w.alloc (.cells #[.bool ng, .slice a zs.length c, .int .i64 ex] 36)).alloc (.cells #[.bool false, .slice none 0 0, .int .i64 0] 36) = w2 at *
  clear hw2
  refine (u.may ng c ex false hq _ hb2).mono ?_
  rintro e w3 ⟨rfl, h3⟩
  have HB := below_then hb2 h3
  replace d1 := d1.below h3 (by omega)
  replace d2 := d2.below h3 (by omega)
  have hsz : w.heap.size + 1 < w3.heap.size := by have := h3.size; omega
  clear h3 hb2 hs2 u
  have f0 := d2.c0
  have f1 := d2.c1
  have f2 := d2.c2
  have r0 := d2.fr 0
  have r1 := d2.fr 1
  have r2 := d2.fr 2
  go_wp2
  refine bodyPost_ret (results_D2 rfl _ _ (w.heap.size + 1) _ rfl (((d2.set 0 _).set 1 _).set 2 _)) rfl ?_
  exact ⟨rfl, ((HB.setCell (p := ⟨w.heap.size + 1, 0, none⟩) (by show w.heap.size ≤ w.heap.size + 1; omega) _).setCell (p := ⟨w.heap.size + 1, 1, none⟩) (by show w.heap.size ≤ w.heap.size + 1; omega) _).setCell (p := ⟨w.heap.size + 1, 2, none⟩) (by show w.heap.size ≤ w.heap.size + 1; omega) _⟩
end Go.Proofs.YteejaghimppcgaaDoor
