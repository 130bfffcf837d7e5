import Derived.Test.YtiamdmfhkhlppaaDoorXJ
namespace Go.Proofs.YtiamdmfhkhlppaaDoor
open Go.RowKit Go.Wd Go.Box
set_option linter.unusedVariables false
set_option maxRecDepth 3000
theorem sgn_is1 {x y : Int} (h : x < y) : sgn x y = -1 := by unfold sgn; rw [if_pos h]
theorem sgn_is2 {x y : Int} (h : y < x) : sgn x y = 1 := by unfold sgn; rw [if_neg (by omega), if_pos h]
theorem sgn_is0 {x y : Int} (h : x = y) : sgn x y = 0 := by unfold sgn; rw [if_neg (by omega), if_neg (by omega)]
theorem sgn_diff (x y : Int) : sgn (x + -y) 0 = sgn x y := by
  rcases Int.lt_trichotomy x y with h | h | h
  · rw [sgn_is1 h, sgn_is1 (by omega)]
  · rw [sgn_is0 h, sgn_is0 (by omega)]
  · rw [sgn_is2 h, sgn_is2 (by omega)]
theorem sgn_negs (x y : Int) : sgn (-x) (-y) = sgn y x := by
  rcases Int.lt_trichotomy x y with h | h | h
  · rw [sgn_is2 h, sgn_is2 (by omega)]
  · rw [sgn_is0 (show -x = -y by omega), sgn_is0 (by omega)]
  · rw [sgn_is1 h, sgn_is1 (by omega)]
theorem cls {n : Bool} {zs : List Int} {ex u : Int} (N : DN n zs ex u) :
    (SgnOf n zs.length 0 ∧ u = 0) ∨ (SgnOf n zs.length 1 ∧ 0 < u ∧ 0 < zs.length ∧ n = false) ∨ (SgnOf n zs.length (-1) ∧ u < 0 ∧ 0 < zs.length ∧ n = true) := by
  obtain ⟨d1, d2, d3⟩ := dv_sgn N
  by_cases hz : 0 < zs.length
  · cases n
    · exact .inr (.inl ⟨.inr (.inl ⟨hz, rfl, rfl⟩), d3 hz rfl, hz, rfl⟩)
    · exact .inr (.inr ⟨.inr (.inr ⟨hz, rfl, rfl⟩), d2 hz rfl, hz, rfl⟩)
  · exact .inl ⟨.inl ⟨by omega, rfl⟩, d1 (by omega)⟩
theorem top_ex {n : Bool} {zs : List Int} {ex : Int} (g : DG n zs ex) (hz : 0 < zs.length) : ∃ T : Nat, BitLen (Nt.val zs) T ∧ Bits (Nt.val zs) T ∧ T ≤ 131072 := by
  obtain ⟨T, hT⟩ := bitLen_ex g.good.nonneg
  have hp := g.pos hz
  rcases hT with ⟨h0, _⟩ | ⟨_, h9⟩
  · omega
  · have h10 : Nt.val zs < 4294967296 ^ 4096 := g.good.lt.2
    have := h9.fits (n := 0) (by rw [Int.pow_zero, Int.mul_one]; exact h10)
    exact ⟨T, .inr ⟨hp, h9⟩, h9, by omega⟩
/-- Cmp of the reference tells how the values stand to each other. -/
theorem cmpX (n1 n2 : Bool) (a1 a2 : Option Addr) (c1 c2 : Nat) (z1 z2 : List Int) (e1 e2 : Int) (w : World) {u v : Int} (l1 : Lie w a1 z1) (l2 : Lie w a2 z2) (N1 : DN n1 z1 e1 u) (N2 : DN n2 z2 e2 v) (s : Int) (hs : sgn u v = s) :
    Calls Tryd.prog 38 #[dV n1 a1 z1.length c1 e1, dV n2 a2 z2.length c2 e2] w fun e w' => e = .returned (.int .i64 s) ∧ Below w.heap.size w w' := by
  have g1 := N1.dg
  have g2 := N2.dg
  have x1 := g1.ex_bd
  have x2 := g2.ex_bd
  have hK := KK_eq
  subst hs
  rcases cls N1 with ⟨s1, q1⟩ | ⟨s1, q1, hz1, rfl⟩ | ⟨s1, q1, hz1, rfl⟩ <;> rcases cls N2 with ⟨s2, q2⟩ | ⟨s2, q2, hz2, rfl⟩ | ⟨s2, q2, hz2, rfl⟩
  · rw [sgn_is0 (by omega)]; exact cmpX_zero _ _ a1 a2 c1 c2 z1 z2 e1 e2 w s1 s2
  · rw [sgn_is1 (by omega)]; exact cmpX_less _ _ a1 a2 c1 c2 z1 z2 e1 e2 w _ _ s1 s2 (by decide)
  · rw [sgn_is2 (by omega)]; exact cmpX_more _ _ a1 a2 c1 c2 z1 z2 e1 e2 w _ _ s1 s2 (by decide)
  · rw [sgn_is2 (by omega)]; exact cmpX_more _ _ a1 a2 c1 c2 z1 z2 e1 e2 w _ _ s1 s2 (by decide)
  · obtain ⟨T1, t1, t1', b1⟩ := top_ex g1 hz1
    obtain ⟨T2, t2, t2', b2⟩ := top_ex g2 hz2
    have hu : u = Nt.val z1 * pK e1 := by rw [← N1.val]; rfl
    have hv : v = Nt.val z2 * pK e2 := by rw [← N2.val]; rfl
    rcases Int.lt_trichotomy (e1 + T1) (e2 + T2) with h | h | h
    · have hlt := tops_lt t1' t2' (e1 := e1) (e2 := e2) (by omega) (by omega) (by omega)
      rw [sgn_is1 (by rw [hu, hv]; exact hlt)]
      exact cmpX_pl _ _ a1 a2 c1 c2 z1 z2 e1 e2 w s1 s2 l1 l2 g1 g2 hz1 hz2 t1 t2 h
    · refine cmpX_eqp _ _ a1 a2 c1 c2 z1 z2 e1 e2 w s1 s2 l1 l2 g1 g2 hz1 hz2 t1 t2 h (e1 - min e1 e2).toNat (e2 - min e1 e2).toNat (by omega) (by omega) (by omega) (by omega) _ ?_
      rw [show (!false) = true from rfl, sv_f, sv_t, sgn_diff, hu, hv]
      exact (sizes_eq (by omega) (by omega) (by omega)).symm
    · have hlt := tops_lt t2' t1' (e1 := e2) (e2 := e1) (by omega) (by omega) (by omega)
      rw [sgn_is2 (by rw [hu, hv]; exact hlt)]
      exact cmpX_pg _ _ a1 a2 c1 c2 z1 z2 e1 e2 w s1 s2 l1 l2 g1 g2 hz1 hz2 t1 t2 h
  · rw [sgn_is2 (by omega)]; exact cmpX_more _ _ a1 a2 c1 c2 z1 z2 e1 e2 w _ _ s1 s2 (by decide)
  · rw [sgn_is1 (by omega)]; exact cmpX_less _ _ a1 a2 c1 c2 z1 z2 e1 e2 w _ _ s1 s2 (by decide)
  · rw [sgn_is1 (by omega)]; exact cmpX_less _ _ a1 a2 c1 c2 z1 z2 e1 e2 w _ _ s1 s2 (by decide)
  · obtain ⟨T1, t1, t1', b1⟩ := top_ex g1 hz1
    obtain ⟨T2, t2, t2', b2⟩ := top_ex g2 hz2
    have hu : u = -(Nt.val z1 * pK e1) := by rw [← N1.val]; unfold dv; rw [sv_t, Int.neg_mul]
    have hv : v = -(Nt.val z2 * pK e2) := by rw [← N2.val]; unfold dv; rw [sv_t, Int.neg_mul]
    rcases Int.lt_trichotomy (e1 + T1) (e2 + T2) with h | h | h
    · have hlt := tops_lt t1' t2' (e1 := e1) (e2 := e2) (by omega) (by omega) (by omega)
      rw [sgn_is2 (by rw [hu, hv]; exact Int.neg_lt_neg hlt)]
      exact cmpX_nl _ _ a1 a2 c1 c2 z1 z2 e1 e2 w s1 s2 l1 l2 g1 g2 hz1 hz2 t1 t2 h
    · refine cmpX_eqn _ _ a1 a2 c1 c2 z1 z2 e1 e2 w s1 s2 l1 l2 g1 g2 hz1 hz2 t1 t2 h (e1 - min e1 e2).toNat (e2 - min e1 e2).toNat (by omega) (by omega) (by omega) (by omega) _ ?_
      rw [show (!true) = false from rfl, sv_f, sv_t, Int.add_comm, sgn_diff, hu, hv, sgn_negs]
      exact (sizes_eq (by omega) (by omega) (by omega)).symm
    · have hlt := tops_lt t2' t1' (e1 := e2) (e2 := e1) (by omega) (by omega) (by omega)
      rw [sgn_is1 (by rw [hu, hv]; exact Int.neg_lt_neg hlt)]
      exact cmpX_ng _ _ a1 a2 c1 c2 z1 z2 e1 e2 w s1 s2 l1 l2 g1 g2 hz1 hz2 t1 t2 h
end Go.Proofs.YtiamdmfhkhlppaaDoor
