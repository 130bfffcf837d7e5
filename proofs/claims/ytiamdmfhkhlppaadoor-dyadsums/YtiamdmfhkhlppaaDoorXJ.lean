import Derived.Test.YtiamdmfhkhlppaaDoorXI
namespace Go.Proofs.YtiamdmfhkhlppaaDoor
open Go.RowKit Go.Wd Go.Box
set_option linter.unusedVariables false
set_option maxRecDepth 3000
theorem fm_sgn {s E : Int} {n : Bool} {zs : List Int} {ex : Int} (h : Fm s E n zs ex) : SgnOf n zs.length (sgn s 0) := by
  rcases h with ⟨rfl, rfl, rfl, rfl⟩ | ⟨h0, t, ht, rfl, rfl, hc, hv⟩
  · exact .inl ⟨rfl, rfl⟩
  · have hz : 0 < zs.length := by
      by_cases c : zs.length = 0
      · obtain rfl := List.length_eq_zero_iff.1 c
        rw [Nt.val_nil] at hv
        have := ht.one
        rw [← hv] at this
        simp at this
      · omega
    by_cases c : s < 0
    · refine .inr (.inr ⟨hz, decide_eq_true c, ?_⟩)
      unfold sgn
      rw [if_pos c]
    · refine .inr (.inl ⟨hz, decide_eq_false c, ?_⟩)
      unfold sgn
      rw [if_neg c, if_pos (by omega)]
set_option maxHeartbeats 2000000 in
theorem cmpX_eqp (n1 n2 : Bool) (a1 a2 : Option Addr) (c1 c2 : Nat) (z1 z2 : List Int) (e1 e2 : Int) (w : World) (h1 : SgnOf n1 z1.length 1) (h2 : SgnOf n2 z2.length 1) (l1 : Lie w a1 z1) (l2 : Lie w a2 z2) (g1 : DG n1 z1 e1) (g2 : DG n2 z2 e2) (hz1 : 0 < z1.length) (hz2 : 0 < z2.length) {T1 T2 : Nat} (hT1 : BitLen (Nt.val z1) T1) (hT2 : BitLen (Nt.val z2) T2) (ht : e1 + T1 = e2 + T2) (k1 k2 : Nat) (hk1 : k1 ≤ 150000) (hk2 : k2 ≤ 150000) (hh1 : e1 - min e1 e2 = k1) (hh2 : e2 - min e1 e2 = k2) (v : Int) (hv : sgn (sv n1 (Nt.val z1 * 2 ^ k1) + sv (!n2) (Nt.val z2 * 2 ^ k2)) 0 = v) :
    Calls Tryd.prog 38 #[dV n1 a1 z1.length c1 e1, dV n2 a2 z2.length c2 e2] w fun e w' => e = .returned (.int .i64 v) ∧ Below w.heap.size w w' := by
  have H1 := Hide.mk hT1
  have H2 := Hide.mk hT2
  have HV := Hide.mk hv
  have HK := Hide.mk (And.intro hh1 hh2)
  have x1 := g1.ex_bd
  have x2 := g2.ex_bd
  clear hT1 hT2 hv hh1 hh2
  have B1 := ((Bx.nil w).push (DO n1 a1 z1.length c1 e1)).push (DO n2 a2 z2.length c2 e2)
  go_enter Tryd.func38, Tryd.ntmps38
  go_wp2_with fail
  rw [show (w.alloc (DO n1 a1 z1.length c1 e1)).heap.size = w.heap.size + 1 by simp] at B1
  generalize hw1 : (w.alloc (DO n1 a1 z1.length c1 e1)).alloc (DO n2 a2 z2.length c2 e2) = w1 at *
  clear hw1
  have HI := B1.drew
  have sh := fun W (hW : Bx w [(w.heap.size + 1, DO n2 a2 z2.length c2 e2), (w.heap.size, DO n1 a1 z1.length c1 e1)] W) => And.intro (cells3 hW (w.heap.size + 1) _ _ _ _ (.head _)).1 (cells3 hW w.heap.size _ _ _ _ (.tail _ (.head _))).1
  refine Drawn.enter (Bx w [(w.heap.size + 1, DO n2 a2 z2.length c2 e2), (w.heap.size, DO n1 a1 z1.length c1 e1)]) (by kernel_rfl) ?_
  refine Drawn.take (i := 0) (v := ?v237) rfl (by kernel_rfl) (by kernel_rfl) (by kernel_rfl) (fun _ _ _ h => h) (by kernel_rfl) (fun W hW => ?_) HI ?_
  rotate_left
  · have ⟨⟨s0, s1, s2⟩, q0, q3, q4⟩ := sh W hW
    go_simp <;> exact rfl
  refine Drawn.take (i := 2) (v := ?v238) rfl (by kernel_rfl) (by kernel_rfl) (by kernel_rfl) (fun _ _ _ h => h) (by kernel_rfl) (fun W hW => ?_) HI ?_
  rotate_left
  · have ⟨⟨s0, s1, s2⟩, q0, q3, q4⟩ := sh W hW
    go_simp <;> exact rfl
  refine Drawn.one (j := 1) (by kernel_rfl) rfl (fun K hK => ?_)
  go_simp
  refine (rSgnAny n1 a1 c1 z1.length e1 1 h1 _).mono ?_
  rintro e wn ⟨rfl, hn⟩
  refine hK _ _ (HI.keep hn) ?_
  clear hK K
  replace HI := HI.keep hn
  clear hn
  refine Drawn.one (j := 3) (by kernel_rfl) rfl (fun K hK => ?_)
  go_simp
  refine (rSgnAny n2 a2 c2 z2.length e2 1 h2 _).mono ?_
  rintro e wn ⟨rfl, hn⟩
  refine hK _ _ (HI.keep hn) ?_
  clear hK K
  replace HI := HI.keep hn
  clear hn
  refine Drawn.take (i := 4) (v := ?v239) rfl (by kernel_rfl) (by kernel_rfl) (by kernel_rfl) (fun _ _ _ h => h) (by kernel_rfl) (fun W hW => ?_) HI ?_
  rotate_left
  · have ⟨⟨s0, s1, s2⟩, q0, q3, q4⟩ := sh W hW
    go_simp <;> exact rfl
  refine Drawn.take (i := 5) (v := ?v240) rfl (by kernel_rfl) (by kernel_rfl) (by kernel_rfl) (fun _ _ _ h => h) (by kernel_rfl) (fun W hW => ?_) HI ?_
  rotate_left
  · have ⟨⟨s0, s1, s2⟩, q0, q3, q4⟩ := sh W hW
    go_simp <;> exact rfl
  refine Drawn.done (by kernel_rfl) ?_
  try go_simp
  go_wp2_with fail
  replace HI := HI.drew
  refine Drawn.enter (Bx w [(w.heap.size + 1, DO n2 a2 z2.length c2 e2), (w.heap.size, DO n1 a1 z1.length c1 e1)]) (by kernel_rfl) ?_
  refine Drawn.take (i := 0) (v := ?v241) rfl (by kernel_rfl) (by kernel_rfl) (by kernel_rfl) (fun _ _ _ h => h) (by kernel_rfl) (fun W hW => ?_) HI ?_
  rotate_left
  · have ⟨⟨s0, s1, s2⟩, q0, q3, q4⟩ := sh W hW
    go_simp <;> exact rfl
  refine Drawn.take (i := 2) (v := ?v242) rfl (by kernel_rfl) (by kernel_rfl) (by kernel_rfl) (fun _ _ _ h => h) (by kernel_rfl) (fun W hW => ?_) HI ?_
  rotate_left
  · have ⟨⟨s0, s1, s2⟩, q0, q3, q4⟩ := sh W hW
    go_simp <;> exact rfl
  refine Drawn.one (j := 1) (by kernel_rfl) rfl (fun K hK => ?_)
  go_simp
  refine (dreftop54 n1 a1 c1 z1 e1 _ (l1.below HI.bel (Nat.le_refl _)) g1 hz1).mono ?_
  rintro e w5 ⟨B5, rfl, hB5, hb5, h5⟩
  obtain rfl := hB5.unique H1.out
  refine hK _ _ (HI.keep h5) ?_
  clear hK K hB5
  replace HI := HI.keep h5
  clear h5
  refine Drawn.one (j := 3) (by kernel_rfl) rfl (fun K hK => ?_)
  go_simp
  refine (dreftop54 n2 a2 c2 z2 e2 _ (l2.below HI.bel (Nat.le_refl _)) g2 hz2).mono ?_
  rintro e w6 ⟨B6, rfl, hB6, hb6, h6⟩
  obtain rfl := hB6.unique H2.out
  refine hK _ _ (HI.keep h6) ?_
  clear hK K hB6
  replace HI := HI.keep h6
  clear h6
  refine Drawn.take (i := 4) (v := .bool false) rfl (by kernel_rfl) (by kernel_rfl) (by kernel_rfl) (fun _ _ _ h => h) (by kernel_rfl) (fun W hW => ?_) HI ?_
  · have ⟨⟨s0, s1, s2⟩, q0, q3, q4⟩ := sh W hW
    go_simp <;> (first | omega | (simp; omega))
  refine Drawn.done (by kernel_rfl) ?_
  try go_simp
  obtain ⟨⟨s0, s1, s2⟩, q0, q3, q4⟩ := sh _ HI
  clear sh
  go_wp2_with fail
  have hlen1 := g1.len
  have hlen2 := g2.len
  refine (subX n1 n2 a1 a2 c1 c2 z1 z2 e1 e2 _ (l1.below HI.bel (Nat.le_refl _)) (l2.below HI.bel (Nat.le_refl _)) g1.can g2.can (by omega) (by omega) hz1 hz2 (by omega) (by omega) (by omega) (by omega) k1 k2 hk1 hk2 HK.out.1 HK.out.2).mono ?_
  rintro e w9 ⟨n9, z9, x9, a9, c9, rfl, F9, l9, h9⟩
  replace HI := HI.keep h9
  have HS := fm_sgn F9
  rw [HV.out] at HS
  have HSS := fun W => Hide.mk (rSgnAny n9 a9 c9 z9.length x9 v HS W)
  clear h9 F9 l9 HS s0 s1 s2 q0 q3 q4
  go_wp2_with fail
  refine (HSS _).out.mono ?_
  rintro e w10 ⟨rfl, h10⟩
  replace HI := HI.keep h10
  clear h10 HSS
  go_wp2
  go_ret
  exact ⟨rfl, HI.bel⟩
set_option maxHeartbeats 2000000 in
theorem cmpX_eqn (n1 n2 : Bool) (a1 a2 : Option Addr) (c1 c2 : Nat) (z1 z2 : List Int) (e1 e2 : Int) (w : World) (h1 : SgnOf n1 z1.length (-1)) (h2 : SgnOf n2 z2.length (-1)) (l1 : Lie w a1 z1) (l2 : Lie w a2 z2) (g1 : DG n1 z1 e1) (g2 : DG n2 z2 e2) (hz1 : 0 < z1.length) (hz2 : 0 < z2.length) {T1 T2 : Nat} (hT1 : BitLen (Nt.val z1) T1) (hT2 : BitLen (Nt.val z2) T2) (ht : e1 + T1 = e2 + T2) (k1 k2 : Nat) (hk1 : k1 ≤ 150000) (hk2 : k2 ≤ 150000) (hh1 : e1 - min e1 e2 = k1) (hh2 : e2 - min e1 e2 = k2) (v : Int) (hv : sgn (sv n1 (Nt.val z1 * 2 ^ k1) + sv (!n2) (Nt.val z2 * 2 ^ k2)) 0 = v) :
    Calls Tryd.prog 38 #[dV n1 a1 z1.length c1 e1, dV n2 a2 z2.length c2 e2] w fun e w' => e = .returned (.int .i64 v) ∧ Below w.heap.size w w' := by
  have H1 := Hide.mk hT1
  have H2 := Hide.mk hT2
  have HV := Hide.mk hv
  have HK := Hide.mk (And.intro hh1 hh2)
  have x1 := g1.ex_bd
  have x2 := g2.ex_bd
  clear hT1 hT2 hv hh1 hh2
  have B1 := ((Bx.nil w).push (DO n1 a1 z1.length c1 e1)).push (DO n2 a2 z2.length c2 e2)
  go_enter Tryd.func38, Tryd.ntmps38
  go_wp2_with fail
  rw [show (w.alloc (DO n1 a1 z1.length c1 e1)).heap.size = w.heap.size + 1 by simp] at B1
  generalize hw1 : (w.alloc (DO n1 a1 z1.length c1 e1)).alloc (DO n2 a2 z2.length c2 e2) = w1 at *
  clear hw1
  have HI := B1.drew
  have sh := fun W (hW : Bx w [(w.heap.size + 1, DO n2 a2 z2.length c2 e2), (w.heap.size, DO n1 a1 z1.length c1 e1)] W) => And.intro (cells3 hW (w.heap.size + 1) _ _ _ _ (.head _)).1 (cells3 hW w.heap.size _ _ _ _ (.tail _ (.head _))).1
  refine Drawn.enter (Bx w [(w.heap.size + 1, DO n2 a2 z2.length c2 e2), (w.heap.size, DO n1 a1 z1.length c1 e1)]) (by kernel_rfl) ?_
  refine Drawn.take (i := 0) (v := ?v243) rfl (by kernel_rfl) (by kernel_rfl) (by kernel_rfl) (fun _ _ _ h => h) (by kernel_rfl) (fun W hW => ?_) HI ?_
  rotate_left
  · have ⟨⟨s0, s1, s2⟩, q0, q3, q4⟩ := sh W hW
    go_simp <;> exact rfl
  refine Drawn.take (i := 2) (v := ?v244) rfl (by kernel_rfl) (by kernel_rfl) (by kernel_rfl) (fun _ _ _ h => h) (by kernel_rfl) (fun W hW => ?_) HI ?_
  rotate_left
  · have ⟨⟨s0, s1, s2⟩, q0, q3, q4⟩ := sh W hW
    go_simp <;> exact rfl
  refine Drawn.one (j := 1) (by kernel_rfl) rfl (fun K hK => ?_)
  go_simp
  refine (rSgnAny n1 a1 c1 z1.length e1 (-1) h1 _).mono ?_
  rintro e wn ⟨rfl, hn⟩
  refine hK _ _ (HI.keep hn) ?_
  clear hK K
  replace HI := HI.keep hn
  clear hn
  refine Drawn.one (j := 3) (by kernel_rfl) rfl (fun K hK => ?_)
  go_simp
  refine (rSgnAny n2 a2 c2 z2.length e2 (-1) h2 _).mono ?_
  rintro e wn ⟨rfl, hn⟩
  refine hK _ _ (HI.keep hn) ?_
  clear hK K
  replace HI := HI.keep hn
  clear hn
  refine Drawn.take (i := 4) (v := ?v245) rfl (by kernel_rfl) (by kernel_rfl) (by kernel_rfl) (fun _ _ _ h => h) (by kernel_rfl) (fun W hW => ?_) HI ?_
  rotate_left
  · have ⟨⟨s0, s1, s2⟩, q0, q3, q4⟩ := sh W hW
    go_simp <;> exact rfl
  refine Drawn.take (i := 5) (v := ?v246) rfl (by kernel_rfl) (by kernel_rfl) (by kernel_rfl) (fun _ _ _ h => h) (by kernel_rfl) (fun W hW => ?_) HI ?_
  rotate_left
  · have ⟨⟨s0, s1, s2⟩, q0, q3, q4⟩ := sh W hW
    go_simp <;> exact rfl
  refine Drawn.done (by kernel_rfl) ?_
  try go_simp
  go_wp2_with fail
  replace HI := HI.drew
  refine Drawn.enter (Bx w [(w.heap.size + 1, DO n2 a2 z2.length c2 e2), (w.heap.size, DO n1 a1 z1.length c1 e1)]) (by kernel_rfl) ?_
  refine Drawn.take (i := 0) (v := ?v247) rfl (by kernel_rfl) (by kernel_rfl) (by kernel_rfl) (fun _ _ _ h => h) (by kernel_rfl) (fun W hW => ?_) HI ?_
  rotate_left
  · have ⟨⟨s0, s1, s2⟩, q0, q3, q4⟩ := sh W hW
    go_simp <;> exact rfl
  refine Drawn.take (i := 2) (v := ?v248) rfl (by kernel_rfl) (by kernel_rfl) (by kernel_rfl) (fun _ _ _ h => h) (by kernel_rfl) (fun W hW => ?_) HI ?_
  rotate_left
  · have ⟨⟨s0, s1, s2⟩, q0, q3, q4⟩ := sh W hW
    go_simp <;> exact rfl
  refine Drawn.one (j := 1) (by kernel_rfl) rfl (fun K hK => ?_)
  go_simp
  refine (dreftop54 n1 a1 c1 z1 e1 _ (l1.below HI.bel (Nat.le_refl _)) g1 hz1).mono ?_
  rintro e w5 ⟨B5, rfl, hB5, hb5, h5⟩
  obtain rfl := hB5.unique H1.out
  refine hK _ _ (HI.keep h5) ?_
  clear hK K hB5
  replace HI := HI.keep h5
  clear h5
  refine Drawn.one (j := 3) (by kernel_rfl) rfl (fun K hK => ?_)
  go_simp
  refine (dreftop54 n2 a2 c2 z2 e2 _ (l2.below HI.bel (Nat.le_refl _)) g2 hz2).mono ?_
  rintro e w6 ⟨B6, rfl, hB6, hb6, h6⟩
  obtain rfl := hB6.unique H2.out
  refine hK _ _ (HI.keep h6) ?_
  clear hK K hB6
  replace HI := HI.keep h6
  clear h6
  refine Drawn.take (i := 4) (v := .bool false) rfl (by kernel_rfl) (by kernel_rfl) (by kernel_rfl) (fun _ _ _ h => h) (by kernel_rfl) (fun W hW => ?_) HI ?_
  · have ⟨⟨s0, s1, s2⟩, q0, q3, q4⟩ := sh W hW
    go_simp <;> (first | omega | (simp; omega))
  refine Drawn.done (by kernel_rfl) ?_
  try go_simp
  obtain ⟨⟨s0, s1, s2⟩, q0, q3, q4⟩ := sh _ HI
  clear sh
  go_wp2_with fail
  have hlen1 := g1.len
  have hlen2 := g2.len
  refine (subX n1 n2 a1 a2 c1 c2 z1 z2 e1 e2 _ (l1.below HI.bel (Nat.le_refl _)) (l2.below HI.bel (Nat.le_refl _)) g1.can g2.can (by omega) (by omega) hz1 hz2 (by omega) (by omega) (by omega) (by omega) k1 k2 hk1 hk2 HK.out.1 HK.out.2).mono ?_
  rintro e w9 ⟨n9, z9, x9, a9, c9, rfl, F9, l9, h9⟩
  replace HI := HI.keep h9
  have HS := fm_sgn F9
  rw [HV.out] at HS
  have HSS := fun W => Hide.mk (rSgnAny n9 a9 c9 z9.length x9 v HS W)
  clear h9 F9 l9 HS s0 s1 s2 q0 q3 q4
  go_wp2_with fail
  refine (HSS _).out.mono ?_
  rintro e w10 ⟨rfl, h10⟩
  replace HI := HI.keep h10
  clear h10 HSS
  go_wp2
  go_ret
  exact ⟨rfl, HI.bel⟩
end Go.Proofs.YtiamdmfhkhlppaaDoor
