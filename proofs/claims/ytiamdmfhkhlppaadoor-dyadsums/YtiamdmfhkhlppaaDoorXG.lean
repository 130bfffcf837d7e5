import Derived.Test.YtiamdmfhkhlppaaDoorXF
namespace Go.Proofs.YtiamdmfhkhlppaaDoor
open Go.RowKit Go.Wd Go.Box
set_option linter.unusedVariables false
set_option maxRecDepth 3000
theorem RF.set {w W : World} {s E : Int} {n6 : Bool} {z6 : List Int} {x6 : Int} {a6 : Option Addr} {c6 g : Nat} (F : Fm s E n6 z6 x6) (l6 : Lie W a6 z6) (hg : W.heap[g]? = some (DO false none 0 0 0)) (hb : Below w.heap.size w W) (hle : w.heap.size ≤ g) :
    RF w (((W.setCell ⟨g, 0, none⟩ (.bool n6)).setCell ⟨g, 1, none⟩ (.slice a6 z6.length c6)).setCell ⟨g, 2, none⟩ (.int .i64 x6)) s E (.returned (dV n6 a6 z6.length c6 x6)) := by
  have L := Live.set3 (g := g) ⟨hg, rfl⟩ (.bool n6) (.slice a6 z6.length c6) (.int .i64 x6) (Live.one l6)
  exact ⟨n6, z6, x6, a6, c6, rfl, F, L.all (a6, z6) (.head _), ((hb.setCell (p := ⟨g, 0, none⟩) hle _).setCell (p := ⟨g, 1, none⟩) hle _).setCell (p := ⟨g, 2, none⟩) hle _⟩
set_option maxHeartbeats 2000000 in
theorem subX (n1 n2 : Bool) (a1 a2 : Option Addr) (c1 c2 : Nat) (z1 z2 : List Int) (e1 e2 : Int) (w : World) (l1 : Lie w a1 z1) (l2 : Lie w a2 z2) (q1 : Nt.Can z1) (q2 : Nt.Can z2) (hl1 : z1.length ≤ 4100) (hl2 : z2.length ≤ 4100) (hz1 : 0 < z1.length) (hz2 : 0 < z2.length) (b1 : -20000000 ≤ e1) (b2 : e1 ≤ 20000000) (b3 : -20000000 ≤ e2) (b4 : e2 ≤ 20000000) (k1 k2 : Nat) (hk1 : k1 ≤ 150000) (hk2 : k2 ≤ 150000) (hh1 : e1 - min e1 e2 = k1) (hh2 : e2 - min e1 e2 = k2) :
    Calls Tryd.prog 43 #[dV n1 a1 z1.length c1 e1, dV n2 a2 z2.length c2 e2] w fun e w' => RF w w' (sv n1 (Nt.val z1 * 2 ^ k1) + sv (!n2) (Nt.val z2 * 2 ^ k2)) (min e1 e2) e := by
  have B1 := (((Bx.nil w).push (DO n1 a1 z1.length c1 e1)).push (DO n2 a2 z2.length c2 e2)).push (DO false none 0 0 0)
  go_enter Tryd.func43, Tryd.ntmps43
  go_wp2_with fail
  rw [show ((w.alloc (DO n1 a1 z1.length c1 e1)).alloc (DO n2 a2 z2.length c2 e2)).heap.size = w.heap.size + 1 + 1 by simp, show (w.alloc (DO n1 a1 z1.length c1 e1)).heap.size = w.heap.size + 1 by simp] at B1
  generalize hw1 : ((w.alloc (DO n1 a1 z1.length c1 e1)).alloc (DO n2 a2 z2.length c2 e2)).alloc (DO false none 0 0 0) = w1 at *
  clear hw1
  have HF := B1.drew
  have HI := HF.sub (L' := [(w.heap.size + 1, DO n2 a2 z2.length c2 e2), (w.heap.size, DO n1 a1 z1.length c1 e1)]) (by simp)
  have sh := fun W (hW : Bx w [(w.heap.size + 1, DO n2 a2 z2.length c2 e2), (w.heap.size, DO n1 a1 z1.length c1 e1)] W) => And.intro (cells3 hW (w.heap.size + 1) _ _ _ _ (.head _)).1 (cells3 hW w.heap.size _ _ _ _ (.tail _ (.head _))).1
  refine Drawn.enter (Bx w [(w.heap.size + 1, DO n2 a2 z2.length c2 e2), (w.heap.size, DO n1 a1 z1.length c1 e1)]) (by kernel_rfl) ?_
  refine Drawn.take (i := 0) (v := ?v146) rfl (by kernel_rfl) (by kernel_rfl) (by kernel_rfl) (fun _ _ _ h => h) (by kernel_rfl) (fun W hW => ?_) HI ?_
  rotate_left
  · have ⟨⟨s0, s1, s2⟩, q0, q3, q4⟩ := sh W hW
    go_simp <;> exact rfl
  refine Drawn.take (i := 1) (v := ?v147) rfl (by kernel_rfl) (by kernel_rfl) (by kernel_rfl) (fun _ _ _ h => h) (by kernel_rfl) (fun W hW => ?_) HI ?_
  rotate_left
  · have ⟨⟨s0, s1, s2⟩, q0, q3, q4⟩ := sh W hW
    go_simp <;> exact rfl
  refine Drawn.one (j := 2) (by kernel_rfl) rfl (fun K hK => ?_)
  go_simp
  refine (rNegX n2 a2 c2 z2.length e2 hz2 _).mono ?_
  rintro e wn ⟨rfl, hn⟩
  refine hK _ _ (HI.keep hn) ?_
  clear hK K
  replace HI := HI.keep hn
  replace HF := HF.keep hn
  clear hn
  refine Drawn.one (j := 3) (by kernel_rfl) rfl (fun K hK => ?_)
  go_simp
  refine (addX n1 (!n2) a1 a2 c1 c2 z1 z2 e1 e2 _ (l1.below HI.bel (Nat.le_refl _)) (l2.below HI.bel (Nat.le_refl _)) q1 q2 hl1 hl2 hz1 hz2 b1 b2 b3 b4 k1 k2 hk1 hk2 hh1 hh2).mono ?_
  rintro e w6 ⟨n6, z6, x6, a6, c6, rfl, F6, l6, h6⟩
  refine hK _ _ (HI.keep h6) ?_
  clear hK K
  replace HI := HI.keep h6
  replace HF := HF.keep h6
  have H6 := Hide.mk (And.intro F6 l6)
  clear F6 l6 h6
  obtain ⟨⟨f0, f1, f2⟩, r0, r1, r2⟩ := cells3 HF (w.heap.size + 1 + 1) _ _ _ _ (.head _)
  have HF2 := HF.fill3 (by omega) (by simp; omega) (.bool n6) (.slice a6 z6.length c6) (.int .i64 x6)
  refine Drawn.one (j := 4) (by kernel_rfl) rfl (fun K hK => ?_)
  go_simp
  replace HI := HF2.sub (L' := [(w.heap.size + 1, DO n2 a2 z2.length c2 e2), (w.heap.size, DO n1 a1 z1.length c1 e1)]) (by simp)
  refine hK _ _ HI ?_
  clear hK K f0 f1 f2 r0 r1 r2
  refine Drawn.done (by kernel_rfl) ?_
  try go_simp
  go_wp2
  refine bodyPost_ret (results_D1 rfl _ _ (w.heap.size + 1 + 1) _ rfl ⟨HF2.head, rfl⟩) rfl ?_
  exact RF.set H6.out.1 H6.out.2 HF.head HF.bel (by omega)
/-- A sum with nought is the other number. -/
theorem addX_z1 (a1 a2 : Option Addr) (c1 c2 k2 : Nat) (n1 n2 : Bool) (e1 e2 : Int) (w : World) :
    Calls Tryd.prog 42 #[dV n1 a1 0 c1 e1, dV n2 a2 k2 c2 e2] w fun e w' => e = .returned (dV n2 a2 k2 c2 e2) ∧ Below w.heap.size w w' := by
  have B1 := (((Bx.nil w).push (DO n1 a1 0 c1 e1)).push (DO n2 a2 k2 c2 e2)).push (DO n2 a2 k2 c2 e2)
  go_enter Tryd.func42, Tryd.ntmps42
  go_wp2
  refine bodyPost_ret (results_D1 rfl _ _ (w.heap.size + 1 + 1) _ rfl ⟨by simpa using B1.head, rfl⟩) rfl ?_
  exact ⟨rfl, B1.bel⟩
theorem addX_z2 (a1 a2 : Option Addr) (c1 c2 k1 : Nat) (n1 n2 : Bool) (e1 e2 : Int) (hk : 0 < k1) (w : World) :
    Calls Tryd.prog 42 #[dV n1 a1 k1 c1 e1, dV n2 a2 0 c2 e2] w fun e w' => e = .returned (dV n1 a1 k1 c1 e1) ∧ Below w.heap.size w w' := by
  have B1 := (((Bx.nil w).push (DO n1 a1 k1 c1 e1)).push (DO n2 a2 0 c2 e2)).push (DO n1 a1 k1 c1 e1)
  have d1 : ((k1 : Int) == 0) = false := beq_eq_false_iff_ne.2 (by omega)
  go_enter Tryd.func42, Tryd.ntmps42
  go_wp2
  refine bodyPost_ret (results_D1 rfl _ _ (w.heap.size + 1 + 1) _ rfl ⟨by simpa using B1.head, rfl⟩) rfl ?_
  exact ⟨rfl, B1.bel⟩
end Go.Proofs.YtiamdmfhkhlppaaDoor
