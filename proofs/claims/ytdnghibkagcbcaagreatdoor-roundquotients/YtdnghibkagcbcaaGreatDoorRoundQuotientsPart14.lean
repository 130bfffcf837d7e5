import Derived.Test.YtdnghibkagcbcaaGreatDoorRoundQuotientsPart13
import Derived.Test.YtdnghibkagcbcaaGreatDoorRoundQuotientsPart9
import Derived.Test.YtdnghibkagcbcaaGreatDoorRoundQuotientsPart10
set_option maxHeartbeats 4000000
namespace Go.Box
open Go
theorem Bx.grownP {w W : World} {L : List (Nat × Obj)} (h : Bx w L W) (o : Obj) : Bx w L (W.alloc o) := (h.push o).tail
end Go.Box
namespace Go.Proofs.YtdnghibkagcbcaaGreatDoor
open Go.RowKit Go.Wd Go.Box
set_option linter.unusedVariables false
set_option maxRecDepth 3000
theorem suppose6 {F G : Nat → World → List Int → Int → Option Addr → Nat → Prop} {T : Prop} (h : (∀ a b c d e f, F a b c d e f → G a b c d e f) → T) (k : ∀ a b c d e f, F a b c d e f → G a b c d e f) : T := h k
theorem lie_set3P {W : World} {g : Nat} {a : Option Addr} {zs : List Int} (hg : W.heap[g]? = some (DO false none 0 0 0)) (v0 v1 v2 : Value) (l : Lie W a zs) :
    Lie (((W.setCell ⟨g, 0, none⟩ v0).setCell ⟨g, 1, none⟩ v1).setCell ⟨g, 2, none⟩ v2) a zs :=
  (Live.set3 (g := g) ⟨hg, rfl⟩ v0 v1 v2 (Live.one l)).all (a, zs) (.head _)
theorem cut_seenL {w w' : World} {n : Bool} {r E : Int} {q : Bool} {e : Ending} (h : DCut w w' (sv n r) E q e) (hb : BitLen r 64) (hE1 : -16000000 ≤ E) (hE2 : E ≤ 16000000) :
    ∃ z x a c, ∃ B : Nat, e = .returned (.tuple #[dV n a (List.length z) c x, .bool q, .int .i64 0]) ∧ DG n z x ∧ 0 < z.length ∧ BitLen (Nt.val z) B ∧ B ≤ 64 ∧ (B : Int) + x = 64 + E ∧ Nt.val z * 2 ^ (64 - B) = r ∧ Lie w' a z ∧ Below w.heap.size w w' := by
  have hr : 0 < r := by
    rcases hb with ⟨_, h⟩ | ⟨h, _⟩
    · omega
    · exact h
  have hab := natAbs_sv n (Int.le_of_lt hr)
  have hsg := sv_neg n hr
  obtain ⟨t, ht⟩ := low_ex hr
  have htl := low_bits3 hb ht hr
  have hne : sv n r ≠ 0 := fun q => by rw [q] at hab; simp at hab; omega
  have h64 : r < 4294967296 ^ 4096 := by
    have h1 : r < 2 ^ 64 := by
      rcases hb with ⟨h, _⟩ | ⟨_, h⟩
      · omega
      · exact h.lt
    have h2 : (2 : Int) ^ 64 ≤ 4294967296 ^ 4096 := by
      rw [show (4294967296 : Int) = 2 ^ 32 from rfl, ← Int.pow_mul]
      exact p2le (by omega)
    exact Int.lt_of_lt_of_le h1 h2
  obtain ⟨n', z', x', a', c', rfl, F, hl, l, _, hbel⟩ := dcut_num h (by rw [hab]; exact h64) (.inr ⟨t, by rw [hab]; exact ht, by omega, by omega⟩)
  obtain ⟨B, g, hz, rfl, hB, hB2, he, hv⟩ := fm_seen F hne (C := 64) (by rw [hab]; exact hb) (by omega) (by omega) (by omega) hl
  rw [hab, Nat.sub_self, Int.pow_zero, Int.mul_one] at hv
  rw [hsg] at g ⊢
  exact ⟨z', x', a', c', B, rfl, g, hz, hB, hB2, he, hv, l, hbel⟩
theorem wSeenQuo (n1 n2 : Bool) (a1 a2 : Option Addr) (c1 c2 : Nat) (z1 z2 : List Int) (e1 e2 : Int) (w : World) (l1 : Lie w a1 z1) (l2 : Lie w a2 z2) (g1 : DG n1 z1 e1) (g2 : DG n2 z2 e2) (hT : Tab w) (hz1 : 0 < z1.length) (hz2 : 0 < z2.length) {i : Int} (hi : BitLen (qf (Nt.val z1) (Nt.val z2) i) 64) (hi1 : -1000000 ≤ i) (hi2 : i ≤ 1000000) :
    Calls Tryz.prog 61 #[dV n1 a1 z1.length c1 e1, dV n2 a2 z2.length c2 e2] w fun e w' => e = .returned (snV (n1 != n2) (64 - i + (e1 - e2)) (qf (Nt.val z1) (Nt.val z2) i) (qg (Nt.val z1) (Nt.val z2) i)) ∧ Below w.heap.size w w' := by
  have x1 := g1.ex_bd
  have x2 := g2.ex_bd
  have hK := KK_int
  have f1 : DG n1 z1 0 := ⟨g1.can, g1.len, .inr ⟨hz1, g1.odd hz1, by omega, by omega⟩⟩
  have f2 : DG n2 z2 0 := ⟨g2.can, g2.len, .inr ⟨hz2, g2.odd hz2, by omega, by omega⟩⟩
  have HQ := fun W (hW : Below w.heap.size w W) => Hide.mk (quoT n1 n2 a1 a2 c1 c2 z1 z2 0 0 W (l1.below hW (Nat.le_refl _)) (l2.below hW (Nat.le_refl _)) f1 f2 (hT.below hW (Nat.le_refl _)) 64 64 rfl (by omega) (by omega) hz1 hz2 hi)
  have HC := fun (W W' : World) e h => Hide.mk (cut_seenL (w := W) (w' := W') (n := n1 != n2) (r := qf (Nt.val z1) (Nt.val z2) i) (E := 0 - 0 - i) (q := qg (Nt.val z1) (Nt.val z2) i) (e := e) h hi (by omega) (by omega))
  generalize qf (Nt.val z1) (Nt.val z2) i = H at *
  generalize qg (Nt.val z1) (Nt.val z2) i = q at *
  clear hi g1 g2 f1 f2 hT
  have B1 := (((Bx.nil w).push (DO n1 a1 z1.length c1 e1)).push (DO n2 a2 z2.length c2 e2)).push (snO false 0 0 false)
  rw [show ((w.alloc (DO n1 a1 z1.length c1 e1)).alloc (DO n2 a2 z2.length c2 e2)).heap.size = w.heap.size + 1 + 1 by simp, show (w.alloc (DO n1 a1 z1.length c1 e1)).heap.size = w.heap.size + 1 by simp] at B1
  go_enter Tryz.func61, Tryz.ntmps61
  go_wp2_with fail
  generalize hw1 : ((w.alloc (DO n1 a1 z1.length c1 e1)).alloc (DO n2 a2 z2.length c2 e2)).alloc (snO false 0 0 false) = w1 at *
  clear hw1
  have HF := B1.drew
  have HI := HF.sub (L' := [(w.heap.size + 1, DO n2 a2 z2.length c2 e2), (w.heap.size, DO n1 a1 z1.length c1 e1)]) (by simp)
  have sh := fun W (hW : Bx w [(w.heap.size + 1, DO n2 a2 z2.length c2 e2), (w.heap.size, DO n1 a1 z1.length c1 e1)] W) => And.intro (cells3 hW (w.heap.size + 1) _ _ _ _ (.head _)).1 (cells3 hW w.heap.size _ _ _ _ (.tail _ (.head _))).1
  refine Drawn.enter (Bx w [(w.heap.size + 1, DO n2 a2 z2.length c2 e2), (w.heap.size, DO n1 a1 z1.length c1 e1)]) (by kernel_rfl) ?_
  refine Drawn.tk (i := 0) (v := ?v334) rfl (fun W hW => ?_) HI ?_
  rotate_left
  · have ⟨⟨s0, s1, s2⟩, q0, q3, q4⟩ := sh W hW
    go_simp <;> exact rfl
  refine Drawn.tk (i := 2) (v := ?v335) rfl (fun W hW => ?_) HI ?_
  rotate_left
  · have ⟨⟨s0, s1, s2⟩, q0, q3, q4⟩ := sh W hW
    go_simp <;> exact rfl
  generalize hw1 : w1.drew = W0 at *
  clear hw1 B1
  refine suppose6 (F := fun g W z x a c => w.heap.size + 1 + 1 < g ∧ Bx w ((g, DO false none 0 0 0) :: [(w.heap.size + 1 + 1, snO false 0 0 false), (w.heap.size + 1, DO n2 a2 z2.length c2 e2), (w.heap.size, DO n1 a1 z1.length c1 e1)]) W ∧ Bx w [(w.heap.size + 1, DO n2 a2 z2.length c2 e2), (w.heap.size, DO n1 a1 z1.length c1 e1)] W ∧ ∃ B : Nat, DG (n1 != n2) z x ∧ 0 < z.length ∧ BitLen (Nt.val z) B ∧ B ≤ 64 ∧ (B : Int) + x = 64 + (0 - 0 - i) ∧ Nt.val z * 2 ^ (64 - B) = H ∧ Lie W a z) (G := ?G) (fun REST => ?h) ?k
  case h =>
    refine Drawn.pair (i := 1) (j := 9) (by kernel_rfl) rfl rfl (fun K hK => ?_) (fun K hK => ?_)
    · go_simp
      refine (wWhole n1 a1 z1.length c1 e1 _).mono ?_
      rintro e W1 ⟨rfl, hn⟩
      refine hK _ _ (HI.keep hn) ?_
      clear hK K
      replace HI := HI.keep hn
      replace HF := HF.keep hn
      clear hn
      refine Drawn.pair (i := 3) (j := 9) (by kernel_rfl) rfl rfl (fun K hK => ?_) (fun K hK => ?_)
      · go_simp
        refine (wWhole n2 a2 z2.length c2 e2 _).mono ?_
        rintro e W2 ⟨rfl, hn⟩
        refine hK _ _ (HI.keep hn) ?_
        clear hK K
        replace HI := HI.keep hn
        replace HF := HF.keep hn
        clear hn
        refine Drawn.pair (i := 4) (j := 9) (by kernel_rfl) rfl rfl (fun K hK => ?_) (fun K hK => ?_)
        · go_simp
          refine (HQ _ HF.bel).out.mono ?_
          rintro e W3 hh
          obtain ⟨z, x, a, c, B, rfl, g3, hz3, hB3, hB4, e3, v3, l3, hn⟩ := (HC _ _ _ hh).out
          clear hh
          refine hK _ _ (HI.keep hn) ?_
          clear hK K
          replace HI := HI.keep hn
          replace HF := HF.keep hn
          clear hn
          refine Drawn.tk (i := 5) (v := ?v336) rfl (fun W hW => ?_) HI ?_
          rotate_left
          · have ⟨⟨s0, s1, s2⟩, q0, q3, q4⟩ := sh W hW
            go_simp <;> exact rfl
          refine Drawn.tk (i := 6) (v := ?v337) rfl (fun W hW => ?_) HI ?_
          rotate_left
          · have ⟨⟨s0, s1, s2⟩, q0, q3, q4⟩ := sh W hW
            go_simp <;> exact rfl
          refine Drawn.tk (i := 7) (v := ?v338) rfl (fun W hW => ?_) HI ?_
          rotate_left
          · have ⟨⟨s0, s1, s2⟩, q0, q3, q4⟩ := sh W hW
            go_simp <;> exact rfl
          refine Drawn.tk (i := 8) (v := ?v339) rfl (fun W hW => ?_) HI ?_
          rotate_left
          · have ⟨⟨s0, s1, s2⟩, q0, q3, q4⟩ := sh W hW
            go_simp <;> exact rfl
          refine Drawn.one (j := 9) (by kernel_rfl) rfl (fun K hK => ?_)
          go_simp
          refine hK _ _ (HI.grownP (DO false none 0 0 0)) ?_
          clear hK K
          have o5 : w.heap.size + 1 + 1 < _ := HF.lt (p := (w.heap.size + 1 + 1, snO false 0 0 false)) (by simp)
          replace HI := HI.grownP (DO false none 0 0 0)
          replace HF := HF.push (DO false none 0 0 0)
          replace l3 := l3.below (below_alloc _ (DO false none 0 0 0)) (Nat.le_refl _)
          generalize hg5 : World.alloc W3 (DO false none 0 0 0) = W4 at *
          clear hg5
          generalize hg5 : W3.heap.size = g5 at *
          clear hg5
          exact REST g5 W4 z x a c ⟨o5, HF, HI, B, g3, hz3, hB3, hB4, e3, v3, l3⟩
        · go_simp
          refine hK _ _ (HI.grownP (DO false none 0 0 0)) ?_
          clear hK K
          have o5 : w.heap.size + 1 + 1 < _ := HF.lt (p := (w.heap.size + 1 + 1, snO false 0 0 false)) (by simp)
          replace HI := HI.grownP (DO false none 0 0 0)
          replace HF := HF.push (DO false none 0 0 0)
          generalize hg5 : World.alloc W2 (DO false none 0 0 0) = W5 at *
          clear hg5
          generalize hg5 : W2.heap.size = g5 at *
          clear hg5
          refine Drawn.one (j := 4) (by kernel_rfl) rfl (fun K hK => ?_)
          go_simp
          refine (HQ _ HF.bel).out.mono ?_
          rintro e W6 hh
          obtain ⟨z, x, a, c, B, rfl, g3, hz3, hB3, hB4, e3, v3, l3, hn⟩ := (HC _ _ _ hh).out
          clear hh
          refine hK _ _ (HI.keep hn) ?_
          clear hK K
          replace HI := HI.keep hn
          replace HF := HF.keep hn
          clear hn
          refine Drawn.tk (i := 5) (v := ?v340) rfl (fun W hW => ?_) HI ?_
          rotate_left
          · have ⟨⟨s0, s1, s2⟩, q0, q3, q4⟩ := sh W hW
            go_simp <;> exact rfl
          refine Drawn.tk (i := 6) (v := ?v341) rfl (fun W hW => ?_) HI ?_
          rotate_left
          · have ⟨⟨s0, s1, s2⟩, q0, q3, q4⟩ := sh W hW
            go_simp <;> exact rfl
          refine Drawn.tk (i := 7) (v := ?v342) rfl (fun W hW => ?_) HI ?_
          rotate_left
          · have ⟨⟨s0, s1, s2⟩, q0, q3, q4⟩ := sh W hW
            go_simp <;> exact rfl
          refine Drawn.tk (i := 8) (v := ?v343) rfl (fun W hW => ?_) HI ?_
          rotate_left
          · have ⟨⟨s0, s1, s2⟩, q0, q3, q4⟩ := sh W hW
            go_simp <;> exact rfl
          exact REST g5 W6 z x a c ⟨o5, HF, HI, B, g3, hz3, hB3, hB4, e3, v3, l3⟩
      · go_simp
        refine hK _ _ (HI.grownP (DO false none 0 0 0)) ?_
        clear hK K
        have o5 : w.heap.size + 1 + 1 < _ := HF.lt (p := (w.heap.size + 1 + 1, snO false 0 0 false)) (by simp)
        replace HI := HI.grownP (DO false none 0 0 0)
        replace HF := HF.push (DO false none 0 0 0)
        generalize hg5 : World.alloc W1 (DO false none 0 0 0) = W7 at *
        clear hg5
        generalize hg5 : W1.heap.size = g5 at *
        clear hg5
        refine Drawn.one (j := 3) (by kernel_rfl) rfl (fun K hK => ?_)
        go_simp
        refine (wWhole n2 a2 z2.length c2 e2 _).mono ?_
        rintro e W8 ⟨rfl, hn⟩
        refine hK _ _ (HI.keep hn) ?_
        clear hK K
        replace HI := HI.keep hn
        replace HF := HF.keep hn
        clear hn
        refine Drawn.one (j := 4) (by kernel_rfl) rfl (fun K hK => ?_)
        go_simp
        refine (HQ _ HF.bel).out.mono ?_
        rintro e W9 hh
        obtain ⟨z, x, a, c, B, rfl, g3, hz3, hB3, hB4, e3, v3, l3, hn⟩ := (HC _ _ _ hh).out
        clear hh
        refine hK _ _ (HI.keep hn) ?_
        clear hK K
        replace HI := HI.keep hn
        replace HF := HF.keep hn
        clear hn
        refine Drawn.tk (i := 5) (v := ?v344) rfl (fun W hW => ?_) HI ?_
        rotate_left
        · have ⟨⟨s0, s1, s2⟩, q0, q3, q4⟩ := sh W hW
          go_simp <;> exact rfl
        refine Drawn.tk (i := 6) (v := ?v345) rfl (fun W hW => ?_) HI ?_
        rotate_left
        · have ⟨⟨s0, s1, s2⟩, q0, q3, q4⟩ := sh W hW
          go_simp <;> exact rfl
        refine Drawn.tk (i := 7) (v := ?v346) rfl (fun W hW => ?_) HI ?_
        rotate_left
        · have ⟨⟨s0, s1, s2⟩, q0, q3, q4⟩ := sh W hW
          go_simp <;> exact rfl
        refine Drawn.tk (i := 8) (v := ?v347) rfl (fun W hW => ?_) HI ?_
        rotate_left
        · have ⟨⟨s0, s1, s2⟩, q0, q3, q4⟩ := sh W hW
          go_simp <;> exact rfl
        exact REST g5 W9 z x a c ⟨o5, HF, HI, B, g3, hz3, hB3, hB4, e3, v3, l3⟩
    · go_simp
      refine hK _ _ (HI.grownP (DO false none 0 0 0)) ?_
      clear hK K
      have o5 : w.heap.size + 1 + 1 < _ := HF.lt (p := (w.heap.size + 1 + 1, snO false 0 0 false)) (by simp)
      replace HI := HI.grownP (DO false none 0 0 0)
      replace HF := HF.push (DO false none 0 0 0)
      generalize hg5 : World.alloc W0 (DO false none 0 0 0) = W10 at *
      clear hg5
      generalize hg5 : W0.heap.size = g5 at *
      clear hg5
      refine Drawn.one (j := 1) (by kernel_rfl) rfl (fun K hK => ?_)
      go_simp
      refine (wWhole n1 a1 z1.length c1 e1 _).mono ?_
      rintro e W11 ⟨rfl, hn⟩
      refine hK _ _ (HI.keep hn) ?_
      clear hK K
      replace HI := HI.keep hn
      replace HF := HF.keep hn
      clear hn
      refine Drawn.one (j := 3) (by kernel_rfl) rfl (fun K hK => ?_)
      go_simp
      refine (wWhole n2 a2 z2.length c2 e2 _).mono ?_
      rintro e W12 ⟨rfl, hn⟩
      refine hK _ _ (HI.keep hn) ?_
      clear hK K
      replace HI := HI.keep hn
      replace HF := HF.keep hn
      clear hn
      refine Drawn.one (j := 4) (by kernel_rfl) rfl (fun K hK => ?_)
      go_simp
      refine (HQ _ HF.bel).out.mono ?_
      rintro e W13 hh
      obtain ⟨z, x, a, c, B, rfl, g3, hz3, hB3, hB4, e3, v3, l3, hn⟩ := (HC _ _ _ hh).out
      clear hh
      refine hK _ _ (HI.keep hn) ?_
      clear hK K
      replace HI := HI.keep hn
      replace HF := HF.keep hn
      clear hn
      refine Drawn.tk (i := 5) (v := ?v348) rfl (fun W hW => ?_) HI ?_
      rotate_left
      · have ⟨⟨s0, s1, s2⟩, q0, q3, q4⟩ := sh W hW
        go_simp <;> exact rfl
      refine Drawn.tk (i := 6) (v := ?v349) rfl (fun W hW => ?_) HI ?_
      rotate_left
      · have ⟨⟨s0, s1, s2⟩, q0, q3, q4⟩ := sh W hW
        go_simp <;> exact rfl
      refine Drawn.tk (i := 7) (v := ?v350) rfl (fun W hW => ?_) HI ?_
      rotate_left
      · have ⟨⟨s0, s1, s2⟩, q0, q3, q4⟩ := sh W hW
        go_simp <;> exact rfl
      refine Drawn.tk (i := 8) (v := ?v351) rfl (fun W hW => ?_) HI ?_
      rotate_left
      · have ⟨⟨s0, s1, s2⟩, q0, q3, q4⟩ := sh W hW
        go_simp <;> exact rfl
      exact REST g5 W13 z x a c ⟨o5, HF, HI, B, g3, hz3, hB3, hB4, e3, v3, l3⟩
  intro g5 W z x a c h
  obtain ⟨o5, HF, HI, B, g3, hz3, hB3, hB4, e3, v3, l3⟩ := h
  obtain ⟨⟨f0, f1, f2⟩, r0, r1, r2⟩ := cells3 HF g5 _ _ _ _ (.head _)
  have HF2 := HF.fill3 (by omega) (by simp; omega) (.bool (n1 != n2)) (.slice a z.length c) (.int .i64 x)
  have l4 := lie_set3P (g := g5) HF.head (.bool (n1 != n2)) (.slice a z.length c) (.int .i64 x) l3
  refine Drawn.one (j := 10) (by kernel_rfl) rfl (fun K hK => ?_)
  go_simp
  replace HI := HF2.sub (L' := [(w.heap.size + 1, DO n2 a2 z2.length c2 e2), (w.heap.size, DO n1 a1 z1.length c1 e1)]) (by simp)
  refine hK _ _ HI ?_
  clear hK K f0 f1 f2 r0 r1 r2 HF l3
  refine Drawn.tk (i := 11) (v := ?v352) rfl (fun W hW => ?_) HI ?_
  rotate_left
  · have ⟨⟨s0, s1, s2⟩, q0, q3, q4⟩ := sh W hW
    go_simp <;> exact rfl
  refine Drawn.tk (i := 12) (v := ?v353) rfl (fun W hW => ?_) HI ?_
  rotate_left
  · have ⟨⟨s0, s1, s2⟩, q0, q3, q4⟩ := sh W hW
    go_simp <;> exact rfl
  refine Drawn.done (by kernel_rfl) ?_
  try go_simp
  have HS := Hide.mk (wSeenCut (n1 != n2) q a c z x (e1 - e2) _ l4 g3 hz3 hB3 hB4 (by omega) (by omega))
  rw [v3, show (B : Int) + x + (e1 - e2) = 64 - i + (e1 - e2) by omega] at HS
  obtain ⟨⟨f0, f1, f2⟩, _⟩ := cells3 HF2 g5 _ _ _ _ (.head _)
  obtain ⟨⟨s0, s1, s2⟩, _⟩ := cells3 HF2 (w.heap.size + 1) _ _ _ _ (.tail _ (.tail _ (.head _)))
  obtain ⟨⟨t0, t1, t2⟩, _⟩ := cells3 HF2 w.heap.size _ _ _ _ (.tail _ (.tail _ (.tail _ (.head _))))
  clear g3 hz3 hB3 hB4 e3 v3 l4 sh HQ HC
  generalize (((W.setCell ⟨g5, 0, none⟩ (.bool (n1 != n2))).setCell ⟨g5, 1, none⟩ (.slice a z.length c)).setCell ⟨g5, 2, none⟩ (.int .i64 x)) = W9 at *
  generalize hnn : (n1 != n2) = nn at *
  have HNN := Hide.mk hnn
  clear hnn
  go_wp2_with fail
  refine HS.out.mono ?_
  rintro e w5 ⟨rfl, h5⟩
  have B5 := (HF2.keep h5).sub (L' := [(w.heap.size + 1 + 1, snO false 0 0 false)]) (by simp)
  clear h5 f0 f1 f2 s0 s1 s2 t0 t1 t2 HF2 HS HI
  obtain ⟨⟨f0, f1, f2, f3⟩, r0, r1, r2, r3⟩ := cells4 B5 (w.heap.size + 1 + 1) _ _ _ _ _ (.head _)
  go_wp2
  have B6 := B5.fill4 (by omega) (by simp) (.bool nn) (.int .i64 (64 - i + (e1 - e2))) (.int .u64 H) (.bool q)
  refine bodyPost_ret (results_N1 rfl _ _ (w.heap.size + 1 + 1) _ rfl B6.head rfl) rfl ?_
  exact ⟨by rw [HNN.out], B6.bel⟩
end Go.Proofs.YtdnghibkagcbcaaGreatDoor

namespace Go.Proofs.YtdnghibkagcbcaaGreatDoor
open Go.RowKit Go.Wd Go.Box
set_option linter.unusedVariables false
set_option maxRecDepth 3000
theorem wPlusZero (b : Bool) (m : Int) (w : World) :
    Calls Tryz.prog 45 #[wyV b m] w fun e w' => e = .returned (.tuple #[.int .u64 0, .int .u8 0, .int .i64 0]) ∧ Below w.heap.size w w' := by
  have B1 := (Bx.nil w).push (wyO b m)
  obtain ⟨f0, f1, f2, f3, f4⟩ := way_cells B1 w.heap.size b m (.head _)
  have HZ : ∀ W, Hide (Calls Tryz.prog 75 #[.int .u8 (fm b), .bool false] W fun e w' => e = .returned (.tuple #[.int .u64 0, .int .i64 0]) ∧ Below W.heap.size W w') := fun W => ⟨by
    have := wZero b false W
    rw [show sd b 0 false = 0 from rfl] at this
    exact this⟩
  go_enter Tryz.func45, Tryz.ntmps45
  go_wp2_with fail
  refine (HZ _).out.mono ?_
  rintro e w2 ⟨rfl, h2⟩
  have B2 := B1.keep h2
  go_wp2
  go_ret3
  exact ⟨rfl, B2.bel⟩
theorem at3_of {w W : World} {L : List (Nat × Obj)} (B : Bx w L W) {g : Nat} {n : Bool} {a : Option Addr} {k c : Nat} {ex : Int} (h : (g, DO n a k c ex) ∈ L) : At3 W g 0 n a k c ex :=
  ⟨B.cell g _ _ h 0, B.cell g _ _ h 1, B.cell g _ _ h 2⟩
theorem wRound_good (b : Bool) (m : Int) (n : Bool) (a : Option Addr) (c k : Nat) (ex s : Int) (nn : Bool) (T high W0 X0 : Int) (more : Bool) (w : World) (hs : (s == 0) = false)
    (HW : ∀ g W, Below w.heap.size w W → At3 W g 0 n a k c ex → Calls Tryz.prog 43 #[.int .u8 (fm b), .int .u8 m, .slice (some ⟨g, 0, none⟩) 1 1] W fun e w' => e = .returned (.tuple #[wyV b m, .int .i64 0]) ∧ Below W.heap.size W w')
    (HS : ∀ W, Below w.heap.size w W → Calls Tryz.prog 44 #[dV n a k c ex] W fun e w' => e = .returned (.int .i64 s) ∧ Below W.heap.size W w')
    (HN : ∀ W, Below w.heap.size w W → Calls Tryz.prog 47 #[dV n a k c ex] W fun e w' => e = .returned (snV nn T high more) ∧ Below W.heap.size W w')
    (HR : ∀ W, Below w.heap.size w W → Calls Tryz.prog 46 #[wyV b m, snV nn T high more] W fun e w' => e = .returned (.tuple #[.int .u64 W0, .int .u8 X0, .int .i64 0]) ∧ Below W.heap.size W w') :
    Calls Tryz.prog 14 #[.int .u8 (fm b), .int .u8 m, dV n a k c ex] w fun e w' => e = .returned (.tuple #[.int .u64 W0, .int .u8 X0, .int .i64 0]) ∧ Below w.heap.size w w' := by
  have B2 := ((Bx.nil w).push (DO n a k c ex)).push (DO n a k c ex)
  rw [show (w.alloc (DO n a k c ex)).heap.size = w.heap.size + 1 by simp] at B2
  have HH := Hide.mk (HW (w.heap.size + 1) _ B2.bel (at3_of B2 (.head _)))
  have HSS := fun W hW => Hide.mk (HS W hW)
  have HNN := fun W hW => Hide.mk (HN W hW)
  have HRR := fun W hW => Hide.mk (HR W hW)
  clear HW HS HN HR
  go_enter Tryz.func14, Tryz.ntmps14
  go_wp2_with fail
  refine HH.out.mono ?_
  rintro e w3 ⟨rfl, h3⟩
  have B3 := (B2.keep h3).push (wyO b m)
  clear h3 HH B2
  obtain ⟨⟨f0, f1, f2⟩, _⟩ := cells3 B3 w.heap.size _ _ _ _ (.tail _ (.tail _ (.head _)))
  go_wp2_with fail
  refine (HSS _ B3.bel).out.mono ?_
  rintro e w4 ⟨rfl, h4⟩
  have B4 := B3.keep h4
  clear h4 B3 f0 f1 f2
  go_wp2_with fail
  have HI := (B4.sub (L' := [(w3.heap.size, wyO b m), (w.heap.size, DO n a k c ex)]) (by simp)).drew
  have sh := fun W (hW : Bx w [(w3.heap.size, wyO b m), (w.heap.size, DO n a k c ex)] W) => And.intro (way_cells hW w3.heap.size b m (.head _)) (cells3 hW w.heap.size _ _ _ _ (.tail _ (.head _))).1
  refine Drawn.enter (Bx w [(w3.heap.size, wyO b m), (w.heap.size, DO n a k c ex)]) (by kernel_rfl) ?_
  refine Drawn.tk (i := 0) (v := ?v354) rfl (fun W hW => ?_) HI ?_
  rotate_left
  · have ⟨⟨g0, g1, g2, g3, g4⟩, f0, f1, f2⟩ := sh W hW
    go_simp <;> exact rfl
  refine Drawn.tk (i := 1) (v := ?v355) rfl (fun W hW => ?_) HI ?_
  rotate_left
  · have ⟨⟨g0, g1, g2, g3, g4⟩, f0, f1, f2⟩ := sh W hW
    go_simp <;> exact rfl
  refine Drawn.one (j := 2) (by kernel_rfl) rfl (fun K hK => ?_)
  go_simp
  refine ((HNN _ HI.bel).out).mono ?_
  rintro e wn ⟨rfl, hn⟩
  refine hK _ _ (HI.keep hn) ?_
  clear hK K
  replace HI := HI.keep hn
  clear hn
  refine Drawn.one (j := 3) (by kernel_rfl) rfl (fun K hK => ?_)
  go_simp
  refine ((HRR _ HI.bel).out).mono ?_
  rintro e wn ⟨rfl, hn⟩
  refine hK _ _ (HI.keep hn) ?_
  clear hK K
  replace HI := HI.keep hn
  clear hn
  refine Drawn.tk (i := 4) (v := ?v356) rfl (fun W hW => ?_) HI ?_
  rotate_left
  · have ⟨⟨g0, g1, g2, g3, g4⟩, f0, f1, f2⟩ := sh W hW
    go_simp <;> exact rfl
  refine Drawn.tk (i := 5) (v := ?v357) rfl (fun W hW => ?_) HI ?_
  rotate_left
  · have ⟨⟨g0, g1, g2, g3, g4⟩, f0, f1, f2⟩ := sh W hW
    go_simp <;> exact rfl
  refine Drawn.tk (i := 6) (v := ?v358) rfl (fun W hW => ?_) HI ?_
  rotate_left
  · have ⟨⟨g0, g1, g2, g3, g4⟩, f0, f1, f2⟩ := sh W hW
    go_simp <;> exact rfl
  refine Drawn.tk (i := 7) (v := ?v359) rfl (fun W hW => ?_) HI ?_
  rotate_left
  · have ⟨⟨g0, g1, g2, g3, g4⟩, f0, f1, f2⟩ := sh W hW
    go_simp <;> exact rfl
  refine Drawn.tk (i := 8) (v := ?v360) rfl (fun W hW => ?_) HI ?_
  rotate_left
  · have ⟨⟨g0, g1, g2, g3, g4⟩, f0, f1, f2⟩ := sh W hW
    go_simp <;> exact rfl
  refine Drawn.tk (i := 9) (v := ?v361) rfl (fun W hW => ?_) HI ?_
  rotate_left
  · have ⟨⟨g0, g1, g2, g3, g4⟩, f0, f1, f2⟩ := sh W hW
    go_simp <;> exact rfl
  refine Drawn.done (by kernel_rfl) ?_
  try go_simp
  go_wp2
  go_ret3
  exact ⟨rfl, HI.bel⟩
end Go.Proofs.YtdnghibkagcbcaaGreatDoor

namespace Go.Proofs.YtdnghibkagcbcaaGreatDoor
open Go.RowKit Go.Wd Go.Box
set_option linter.unusedVariables false
set_option maxRecDepth 3000
theorem wQuo_bad (f m : Int) (n1 : Bool) (a1 : Option Addr) (c1 k1 : Nat) (e1 : Int) (n2 : Bool) (a2 : Option Addr) (c2 k2 : Nat) (e2 : Int) (code : Int) (w : World) (hc : (code == 0) = false)
    (HW : ∀ g W, Below w.heap.size w W → At3 W g 0 n1 a1 k1 c1 e1 → At3 W g 3 n2 a2 k2 c2 e2 → Calls Tryz.prog 43 #[.int .u8 f, .int .u8 m, .slice (some ⟨g, 0, none⟩) 2 2] W fun e w' => e = .returned (.tuple #[noW, .int .i64 code]) ∧ Below W.heap.size W w') :
    Calls Tryz.prog 22 #[.int .u8 f, .int .u8 m, dV n1 a1 k1 c1 e1, dV n2 a2 k2 c2 e2] w fun e w' => e = .returned (.tuple #[.int .u64 0, .int .u8 0, .int .i64 code]) ∧ Below w.heap.size w w' := by
  have B3 := (((Bx.nil w).push (DO n1 a1 k1 c1 e1)).push (DO n2 a2 k2 c2 e2)).push (.cells #[.bool n1, .slice a1 k1 c1, .int .i64 e1, .bool n2, .slice a2 k2 c2, .int .i64 e2] 26 (0, 0))
  rw [show ((w.alloc (DO n1 a1 k1 c1 e1)).alloc (DO n2 a2 k2 c2 e2)).heap.size = w.heap.size + 1 + 1 by simp, show (w.alloc (DO n1 a1 k1 c1 e1)).heap.size = w.heap.size + 1 by simp] at B3
  have HH := Hide.mk (HW (w.heap.size + 1 + 1) _ B3.bel ⟨B3.cell _ _ _ (.head _) 0, B3.cell _ _ _ (.head _) 1, B3.cell _ _ _ (.head _) 2⟩ ⟨B3.cell _ _ _ (.head _) 3, B3.cell _ _ _ (.head _) 4, B3.cell _ _ _ (.head _) 5⟩)
  clear HW
  go_enter Tryz.func22, Tryz.ntmps22
  go_wp2_with fail
  refine HH.out.mono ?_
  rintro e w3 ⟨rfl, h3⟩
  have B4 := (B3.keep h3).push ZW
  clear h3 HH B3
  go_wp2
  go_ret3
  exact ⟨rfl, B4.bel⟩
theorem wQuo_none (b : Bool) (m : Int) (n1 : Bool) (a1 : Option Addr) (c1 k1 : Nat) (e1 : Int) (n2 : Bool) (a2 : Option Addr) (c2 k2 : Nat) (e2 : Int) (w : World)
    (HW : ∀ g W, Below w.heap.size w W → At3 W g 0 n1 a1 k1 c1 e1 → At3 W g 3 n2 a2 k2 c2 e2 → Calls Tryz.prog 43 #[.int .u8 (fm b), .int .u8 m, .slice (some ⟨g, 0, none⟩) 2 2] W fun e w' => e = .returned (.tuple #[wyV b m, .int .i64 0]) ∧ Below W.heap.size W w')
    (HS2 : ∀ W, Below w.heap.size w W → Calls Tryz.prog 44 #[dV n2 a2 k2 c2 e2] W fun e w' => e = .returned (.int .i64 0) ∧ Below W.heap.size W w') :
    Calls Tryz.prog 22 #[.int .u8 (fm b), .int .u8 m, dV n1 a1 k1 c1 e1, dV n2 a2 k2 c2 e2] w fun e w' => e = .returned (.tuple #[.int .u64 0, .int .u8 0, .int .i64 11]) ∧ Below w.heap.size w w' := by
  have HSS2 := fun W hW => Hide.mk (HS2 W hW)
  clear HS2
  have B3 := (((Bx.nil w).push (DO n1 a1 k1 c1 e1)).push (DO n2 a2 k2 c2 e2)).push (.cells #[.bool n1, .slice a1 k1 c1, .int .i64 e1, .bool n2, .slice a2 k2 c2, .int .i64 e2] 26 (0, 0))
  rw [show ((w.alloc (DO n1 a1 k1 c1 e1)).alloc (DO n2 a2 k2 c2 e2)).heap.size = w.heap.size + 1 + 1 by simp, show (w.alloc (DO n1 a1 k1 c1 e1)).heap.size = w.heap.size + 1 by simp] at B3
  have HH := Hide.mk (HW (w.heap.size + 1 + 1) _ B3.bel ⟨B3.cell _ _ _ (.head _) 0, B3.cell _ _ _ (.head _) 1, B3.cell _ _ _ (.head _) 2⟩ ⟨B3.cell _ _ _ (.head _) 3, B3.cell _ _ _ (.head _) 4, B3.cell _ _ _ (.head _) 5⟩)
  clear HW
  go_enter Tryz.func22, Tryz.ntmps22
  go_wp2_with fail
  refine HH.out.mono ?_
  rintro e w3 ⟨rfl, h3⟩
  have B4 := (B3.keep h3).push (wyO b m)
  clear h3 HH B3
  obtain ⟨⟨f0, f1, f2⟩, _⟩ := cells3 B4 (w.heap.size + 1) _ _ _ _ (.tail _ (.tail _ (.head _)))
  go_wp2_with fail
  refine (HSS2 _ B4.bel).out.mono ?_
  rintro e w4 ⟨rfl, hh⟩
  have B5 := B4.keep hh
  clear hh B4 f0 f1 f2
  go_wp2
  go_ret3
  exact ⟨rfl, B5.bel⟩
theorem wQuo_zero (b : Bool) (m : Int) (n1 : Bool) (a1 : Option Addr) (c1 k1 : Nat) (e1 : Int) (n2 : Bool) (a2 : Option Addr) (c2 k2 : Nat) (e2 : Int) (s2 : Int) (w : World) (hs2 : (s2 == 0) = false)
    (HW : ∀ g W, Below w.heap.size w W → At3 W g 0 n1 a1 k1 c1 e1 → At3 W g 3 n2 a2 k2 c2 e2 → Calls Tryz.prog 43 #[.int .u8 (fm b), .int .u8 m, .slice (some ⟨g, 0, none⟩) 2 2] W fun e w' => e = .returned (.tuple #[wyV b m, .int .i64 0]) ∧ Below W.heap.size W w')
    (HS2 : ∀ W, Below w.heap.size w W → Calls Tryz.prog 44 #[dV n2 a2 k2 c2 e2] W fun e w' => e = .returned (.int .i64 s2) ∧ Below W.heap.size W w')
    (HS1 : ∀ W, Below w.heap.size w W → Calls Tryz.prog 44 #[dV n1 a1 k1 c1 e1] W fun e w' => e = .returned (.int .i64 0) ∧ Below W.heap.size W w') :
    Calls Tryz.prog 22 #[.int .u8 (fm b), .int .u8 m, dV n1 a1 k1 c1 e1, dV n2 a2 k2 c2 e2] w fun e w' => e = .returned (.tuple #[.int .u64 0, .int .u8 0, .int .i64 0]) ∧ Below w.heap.size w w' := by
  have HSS2 := fun W hW => Hide.mk (HS2 W hW)
  have HSS1 := fun W hW => Hide.mk (HS1 W hW)
  clear HS2 HS1
  have B3 := (((Bx.nil w).push (DO n1 a1 k1 c1 e1)).push (DO n2 a2 k2 c2 e2)).push (.cells #[.bool n1, .slice a1 k1 c1, .int .i64 e1, .bool n2, .slice a2 k2 c2, .int .i64 e2] 26 (0, 0))
  rw [show ((w.alloc (DO n1 a1 k1 c1 e1)).alloc (DO n2 a2 k2 c2 e2)).heap.size = w.heap.size + 1 + 1 by simp, show (w.alloc (DO n1 a1 k1 c1 e1)).heap.size = w.heap.size + 1 by simp] at B3
  have HH := Hide.mk (HW (w.heap.size + 1 + 1) _ B3.bel ⟨B3.cell _ _ _ (.head _) 0, B3.cell _ _ _ (.head _) 1, B3.cell _ _ _ (.head _) 2⟩ ⟨B3.cell _ _ _ (.head _) 3, B3.cell _ _ _ (.head _) 4, B3.cell _ _ _ (.head _) 5⟩)
  clear HW
  go_enter Tryz.func22, Tryz.ntmps22
  go_wp2_with fail
  refine HH.out.mono ?_
  rintro e w3 ⟨rfl, h3⟩
  have B4 := (B3.keep h3).push (wyO b m)
  clear h3 HH B3
  obtain ⟨⟨f0, f1, f2⟩, _⟩ := cells3 B4 (w.heap.size + 1) _ _ _ _ (.tail _ (.tail _ (.head _)))
  go_wp2_with fail
  refine (HSS2 _ B4.bel).out.mono ?_
  rintro e w4 ⟨rfl, hh⟩
  have B5 := B4.keep hh
  clear hh B4 f0 f1 f2
  obtain ⟨⟨f0, f1, f2⟩, _⟩ := cells3 B5 w.heap.size _ _ _ _ (.tail _ (.tail _ (.tail _ (.head _))))
  go_wp2_with fail
  refine (HSS1 _ B5.bel).out.mono ?_
  rintro e w5 ⟨rfl, hh⟩
  have B6 := B5.keep hh
  clear hh B5 f0 f1 f2
  obtain ⟨f0, f1, f2, f3, f4⟩ := way_cells B6 w3.heap.size b m (.head _)
  go_wp2_with fail
  refine (wPlusZero b m _).mono ?_
  rintro e w6 ⟨rfl, h6⟩
  have B7 := B6.keep h6
  go_wp2
  go_ret3
  exact ⟨rfl, B7.bel⟩
theorem wQuo_good (b : Bool) (m : Int) (n1 : Bool) (a1 : Option Addr) (c1 k1 : Nat) (e1 : Int) (n2 : Bool) (a2 : Option Addr) (c2 k2 : Nat) (e2 : Int) (s1 s2 : Int) (nn : Bool) (T high W0 X0 : Int) (more : Bool) (w : World) (hs1 : (s1 == 0) = false) (hs2 : (s2 == 0) = false)
    (HW : ∀ g W, Below w.heap.size w W → At3 W g 0 n1 a1 k1 c1 e1 → At3 W g 3 n2 a2 k2 c2 e2 → Calls Tryz.prog 43 #[.int .u8 (fm b), .int .u8 m, .slice (some ⟨g, 0, none⟩) 2 2] W fun e w' => e = .returned (.tuple #[wyV b m, .int .i64 0]) ∧ Below W.heap.size W w')
    (HS2 : ∀ W, Below w.heap.size w W → Calls Tryz.prog 44 #[dV n2 a2 k2 c2 e2] W fun e w' => e = .returned (.int .i64 s2) ∧ Below W.heap.size W w')
    (HS1 : ∀ W, Below w.heap.size w W → Calls Tryz.prog 44 #[dV n1 a1 k1 c1 e1] W fun e w' => e = .returned (.int .i64 s1) ∧ Below W.heap.size W w')
    (HN : ∀ W, Below w.heap.size w W → Calls Tryz.prog 61 #[dV n1 a1 k1 c1 e1, dV n2 a2 k2 c2 e2] W fun e w' => e = .returned (snV nn T high more) ∧ Below W.heap.size W w')
    (HR : ∀ W, Below w.heap.size w W → Calls Tryz.prog 46 #[wyV b m, snV nn T high more] W fun e w' => e = .returned (.tuple #[.int .u64 W0, .int .u8 X0, .int .i64 0]) ∧ Below W.heap.size W w') :
    Calls Tryz.prog 22 #[.int .u8 (fm b), .int .u8 m, dV n1 a1 k1 c1 e1, dV n2 a2 k2 c2 e2] w fun e w' => e = .returned (.tuple #[.int .u64 W0, .int .u8 X0, .int .i64 0]) ∧ Below w.heap.size w w' := by
  have HSS2 := fun W hW => Hide.mk (HS2 W hW)
  have HSS1 := fun W hW => Hide.mk (HS1 W hW)
  have HNN := fun W hW => Hide.mk (HN W hW)
  have HRR := fun W hW => Hide.mk (HR W hW)
  clear HS2 HS1 HN HR
  have B3 := (((Bx.nil w).push (DO n1 a1 k1 c1 e1)).push (DO n2 a2 k2 c2 e2)).push (.cells #[.bool n1, .slice a1 k1 c1, .int .i64 e1, .bool n2, .slice a2 k2 c2, .int .i64 e2] 26 (0, 0))
  rw [show ((w.alloc (DO n1 a1 k1 c1 e1)).alloc (DO n2 a2 k2 c2 e2)).heap.size = w.heap.size + 1 + 1 by simp, show (w.alloc (DO n1 a1 k1 c1 e1)).heap.size = w.heap.size + 1 by simp] at B3
  have HH := Hide.mk (HW (w.heap.size + 1 + 1) _ B3.bel ⟨B3.cell _ _ _ (.head _) 0, B3.cell _ _ _ (.head _) 1, B3.cell _ _ _ (.head _) 2⟩ ⟨B3.cell _ _ _ (.head _) 3, B3.cell _ _ _ (.head _) 4, B3.cell _ _ _ (.head _) 5⟩)
  clear HW
  go_enter Tryz.func22, Tryz.ntmps22
  go_wp2_with fail
  refine HH.out.mono ?_
  rintro e w3 ⟨rfl, h3⟩
  have B4 := (B3.keep h3).push (wyO b m)
  clear h3 HH B3
  obtain ⟨⟨f0, f1, f2⟩, _⟩ := cells3 B4 (w.heap.size + 1) _ _ _ _ (.tail _ (.tail _ (.head _)))
  go_wp2_with fail
  refine (HSS2 _ B4.bel).out.mono ?_
  rintro e w4 ⟨rfl, hh⟩
  have B5 := B4.keep hh
  clear hh B4 f0 f1 f2
  obtain ⟨⟨f0, f1, f2⟩, _⟩ := cells3 B5 w.heap.size _ _ _ _ (.tail _ (.tail _ (.tail _ (.head _))))
  go_wp2_with fail
  refine (HSS1 _ B5.bel).out.mono ?_
  rintro e w5 ⟨rfl, hh⟩
  have B6 := B5.keep hh
  clear hh B5 f0 f1 f2
  go_wp2_with fail
  have HI := (B6.sub (L' := [(w3.heap.size, wyO b m), (w.heap.size + 1, DO n2 a2 k2 c2 e2), (w.heap.size, DO n1 a1 k1 c1 e1)]) (by simp)).drew
  have sh := fun W (hW : Bx w [(w3.heap.size, wyO b m), (w.heap.size + 1, DO n2 a2 k2 c2 e2), (w.heap.size, DO n1 a1 k1 c1 e1)] W) => And.intro (way_cells hW w3.heap.size b m (.head _)) (And.intro (cells3 hW (w.heap.size + 1) _ _ _ _ (.tail _ (.head _))).1 (cells3 hW w.heap.size _ _ _ _ (.tail _ (.tail _ (.head _)))).1)
  refine Drawn.enter (Bx w [(w3.heap.size, wyO b m), (w.heap.size + 1, DO n2 a2 k2 c2 e2), (w.heap.size, DO n1 a1 k1 c1 e1)]) (by kernel_rfl) ?_
  refine Drawn.tk (i := 0) (v := ?v362) rfl (fun W hW => ?_) HI ?_
  rotate_left
  · have ⟨⟨g0, g1, g2, g3, g4⟩, ⟨f0, f1, f2⟩, t0, t1, t2⟩ := sh W hW
    go_simp <;> exact rfl
  refine Drawn.tk (i := 1) (v := ?v363) rfl (fun W hW => ?_) HI ?_
  rotate_left
  · have ⟨⟨g0, g1, g2, g3, g4⟩, ⟨f0, f1, f2⟩, t0, t1, t2⟩ := sh W hW
    go_simp <;> exact rfl
  refine Drawn.tk (i := 2) (v := ?v364) rfl (fun W hW => ?_) HI ?_
  rotate_left
  · have ⟨⟨g0, g1, g2, g3, g4⟩, ⟨f0, f1, f2⟩, t0, t1, t2⟩ := sh W hW
    go_simp <;> exact rfl
  refine Drawn.one (j := 3) (by kernel_rfl) rfl (fun K hK => ?_)
  go_simp
  refine ((HNN _ HI.bel).out).mono ?_
  rintro e wn ⟨rfl, hn⟩
  refine hK _ _ (HI.keep hn) ?_
  clear hK K
  replace HI := HI.keep hn
  clear hn
  refine Drawn.one (j := 4) (by kernel_rfl) rfl (fun K hK => ?_)
  go_simp
  refine ((HRR _ HI.bel).out).mono ?_
  rintro e wn ⟨rfl, hn⟩
  refine hK _ _ (HI.keep hn) ?_
  clear hK K
  replace HI := HI.keep hn
  clear hn
  refine Drawn.tk (i := 5) (v := ?v365) rfl (fun W hW => ?_) HI ?_
  rotate_left
  · have ⟨⟨g0, g1, g2, g3, g4⟩, ⟨f0, f1, f2⟩, t0, t1, t2⟩ := sh W hW
    go_simp <;> exact rfl
  refine Drawn.tk (i := 6) (v := ?v366) rfl (fun W hW => ?_) HI ?_
  rotate_left
  · have ⟨⟨g0, g1, g2, g3, g4⟩, ⟨f0, f1, f2⟩, t0, t1, t2⟩ := sh W hW
    go_simp <;> exact rfl
  refine Drawn.tk (i := 7) (v := ?v367) rfl (fun W hW => ?_) HI ?_
  rotate_left
  · have ⟨⟨g0, g1, g2, g3, g4⟩, ⟨f0, f1, f2⟩, t0, t1, t2⟩ := sh W hW
    go_simp <;> exact rfl
  refine Drawn.tk (i := 8) (v := ?v368) rfl (fun W hW => ?_) HI ?_
  rotate_left
  · have ⟨⟨g0, g1, g2, g3, g4⟩, ⟨f0, f1, f2⟩, t0, t1, t2⟩ := sh W hW
    go_simp <;> exact rfl
  refine Drawn.tk (i := 9) (v := ?v369) rfl (fun W hW => ?_) HI ?_
  rotate_left
  · have ⟨⟨g0, g1, g2, g3, g4⟩, ⟨f0, f1, f2⟩, t0, t1, t2⟩ := sh W hW
    go_simp <;> exact rfl
  refine Drawn.tk (i := 10) (v := ?v370) rfl (fun W hW => ?_) HI ?_
  rotate_left
  · have ⟨⟨g0, g1, g2, g3, g4⟩, ⟨f0, f1, f2⟩, t0, t1, t2⟩ := sh W hW
    go_simp <;> exact rfl
  refine Drawn.done (by kernel_rfl) ?_
  try go_simp
  go_wp2
  go_ret3
  exact ⟨rfl, HI.bel⟩
end Go.Proofs.YtdnghibkagcbcaaGreatDoor

namespace Go.Proofs.YtdnghibkagcbcaaGreatDoor
open Go.RowKit Go.Wd Go.Box
set_option linter.unusedVariables false
set_option maxRecDepth 3000
theorem bl_of {s : Int} {N : Nat} (h1 : -(2 ^ N) < s) (h2 : s < 2 ^ N) : ∃ L, BitLen (s.natAbs : Int) L ∧ L ≤ N := by
  obtain ⟨L, hL⟩ := bitLen_ex (show 0 ≤ (s.natAbs : Int) by omega)
  exact ⟨L, hL, bl_le hL (by omega)⟩
structure Rm (s E : Int) (N : Nat) : Prop where
  lo : -(2 ^ N) < s
  hi : s < 2 ^ N
theorem addM (N : Nat) (n1 n2 : Bool) (a1 a2 : Option Addr) (c1 c2 : Nat) (z1 z2 : List Int) (e1 e2 : Int) (w : World) (l1 : Lie w a1 z1) (l2 : Lie w a2 z2) {s1 s2 E : Int} (F1 : Fm s1 E n1 z1 e1) (F2 : Fm s2 E n2 z2 e2) (r1 : Rm s1 E N) (r2 : Rm s2 E N) (hN : N ≤ 68000000) (hE : -60000000 ≤ E) (hE1 : E + N ≤ 60000000) :
    Calls Tryz.prog 69 #[dV n1 a1 z1.length c1 e1, dV n2 a2 z2.length c2 e2] w fun e w' => RF w w' (s1 + s2) E e := by
  obtain ⟨L1, h1, k1⟩ := bl_of r1.lo r1.hi
  obtain ⟨L2, h2, k2⟩ := bl_of r2.lo r2.hi
  exact addF n1 n2 a1 a2 c1 c2 z1 z2 e1 e2 w l1 l2 F1 F2 h1 h2 (by omega) (by omega) hE (by omega) (by omega)
theorem subM (N : Nat) (n1 n2 : Bool) (a1 a2 : Option Addr) (c1 c2 : Nat) (z1 z2 : List Int) (e1 e2 : Int) (w : World) (l1 : Lie w a1 z1) (l2 : Lie w a2 z2) {s1 s2 E : Int} (F1 : Fm s1 E n1 z1 e1) (F2 : Fm s2 E n2 z2 e2) (r1 : Rm s1 E N) (r2 : Rm s2 E N) (hN : N ≤ 68000000) (hE : -60000000 ≤ E) (hE1 : E + N ≤ 60000000) :
    Calls Tryz.prog 35 #[dV n1 a1 z1.length c1 e1, dV n2 a2 z2.length c2 e2] w fun e w' => RF w w' (s1 - s2) E e := by
  obtain ⟨L1, h1, k1⟩ := bl_of r1.lo r1.hi
  obtain ⟨L2, h2, k2⟩ := bl_of r2.lo r2.hi
  exact subG n1 n2 a1 a2 c1 c2 z1 z2 e1 e2 w l1 l2 F1 F2 h1 h2 (by omega) (by omega) hE (by omega) (by omega)
theorem cmpM (N : Nat) (n1 n2 : Bool) (a1 a2 : Option Addr) (c1 c2 : Nat) (z1 z2 : List Int) (e1 e2 : Int) (w : World) (l1 : Lie w a1 z1) (l2 : Lie w a2 z2) {s1 s2 E : Int} (F1 : Fm s1 E n1 z1 e1) (F2 : Fm s2 E n2 z2 e2) (p1 : 0 < s1) (p2 : 0 < s2) (r1 : Rm s1 E N) (r2 : Rm s2 E N) (hN : N ≤ 68000000) (hE : -60000000 ≤ E) (hE1 : E + N ≤ 60000000) :
    Calls Tryz.prog 38 #[dV n1 a1 z1.length c1 e1, dV n2 a2 z2.length c2 e2] w fun e w' => e = .returned (.int .i64 (sgn s1 s2)) ∧ Below w.heap.size w w' := by
  obtain ⟨L1, h1, k1⟩ := bl_of r1.lo r1.hi
  obtain ⟨L2, h2, k2⟩ := bl_of r2.lo r2.hi
  exact cmpFp n1 n2 a1 a2 c1 c2 z1 z2 e1 e2 w l1 l2 F1 F2 p1 p2 h1 h2 (by omega) (by omega) hE (by omega) (by omega)
theorem fm_len_x {s E : Int} {n : Bool} {z : List Int} {x : Int} (F : Fm s E n z x) {N : Nat} (r : Rm s E N) : z.length ≤ N + 1 ∧ (z.length ≠ 0 → E ≤ x ∧ x ≤ E + N) := by
  by_cases h : s = 0
  · subst h
    obtain ⟨rfl, rfl, rfl⟩ := F.zero
    exact ⟨by simp, fun q => absurd rfl q⟩
  · obtain ⟨L, hL, hN⟩ := bl_of r.lo r.hi
    obtain ⟨t, rfl, k, _, _, _, _, _, g⟩ := F.data h hL
    exact ⟨by omega, fun _ => ⟨by omega, by omega⟩⟩
theorem shiftM (N : Nat) (n : Bool) (a : Option Addr) (c : Nat) (z : List Int) (x cnt : Int) (w : World) {s E : Int} (F : Fm s E n z x) (r : Rm s E N) (hN : N ≤ 68000000) (hE : -60000000 ≤ E) (hE1 : E + N ≤ 60000000) (h1 : -40000000 ≤ cnt) (h2 : cnt ≤ 40000000) :
    Calls Tryz.prog 90 #[dV n a z.length c x, .int .i64 cnt] w fun e w' => ∃ x', e = .returned (dV n a z.length c x') ∧ Fm s (E + cnt) n z x' ∧ Below w.heap.size w w' := by
  by_cases hz : z.length = 0
  · obtain rfl := List.length_eq_zero_iff.1 hz
    have hx : s = 0 ∧ x = 0 := by
      rcases F with ⟨h, _, _, h2⟩ | ⟨h, t, ht, hn, rfl, hc, hv⟩
      · exact ⟨h, h2⟩
      · have a := odd_of_low ht
        rw [← hv, Nt.val_nil] at a
        omega
    obtain ⟨rfl, rfl⟩ := hx
    refine (shiftF n a c [] 0 cnt w F (by omega) (by omega)).mono ?_
    rintro e w' ⟨x', rfl, F', _, hb⟩
    exact ⟨x', rfl, F', hb⟩
  · have h := (fm_len_x F r).2 hz
    refine (shiftF n a c z x cnt w F (by omega) (by omega)).mono ?_
    rintro e w' ⟨x', rfl, F', _, hb⟩
    exact ⟨x', rfl, F', hb⟩
structure HalfAt (X U h : Int) (g : Bool) : Prop where
  up : 0 < U
  xp : 0 < X
  eq : ∃ r, 2 * X = h * U + r ∧ 0 ≤ r ∧ r < U ∧ g = decide (r ≠ 0)
def flr (n : Bool) (h : Int) (g : Bool) : Int := if n then (if plc h g = 0 then -(h / 2) else -(h / 2 + 1)) else h / 2
theorem HalfAt.between {X U h : Int} {g : Bool} (H : HalfAt X U h g) : 0 ≤ h / 2 ∧ h / 2 * U ≤ X ∧ X < (h / 2 + 1) * U ∧ (plc h g = 0 ↔ h / 2 * U = X) ∧ (plc h g = 1 → 2 * X < (2 * (h / 2) + 1) * U) ∧ (plc h g = 2 → 2 * X = (2 * (h / 2) + 1) * U) ∧ (plc h g = 3 → (2 * (h / 2) + 1) * U < 2 * X) := by
  obtain ⟨up, xp, r, e, r0, r1, hg⟩ := H
  have h0 : 0 ≤ h := by
    refine Classical.byContradiction fun c => ?_
    have : h * U ≤ -1 * U := Int.mul_le_mul_of_nonneg_right (by omega) (by omega)
    omega
  obtain ⟨q, hq⟩ : ∃ q, h / 2 = q := ⟨_, rfl⟩
  have hm : h = 2 * q ∨ h = 2 * q + 1 := by omega
  have e2 : 2 * q * U = 2 * (q * U) := by rw [Int.mul_assoc]
  rw [hq]
  refine ⟨by omega, ?_⟩
  rw [Int.add_mul, Int.one_mul, Int.add_mul, Int.one_mul, e2]
  rcases plc_cases h g with ⟨p, p1, p2⟩ | ⟨p, p1, p2⟩ | ⟨p, p1, p2⟩ | ⟨p, p1, p2⟩
  · have r9 : r = 0 := by rw [p2] at hg; simpa using hg.symm
    have : h = 2 * q := by omega
    rw [this, e2] at e
    rw [p]; omega
  · have r9 : r ≠ 0 := by rw [p2] at hg; simpa using hg.symm
    have : h = 2 * q := by omega
    rw [this, e2] at e
    rw [p]; omega
  · have r9 : r = 0 := by rw [p2] at hg; simpa using hg.symm
    have : h = 2 * q + 1 := by omega
    rw [this, Int.add_mul, Int.one_mul, e2] at e
    rw [p]; omega
  · have r9 : r ≠ 0 := by rw [p2] at hg; simpa using hg.symm
    have : h = 2 * q + 1 := by omega
    rw [this, Int.add_mul, Int.one_mul, e2] at e
    rw [p]; omega
theorem ediv_is {X U q : Int} (hU : 0 < U) (h1 : q * U ≤ X) (h2 : X < (q + 1) * U) : X / U = q := by
  have a := (Int.le_ediv_iff_mul_le hU).2 h1
  have b := Int.ediv_lt_of_lt_mul hU h2
  omega
theorem HalfAt.floor {X U h : Int} {g : Bool} (H : HalfAt X U h g) (n : Bool) : sv n X / U = flr n h g := by
  obtain ⟨b0, b1, b2, b3, _⟩ := H.between
  have up := H.up
  unfold flr
  cases n
  · rw [sv_f]
    simp only [Bool.false_eq_true, if_false]
    exact ediv_is up b1 b2
  · rw [sv_t]
    simp only [if_true]
    rw [Int.add_mul, Int.one_mul] at b2
    by_cases c : plc h g = 0
    · rw [if_pos c]
      have e := b3.1 c
      refine ediv_is up ?_ ?_
      · rw [Int.neg_mul]; omega
      · rw [Int.add_mul, Int.neg_mul]; omega
    · rw [if_neg c]
      have e : h / 2 * U ≠ X := fun q => c (b3.2 q)
      refine ediv_is up ?_ ?_
      · rw [Int.neg_mul, Int.add_mul]; omega
      · rw [show -(h / 2 + 1) + 1 = -(h / 2) by omega, Int.neg_mul]; omega
theorem HalfAt.flr_bd {X U h : Int} {g : Bool} (H : HalfAt X U h g) (n : Bool) :
    (plc h g = 0 ↔ flr n h g * U = sv n X) ∧ (plc h g ≠ 0 → flr n h g * U < sv n X ∧ sv n X < flr n h g * U + U) ∧
    (plc h g ≠ 0 → sgn (sv n X - flr n h g * U) (flr n h g * U + U - sv n X) = if plc h g = 2 then 0 else if (plc h g = 1) = (n = false) then -1 else 1) := by
  obtain ⟨b0, b1, b2, b3, b4, b5, b6⟩ := H.between
  have up := H.up
  rw [Int.add_mul, Int.one_mul] at b2
  rw [Int.add_mul, Int.one_mul, Int.mul_assoc] at b4 b5 b6
  unfold flr
  have pc := plc_cases h g
  cases n
  · rw [sv_f]
    simp only [Bool.false_eq_true, if_false]
    generalize h / 2 * U = Q at *
    refine ⟨b3, fun c => ?_, fun c => ?_⟩
    · have : Q ≠ X := fun q => c (b3.2 q)
      omega
    · rcases pc with ⟨p, _⟩ | ⟨p, _⟩ | ⟨p, _⟩ | ⟨p, _⟩
      · exact absurd p c
      · have := b4 p
        rw [p, sgn_is1 (by omega)]; simp
      · have := b5 p
        rw [p, sgn_is0 (by omega)]; simp
      · have := b6 p
        rw [p, sgn_is2 (by omega)]; simp
  · rw [sv_t]
    simp only [if_true]
    by_cases c : plc h g = 0
    · rw [if_pos c, Int.neg_mul]
      have := b3.1 c
      generalize h / 2 * U = Q at *
      exact ⟨⟨fun _ => by omega, fun _ => c⟩, fun k => absurd c k, fun k => absurd c k⟩
    · rw [if_neg c, Int.neg_mul, Int.add_mul, Int.one_mul]
      have hq : h / 2 * U ≠ X := fun q => c (b3.2 q)
      generalize h / 2 * U = Q at *
      refine ⟨⟨fun k => absurd k c, fun k => by omega⟩, fun _ => by omega, fun _ => ?_⟩
      rcases pc with ⟨p, _⟩ | ⟨p, _⟩ | ⟨p, _⟩ | ⟨p, _⟩
      · exact absurd p c
      · have := b4 p
        rw [p, sgn_is2 (by omega)]; simp
      · have := b5 p
        rw [p, sgn_is0 (by omega)]; simp
      · have := b6 p
        rw [p, sgn_is1 (by omega)]; simp
def isHigh (m : Int) (n : Bool) (h : Int) (g : Bool) : Bool :=
  if m = 5 then false else if m = 4 then true else if m = 3 then n else if plc h g = 2 then (if m = 2 then !n else decide (flr n h g % 2 ≠ 0)) else decide ((plc h g = 3) = (n = false))
theorem taken_is (m : Int) (n : Bool) (h : Int) (g : Bool) (hm : Mode m) (hp : plc h g ≠ 0) : sv n (tk m n h g) = flr n h g + (if isHigh m n h g then 1 else 0) := by
  have pc := plc_cases h g
  unfold tk flr isHigh outw flr
  rw [if_neg hp]
  rcases pc with ⟨p, _⟩ | ⟨p, _⟩ | ⟨p, _⟩ | ⟨p, _⟩
  · exact absurd p hp
  all_goals
    rw [p]
    rcases hm with rfl | rfl | rfl | rfl | rfl <;> cases n <;> simp [sv_t, sv_f] <;> (try omega)
  all_goals
    by_cases c : h / 2 % 2 = 1
    · rw [if_pos c]
      first | (rw [if_pos (by omega)]; omega) | (rw [if_neg (by omega)]; omega) | omega
    · rw [if_neg c]
      first | (rw [if_pos (by omega)]; omega) | (rw [if_neg (by omega)]; omega) | omega
end Go.Proofs.YtdnghibkagcbcaaGreatDoor

namespace Go.Proofs.YtdnghibkagcbcaaGreatDoor
open Go.RowKit Go.Wd Go.Box
set_option linter.unusedVariables false
set_option maxRecDepth 3000
theorem tkX (m : Int) (lf : Int) (n : Bool) (a : Option Addr) (c : Nat) (z : List Int) (ex e E : Int) (s lo hi : Int) (w : World) (l : Lie w a z) (he1 : -60000000 ≤ e) (he2 : e ≤ 60000000)
    (K1 : ∀ W, Calls Tryz.prog 90 #[dV n a z.length c ex, .int .i64 (-e)] W fun e' w' => e' = .returned (dV n a z.length c (ex + -e)) ∧ Below W.heap.size W w')
    (K2 : ∀ W, Lie W a z → Calls Tryz.prog 91 #[dV n a z.length c (ex + -e)] W fun e' w' => RF W w' lf 0 e')
    (K3 : ∀ n0 z0 x0 a0 c0 W, Fm lf 0 n0 z0 x0 → Calls Tryz.prog 90 #[dV n0 a0 (List.length z0) c0 x0, .int .i64 e] W fun e' w' => ∃ x', e' = .returned (dV n0 a0 z0.length c0 x') ∧ Fm lo E n0 z0 x' ∧ Below W.heap.size W w')
    (K4 : ∀ n0 z0 x0 a0 c0 W, Fm lo E n0 z0 x0 → Lie W a0 z0 → Lie W a z → Calls Tryz.prog 21 #[dV n0 a0 (List.length z0) c0 x0, dV n a z.length c ex] W fun e' w' => e' = .returned (.bool true) ∧ Below W.heap.size W w') :
    Calls Tryz.prog 57 #[.int .u8 m, dV n a z.length c ex, .int .i64 e] w fun e' w' => ∃ n' z' x' a' c', e' = .returned (dV n' a' (List.length z') c' x') ∧ (n' = n ∧ z' = z ∧ x' = ex) ∧ Lie w' a' z' ∧ Below w.heap.size w w' := by
  have H1 := fun W => Hide.mk (K1 W)
  have H2 := fun W l => Hide.mk (K2 W l)
  have H3 := fun n0 z0 x0 a0 c0 W f => Hide.mk (K3 n0 z0 x0 a0 c0 W f)
  have H4 := fun n0 z0 x0 a0 c0 W f l1 l2 => Hide.mk (K4 n0 z0 x0 a0 c0 W f l1 l2)
  clear K1 K2 K3 K4
  have B1 := ((Bx.nil w).push (DO n a z.length c ex)).push (DO false none 0 0 0)
  rw [show (w.alloc (DO n a z.length c ex)).heap.size = w.heap.size + 1 by simp] at B1
  obtain ⟨⟨s0, s1, s2⟩, _⟩ := cells3 B1 w.heap.size _ _ _ _ (.tail _ (.head _))
  go_enter Tryz.func57, Tryz.ntmps57
  go_wp2_with fail
  refine (H1 _).out.mono ?_
  rintro e' w2 ⟨rfl, h2⟩
  have B2 := B1.keep h2
  clear h2 B1 s0 s1 s2 H1
  go_wp2_with fail
  refine (H2 _ (l.below B2.bel (Nat.le_refl _))).out.mono ?_
  rintro e' w3 ⟨n0, z0, x00, a0, c0, rfl, f00, l00, h3⟩
  have B3 := B2.keep h3
  clear h3 B2 H2
  go_wp2_with fail
  refine (H3 n0 z0 x00 a0 c0 _ f00).out.mono ?_
  rintro e' w4 ⟨x0, rfl, f0, h4⟩
  have B4 := (B3.keep h4).push (DO n0 a0 z0.length c0 x0)
  have l0 := (l00.below h4 (Nat.le_refl _)).below (below_alloc w4 (DO n0 a0 z0.length c0 x0)) (Nat.le_refl _)
  have HF0 := Hide.mk f0
  have o7 : w.heap.size + 1 < w4.heap.size := (B3.keep h4).lt (p := (w.heap.size + 1, DO false none 0 0 0)) (by simp)
  clear h4 B3 H3 f00 l00 f0
  obtain ⟨⟨f0, f1, f2⟩, _⟩ := cells3 B4 w4.heap.size _ _ _ _ (.head _)
  obtain ⟨⟨s0, s1, s2⟩, _⟩ := cells3 B4 w.heap.size _ _ _ _ (.tail _ (.tail _ (.head _)))
  go_wp2_with fail
  refine (H4 n0 z0 x0 a0 c0 _ HF0.out l0 (l.below B4.bel (Nat.le_refl _))).out.mono ?_
  rintro e' w5 ⟨rfl, h5⟩
  have B5 := B4.keep h5
  replace l0 := l0.below h5 (Nat.le_refl _)
  clear h5 B4 H4 f0 f1 f2 s0 s1 s2
  generalize w4.heap.size = g7 at *
  obtain ⟨⟨s0, s1, s2⟩, _⟩ := cells3 B5 w.heap.size _ _ _ _ (.tail _ (.tail _ (.head _)))
  obtain ⟨⟨t0, t1, t2⟩, r0, r1, r2⟩ := cells3 B5 (w.heap.size + 1) _ _ _ _ (.tail _ (.head _))
  go_wp2
  have Bf := (B5.sub (L' := [(w.heap.size + 1, DO false none 0 0 0)]) (by simp)).fill3 (by omega) (by simp) (.bool n) (.slice a z.length c) (.int .i64 ex)
  refine bodyPost_ret (results_D1 rfl _ _ (w.heap.size + 1) _ rfl ⟨Bf.head, rfl⟩) rfl ?_
  exact ⟨n, z, ex, a, c, rfl, ⟨rfl, rfl, rfl⟩, lie_set3P (g := w.heap.size + 1) ((B5.sub (L' := [(w.heap.size + 1, DO false none 0 0 0)]) (by simp)).head) _ _ _ (l.below B5.bel (Nat.le_refl _)), Bf.bel⟩
end Go.Proofs.YtdnghibkagcbcaaGreatDoor

namespace Go.Proofs.YtdnghibkagcbcaaGreatDoor
open Go.RowKit Go.Wd Go.Box
set_option linter.unusedVariables false
set_option maxRecDepth 3000
theorem rFrac (b : Bool) (w : World) :
    Calls Tryz.prog 54 #[.int .u8 (fm b)] w fun e w' => e = .returned (.int .i64 (fc b)) ∧ Below w.heap.size w w' := by
  cases b
  · rw [show fm false = 1 from rfl]
    go_enter Tryz.func54, Tryz.ntmps54
    go_wp2
    go_ret
    exact ⟨rfl, Below.refl _ _⟩
  · rw [show fm true = 2 from rfl]
    go_enter Tryz.func54, Tryz.ntmps54
    go_wp2
    go_ret
    exact ⟨rfl, Below.refl _ _⟩
theorem rMost (b : Bool) (w : World) :
    Calls Tryz.prog 88 #[.int .u8 (fm b)] w fun e w' => e = .returned (.int .i64 (tp b)) ∧ Below w.heap.size w w' := by
  cases b
  · rw [show fm false = 1 from rfl]
    go_enter Tryz.func88, Tryz.ntmps88
    go_wp2
    go_ret
    exact ⟨rfl, Below.refl _ _⟩
  · rw [show fm true = 2 from rfl]
    go_enter Tryz.func88, Tryz.ntmps88
    go_wp2
    go_ret
    exact ⟨rfl, Below.refl _ _⟩
theorem rSign (b : Bool) (w : World) :
    Calls Tryz.prog 30 #[.int .u8 (fm b)] w fun e w' => e = .returned (.int .u64 (sg b)) ∧ Below w.heap.size w w' := by
  cases b
  · rw [show fm false = 1 from rfl]
    go_enter Tryz.func30, Tryz.ntmps30
    go_wp2
    go_ret
    exact ⟨rfl, Below.refl _ _⟩
  · rw [show fm true = 2 from rfl]
    go_enter Tryz.func30, Tryz.ntmps30
    go_wp2
    go_ret
    exact ⟨rfl, Below.refl _ _⟩
theorem rIs (b : Bool) (w : World) :
    Calls Tryz.prog 50 #[.int .u8 (fm b)] w fun e w' => e = .returned (.bool true) ∧ Below w.heap.size w w' := by
  cases b
  · rw [show fm false = 1 from rfl]
    go_enter Tryz.func50, Tryz.ntmps50
    go_wp2
    go_ret
    exact ⟨rfl, Below.refl _ _⟩
  · rw [show fm true = 2 from rfl]
    go_enter Tryz.func50, Tryz.ntmps50
    go_wp2
    go_ret
    exact ⟨rfl, Below.refl _ _⟩
theorem rIs_bad (f : Int) (h : Bad f) (w : World) :
    Calls Tryz.prog 50 #[.int .u8 f] w fun e w' => e = .returned (.bool false) ∧ Below w.heap.size w w' := by
  have h1 : (f == 1) = false := beq_eq_false_iff_ne.2 h.1
  have h2 : (f == 2) = false := beq_eq_false_iff_ne.2 h.2
  go_enter Tryz.func50, Tryz.ntmps50
  go_wp2
  go_ret
  exact ⟨rfl, Below.refl _ _⟩
theorem rJoin (b n : Bool) (E F : Int) (hE : 0 ≤ E) (hE1 : E ≤ tp b) (hF0 : 0 ≤ F) (hF : F < fr b) (w : World) :
    Calls Tryz.prog 87 #[.int .u8 (fm b), FV n E F] w fun e w' => e = .returned (.int .u64 (sd b (E * fr b + F) n)) ∧ Below w.heap.size w w' := by
  have B1 := (Bx.nil w).push (FO n E F)
  obtain ⟨k1, k2, k3, k4⟩ := fields_lt b hE hE1 hF0 hF
  have hsl := sg_le b
  go_enter Tryz.func87, Tryz.ntmps87
  go_wp2_with fail
  generalize hw1 : w.alloc (FO n E F) = w1 at *
  clear hw1
  have HI := B1.drew
  have sh := fun W (hW : Bx w [(w.heap.size, FO n E F)] W) => fields_cells hW w.heap.size n E F (.head _)
  refine Drawn.enter (Bx w [(w.heap.size, FO n E F)]) (by kernel_rfl) ?_
  refine Drawn.tk (i := 0) (v := ?v34) rfl (fun W hW => ?_) HI ?_
  rotate_left
  · have ⟨q0, q1, q2⟩ := sh W hW
    go_simp <;> exact rfl
  refine Drawn.tk (i := 1) (v := ?v35) rfl (fun W hW => ?_) HI ?_
  rotate_left
  · have ⟨q0, q1, q2⟩ := sh W hW
    go_simp <;> exact rfl
  refine Drawn.tk (i := 2) (v := .int .u64 E) rfl (fun W hW => ?_) HI ?_
  · have ⟨q0, q1, q2⟩ := sh W hW
    go_simp <;> (rw [IntKind.wrap_u64]; have := tp_bd b; omega)
  refine Drawn.tk (i := 3) (v := ?v36) rfl (fun W hW => ?_) HI ?_
  rotate_left
  · have ⟨q0, q1, q2⟩ := sh W hW
    go_simp <;> exact rfl
  refine Drawn.tk (i := 6) (v := ?v37) rfl (fun W hW => ?_) HI ?_
  rotate_left
  · have ⟨q0, q1, q2⟩ := sh W hW
    go_simp <;> exact rfl
  refine Drawn.tk (i := 7) (v := ?v38) rfl (fun W hW => ?_) HI ?_
  rotate_left
  · have ⟨q0, q1, q2⟩ := sh W hW
    go_simp <;> exact rfl
  refine Drawn.one (j := 4) (by kernel_rfl) rfl (fun K hK => ?_)
  go_simp
  refine (rFrac b _).mono ?_
  rintro e wn ⟨rfl, hn⟩
  refine hK _ _ (HI.keep hn) ?_
  clear hK K
  replace HI := HI.keep hn
  clear hn
  refine Drawn.tk (i := 5) (v := .int .u64 (E * fr b)) rfl (fun W hW => ?_) HI ?_
  · have ⟨q0, q1, q2⟩ := sh W hW
    go_simp <;> (rw [shl_fc, Int.emod_eq_of_lt k4 k3]; rfl)
  refine Drawn.tk (i := 8) (v := .int .u64 (E * fr b + F)) rfl (fun W hW => ?_) HI ?_
  · have ⟨q0, q1, q2⟩ := sh W hW
    go_simp <;> (rw [IntKind.wrap_u64]; omega)
  refine Drawn.tk (i := 9) (v := ?v39) rfl (fun W hW => ?_) HI ?_
  rotate_left
  · have ⟨q0, q1, q2⟩ := sh W hW
    go_simp <;> exact rfl
  refine Drawn.done (by kernel_rfl) ?_
  try go_simp
  obtain ⟨q0, q1, q2⟩ := sh _ HI
  clear sh
  cases n
  · go_wp2
    go_ret
    exact ⟨rfl, HI.bel⟩
  · go_wp2_with fail
    refine (rSign b _).mono ?_
    rintro e w3 ⟨rfl, h3⟩
    have B3 := HI.keep h3
    have hsum : E * fr b + F + sg b < 18446744073709551616 := by omega
    have hsg := sg_pos b
    clear h3 HI q0 q1 q2 hE hE1 hF0 hF
    go_wp2
    go_ret
    refine ⟨?_, B3.bel⟩
    unfold sd
    rw [if_pos rfl]
    first | rfl | (simp; done)
end Go.Proofs.YtdnghibkagcbcaaGreatDoor

namespace Go.Proofs.YtdnghibkagcbcaaGreatDoor
open Go.RowKit Go.Wd Go.Box
set_option linter.unusedVariables false
set_option maxRecDepth 3000
def wd (b : Bool) : Int := match b with | true => 1024 | false => 128
theorem rLow (b : Bool) (w : World) :
    Calls Tryz.prog 56 #[.int .u8 (fm b)] w fun e w' => e = .returned (.int .i64 (lo b)) ∧ Below w.heap.size w w' := by
  cases b
  · rw [show fm false = 1 from rfl]
    go_enter Tryz.func56, Tryz.ntmps56
    go_wp2
    go_ret
    exact ⟨rfl, Below.refl _ _⟩
  · rw [show fm true = 2 from rfl]
    go_enter Tryz.func56, Tryz.ntmps56
    go_wp2
    go_ret
    exact ⟨rfl, Below.refl _ _⟩
theorem rWide (b : Bool) (w : World) :
    Calls Tryz.prog 58 #[.int .u8 (fm b)] w fun e w' => e = .returned (.int .i64 (wd b)) ∧ Below w.heap.size w w' := by
  cases b
  · rw [show fm false = 1 from rfl]
    go_enter Tryz.func58, Tryz.ntmps58
    go_wp2
    go_ret
    exact ⟨rfl, Below.refl _ _⟩
  · rw [show fm true = 2 from rfl]
    go_enter Tryz.func58, Tryz.ntmps58
    go_wp2
    go_ret
    exact ⟨rfl, Below.refl _ _⟩
end Go.Proofs.YtdnghibkagcbcaaGreatDoor

namespace Go.Proofs.YtdnghibkagcbcaaGreatDoor
open Go.RowKit Go.Wd Go.Box
set_option linter.unusedVariables false
set_option maxRecDepth 3000
theorem rTwo (e : Int) (w : World) :
    Calls Tryz.prog 92 #[.int .i64 e] w fun e' w' => ∃ a c, e' = .returned (dV false a ([1] : List Int).length c e) ∧ Lie w' a [1] ∧ Below w.heap.size w w' := by
  go_enter Tryz.func92, Tryz.ntmps92
  go_wp2
  have B1 := ((Bx.nil w).push (DO false (some ⟨w.heap.size + 1, 0, none⟩) 1 1 e)).push (.cells #[.int .u32 1] 108 (0, 0))
  refine bodyPost_ret (results_D1 rfl _ _ w.heap.size _ rfl ⟨B1.tail.head, rfl⟩) rfl ?_
  refine ⟨some ⟨w.heap.size + 1, 0, none⟩, 1, rfl, ?_, B1.bel⟩
  have := lie_new (w.alloc (DO false (some ⟨w.heap.size + 1, 0, none⟩) 1 1 e)) [1]
  simpa using this
end Go.Proofs.YtdnghibkagcbcaaGreatDoor

namespace Go.Box
open Go
theorem Bx.swap {w W : World} {p q : Nat × Obj} {L : List (Nat × Obj)} (h : Bx w (p :: q :: L) W) : Bx w (q :: p :: L) W := h.sub (fun r hr => by
  rcases List.mem_cons.1 hr with rfl | hr
  · exact .tail _ (.head _)
  · rcases List.mem_cons.1 hr with rfl | hr
    · exact .head _
    · exact .tail _ (.tail _ hr))
end Go.Box
namespace Go.Proofs.YtdnghibkagcbcaaGreatDoor
open Go.RowKit Go.Wd Go.Box
set_option linter.unusedVariables false
set_option maxRecDepth 3000
theorem suppose9P {F G : Nat → World → Bool → List Int → Int → Option Addr → Nat → Option Addr → Nat → Prop} {T : Prop} (h : (∀ a b c d e f g i j, F a b c d e f g i j → G a b c d e f g i j) → T) (k : ∀ a b c d e f g i j, F a b c d e f g i j → G a b c d e f g i j) : T := h k
theorem suppose3P {F G : Nat → Nat → World → Prop} {T : Prop} (h : (∀ a b c, F a b c → G a b c) → T) (k : ∀ a b c, F a b c → G a b c) : T := h k
theorem lie_set3Q {W : World} {g : Nat} {a : Option Addr} {zs : List Int} {n' : Bool} {a' : Option Addr} {k' c' : Nat} {e' : Int} (hg : W.heap[g]? = some (DO n' a' k' c' e')) (v0 v1 v2 : Value) (l : Lie W a zs) :
    Lie (((W.setCell ⟨g, 0, none⟩ v0).setCell ⟨g, 1, none⟩ v1).setCell ⟨g, 2, none⟩ v2) a zs := by
  rcases l with h | ⟨b, o, h1, h2⟩
  · exact .inl h
  · refine .inr ⟨b, o, h1, fun i hi => ?_⟩
    have k := h2 i hi
    rw [set3_cell (fun c => by
      have c2 : b = g := c
      subst c2
      rw [cell_of_row W b (o + i) _ _ _ hg] at k
      generalize o + i = j at k
      match j with
      | 0 => simp at k
      | 1 => simp at k
      | 2 => simp at k
      | j + 3 => simp at k)]
    exact k
end Go.Proofs.YtdnghibkagcbcaaGreatDoor
