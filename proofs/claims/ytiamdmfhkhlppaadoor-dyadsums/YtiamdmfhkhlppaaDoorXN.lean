import Derived.Test.YtiamdmfhkhlppaaDoorXM
namespace Go.Proofs.YtiamdmfhkhlppaaDoor
open Go.RowKit Go.Wd Go.Box
set_option linter.unusedVariables false
set_option maxRecDepth 3000
/-- A form whose number fits is a number that may be. -/
theorem Fm.dn {s E : Int} {n : Bool} {zs : List Int} {ex : Int} {lo hi : Nat} (F : Fm s E n zs ex) (hE : -(KK : Int) ≤ E) (hb : DB lo hi (s * pK E)) (h1 : hi ≤ lo + 131072) (h2 : hi ≤ 2 * KK) : DN n zs ex (s * pK E) := by
  have hK := KK_int
  rcases F with ⟨rfl, rfl, rfl, rfl⟩ | ⟨hs, t, ht, rfl, rfl, hc, hv⟩
  · rw [Int.zero_mul]; exact ⟨zeroDG, zero_dv _ _⟩
  · have hp := pK_pos E
    have e0 : pK E = 2 ^ (E + KK).toNat := rfl
    have hs2 : s * pK E ≠ 0 := fun c => by rcases Int.mul_eq_zero.1 c with c | c <;> omega
    have ht2 : LowBit ((s * pK E).natAbs : Int) (t + (E + KK).toNat) := by rw [e0, natAbs_mul_pow]; exact ht.up _
    obtain ⟨k1, k2, k3⟩ := hb.low hs2 ht2
    have e1 : ((s * pK E).natAbs : Int) / 2 ^ (t + (E + KK).toNat) = (s.natAbs : Int) / 2 ^ t := by
      rw [e0, natAbs_mul_pow, Int.pow_add, Int.mul_ediv_mul_of_pos_left _ _ (p2pos _)]
    rw [e1] at k3
    have k4 : (s.natAbs : Int) / 2 ^ t < 4294967296 ^ 4096 := by
      have := p2mono (show hi - lo ≤ 131072 by omega)
      rw [pw32]; omega
    have hg : Good zs ((s.natAbs : Int) / 2 ^ t) := ⟨hc, (Nt.can_len hc 4096).1 (by rw [hv]; exact k4), hv⟩
    have hp2 : 0 < (s.natAbs : Int) / 2 ^ t := by
      have := ht.one
      have := Int.ediv_nonneg (show 0 ≤ (s.natAbs : Int) by omega) (Int.le_of_lt (p2pos t))
      omega
    refine ⟨⟨hc, hg.len, .inr ⟨hg.ne hp2, by rw [hv]; exact ht.one, by omega, by omega⟩⟩, ?_⟩
    have h9 := dv_back (k := 0) hs2 ht2 (by rw [e1]; exact hg) (by omega)
    have e3 : decide (s * pK E < 0) = decide (s < 0) := by
      by_cases c : s < 0
      · have : s * pK E < 0 := Int.mul_neg_of_neg_of_pos c hp
        simp [c, this]
      · have : ¬ s * pK E < 0 := by have := Int.mul_nonneg (show 0 ≤ s by omega) (Int.le_of_lt hp); omega
        simp [c, this]
    rw [e3, show -(KK : Int) - (0 : Nat) + ((t + (E + KK).toNat : Nat) : Int) = E + t by omega, Int.pow_zero, Int.mul_one] at h9
    exact h9
/-- Sub by way of its two calls. -/
theorem sub_via (n1 n2 n3 : Bool) (a1 a2 : Option Addr) (k1 k2 c1 c2 : Nat) (e1 e2 r : Int) (w : World)
    (HN : ∀ W, Calls Tryd.prog 29 #[dV n2 a2 k2 c2 e2] W fun e w' => e = .returned (dV n3 a2 k2 c2 e2) ∧ Below W.heap.size W w')
    (HA : ∀ W, Below w.heap.size w W → Calls Tryd.prog 42 #[dV n1 a1 k1 c1 e1, dV n3 a2 k2 c2 e2] W fun e w' => ∃ n zs ex a c, e = .returned (dV n a zs.length c ex) ∧ DN n zs ex r ∧ Lie w' a zs ∧ Below W.heap.size W w') :
    Calls Tryd.prog 43 #[dV n1 a1 k1 c1 e1, dV n2 a2 k2 c2 e2] w fun e w' => ∃ n zs ex a c, e = .returned (dV n a zs.length c ex) ∧ DN n zs ex r ∧ Lie w' a zs ∧ Below w.heap.size w w' := by
  have B1 := (((Bx.nil w).push (DO n1 a1 k1 c1 e1)).push (DO n2 a2 k2 c2 e2)).push (DO false none 0 0 0)
  go_enter Tryd.func43, Tryd.ntmps43
  go_wp2_with fail
  rw [show ((w.alloc (DO n1 a1 k1 c1 e1)).alloc (DO n2 a2 k2 c2 e2)).heap.size = w.heap.size + 1 + 1 by simp, show (w.alloc (DO n1 a1 k1 c1 e1)).heap.size = w.heap.size + 1 by simp] at B1
  generalize hw1 : ((w.alloc (DO n1 a1 k1 c1 e1)).alloc (DO n2 a2 k2 c2 e2)).alloc (DO false none 0 0 0) = w1 at *
  clear hw1
  have HF := B1.drew
  have HI := HF.sub (L' := [(w.heap.size + 1, DO n2 a2 k2 c2 e2), (w.heap.size, DO n1 a1 k1 c1 e1)]) (by simp)
  have sh := fun W (hW : Bx w [(w.heap.size + 1, DO n2 a2 k2 c2 e2), (w.heap.size, DO n1 a1 k1 c1 e1)] W) => And.intro (cells3 hW (w.heap.size + 1) _ _ _ _ (.head _)).1 (cells3 hW w.heap.size _ _ _ _ (.tail _ (.head _))).1
  refine Drawn.enter (Bx w [(w.heap.size + 1, DO n2 a2 k2 c2 e2), (w.heap.size, DO n1 a1 k1 c1 e1)]) (by kernel_rfl) ?_
  refine Drawn.take (i := 0) (v := ?v249) rfl (by kernel_rfl) (by kernel_rfl) (by kernel_rfl) (fun _ _ _ h => h) (by kernel_rfl) (fun W hW => ?_) HI ?_
  rotate_left
  · have ⟨⟨s0, s1, s2⟩, q0, q3, q4⟩ := sh W hW
    go_simp <;> exact rfl
  refine Drawn.take (i := 1) (v := ?v250) rfl (by kernel_rfl) (by kernel_rfl) (by kernel_rfl) (fun _ _ _ h => h) (by kernel_rfl) (fun W hW => ?_) HI ?_
  rotate_left
  · have ⟨⟨s0, s1, s2⟩, q0, q3, q4⟩ := sh W hW
    go_simp <;> exact rfl
  refine Drawn.one (j := 2) (by kernel_rfl) rfl (fun K hK => ?_)
  go_simp
  refine (HN _).mono ?_
  rintro e wn ⟨rfl, hn⟩
  refine hK _ _ (HI.keep hn) ?_
  clear hK K
  replace HI := HI.keep hn
  replace HF := HF.keep hn
  clear hn
  refine Drawn.one (j := 3) (by kernel_rfl) rfl (fun K hK => ?_)
  go_simp
  refine (HA _ HI.bel).mono ?_
  rintro e w6 ⟨n6, z6, x6, a6, c6, rfl, F6, l6, h6⟩
  refine hK _ _ (HI.keep h6) ?_
  clear hK K
  replace HI := HI.keep h6
  replace HF := HF.keep h6
  have H6 := Hide.mk (And.intro F6 l6)
  clear F6 l6 h6
  obtain ⟨⟨f0, f1, f2⟩, r0, r1, r2⟩ := cells3 HF (w.heap.size + 1 + 1) _ _ _ _ (.head _)
  have HF2 := HF.fill3 (by omega) (by simp; omega) (.bool n6) (.slice a6 z6.length c6) (.int .i64 x6)
  refine Drawn.one (j := 4) (by kernel_rfl) rfl (fun K hK => ?_)
  go_simp
  replace HI := HF2.sub (L' := [(w.heap.size + 1, DO n2 a2 k2 c2 e2), (w.heap.size, DO n1 a1 k1 c1 e1)]) (by simp)
  refine hK _ _ HI ?_
  clear hK K f0 f1 f2 r0 r1 r2
  refine Drawn.done (by kernel_rfl) ?_
  try go_simp
  go_wp2
  refine bodyPost_ret (results_D1 rfl _ _ (w.heap.size + 1 + 1) _ rfl ⟨HF2.head, rfl⟩) rfl ?_
  have L := Live.set3 (g := w.heap.size + 1 + 1) ⟨HF.head, rfl⟩ (.bool n6) (.slice a6 z6.length c6) (.int .i64 x6) (Live.one H6.out.2)
  exact ⟨n6, z6, x6, a6, c6, rfl, H6.out.1, L.all (a6, z6) (.head _), HF2.bel⟩
theorem sizes_val {n : Bool} {z : List Int} {e u m : Int} {k : Nat} (h : DN n z e u) (hm : -(KK : Int) ≤ m) (hk : e - m = (k : Int)) : sv n (Nt.val z * 2 ^ k) * pK m = u := by
  rw [← h.val]
  unfold dv
  rw [show e = m + (k : Int) by omega, pK_add hm]
  cases n
  · rw [sv_f, sv_f, Int.mul_assoc, Int.mul_comm (2 ^ k)]
  · rw [sv_t, sv_t, Int.neg_mul, Int.neg_mul, Int.mul_assoc, Int.mul_comm (2 ^ k)]
theorem DN.neg {n : Bool} {zs : List Int} {ex u : Int} (h : DN n zs ex u) (hz : 0 < zs.length) : DN (!n) zs ex (-u) := by
  have g := h.dg
  refine ⟨⟨g.can, g.len, .inr ⟨hz, g.odd hz, ?_, ?_⟩⟩, ?_⟩
  · exact g.ex_bd.1
  · exact g.ex_bd.2
  · rw [← h.val]; unfold dv; rw [sv_not, Int.neg_mul]
theorem DN.zero {n : Bool} {zs : List Int} {ex u : Int} (h : DN n zs ex u) (hz : zs.length ≤ 0) : zs = [] ∧ n = false ∧ ex = 0 ∧ u = 0 := by
  obtain ⟨rfl, rfl, rfl⟩ := h.dg.nil hz
  exact ⟨rfl, rfl, rfl, by rw [← h.val]; exact zero_dv _ _⟩
theorem ex_near {n : Bool} {z : List Int} {e u : Int} {lo hi : Nat} (h : DN n z e u) (d : DB lo hi u) (hz : 0 < z.length) : (lo : Int) ≤ e + KK ∧ e + KK < hi := by
  obtain ⟨hl, hu⟩ := h.low hz
  obtain ⟨k1, k2, _⟩ := d.low hu hl
  have := h.dg.ex_bd
  have := KK_int
  omega
/-- The reference's difference of two numbers that are not far from each other. -/
theorem subD (n1 n2 : Bool) (a1 a2 : Option Addr) (c1 c2 : Nat) (z1 z2 : List Int) (e1 e2 : Int) (w : World) {u v : Int} {lo hi : Nat} (l1 : Lie w a1 z1) (l2 : Lie w a2 z2) (N1 : DN n1 z1 e1 u) (N2 : DN n2 z2 e2 v) (d1 : DB lo hi u) (d2 : DB lo hi v) (h1 : hi + 1 ≤ lo + 131072) (h2 : hi + 1 ≤ 2 * KK) :
    Calls Tryd.prog 43 #[dV n1 a1 z1.length c1 e1, dV n2 a2 z2.length c2 e2] w fun e w' => ∃ n zs ex a c, e = .returned (dV n a zs.length c ex) ∧ DN n zs ex (u - v) ∧ Lie w' a zs ∧ Below w.heap.size w w' := by
  by_cases hz2 : 0 < z2.length
  · by_cases hz1 : 0 < z1.length
    · have g1 := N1.dg
      have g2 := N2.dg
      have x1 := g1.ex_bd
      have x2 := g2.ex_bd
      have y1 := ex_near N1 d1 hz1
      have y2 := ex_near N2 d2 hz2
      have hK := KK_int
      have k1 := g1.len
      have k2 := g2.len
      have b := d1.add d2.neg
      refine (subX n1 n2 a1 a2 c1 c2 z1 z2 e1 e2 w l1 l2 g1.can g2.can (by omega) (by omega) hz1 hz2 (by omega) (by omega) (by omega) (by omega) (e1 - min e1 e2).toNat (e2 - min e1 e2).toNat (by omega) (by omega) (by omega) (by omega)).mono ?_
      rintro e w' ⟨n, zs, ex, a, c, rfl, F, l, hb⟩
      have hm : -(KK : Int) ≤ min e1 e2 := by omega
      have e3 : (sv n1 (Nt.val z1 * 2 ^ (e1 - min e1 e2).toNat) + sv (!n2) (Nt.val z2 * 2 ^ (e2 - min e1 e2).toNat)) * pK (min e1 e2) = u + -v := by
        rw [sv_not, Int.add_mul, Int.neg_mul, sizes_val N1 hm (by omega), sizes_val N2 hm (by omega)]
      have R := F.dn hm (by rw [e3]; exact b) h1 h2
      rw [e3] at R
      exact ⟨n, zs, ex, a, c, rfl, R, l, hb⟩
    · obtain ⟨rfl, rfl, rfl, rfl⟩ := N1.zero (by omega)
      refine sub_via _ n2 (!n2) a1 a2 0 z2.length c1 c2 0 e2 (0 - v) w (rNegX n2 a2 c2 z2.length e2 hz2) (fun W hW => ?_)
      refine (addX_z1 a1 a2 c1 c2 z2.length false (!n2) 0 e2 W).mono ?_
      rintro e w' ⟨rfl, hb⟩
      exact ⟨!n2, z2, e2, a2, c2, rfl, by rw [Int.zero_sub]; exact N2.neg hz2, (l2.below hW (Nat.le_refl _)).below hb (Nat.le_refl _), hb⟩
  · obtain ⟨rfl, rfl, rfl, rfl⟩ := N2.zero (by omega)
    refine sub_via n1 false false a1 a2 z1.length 0 c1 c2 e1 0 (u - 0) w (rNegZ a2 c2 0 false) (fun W hW => ?_)
    rw [Int.sub_zero]
    by_cases hz1 : 0 < z1.length
    · refine (addX_z2 a1 a2 c1 c2 z1.length n1 false e1 0 hz1 W).mono ?_
      rintro e w' ⟨rfl, hb⟩
      exact ⟨n1, z1, e1, a1, c1, rfl, N1, (l1.below hW (Nat.le_refl _)).below hb (Nat.le_refl _), hb⟩
    · obtain ⟨rfl, rfl, rfl, rfl⟩ := N1.zero (by omega)
      refine (addX_z1 a1 a2 c1 c2 0 false false 0 0 W).mono ?_
      rintro e w' ⟨rfl, hb⟩
      exact ⟨false, [], 0, a2, c2, rfl, N2, (l2.below hW (Nat.le_refl _)).below hb (Nat.le_refl _), hb⟩
end Go.Proofs.YtiamdmfhkhlppaaDoor
