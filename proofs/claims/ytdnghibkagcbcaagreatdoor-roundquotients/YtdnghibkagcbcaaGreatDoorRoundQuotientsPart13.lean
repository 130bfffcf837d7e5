import Derived.Test.YtdnghibkagcbcaaGreatDoorRoundQuotientsPart12
import Derived.Test.YtdnghibkagcbcaaGreatDoorRoundQuotientsPart11
set_option maxHeartbeats 2000000
namespace Go.Proofs.YtdnghibkagcbcaaGreatDoor
open Go.RowKit Go.Wd Go.Box
set_option linter.unusedVariables false
set_option maxRecDepth 3000
theorem sv_mulP (n : Bool) (x y : Int) : sv n x * y = sv n (x * y) := by cases n <;> simp only [sv_t, sv_f, Int.neg_mul]
theorem sv_natAbs {s : Int} {n : Bool} (h : n = decide (s < 0)) : sv n (s.natAbs : Int) = s := by
  subst h
  by_cases c : s < 0
  · rw [decide_eq_true c, sv_t]; omega
  · rw [decide_eq_false c, sv_f]; omega
theorem Fm.data {s E : Int} {n : Bool} {z : List Int} {x : Int} (F : Fm s E n z x) (h0 : s ≠ 0) {L : Nat} (hL : BitLen (s.natAbs : Int) L) :
    ∃ t : Nat, x = E + t ∧ t < L ∧ Nt.Can z ∧ 0 < z.length ∧ n = decide (s < 0) ∧ sv n (Nt.val z * 2 ^ t) = s ∧ BitLen (Nt.val z) (L - t) ∧ 32 * z.length ≤ L - t + 31 := by
  rcases F with ⟨rfl, _⟩ | ⟨_, t, ht, hn, rfl, hc, hv⟩
  · exact absurd rfl h0
  · have hs : 0 < (s.natAbs : Int) := by omega
    have ht2 := low_bits3 hL ht hs
    have hd := hL.down t
    rw [← hv] at hd
    have ho := odd_of_low ht
    rw [← hv] at ho
    have hz : 0 < z.length := by
      cases z with
      | nil => rw [Nt.val_nil] at ho; omega
      | cons d q => simp
    have hg := can_ge hc hz
    rw [show (4294967296 : Int) = 2 ^ 32 from rfl, ← Int.pow_mul] at hg
    have hb := bl_ge hd hg
    exact ⟨t, rfl, ht2, hc, hz, hn, by rw [← ho]; exact sv_natAbs hn, hd, by omega⟩
theorem Fm.zero {E : Int} {n : Bool} {z : List Int} {x : Int} (F : Fm 0 E n z x) : n = false ∧ z = [] ∧ x = 0 := by
  rcases F with ⟨_, a, b, c⟩ | ⟨h, _⟩
  · exact ⟨a, b, c⟩
  · exact absurd rfl h
theorem Fm.unscale {s E : Int} {k : Nat} {n : Bool} {z : List Int} {x : Int} (F : Fm (s * 2 ^ k) E n z x) : Fm s (E + k) n z x := by
  have hp := p2pos k
  rcases F with ⟨h, a, b, c⟩ | ⟨h, t, ht, hn, rfl, hc, hv⟩
  · refine .inl ⟨?_, a, b, c⟩
    rcases Int.mul_eq_zero.1 h with h | h
    · exact h
    · omega
  · have h0 : s ≠ 0 := fun c => h (by rw [c, Int.zero_mul])
    obtain ⟨u, hu⟩ := low_ex (show 0 < (s.natAbs : Int) by omega)
    rw [natAbs_mul_pow] at ht hv
    obtain rfl := ht.unique (hu.up k)
    refine .inr ⟨h0, u, hu, ?_, by omega, hc, ?_⟩
    · rw [hn]
      by_cases c : s < 0
      · have : s * 2 ^ k < 0 := Int.mul_neg_of_neg_of_pos c hp
        rw [decide_eq_true c, decide_eq_true this]
      · have : ¬ s * 2 ^ k < 0 := by have := Int.mul_nonneg (show 0 ≤ s by omega) (Int.le_of_lt hp); omega
        rw [decide_eq_false c, decide_eq_false this]
    · rw [hv, Int.pow_add, Int.mul_ediv_mul_of_pos_left _ _ hp]
theorem Fm.inj {s1 s2 E : Int} {n : Bool} {z : List Int} {x : Int} (F : Fm s1 E n z x) (G : Fm s2 E n z x) : s1 = s2 := by
  rcases F with ⟨rfl, rfl, rfl, rfl⟩ | ⟨h, t, ht, hn, hx, hc, hv⟩ <;> rcases G with ⟨rfl, k1, k2, k3⟩ | ⟨k, u, hu, kn, kx, kc, kv⟩
  · rfl
  · have := odd_of_low hu
    rw [← kv, Nt.val_nil] at this
    omega
  · subst k2
    have := odd_of_low ht
    rw [← hv, Nt.val_nil] at this
    omega
  · obtain rfl : t = u := by omega
    have a := odd_of_low ht
    have b := odd_of_low hu
    rw [← hv] at a
    rw [← kv] at b
    have c := sv_natAbs hn
    have d := sv_natAbs kn
    rw [← c, ← d, a, b]
theorem Fm.neg {s E : Int} {n : Bool} {z : List Int} {x : Int} (F : Fm s E n z x) : Fm (-s) E (rn n z) z x := by
  rcases F with ⟨rfl, rfl, rfl, rfl⟩ | ⟨h, t, ht, hn, rfl, hc, hv⟩
  · exact .inl ⟨rfl, rfl, rfl, rfl⟩
  · have hz : z.length ≠ 0 := fun c => by
      have a := odd_of_low ht
      rw [← hv, List.length_eq_zero_iff.1 c, Nt.val_nil] at a
      omega
    refine .inr ⟨by omega, t, by rw [Int.natAbs_neg]; exact ht, ?_, rfl, hc, by rw [Int.natAbs_neg]; exact hv⟩
    unfold rn
    rw [if_neg hz, hn]
    by_cases c : s < 0
    · rw [decide_eq_true c, decide_eq_false (show ¬ -s < 0 by omega)]; rfl
    · rw [decide_eq_false c, decide_eq_true (show -s < 0 by omega)]; rfl
theorem addF (n1 n2 : Bool) (a1 a2 : Option Addr) (c1 c2 : Nat) (z1 z2 : List Int) (e1 e2 : Int) (w : World) (l1 : Lie w a1 z1) (l2 : Lie w a2 z2) {s1 s2 E : Int} (F1 : Fm s1 E n1 z1 e1) (F2 : Fm s2 E n2 z2 e2) {L1 L2 : Nat} (hL1 : BitLen (s1.natAbs : Int) L1) (hL2 : BitLen (s2.natAbs : Int) L2) (b1 : L1 ≤ 68000000) (b2 : L2 ≤ 68000000) (hE : -60000000 ≤ E) (hE1 : E + L1 ≤ 60000000) (hE2 : E + L2 ≤ 60000000) :
    Calls Tryz.prog 69 #[dV n1 a1 z1.length c1 e1, dV n2 a2 z2.length c2 e2] w fun e w' => RF w w' (s1 + s2) E e := by
  by_cases h1 : s1 = 0
  · subst h1
    obtain ⟨rfl, rfl, rfl⟩ := F1.zero
    refine (addX_z1 a1 a2 c1 c2 z2.length false n2 0 e2 w).mono ?_
    rintro e w' ⟨rfl, hb⟩
    exact ⟨n2, z2, e2, a2, c2, rfl, by rw [Int.zero_add]; exact F2, l2.below hb (Nat.le_refl _), hb⟩
  · obtain ⟨t1, rfl, k1, q1, hz1, m1, v1, d1, g1⟩ := F1.data h1 hL1
    by_cases h2 : s2 = 0
    · subst h2
      obtain ⟨rfl, rfl, rfl⟩ := F2.zero
      refine (addX_z2 a1 a2 c1 c2 z1.length n1 false (E + t1) 0 hz1 w).mono ?_
      rintro e w' ⟨rfl, hb⟩
      exact ⟨n1, z1, _, a1, c1, rfl, by rw [Int.add_zero]; exact F1, l1.below hb (Nat.le_refl _), hb⟩
    · obtain ⟨t2, rfl, k2, q2, hz2, m2, v2, d2, g2⟩ := F2.data h2 hL2
      refine (addXL n1 n2 a1 a2 c1 c2 z1 z2 (E + t1) (E + t2) w l1 l2 q1 q2 hz1 hz2 (by omega) (by omega) (by omega) (by omega) (t1 - min t1 t2) (t2 - min t1 t2) (by omega) (by omega) (by omega) (by omega)).mono ?_
      rintro e w' ⟨n, zs, ex, a, c, rfl, F, l, hb⟩
      rw [show min (E + (t1 : Int)) (E + t2) = E + (min t1 t2 : Nat) by omega] at F
      have R := F.scale
      rw [Int.add_mul, sv_mulP, sv_mulP, Int.mul_assoc, ← Int.pow_add, show t1 - min t1 t2 + min t1 t2 = t1 by omega, v1, Int.mul_assoc, ← Int.pow_add, show t2 - min t1 t2 + min t1 t2 = t2 by omega, v2] at R
      exact ⟨n, zs, ex, a, c, rfl, R, l, hb⟩
theorem subG (n1 n2 : Bool) (a1 a2 : Option Addr) (c1 c2 : Nat) (z1 z2 : List Int) (e1 e2 : Int) (w : World) (l1 : Lie w a1 z1) (l2 : Lie w a2 z2) {s1 s2 E : Int} (F1 : Fm s1 E n1 z1 e1) (F2 : Fm s2 E n2 z2 e2) {L1 L2 : Nat} (hL1 : BitLen (s1.natAbs : Int) L1) (hL2 : BitLen (s2.natAbs : Int) L2) (b1 : L1 ≤ 68000000) (b2 : L2 ≤ 68000000) (hE : -60000000 ≤ E) (hE1 : E + L1 ≤ 60000000) (hE2 : E + L2 ≤ 60000000) :
    Calls Tryz.prog 35 #[dV n1 a1 z1.length c1 e1, dV n2 a2 z2.length c2 e2] w fun e w' => RF w w' (s1 - s2) E e := by
  refine sub_viaP (Fm (s1 - s2) E) n1 n2 (rn n2 z2) a1 a2 z1.length z2.length c1 c2 e1 e2 w (rNegD n2 a2 c2 z2 e2) (fun W hW => ?_)
  rw [Int.sub_eq_add_neg]
  exact addF n1 (rn n2 z2) a1 a2 c1 c2 z1 z2 e1 e2 W (l1.below hW (Nat.le_refl _)) (l2.below hW (Nat.le_refl _)) F1 F2.neg hL1 (by rw [Int.natAbs_neg]; exact hL2) b1 b2 hE hE1 hE2
theorem rTopX (n : Bool) (a : Option Addr) (c : Nat) (zs : List Int) (ex : Int) (w : World) (hl : Lie w a zs) (qa : Nt.Can zs) (hz : 0 < zs.length) (hm : zs.length ≤ 3000000) (h1 : -60000000 ≤ ex) (h2 : ex ≤ 60000000) {B : Nat} (hB : BitLen (Nt.val zs) B) :
    Calls Tryz.prog 55 #[dV n a zs.length c ex] w fun e w' => e = .returned (.int .i64 (ex + B)) ∧ Below w.heap.size w w' := by
  have B1 := (Bx.nil w).push (DO n a zs.length c ex)
  have hne : ((zs.length : Int) == 0) = false := beq_eq_false_iff_ne.2 (by omega)
  have hp : 0 < Nt.val zs := by
    have := can_ge qa hz
    have := Nt.pw_pos (zs.length - 1)
    omega
  have HL : ∀ W, Below w.heap.size w W → Hide (Calls Tryz.prog 89 #[.slice a zs.length c] W fun e w' => (e = .returned (.int .i64 B) ∧ Below W.heap.size W w')) := fun W hW => ⟨by
    refine (refLen45 a c zs W (hl.below hW (Nat.le_refl _)) qa hz hm).mono ?_
    rintro e w' ⟨rfl, BL, rfl, hb, _, _⟩
    have e : BL = B := BitLen.unique (.inr ⟨hp, hb⟩) hB
    subst e
    exact ⟨rfl, Below.refl _ _⟩⟩
  have hB2 : (B : Int) ≤ 96000000 := by
    have h9 : Nt.val zs < 4294967296 ^ zs.length := (Nt.can_len qa zs.length).2 (Nat.le_refl _)
    rw [show (4294967296 : Int) = 2 ^ 32 from rfl, ← Int.pow_mul] at h9
    have := bl_le hB h9
    omega
  clear hB qa hp hl
  obtain ⟨⟨f0, f1, f2⟩, _⟩ := cells3 B1 w.heap.size _ _ _ _ (.head _)
  go_enter Tryz.func55, Tryz.ntmps55
  go_wp2_with fail
  generalize hw1 : w.alloc (DO n a zs.length c ex) = w1 at *
  clear hw1
  have HI := B1.drew
  have sh := fun W (hW : Bx w [(w.heap.size, DO n a zs.length c ex)] W) => (cells3 hW w.heap.size _ _ _ _ (.head _)).1
  refine Drawn.enter (Bx w [(w.heap.size, DO n a zs.length c ex)]) (by kernel_rfl) ?_
  refine Drawn.tk (i := 0) (v := ?v403) rfl (fun W hW => ?_) HI ?_
  rotate_left
  · have ⟨q0, q3, q4⟩ := sh W hW
    go_simp <;> exact rfl
  refine Drawn.tk (i := 1) (v := ?v404) rfl (fun W hW => ?_) HI ?_
  rotate_left
  · have ⟨q0, q3, q4⟩ := sh W hW
    go_simp <;> exact rfl
  refine Drawn.tk (i := 2) (v := ?v405) rfl (fun W hW => ?_) HI ?_
  rotate_left
  · have ⟨q0, q3, q4⟩ := sh W hW
    go_simp <;> exact rfl
  refine Drawn.tk (i := 3) (v := ?v406) rfl (fun W hW => ?_) HI ?_
  rotate_left
  · have ⟨q0, q3, q4⟩ := sh W hW
    go_simp <;> exact rfl
  refine Drawn.one (j := 4) (by kernel_rfl) rfl (fun K hK => ?_)
  go_simp
  refine ((HL _ HI.bel).out).mono ?_
  rintro e wn ⟨rfl, hn⟩
  refine hK _ _ (HI.keep hn) ?_
  clear hK K
  replace HI := HI.keep hn
  clear hn
  refine Drawn.tk (i := 5) (v := .int .i64 (ex + (B : Int))) rfl (fun W hW => ?_) HI ?_
  · have ⟨q0, q3, q4⟩ := sh W hW
    go_simp <;> (exact wrap_ok (by omega) (by omega))
  refine Drawn.tk (i := 6) (v := ?v407) rfl (fun W hW => ?_) HI ?_
  rotate_left
  · have ⟨q0, q3, q4⟩ := sh W hW
    go_simp <;> exact rfl
  refine Drawn.done (by kernel_rfl) ?_
  try go_simp
  go_wp2
  go_ret
  exact ⟨rfl, HI.bel⟩
theorem rTopF (n : Bool) (a : Option Addr) (c : Nat) (z : List Int) (x : Int) (w : World) (l : Lie w a z) {s E : Int} (F : Fm s E n z x) (h0 : s ≠ 0) {L : Nat} (hL : BitLen (s.natAbs : Int) L) (b : L ≤ 68000000) (hE : -60000000 ≤ E) (hE2 : E + L ≤ 60000000) :
    Calls Tryz.prog 55 #[dV n a z.length c x] w fun e w' => e = .returned (.int .i64 (E + L)) ∧ Below w.heap.size w w' := by
  obtain ⟨t, rfl, k, q, hz, m, v, d, g⟩ := F.data h0 hL
  have := rTopX n a c z (E + t) w l q hz (by omega) (by omega) (by omega) d
  rw [show E + (t : Int) + ((L - t : Nat) : Int) = E + L by omega] at this
  exact this
theorem sgn_of {s : Int} (h : 0 < s) {E : Int} {n : Bool} {z : List Int} {x : Int} (F : Fm s E n z x) : SgnOf n z.length 1 := by
  have := fm_sgn F
  rw [sgn_is2 h] at this
  exact this
theorem cmpFp (n1 n2 : Bool) (a1 a2 : Option Addr) (c1 c2 : Nat) (z1 z2 : List Int) (e1 e2 : Int) (w : World) (l1 : Lie w a1 z1) (l2 : Lie w a2 z2) {s1 s2 E : Int} (F1 : Fm s1 E n1 z1 e1) (F2 : Fm s2 E n2 z2 e2) (p1 : 0 < s1) (p2 : 0 < s2) {L1 L2 : Nat} (hL1 : BitLen (s1.natAbs : Int) L1) (hL2 : BitLen (s2.natAbs : Int) L2) (b1 : L1 ≤ 68000000) (b2 : L2 ≤ 68000000) (hE : -60000000 ≤ E) (hE1 : E + L1 ≤ 60000000) (hE2 : E + L2 ≤ 60000000) :
    Calls Tryz.prog 38 #[dV n1 a1 z1.length c1 e1, dV n2 a2 z2.length c2 e2] w fun e w' => e = .returned (.int .i64 (sgn s1 s2)) ∧ Below w.heap.size w w' := by
  have h1 := sgn_of p1 F1
  have h2 := sgn_of p2 F2
  have T1 := fun W (hW : Below w.heap.size w W) => rTopF n1 a1 c1 z1 e1 W (l1.below hW (Nat.le_refl _)) F1 (by omega) hL1 b1 hE hE1
  have T2 := fun W (hW : Below w.heap.size w W) => rTopF n2 a2 c2 z2 e2 W (l2.below hW (Nat.le_refl _)) F2 (by omega) hL2 b2 hE hE2
  have a1' : (s1.natAbs : Int) = s1 := by omega
  have a2' : (s2.natAbs : Int) = s2 := by omega
  have key : ∀ {x y : Int} {L M : Nat}, 0 < x → 0 < y → BitLen x L → BitLen y M → L < M → x < y := by
    intro x y L M hx hy bx bY hlt
    rcases bx with ⟨h, _⟩ | ⟨_, bx⟩
    · omega
    · rcases bY with ⟨h, _⟩ | ⟨_, bY⟩
      · omega
      · have u := bx.lt
        have v := bY.le
        have m := p2le (show L + 1 ≤ M by omega)
        rw [Int.pow_succ] at m
        omega
  rcases Nat.lt_trichotomy L1 L2 with h | h | h
  · rw [sgn_is1 (key p1 p2 (by rw [← a1']; exact hL1) (by rw [← a2']; exact hL2) h)]
    exact cmpF_pl n1 n2 a1 a2 c1 c2 z1.length z2.length e1 e2 (E + L1) (E + L2) w h1 h2 (by omega) (by omega) (by omega) (by omega) (by omega) T1 T2
  · refine cmpF_eq n1 n2 a1 a2 c1 c2 z1.length z2.length e1 e2 (E + L1) (E + L2) w h1 h2 (by omega) (by omega) (by omega) (by omega) (by omega) (sgn s1 s2) T1 T2 (fun W hW => ?_)
    refine (subG n1 n2 a1 a2 c1 c2 z1 z2 e1 e2 W (l1.below hW (Nat.le_refl _)) (l2.below hW (Nat.le_refl _)) F1 F2 hL1 hL2 b1 b2 hE hE1 hE2).mono ?_
    rintro e w' ⟨n, zs, ex, a, c, rfl, F, l, hb⟩
    have hs := fm_sgn F
    rw [Int.sub_eq_add_neg, sgn_diff] at hs
    exact ⟨n, zs.length, ex, a, c, rfl, hs, hb⟩
  · rw [sgn_is2 (key p2 p1 (by rw [← a2']; exact hL2) (by rw [← a1']; exact hL1) h)]
    exact cmpF_pg n1 n2 a1 a2 c1 c2 z1.length z2.length e1 e2 (E + L1) (E + L2) w h1 h2 (by omega) (by omega) (by omega) (by omega) (by omega) T1 T2
theorem Fm.can {s E : Int} {n : Bool} {z : List Int} {x : Int} (F : Fm s E n z x) : Nt.Can z := by
  rcases F with ⟨_, _, rfl, _⟩ | ⟨_, _, _, _, _, hc, _⟩
  · exact Nt.can_nil
  · exact hc
theorem sameF (n1 n2 : Bool) (a1 a2 : Option Addr) (c1 c2 : Nat) (z1 z2 : List Int) (e1 e2 : Int) (w : World) (l1 : Lie w a1 z1) (l2 : Lie w a2 z2) {s1 s2 E : Int} (F1 : Fm s1 E n1 z1 e1) (F2 : Fm s2 E n2 z2 e2) (m1 : z1.length ≤ 3000000) (m2 : z2.length ≤ 3000000) (q : Bool) (hq : decide (s1 = s2) = q) :
    Calls Tryz.prog 21 #[dV n1 a1 z1.length c1 e1, dV n2 a2 z2.length c2 e2] w fun e w' => e = .returned (.bool q) ∧ Below w.heap.size w w' := by
  refine dsame40 n1 n2 a1 a2 c1 c2 z1 z2 e1 e2 w ⟨l1, by unfold maxLen; omega, F1.can.1⟩ ⟨l2, by unfold maxLen; omega, F2.can.1⟩ q ?_
  rw [← hq]
  by_cases c : s1 = s2
  · subst c
    obtain ⟨rfl, rfl, rfl⟩ := F1.same F2
    rw [decide_eq_true rfl, decide_eq_true ⟨rfl, rfl, rfl⟩]
  · rw [decide_eq_false c]
    refine decide_eq_false ?_
    rintro ⟨rfl, rfl, rfl⟩
    exact c (F1.inj F2)
theorem shiftF (n : Bool) (a : Option Addr) (c : Nat) (z : List Int) (x cnt : Int) (w : World) {s E : Int} (F : Fm s E n z x) (h1 : -100000000 ≤ x + cnt) (h2 : x + cnt ≤ 100000000) :
    Calls Tryz.prog 90 #[dV n a z.length c x, .int .i64 cnt] w fun e w' => ∃ x', e = .returned (dV n a z.length c x') ∧ Fm s (E + cnt) n z x' ∧ (z.length ≠ 0 → x' = x + cnt) ∧ Below w.heap.size w w' := by
  by_cases hz : z.length = 0
  · obtain rfl := List.length_eq_zero_iff.1 hz
    refine (rShiftZ n a c x cnt w).mono ?_
    rintro e w' ⟨rfl, hb⟩
    refine ⟨x, rfl, ?_, fun q => absurd rfl q, hb⟩
    rcases F with ⟨rfl, rfl, _, rfl⟩ | ⟨h, t, ht, hn, rfl, hc, hv⟩
    · exact .inl ⟨rfl, rfl, rfl, rfl⟩
    · have a := odd_of_low ht
      rw [← hv, Nt.val_nil] at a
      omega
  · refine (rShiftX n a c z.length x cnt (by omega) h1 h2 w).mono ?_
    rintro e w' ⟨rfl, hb⟩
    refine ⟨x + cnt, rfl, ?_, fun _ => rfl, hb⟩
    rcases F with ⟨rfl, rfl, rfl, rfl⟩ | ⟨h, t, ht, hn, rfl, hc, hv⟩
    · simp at hz
    · exact .inr ⟨h, t, ht, hn, by omega, hc, hv⟩
theorem rFloorP2 (a : Option Addr) (c : Nat) (zs : List Int) (ex : Int) (w : World) (hl : Lie w a zs) (g : Good zs (Nt.val zs)) (k : Nat) (hk : -ex = (k : Int)) (hk1 : 1 ≤ k) (hx : ex < 0) (hx1 : -60000000 ≤ ex) (hq : decide (Nt.val zs % 2 ^ k ≠ 0) = true) :
    Calls Tryz.prog 91 #[dV false a zs.length c ex] w fun e w' => RF w w' (sv false (Nt.val zs / 2 ^ k)) 0 e := by
  have B1 := ((Bx.nil w).push (DO false a zs.length c ex)).push (DO false none 0 0 0)
  rw [show (w.alloc (DO false a zs.length c ex)).heap.size = w.heap.size + 1 by simp] at B1
  have HD := Hide.mk (refDownAny a c zs _ (hl.below B1.bel (Nat.le_refl _)) g (-ex) k hk (by omega) true hq)
  clear hq hk hl
  go_enter Tryz.func91, Tryz.ntmps91
  go_wp2_with fail
  refine HD.out.mono ?_
  rintro e w3 ⟨z3, a3, c3, rfl, h3⟩
  have B3 := B1.keep h3.bel
  have hlt : w.heap.size + 1 < w3.heap.size := B3.lt (.head _)
  have HF := Hide.mk (formX false a3 c3 z3 0 w3 h3.lie h3.can (by have := h3.len; omega) (by decide) (by decide))
  have hv := h3.val
  clear h3 B1 HD
  obtain ⟨⟨s0, s1, s2⟩, _⟩ := cells3 B3 w.heap.size _ _ _ _ (.tail _ (.head _))
  go_wp2_with fail
  refine HF.out.mono ?_
  rintro e w4 ⟨n4, z4, x4, a4, c4, rfl, F4, l4, h4⟩
  have B4 := B3.keep h4
  rw [hv] at F4
  have H := Hide.mk (And.intro F4 l4)
  clear HF h4 s0 s1 s2 F4 l4
  obtain ⟨⟨t0, t1, t2⟩, u0, u1, u2⟩ := cells3 B4 (w.heap.size + 1) _ _ _ _ (.head _)
  go_wp2
  refine bodyPost_ret (results_D1 rfl _ _ (w.heap.size + 1) _ rfl ⟨(B4.fill3 (by omega) (by simp) _ _ _).head, rfl⟩) rfl ?_
  have L := Live.set3 (g := w.heap.size + 1) ⟨B4.head, rfl⟩ (.bool n4) (.slice a4 z4.length c4) (.int .i64 x4) (Live.one H.out.2)
  exact ⟨n4, z4, x4, a4, c4, rfl, H.out.1, L.all (a4, z4) (.head _), (B4.fill3 (by omega) (by simp) _ _ _).bel⟩
theorem rFloorN2 (a : Option Addr) (c : Nat) (zs : List Int) (ex : Int) (w : World) (hl : Lie w a zs) (g : Good zs (Nt.val zs)) (k : Nat) (hk : -ex = (k : Int)) (hk1 : 1 ≤ k) (hx : ex < 0) (hx1 : -60000000 ≤ ex) (hq : decide (Nt.val zs % 2 ^ k ≠ 0) = true) :
    Calls Tryz.prog 91 #[dV true a zs.length c ex] w fun e w' => RF w w' (sv true (Nt.val zs / 2 ^ k + 1)) 0 e := by
  have B1 := ((Bx.nil w).push (DO true a zs.length c ex)).push (DO false none 0 0 0)
  rw [show (w.alloc (DO true a zs.length c ex)).heap.size = w.heap.size + 1 by simp] at B1
  have HD := Hide.mk (refDownAny a c zs _ (hl.below B1.bel (Nat.le_refl _)) g (-ex) k hk (by omega) true hq)
  clear hq hk hl
  go_enter Tryz.func91, Tryz.ntmps91
  go_wp2_with fail
  refine HD.out.mono ?_
  rintro e w3 ⟨z3, a3, c3, rfl, h3⟩
  have B3 := B1.keep h3.bel
  have hv := h3.val
  have hc3 := h3.can
  have hl3 := h3.len
  have ba := below_alloc w3 (.cells #[.int .u32 1] 108 (0, 0))
  have HA := Hide.mk (refAdd23 a3 (some ⟨w3.heap.size, 0, none⟩) c3 1 z3 [1] _ (h3.lie.below ba (Nat.le_refl _)) (by have := lie_new w3 [1]; simpa using this) hc3.1 (can_cons (by decide) (by decide) Nt.can_nil (by intro _; decide)).1 (by omega) (by simp))
  clear h3 B1 HD
  obtain ⟨⟨s0, s1, s2⟩, _⟩ := cells3 B3 w.heap.size _ _ _ _ (.tail _ (.head _))
  go_wp2_with fail
  refine HA.out.mono ?_
  rintro e w5 ⟨z5, a5, c5, rfl, h5, h6, h7, h8⟩
  have B5 := B3.keep (below_then ba h8)
  have hlt : w.heap.size + 1 < w5.heap.size := B5.lt (.head _)
  obtain ⟨a6, c6, he, _, _, l5⟩ := h5.lie
  simp only [Value.slice.injEq, true_and] at he
  obtain ⟨rfl, rfl⟩ := he
  rw [hv, val_one] at h7
  have hlen : z5.length ≤ 10000 := by
    have : z5.length ≤ 4097 := (Nt.can_len h6 4097).1 (by
      have e1 := (Nt.can_len hc3 4096).2 hl3
      rw [hv] at e1
      rw [h7, Nt.pw_succ 4096]
      have := Nt.pw_pos 4096
      omega)
    omega
  have HF := Hide.mk (formX true a5 c5 z5 0 w5 l5 h6 hlen (by decide) (by decide))
  clear h5 h8 HA s0 s1 s2 B3 ba l5
  obtain ⟨⟨s0, s1, s2⟩, _⟩ := cells3 B5 w.heap.size _ _ _ _ (.tail _ (.head _))
  go_wp2_with fail
  refine HF.out.mono ?_
  rintro e w4 ⟨n4, z4, x4, a4, c4, rfl, F4, l4, h4⟩
  have B4 := B5.keep h4
  rw [h7] at F4
  have H := Hide.mk (And.intro F4 l4)
  clear HF h4 s0 s1 s2 F4 l4
  obtain ⟨⟨t0, t1, t2⟩, u0, u1, u2⟩ := cells3 B4 (w.heap.size + 1) _ _ _ _ (.head _)
  go_wp2
  refine bodyPost_ret (results_D1 rfl _ _ (w.heap.size + 1) _ rfl ⟨(B4.fill3 (by omega) (by simp) _ _ _).head, rfl⟩) rfl ?_
  have L := Live.set3 (g := w.heap.size + 1) ⟨B4.head, rfl⟩ (.bool n4) (.slice a4 z4.length c4) (.int .i64 x4) (Live.one H.out.2)
  exact ⟨n4, z4, x4, a4, c4, rfl, H.out.1, L.all (a4, z4) (.head _), (B4.fill3 (by omega) (by simp) _ _ _).bel⟩
theorem floorW (n : Bool) (a : Option Addr) (c : Nat) (z : List Int) (x : Int) (w : World) (l : Lie w a z) (hc : Nt.Can z) (hlen : z.length ≤ 4096) (hx1 : -60000000 ≤ x) {s : Int} {k : Nat} (F : Fm s (-(k : Int)) n z x) :
    Calls Tryz.prog 91 #[dV n a z.length c x] w fun e w' => RF w w' (s / 2 ^ k) 0 e := by
  have gd : Good z (Nt.val z) := ⟨hc, hlen, rfl⟩
  by_cases h0 : 0 ≤ x
  · have B1 := ((Bx.nil w).push (DO n a z.length c x)).push (DO n a z.length c x)
    have F2 : Fm (s / 2 ^ k) 0 n z x := by
      by_cases h : s = 0
      · subst h
        obtain ⟨rfl, rfl, rfl⟩ := F.zero
        exact .inl ⟨by simp, rfl, rfl, rfl⟩
      · obtain ⟨L, hL⟩ := bitLen_ex (show 0 ≤ (s.natAbs : Int) by omega)
        obtain ⟨t, hx, _, _, _, _, v, _, _⟩ := F.data h hL
        obtain ⟨j, rfl⟩ : ∃ j : Nat, t = j + k := ⟨t - k, by omega⟩
        have e : s = s / 2 ^ k * 2 ^ k := by
          have e1 : s = sv n (Nt.val z * 2 ^ j) * 2 ^ k := by rw [sv_mulP, Int.mul_assoc, ← Int.pow_add, v]
          rw [e1, Int.mul_ediv_cancel _ (by have := p2pos k; omega)]
        rw [e] at F
        have := F.unscale
        rw [show -(k : Int) + (k : Nat) = 0 by omega] at this
        exact this
    have H2 := Hide.mk F2
    clear F F2 gd
    go_enter Tryz.func91, Tryz.ntmps91
    go_wp2
    refine bodyPost_ret (results_D1 rfl _ _ (w.heap.size + 1) _ rfl ⟨by simpa using B1.head, rfl⟩) rfl ?_
    exact ⟨n, z, x, a, c, rfl, H2.out, l.below B1.bel (Nat.le_refl _), B1.bel⟩
  · have hs : s ≠ 0 := fun h => by
      subst h
      obtain ⟨_, _, rfl⟩ := F.zero
      omega
    obtain ⟨L, hL⟩ := bitLen_ex (show 0 ≤ (s.natAbs : Int) by omega)
    have F' := F
    obtain ⟨t, hx, _, _, hz, hn, v, _, _⟩ := F.data hs hL
    have hodd : Nt.val z % 2 = 1 := by
      rcases F' with ⟨h, _⟩ | ⟨_, t', ht', _, hx', _, hv'⟩
      · exact absurd h hs
      · rw [hv']; exact ht'.one
    obtain ⟨j, hj⟩ : ∃ j : Nat, -x = (j : Int) := ⟨(-x).toNat, by omega⟩
    have hkt : k = j + t := by omega
    have hq : decide (Nt.val z % 2 ^ j ≠ 0) = true := by rw [← low_lost (odd_low hodd)]; exact decide_eq_true (by omega)
    have hne : Nt.val z % 2 ^ j ≠ 0 := of_decide_eq_true hq
    have e1 : s / 2 ^ k = sv n (Nt.val z) / 2 ^ j := by
      rw [← v, ← sv_mulP, hkt, Int.pow_add, Int.mul_ediv_mul_of_pos_left _ _ (p2pos t)]
    rw [e1]
    have pj := p2pos j
    cases n
    · rw [sv_f]
      have := rFloorP2 a c z x w l gd j hj (by omega) (by omega) hx1 hq
      rw [sv_f] at this
      exact this
    · have e2 : sv true (Nt.val z) / 2 ^ j = sv true (Nt.val z / 2 ^ j + 1) := by
        rw [sv_t, sv_t]
        have d1 := Int.mul_ediv_add_emod (Nt.val z) (2 ^ j)
        have d2 := Int.emod_nonneg (Nt.val z) (show (2 : Int) ^ j ≠ 0 by omega)
        have d3 := Int.emod_lt_of_pos (Nt.val z) pj
        generalize Nt.val z / 2 ^ j = q at *
        generalize Nt.val z % 2 ^ j = r at *
        have a1 : -(q + 1) * 2 ^ j ≤ -Nt.val z := by rw [← d1, Int.neg_mul, Int.add_mul, Int.one_mul, Int.mul_comm]; omega
        have a2 : -Nt.val z < (-(q + 1) + 1) * 2 ^ j := by rw [← d1, show -(q + 1) + 1 = -q by omega, Int.neg_mul, Int.mul_comm q]; omega
        have b1 := (Int.le_ediv_iff_mul_le pj).2 a1
        have b2 := Int.ediv_lt_of_lt_mul pj a2
        omega
      rw [e2]
      exact rFloorN2 a c z x w l gd j hj (by omega) (by omega) hx1 hq
theorem floorF (n : Bool) (a : Option Addr) (c : Nat) (z : List Int) (x : Int) (w : World) (l : Lie w a z) (g : DG n z x) {s : Int} {k : Nat} (F : Fm s (-(k : Int)) n z x) (hk : k ≤ 16777216) :
    Calls Tryz.prog 91 #[dV n a z.length c x] w fun e w' => RF w w' (s / 2 ^ k) 0 e := by
  have hK := KK_int
  have hv : dv n z x = s * 2 ^ (KK - k) := by
    by_cases h : s = 0
    · subst h
      obtain ⟨rfl, rfl, rfl⟩ := F.zero
      rw [Int.zero_mul]; exact zero_dv _ _
    · obtain ⟨L, hL⟩ := bitLen_ex (show 0 ≤ (s.natAbs : Int) by omega)
      obtain ⟨t, rfl, _, _, _, _, v, _, _⟩ := F.data h hL
      have := g.ex_bd
      unfold dv pK
      rw [← v, ← sv_mulP, Int.mul_assoc, ← Int.pow_add]
      congr 2
      omega
  refine (rFloorD n a c z x w l g).mono ?_
  rintro e w' ⟨n', z', x', a', c', rfl, F', l', hb⟩
  rw [hv] at F'
  have e1 : (2 : Int) ^ KK = 2 ^ k * 2 ^ (KK - k) := by rw [← Int.pow_add]; congr 1; omega
  have e2 : s * 2 ^ (KK - k) / 2 ^ KK = s / 2 ^ k := by rw [e1, Int.mul_ediv_mul_of_pos_left _ _ (p2pos _)]
  rw [e2] at F'
  have R := F'.unscale
  rw [show -(KK : Int) + (KK : Nat) = 0 by omega] at R
  exact ⟨n', z', x', a', c', rfl, R, l', hb⟩
end Go.Proofs.YtdnghibkagcbcaaGreatDoor

namespace Go.Proofs.YtdnghibkagcbcaaGreatDoor
open Go.RowKit Go.Wd Go.Box
set_option linter.unusedVariables false
set_option maxRecDepth 3000
theorem len64B (x : Int) (w : World) (h0 : 0 ≤ x) (h1 : x < 18446744073709551616) (B : Nat) (hB : BitLen x B) :
    Calls Tryz.prog 77 #[.int .u64 x] w fun e w' => e = .returned (.int .i64 B) ∧ Below w.heap.size w w' := by
  refine (len64 x w h0 h1 hB).mono ?_
  rintro e w' ⟨rfl, rfl⟩
  exact ⟨rfl, Below.refl _ _⟩
theorem wTiny_walk (b : Bool) (m : Int) (n : Bool) (T high : Int) (more : Bool) (u : Int) (z : Bool) (L : Nat) (q : Bool) (w : World) (hT1 : -50000000 ≤ T) (hT2 : T ≤ 50000000) (h0 : 0 ≤ u) (h1 : u < 18446744073709551616) (hL : BitLen u L) (hL2 : L ≤ 64)
    (HT : ∀ W, Calls Tryz.prog 76 #[wyV b m, snV n T high more, .int .i64 (T - (pr b : Nat))] W fun e w' => e = .returned (.tuple #[.int .u64 u, .bool z]) ∧ Below W.heap.size W w')
    (hq : decide ((L : Int) + (T - (pr b : Nat)) < lo b + (pr b : Nat)) = q) :
    Calls Tryz.prog 78 #[wyV b m, snV n T high more] w fun e w' => e = .returned (.bool q) ∧ Below w.heap.size w w' := by
  have B1 := ((Bx.nil w).push (wyO b m)).push (snO n T high more)
  rw [show (w.alloc (wyO b m)).heap.size = w.heap.size + 1 by simp] at B1
  obtain ⟨e0, e1, e2, e3⟩ := seen_cells B1 (w.heap.size + 1) n T high more (.head _)
  obtain ⟨f0, f1, f2, f3, f4⟩ := way_cells B1 w.heap.size b m (.tail _ (.head _))
  have hpb := pr_bd b
  have hlo := lo_bd b
  have hp1 : 24 ≤ ((pr b : Nat) : Int) := by omega
  have hp2 : ((pr b : Nat) : Int) ≤ 53 := by omega
  have HTT := Hide.mk HT
  have HL := fun W => Hide.mk (len64B u W h0 h1 L hL)
  have HQ := Hide.mk hq
  clear HT hL hq
  go_enter Tryz.func78, Tryz.ntmps78
  go_wp2_with fail
  refine (HTT.out _).mono ?_
  rintro e w2 ⟨rfl, h2⟩
  have B2 := B1.keep h2
  clear h2 e0 e1 e2 e3 f0 f1 f2 f3 f4 HTT
  go_wp2_with fail
  have HI := B2.drew
  have sh := fun W (hW : Bx w [(w.heap.size + 1, snO n T high more), (w.heap.size, wyO b m)] W) => way_cells hW w.heap.size b m (.tail _ (.head _))
  refine Drawn.enter (Bx w [(w.heap.size + 1, snO n T high more), (w.heap.size, wyO b m)]) (by kernel_rfl) ?_
  refine Drawn.tk (i := 0) (v := ?v314) rfl (fun W hW => ?_) HI ?_
  rotate_left
  · have ⟨f0, f1, f2, f3, f4⟩ := sh W hW
    go_simp <;> exact rfl
  refine Drawn.tk (i := 2) (v := ?v315) rfl (fun W hW => ?_) HI ?_
  rotate_left
  · have ⟨f0, f1, f2, f3, f4⟩ := sh W hW
    go_simp <;> exact rfl
  refine Drawn.tk (i := 4) (v := ?v316) rfl (fun W hW => ?_) HI ?_
  rotate_left
  · have ⟨f0, f1, f2, f3, f4⟩ := sh W hW
    go_simp <;> exact rfl
  refine Drawn.tk (i := 5) (v := ?v317) rfl (fun W hW => ?_) HI ?_
  rotate_left
  · have ⟨f0, f1, f2, f3, f4⟩ := sh W hW
    go_simp <;> exact rfl
  refine Drawn.tk (i := 6) (v := ?v318) rfl (fun W hW => ?_) HI ?_
  rotate_left
  · have ⟨f0, f1, f2, f3, f4⟩ := sh W hW
    go_simp <;> exact rfl
  refine Drawn.tk (i := 7) (v := ?v319) rfl (fun W hW => ?_) HI ?_
  rotate_left
  · have ⟨f0, f1, f2, f3, f4⟩ := sh W hW
    go_simp <;> exact rfl
  refine Drawn.tk (i := 8) (v := .int .i64 (lo b + (pr b : Nat))) rfl (fun W hW => ?_) HI ?_
  · have ⟨f0, f1, f2, f3, f4⟩ := sh W hW
    go_simp <;> (exact wrap_ok (by omega) (by omega))
  refine Drawn.one (j := 1) (by kernel_rfl) rfl (fun K hK => ?_)
  go_simp
  refine ((HL _).out).mono ?_
  rintro e wn ⟨rfl, hn⟩
  refine hK _ _ (HI.keep hn) ?_
  clear hK K
  replace HI := HI.keep hn
  clear hn
  refine Drawn.tk (i := 3) (v := .int .i64 ((L : Int) + (T - (pr b : Nat)))) rfl (fun W hW => ?_) HI ?_
  · have ⟨f0, f1, f2, f3, f4⟩ := sh W hW
    go_simp <;> (exact wrap_ok (by omega) (by omega))
  refine Drawn.tk (i := 9) (v := .bool q) rfl (fun W hW => ?_) HI ?_
  · have ⟨f0, f1, f2, f3, f4⟩ := sh W hW
    go_simp <;> (exact HQ.out)
  refine Drawn.tk (i := 10) (v := ?v320) rfl (fun W hW => ?_) HI ?_
  rotate_left
  · have ⟨f0, f1, f2, f3, f4⟩ := sh W hW
    go_simp <;> exact rfl
  refine Drawn.done (by kernel_rfl) ?_
  try go_simp
  go_wp2
  go_ret
  exact ⟨rfl, HI.bel⟩
theorem wTiny (b : Bool) (m : Int) (n : Bool) (T high : Int) (more : Bool) (w : World) (hm : Mode m) (hT1 : -50000000 ≤ T) (hT2 : T ≤ 50000000) (h0 : 9223372036854775808 ≤ high) (h1 : high < 18446744073709551616) :
    Calls Tryz.prog 78 #[wyV b m, snV n T high more] w fun e w' => e = .returned (.bool (decide (tk m n (high / 2 ^ (63 - pr b)) (gx high (63 - pr b) more) < 2 ^ (lo b + pr b - 1 - (T - pr b)).toNat))) ∧ Below w.heap.size w w' := by
  have hp := pr_bd b
  have hS : BitLen high 64 := .inr ⟨by omega, ⟨by omega, by omega⟩⟩
  have hlo := lo_bd b
  have hh : 2 ^ pr b ≤ high / 2 ^ (63 - pr b) ∧ high / 2 ^ (63 - pr b) < 2 ^ (pr b + 1) := by
    rcases hS.down (63 - pr b) with ⟨_, h⟩ | ⟨_, h⟩
    · omega
    · have a := h.le
      have c := h.lt
      rw [show 64 - (63 - pr b) = pr b + 1 by omega] at a c
      rw [Int.pow_succ] at a
      exact ⟨by omega, c⟩
  have t := tk_bd m n (high / 2 ^ (63 - pr b)) (gx high (63 - pr b) more)
  have l1 := halfu_lt hh.2
  have l2 := hh.1
  rw [show pr b = pr b - 1 + 1 by omega] at l2
  have l3 := halfu_ge l2
  rw [show pr b - 1 + 1 = pr b by omega] at l3
  have p0 := p2pos (pr b - 1)
  have p1 := p2le hp.2
  have HT : ∀ W, Calls Tryz.prog 76 #[wyV b m, snV n T high more, .int .i64 (T - (pr b : Nat))] W fun e w' => e = .returned (.tuple #[.int .u64 (tk m n (high / 2 ^ (63 - pr b)) (gx high (63 - pr b) more)), .bool (plc (high / 2 ^ (63 - pr b)) (gx high (63 - pr b) more) == 0)]) ∧ Below W.heap.size W w' :=
    fun W => wTaken b m n T high more (T - (pr b : Nat)) (63 - pr b) W hm (by omega) (by omega) (by omega) (by omega) (by omega) (by omega) h1
  generalize tk m n (high / 2 ^ (63 - pr b)) (gx high (63 - pr b) more) = u at *
  have hu0 : 0 < u := by omega
  have hu1 : u < 2 ^ 54 := by omega
  obtain ⟨L, hL⟩ := bitLen_ex (show 0 ≤ u by omega)
  have hL2 := bl_le hL hu1
  refine wTiny_walk b m n T high more u _ L _ w hT1 hT2 (by omega) (by omega) hL (by omega) HT ?_
  have k := bl_lt_iff hL (lo b + pr b - 1 - (T - pr b)) (.inr hu0)
  by_cases c : u < 2 ^ (lo b + pr b - 1 - (T - pr b)).toNat
  · rw [decide_eq_true c]
    exact decide_eq_true (by omega)
  · rw [decide_eq_false c]
    exact decide_eq_false (by omega)
theorem wRounded_walk (b : Bool) (m : Int) (n : Bool) (T high : Int) (more : Bool) (unit u W OV : Int) (z q : Bool) (L : Nat) (w : World) (hT : Tab w) (hT1 : -50000000 ≤ T) (hT2 : T ≤ 50000000) (hun : ulp b T = unit) (h0 : 0 ≤ u) (h1 : u < 18446744073709551616) (hL : BitLen u L) (hL2 : L ≤ 64)
    (HT : ∀ W, Calls Tryz.prog 76 #[wyV b m, snV n T high more, .int .i64 unit] W fun e w' => e = .returned (.tuple #[.int .u64 u, .bool z]) ∧ Below W.heap.size W w')
    (HQ : ∀ W, Calls Tryz.prog 78 #[wyV b m, snV n T high more] W fun e w' => e = .returned (.bool q) ∧ Below W.heap.size W w')
    (HO : ∀ W, Calls Tryz.prog 49 #[wyV b m, .bool n] W fun e w' => e = .returned (.int .u64 OV) ∧ Below W.heap.size W w')
    (HW : ¬ hi b < (L : Int) + unit → ∀ V, Tab V → Calls Tryz.prog 79 #[wyV b m, .bool n, .int .u64 u, .int .i64 unit] V fun e w' => e = .returned (.int .u64 W) ∧ Below V.heap.size V w')
    (R F : Int) (hR : R = if hi b < (L : Int) + unit then OV else W) (hF : F = if hi b < (L : Int) + unit then 20 else if z then 0 else if q then 24 else 16) :
    Calls Tryz.prog 46 #[wyV b m, snV n T high more] w fun e w' => e = .returned (.tuple #[.int .u64 R, .int .u8 F, .int .i64 0]) ∧ Below w.heap.size w w' := by
  have B1 := ((Bx.nil w).push (wyO b m)).push (snO n T high more)
  rw [show (w.alloc (wyO b m)).heap.size = w.heap.size + 1 by simp] at B1
  obtain ⟨e0, e1, e2, e3⟩ := seen_cells B1 (w.heap.size + 1) n T high more (.head _)
  obtain ⟨f0, f1, f2, f3, f4⟩ := way_cells B1 w.heap.size b m (.tail _ (.head _))
  have hpb := pr_bd b
  have hlo := lo_bd b
  have hp1 : 24 ≤ ((pr b : Nat) : Int) := by omega
  have hp2 : ((pr b : Nat) : Int) ≤ 53 := by omega
  have hub := ulp_ge b T
  have hu1 : -60000000 ≤ unit := by omega
  have hu2 : unit ≤ 60000000 := by omega
  have HTT := Hide.mk HT
  have HL := fun W => Hide.mk (len64B u W h0 h1 L hL)
  have HQQ := Hide.mk HQ
  have HOO := Hide.mk HO
  have HWW := Hide.mk HW
  have HU : Hide (max (T - (pr b : Nat)) (lo b) = unit) := ⟨by unfold ulp at hun; exact hun⟩
  have HR := Hide.mk hR
  have HF := Hide.mk hF
  clear HT HQ HO HW hL hun hR hF hub
  go_enter Tryz.func46, Tryz.ntmps46
  go_wp2_with fail
  try rw [HU.out]
  refine (HTT.out _).mono ?_
  rintro e w2 ⟨rfl, h2⟩
  have B2 := B1.keep h2
  clear h2 e0 e1 e2 e3 f0 f1 f2 f3 f4 HTT B1
  go_wp2_with fail
  have HI := B2.drew
  have sh := fun W (hW : Bx w [(w.heap.size + 1, snO n T high more), (w.heap.size, wyO b m)] W) => way_cells hW w.heap.size b m (.tail _ (.head _))
  refine Drawn.enter (Bx w [(w.heap.size + 1, snO n T high more), (w.heap.size, wyO b m)]) (by kernel_rfl) ?_
  refine Drawn.tk (i := 0) (v := ?v321) rfl (fun W hW => ?_) HI ?_
  rotate_left
  · have ⟨f0, f1, f2, f3, f4⟩ := sh W hW
    go_simp <;> exact rfl
  refine Drawn.tk (i := 2) (v := ?v322) rfl (fun W hW => ?_) HI ?_
  rotate_left
  · have ⟨f0, f1, f2, f3, f4⟩ := sh W hW
    go_simp <;> exact rfl
  refine Drawn.tk (i := 4) (v := ?v323) rfl (fun W hW => ?_) HI ?_
  rotate_left
  · have ⟨f0, f1, f2, f3, f4⟩ := sh W hW
    go_simp <;> exact rfl
  refine Drawn.tk (i := 5) (v := ?v324) rfl (fun W hW => ?_) HI ?_
  rotate_left
  · have ⟨f0, f1, f2, f3, f4⟩ := sh W hW
    go_simp <;> exact rfl
  refine Drawn.one (j := 1) (by kernel_rfl) rfl (fun K hK => ?_)
  go_simp
  refine ((HL _).out).mono ?_
  rintro e wn ⟨rfl, hn⟩
  refine hK _ _ (HI.keep hn) ?_
  clear hK K
  replace HI := HI.keep hn
  clear hn
  refine Drawn.tk (i := 3) (v := .int .i64 ((L : Int) + unit)) rfl (fun W hW => ?_) HI ?_
  · have ⟨f0, f1, f2, f3, f4⟩ := sh W hW
    go_simp <;> (exact wrap_ok (by omega) (by omega))
  refine Drawn.tk (i := 6) (v := ?v325) rfl (fun W hW => ?_) HI ?_
  rotate_left
  · have ⟨f0, f1, f2, f3, f4⟩ := sh W hW
    go_simp <;> exact rfl
  refine Drawn.done (by kernel_rfl) ?_
  try go_simp
  clear sh
  obtain ⟨e0, e1, e2, e3⟩ := seen_cells HI (w.heap.size + 1) n T high more (.head _)
  obtain ⟨f0, f1, f2, f3, f4⟩ := way_cells HI w.heap.size b m (.tail _ (.head _))
  by_cases c : hi b < (L : Int) + unit
  · have r1 := HR.out
    have r2 := HF.out
    rw [if_pos c] at r1 r2
    subst r1 r2
    clear HR HF HWW HQQ
    go_wp2_with fail
    refine (HOO.out _).mono ?_
    rintro e w3 ⟨rfl, h3⟩
    have B3 := HI.keep h3
    clear h3 e0 e1 e2 e3 f0 f1 f2 f3 f4
    go_wp2
    go_ret3
    exact ⟨by first | rfl | kernel_rfl, B3.bel⟩
  · have r1 := HR.out
    have r2 := HF.out
    rw [if_neg c] at r1 r2
    subst r1
    have HWN := Hide.mk (HWW.out (by omega))
    clear HR HF HWW HOO
    cases z
    · have HQ2 := HQQ.out
      clear HQQ
      have HQQ := Hide.mk HQ2
      clear HQ2
      cases q
      · have r3 : F = 16 := r2
        subst r3
        clear r2
        go_wp2_with fail
        refine (HQQ.out _).mono ?_
        rintro e w3 ⟨rfl, h3⟩
        have B3 := HI.keep h3
        clear h3 e0 e1 e2 e3 f0 f1 f2 f3 f4 HQQ
        obtain ⟨e0, e1, e2, e3⟩ := seen_cells B3 (w.heap.size + 1) n T high more (.head _)
        obtain ⟨f0, f1, f2, f3, f4⟩ := way_cells B3 w.heap.size b m (.tail _ (.head _))
        have H9 := Hide.mk (HWN.out w3 (hT.below B3.bel (Nat.le_refl _)))
        go_wp2_with fail
        refine H9.out.mono ?_
        rintro e w4 ⟨rfl, h4⟩
        have B4 := B3.keep h4
        clear h4 e0 e1 e2 e3 f0 f1 f2 f3 f4 H9 HWN
        go_wp2
        go_ret3
        exact ⟨by first | rfl | kernel_rfl, B4.bel⟩
      · have r3 : F = 24 := r2
        subst r3
        clear r2
        go_wp2_with fail
        refine (HQQ.out _).mono ?_
        rintro e w3 ⟨rfl, h3⟩
        have B3 := HI.keep h3
        clear h3 e0 e1 e2 e3 f0 f1 f2 f3 f4 HQQ
        obtain ⟨e0, e1, e2, e3⟩ := seen_cells B3 (w.heap.size + 1) n T high more (.head _)
        obtain ⟨f0, f1, f2, f3, f4⟩ := way_cells B3 w.heap.size b m (.tail _ (.head _))
        have H9 := Hide.mk (HWN.out w3 (hT.below B3.bel (Nat.le_refl _)))
        go_wp2_with fail
        refine H9.out.mono ?_
        rintro e w4 ⟨rfl, h4⟩
        have B4 := B3.keep h4
        clear h4 e0 e1 e2 e3 f0 f1 f2 f3 f4 H9 HWN
        go_wp2
        go_ret3
        exact ⟨by first | rfl | kernel_rfl, B4.bel⟩
    · have r3 : F = 0 := r2
      subst r3
      clear r2 HQQ
      have H9 := Hide.mk (HWN.out _ (hT.below HI.bel (Nat.le_refl _)))
      go_wp2_with fail
      refine H9.out.mono ?_
      rintro e w4 ⟨rfl, h4⟩
      have B4 := HI.keep h4
      clear h4 e0 e1 e2 e3 f0 f1 f2 f3 f4 H9 HWN
      go_wp2
      go_ret3
      exact ⟨by first | rfl | kernel_rfl, B4.bel⟩
end Go.Proofs.YtdnghibkagcbcaaGreatDoor

namespace Go.Proofs.YtdnghibkagcbcaaGreatDoor
open Go.RowKit Go.Wd Go.Box
set_option linter.unusedVariables false
set_option maxRecDepth 3000
theorem wRounded (b : Bool) (m : Int) (n : Bool) (T high : Int) (more : Bool) (d : Nat) (w : World) (hT : Tab w) (hm : Mode m) (hT1 : -50000000 ≤ T) (hT2 : T ≤ 50000000) (h0 : 9223372036854775808 ≤ high) (h1 : high < 18446744073709551616) (hd : ulp b T - T + 63 = (d : Int)) :
    Calls Tryz.prog 46 #[wyV b m, snV n T high more] w fun e w' => e = .returned (.tuple #[.int .u64 (rdW b m n T (high / 2 ^ d) (gx high d more)), .int .u8 (rdX b m n T (high / 2 ^ d) (gx high d more) (high / 2 ^ (63 - pr b)) (gx high (63 - pr b) more)), .int .i64 0]) ∧ Below w.heap.size w w' := by
  have hp := pr_bd b
  have hlo := lo_bd b
  have hub := ulp_ge b T
  have hS : BitLen high 64 := .inr ⟨by omega, ⟨by omega, by omega⟩⟩
  obtain ⟨t1, t2, t3⟩ := tk_fits hS (by omega) b T d (by omega) m n (gx high d more)
  have p1 := p2le hp.2
  have HT : ∀ W, Calls Tryz.prog 76 #[wyV b m, snV n T high more, .int .i64 (ulp b T)] W fun e w' => e = .returned (.tuple #[.int .u64 (tk m n (high / 2 ^ d) (gx high d more)), .bool (plc (high / 2 ^ d) (gx high d more) == 0)]) ∧ Below W.heap.size W w' :=
    fun W => wTaken b m n T high more (ulp b T) d W hm (by omega) (by omega) (by omega) (by omega) (by omega) (by omega) h1
  unfold rdW rdX
  generalize gx high d more = g at *
  generalize high / 2 ^ d = h at *
  generalize hu : tk m n h g = u at *
  obtain ⟨L, hL⟩ := bitLen_ex t1
  have hL2 := bl_le hL (show u < 2 ^ 54 by omega)
  have hi1 : 128 ≤ hi b ∧ hi b ≤ 1024 := by cases b <;> simp [hi]
  have hpp := p2pos (pr b - 1)
  have k := bl_lt_iff hL (hi b - ulp b T) (by
    by_cases c : ulp b T = lo b
    · exact .inl (by omega)
    · exact .inr (by have := t3 c; omega))
  have ko : (2 ^ (hi b - ulp b T).toNat ≤ u) = (hi b < (L : Int) + ulp b T) := propext ⟨fun a => by have := k.2 a; omega, fun a => k.1 (by omega)⟩
  refine wRounded_walk b m n T high more (ulp b T) u (sd b ((ulp b T - lo b) * fr b + u) n) (ovw b m n) (plc h g == 0) (decide (tk m n (high / 2 ^ (63 - pr b)) (gx high (63 - pr b) more) < 2 ^ (lo b + pr b - 1 - (T - pr b)).toNat)) L w hT hT1 hT2 rfl t1 (by omega) hL (by omega) HT (fun W => wTiny b m n T high more W hm hT1 hT2 h0 h1) (fun W => wOver b m n hm W) ?_ _ _ ?_ ?_
  · intro c V hV
    by_cases u0 : u = 0
    · have e1 : ulp b T = lo b := Classical.byContradiction fun c2 => by have := t3 c2; omega
      rw [u0, e1, show (lo b - lo b) * fr b + 0 = 0 by rw [Int.sub_self, Int.zero_mul]; rfl]
      exact wWordOfZ b m n (lo b) V
    · have hL1 : 0 < L := by
        rcases hL with ⟨a, _⟩ | ⟨_, a⟩
        · omega
        · have a1 := a.lt
          refine Nat.pos_of_ne_zero fun z => ?_
          rw [z, Int.pow_zero] at a1
          omega
      exact wWordOfP b m n u (ulp b T) V hV (by omega) t2 t3 (by omega) (by omega) (by rw [ko]; exact c)
  · simp only [ko]
  · simp only [ko, beq_iff_eq, decide_eq_true_eq]
end Go.Proofs.YtdnghibkagcbcaaGreatDoor

namespace Go.Box
open Go Go.RowKit
variable {w w' W W' : World} {L : List (Nat × Obj)}
theorem Bx.fill5 {g : Nat} {z0 z1 z2 z3 z4 : Value} {t : TypeId} (h : Bx w ((g, Obj.cells #[z0, z1, z2, z3, z4] t (0, 0)) :: L) W) (hg : w.heap.size ≤ g) (hne : ∀ p ∈ L, p.1 ≠ g) (a b c d e : Value) :
    Bx w ((g, Obj.cells #[a, b, c, d, e] t (0, 0)) :: L) (((((W.setCell ⟨g, 0, none⟩ a).setCell ⟨g, 1, none⟩ b).setCell ⟨g, 2, none⟩ c).setCell ⟨g, 3, none⟩ d).setCell ⟨g, 4, none⟩ e) := by
  have := ((((h.set hg hne 0 a).set hg hne 1 b).set hg hne 2 c).set hg hne 3 d).set hg hne 4 e
  simpa using this
end Go.Box
namespace Go.Proofs.YtdnghibkagcbcaaGreatDoor
open Go.RowKit Go.Wd Go.Box
set_option linter.unusedVariables false
set_option maxRecDepth 3000
theorem Tryz.sizeWay : (Tryz.prog.info? 66).map (·.size) = some 5 := by kernel_rfl
theorem results_W2 {fn : Func} {p u : Tmp} (h : fn.results = #[.cell p 66, .tmp u]) (tmps : Array Value) (w : World) (g : Nat) (cs : Array Value) (hp : tmps.getD p undef = .pointer (some ⟨g, 0, none⟩)) (hg : w.heap[g]? = some (.cells cs 66 (0, 0))) (hs : cs.size = 5) :
    (results fn tmps).run Tryz.prog w = .ok (.tuple #[.agg cs, tmps.getD u undef]) w := by
  rw [results_cell_tmp h, hp]
  simp [asAddr, run_loadVar_row w g 66 66 cs (0, 0) _ hg Tryz.underlying66 rfl (by rw [Tryz.sizeWay, hs])]
theorem Tryz.sizeSeen : (Tryz.prog.info? 72).map (·.size) = some 4 := by kernel_rfl
theorem results_N1 {fn : Func} {p : Tmp} (h : fn.results = #[.cell p 72]) (tmps : Array Value) (w : World) (g : Nat) (cs : Array Value) (hp : tmps.getD p undef = .pointer (some ⟨g, 0, none⟩)) (hg : w.heap[g]? = some (.cells cs 72 (0, 0))) (hs : cs.size = 4) :
    (results fn tmps).run Tryz.prog w = .ok (.agg cs) w :=
  results_cell_row h tmps w g 72 cs (0, 0) _ hp hg Tryz.underlying72 rfl (by rw [Tryz.sizeSeen, hs])
abbrev noW : Value := .agg #[.int .u8 0, .int .i64 0, .int .i64 0, .int .i64 0, .int .u8 0]
abbrev ZW : Obj := .cells #[.int .u8 0, .int .i64 0, .int .i64 0, .int .i64 0, .int .u8 0] 66 (0, 0)
theorem wWayOf (b : Bool) (m : Int) (hm : Mode m) (w : World) :
    Calls Tryz.prog 48 #[.int .u8 (fm b), .int .u8 m] w fun e w' => e = .returned (.tuple #[wyV b m, .int .i64 0]) ∧ Below w.heap.size w w' := by
  have B1 := ((Bx.nil w).push (wyO b m)).push (wyO b m)
  cases b
  · rw [show fm false = 1 from rfl]
    rcases hm with rfl | rfl | rfl | rfl | rfl <;>
      (go_enter Tryz.func48, Tryz.ntmps48; go_wp2; refine bodyPost_ret (results_W2 rfl _ _ w.heap.size _ rfl B1.tail.head rfl) rfl ?_; exact ⟨rfl, B1.bel⟩)
  · rw [show fm true = 2 from rfl]
    rcases hm with rfl | rfl | rfl | rfl | rfl <;>
      (go_enter Tryz.func48, Tryz.ntmps48; go_wp2; refine bodyPost_ret (results_W2 rfl _ _ w.heap.size _ rfl B1.tail.head rfl) rfl ?_; exact ⟨rfl, B1.bel⟩)
theorem wWayOf_bad (f m : Int) (h : Bad f) (w : World) :
    Calls Tryz.prog 48 #[.int .u8 f, .int .u8 m] w fun e w' => e = .returned (.tuple #[noW, .int .i64 4]) ∧ Below w.heap.size w w' := by
  have h1 : (f == 1) = false := beq_eq_false_iff_ne.2 h.1
  have h2 : (f == 2) = false := beq_eq_false_iff_ne.2 h.2
  have B1 := ((Bx.nil w).push ZW).push (.cells #[.int .u8 f, .int .i64 0, .int .i64 0, .int .i64 0, .int .u8 m] 66 (0, 0))
  go_enter Tryz.func48, Tryz.ntmps48
  go_wp2
  refine bodyPost_ret (results_W2 rfl _ _ w.heap.size _ rfl B1.tail.head rfl) rfl ?_
  exact ⟨rfl, B1.bel⟩
theorem wWayOf_mode (b : Bool) (m : Int) (hm : ¬ Mode m) (w : World) :
    Calls Tryz.prog 48 #[.int .u8 (fm b), .int .u8 m] w fun e w' => e = .returned (.tuple #[noW, .int .i64 5]) ∧ Below w.heap.size w w' := by
  have B1 := ((Bx.nil w).push ZW).push (wyO b m)
  have h1 : (m == 1) = false := beq_eq_false_iff_ne.2 fun c => hm (.inl c)
  have h2 : (m == 2) = false := beq_eq_false_iff_ne.2 fun c => hm (.inr (.inl c))
  have h3 : (m == 3) = false := beq_eq_false_iff_ne.2 fun c => hm (.inr (.inr (.inl c)))
  have h4 : (m == 4) = false := beq_eq_false_iff_ne.2 fun c => hm (.inr (.inr (.inr (.inl c))))
  have h5 : (m == 5) = false := beq_eq_false_iff_ne.2 fun c => hm (.inr (.inr (.inr (.inr c))))
  clear hm
  cases b
  · rw [show fm false = 1 from rfl]
    go_enter Tryz.func48, Tryz.ntmps48
    go_wp2
    refine bodyPost_ret (results_W2 rfl _ _ w.heap.size _ rfl B1.tail.head rfl) rfl ?_
    exact ⟨rfl, B1.bel⟩
  · rw [show fm true = 2 from rfl]
    go_enter Tryz.func48, Tryz.ntmps48
    go_wp2
    refine bodyPost_ret (results_W2 rfl _ _ w.heap.size _ rfl B1.tail.head rfl) rfl ?_
    exact ⟨rfl, B1.bel⟩
def WayIs (f m : Int) (v : Value) (code : Int) : Prop := (∃ b, f = fm b ∧ Mode m ∧ v = wyV b m ∧ code = 0) ∨ (Bad f ∧ v = noW ∧ code = 4) ∨ (∃ b, f = fm b ∧ ¬ Mode m ∧ v = noW ∧ code = 5)
theorem fm_or_bad (f : Int) : (∃ b, f = fm b) ∨ Bad f := by
  by_cases h1 : f = 1
  · exact .inl ⟨false, h1⟩
  · by_cases h2 : f = 2
    · exact .inl ⟨true, h2⟩
    · exact .inr ⟨h1, h2⟩
structure At3 (w : World) (g o : Nat) (n : Bool) (a : Option Addr) (k c : Nat) (e : Int) : Prop where
  c0 : w.cell? ⟨g, o, none⟩ = some (.bool n)
  c1 : w.cell? ⟨g, o + 1, none⟩ = some (.slice a k c)
  c2 : w.cell? ⟨g, o + 2, none⟩ = some (.int .i64 e)
theorem At3.below {w W : World} {g o : Nat} {n : Bool} {a : Option Addr} {k c : Nat} {e : Int} (h : At3 w g o n a k c e) (hb : Below w.heap.size w W) : At3 W g o n a k c e :=
  ⟨below_cell hb h.c0, below_cell hb h.c1, below_cell hb h.c2⟩
theorem zway_cells {w W : World} {L : List (Nat × Obj)} (h : Bx w L W) (g : Nat) (hm : (g, ZW) ∈ L) :
    W.cell? ⟨g, 0, none⟩ = some (.int .u8 0) ∧ W.cell? ⟨g, 1, none⟩ = some (.int .i64 0) ∧ W.cell? ⟨g, 2, none⟩ = some (.int .i64 0) ∧ W.cell? ⟨g, 3, none⟩ = some (.int .i64 0) ∧ W.cell? ⟨g, 4, none⟩ = some (.int .u8 0) ∧ W.frozen? ⟨g, 0, none⟩ = false ∧ W.frozen? ⟨g, 1, none⟩ = false ∧ W.frozen? ⟨g, 2, none⟩ = false ∧ W.frozen? ⟨g, 3, none⟩ = false ∧ W.frozen? ⟨g, 4, none⟩ = false :=
  ⟨h.cell g _ _ hm 0, h.cell g _ _ hm 1, h.cell g _ _ hm 2, h.cell g _ _ hm 3, h.cell g _ _ hm 4, h.frozen g _ _ hm 0, h.frozen g _ _ hm 1, h.frozen g _ _ hm 2, h.frozen g _ _ hm 3, h.frozen g _ _ hm 4⟩
theorem wWayFor1 (b : Bool) (m : Int) (hm : Mode m) (g : Nat) (n1 : Bool) (a1 : Option Addr) (c1 : Nat) (z1 : List Int) (e1 : Int) (w : World) (h1 : DLie w a1 z1) (q : Bool) (hq : dmayB n1 z1 e1 = q) (hg : At3 w g 0 n1 a1 z1.length c1 e1) :
    Calls Tryz.prog 43 #[.int .u8 (fm b), .int .u8 m, .slice (some ⟨g, 0, none⟩) 1 1] w fun e w' => e = .returned (.tuple #[if q then wyV b m else noW, .int .i64 (if q then 0 else 2)]) ∧ Below w.heap.size w w' := by
  have M1 := fun W hb => Hide.mk (h1.may n1 c1 e1 q hq W hb)
  have G1 := Hide.mk hg
  clear h1 hq hg
  cases q
  · have B1 := (Bx.nil w).push ZW
    go_enter Tryz.func43, Tryz.ntmps43
    go_wp2_with fail
    refine (wWayOf b m hm _).mono ?_
    rintro e w2 ⟨rfl, h2⟩
    have B2 := (B1.keep h2).push (wyO b m)
    clear h2 B1
    obtain ⟨k0, k1, k2⟩ := G1.out.below B2.bel
    go_wp2
    refine wp_loop_rounds 3 ?_
    rw [rounds_succ]
    go_wp2_with fail
    have B3 := B2.push (DO n1 a1 z1.length c1 e1)
    refine (M1 _ B3.bel).out.mono ?_
    rintro e w3 ⟨rfl, h1⟩
    have B4 := B3.keep h1
    clear h1 k0 k1 k2 B3 B2
    obtain ⟨k0, k1, k2, k3, k4, r0, r1, r2, r3, r4⟩ := zway_cells B4 w.heap.size (by simp)
    go_wp2
    have B5 := (B4.sub (L' := [(w.heap.size, ZW)]) (by simp)).fill5 (Nat.le_refl _) (by simp) (.int .u8 0) (.int .i64 0) (.int .i64 0) (.int .i64 0) (.int .u8 0)
    refine bodyPost_ret (results_W2 rfl _ _ w.heap.size _ rfl B5.head rfl) rfl ?_
    exact ⟨rfl, B5.bel⟩
  · have B1 := (Bx.nil w).push ZW
    go_enter Tryz.func43, Tryz.ntmps43
    go_wp2_with fail
    refine (wWayOf b m hm _).mono ?_
    rintro e w2 ⟨rfl, h2⟩
    have B2 := (B1.keep h2).push (wyO b m)
    clear h2 B1
    obtain ⟨k0, k1, k2⟩ := G1.out.below B2.bel
    go_wp2
    refine wp_loop_rounds 3 ?_
    rw [rounds_succ]
    go_wp2_with fail
    have B3 := B2.push (DO n1 a1 z1.length c1 e1)
    refine (M1 _ B3.bel).out.mono ?_
    rintro e w3 ⟨rfl, h1⟩
    have B4 := B3.keep h1
    clear h1 k0 k1 k2 B3 B2
    obtain ⟨f0, f1, f2, f3, f4⟩ := way_cells B4 w2.heap.size b m (by simp)
    obtain ⟨k0, k1, k2, k3, k4, r0, r1, r2, r3, r4⟩ := zway_cells B4 w.heap.size (by simp)
    go_wp2_with fail
    rw [rounds_succ]
    go_wp2
    have B5 := (B4.sub (L' := [(w.heap.size, ZW)]) (by simp)).fill5 (Nat.le_refl _) (by simp) (.int .u8 (fm b)) (.int .i64 (pr b : Nat)) (.int .i64 (lo b)) (.int .i64 (hi b)) (.int .u8 m)
    refine bodyPost_ret (results_W2 rfl _ _ w.heap.size _ rfl B5.head rfl) rfl ?_
    exact ⟨rfl, B5.bel⟩
end Go.Proofs.YtdnghibkagcbcaaGreatDoor

namespace Go.Proofs.YtdnghibkagcbcaaGreatDoor
open Go.RowKit Go.Wd Go.Box
set_option linter.unusedVariables false
set_option maxRecDepth 3000
theorem wWayFor_bad (f m code : Int) (sl : Nat) (g : Nat) (w : World) (hc : (code == 0) = false)
    (HW : ∀ W, Calls Tryz.prog 48 #[.int .u8 f, .int .u8 m] W fun e w' => e = .returned (.tuple #[noW, .int .i64 code]) ∧ Below W.heap.size W w') :
    Calls Tryz.prog 43 #[.int .u8 f, .int .u8 m, .slice (some ⟨g, 0, none⟩) sl sl] w fun e w' => e = .returned (.tuple #[noW, .int .i64 code]) ∧ Below w.heap.size w w' := by
  have HH := Hide.mk HW
  clear HW
  have B1 := (Bx.nil w).push ZW
  go_enter Tryz.func43, Tryz.ntmps43
  go_wp2_with fail
  refine (HH.out _).mono ?_
  rintro e w2 ⟨rfl, h2⟩
  have B2 := (B1.keep h2).push ZW
  clear h2 B1
  obtain ⟨k0, k1, k2, k3, k4, r0, r1, r2, r3, r4⟩ := zway_cells B2 w.heap.size (by simp)
  go_wp2
  have B9 := (B2.sub (L' := [(w.heap.size, ZW)]) (by simp)).fill5 (Nat.le_refl _) (by simp) (.int .u8 0) (.int .i64 0) (.int .i64 0) (.int .i64 0) (.int .u8 0)
  refine bodyPost_ret (results_W2 rfl _ _ w.heap.size _ rfl B9.head rfl) rfl ?_
  exact ⟨rfl, B9.bel⟩
theorem wWayFor2 (b : Bool) (m : Int) (hm : Mode m) (g : Nat) (n1 : Bool) (a1 : Option Addr) (c1 : Nat) (z1 : List Int) (e1 : Int) (n2 : Bool) (a2 : Option Addr) (c2 : Nat) (z2 : List Int) (e2 : Int) (w : World) (h1 : DLie w a1 z1) (h2 : DLie w a2 z2) (q1 q2 : Bool) (hq1 : dmayB n1 z1 e1 = q1) (hq2 : dmayB n2 z2 e2 = q2) (hg1 : At3 w g 0 n1 a1 z1.length c1 e1) (hg2 : At3 w g 3 n2 a2 z2.length c2 e2) :
    Calls Tryz.prog 43 #[.int .u8 (fm b), .int .u8 m, .slice (some ⟨g, 0, none⟩) 2 2] w fun e w' => e = .returned (.tuple #[if q1 && q2 then wyV b m else noW, .int .i64 (if q1 && q2 then 0 else 2)]) ∧ Below w.heap.size w w' := by
  have M1 := fun W hb => Hide.mk (h1.may n1 c1 e1 q1 hq1 W hb)
  have M2 := fun W hb => Hide.mk (h2.may n2 c2 e2 q2 hq2 W hb)
  have G1 := Hide.mk hg1
  have G2 := Hide.mk hg2
  clear h1 hq1 hg1 h2 hq2 hg2
  cases q1
  · have B1 := (Bx.nil w).push ZW
    go_enter Tryz.func43, Tryz.ntmps43
    go_wp2_with fail
    refine (wWayOf b m hm _).mono ?_
    rintro e w2 ⟨rfl, h2⟩
    have B2 := (B1.keep h2).push (wyO b m)
    clear h2 B1
    obtain ⟨k0, k1, k2⟩ := G1.out.below B2.bel
    go_wp2
    refine wp_loop_rounds 4 ?_
    rw [rounds_succ]
    go_wp2_with fail
    have B3 := B2.push (DO n1 a1 z1.length c1 e1)
    refine (M1 _ B3.bel).out.mono ?_
    rintro e w3 ⟨rfl, h1⟩
    have B4 := B3.keep h1
    clear h1 k0 k1 k2 B3 B2
    obtain ⟨k0, k1, k2, k3, k4, r0, r1, r2, r3, r4⟩ := zway_cells B4 w.heap.size (by simp)
    go_wp2
    have B9 := (B4.sub (L' := [(w.heap.size, ZW)]) (by simp)).fill5 (Nat.le_refl _) (by simp) (.int .u8 0) (.int .i64 0) (.int .i64 0) (.int .i64 0) (.int .u8 0)
    refine bodyPost_ret (results_W2 rfl _ _ w.heap.size _ rfl B9.head rfl) rfl ?_
    exact ⟨rfl, B9.bel⟩
  · cases q2
    · have B1 := (Bx.nil w).push ZW
      go_enter Tryz.func43, Tryz.ntmps43
      go_wp2_with fail
      refine (wWayOf b m hm _).mono ?_
      rintro e w2 ⟨rfl, h2⟩
      have B2 := (B1.keep h2).push (wyO b m)
      clear h2 B1
      obtain ⟨k0, k1, k2⟩ := G1.out.below B2.bel
      go_wp2
      refine wp_loop_rounds 4 ?_
      rw [rounds_succ]
      go_wp2_with fail
      have B3 := B2.push (DO n1 a1 z1.length c1 e1)
      refine (M1 _ B3.bel).out.mono ?_
      rintro e w3 ⟨rfl, h1⟩
      have B4 := B3.keep h1
      clear h1 k0 k1 k2 B3 B2
      obtain ⟨k0, k1, k2⟩ := G2.out.below B4.bel
      go_wp2_with fail
      rw [rounds_succ]
      go_wp2_with fail
      have B5 := B4.push (DO n2 a2 z2.length c2 e2)
      refine (M2 _ B5.bel).out.mono ?_
      rintro e w4 ⟨rfl, h2⟩
      have B6 := B5.keep h2
      clear h2 k0 k1 k2 B5 B4
      obtain ⟨k0, k1, k2, k3, k4, r0, r1, r2, r3, r4⟩ := zway_cells B6 w.heap.size (by simp)
      go_wp2
      have B9 := (B6.sub (L' := [(w.heap.size, ZW)]) (by simp)).fill5 (Nat.le_refl _) (by simp) (.int .u8 0) (.int .i64 0) (.int .i64 0) (.int .i64 0) (.int .u8 0)
      refine bodyPost_ret (results_W2 rfl _ _ w.heap.size _ rfl B9.head rfl) rfl ?_
      exact ⟨rfl, B9.bel⟩
    · have B1 := (Bx.nil w).push ZW
      go_enter Tryz.func43, Tryz.ntmps43
      go_wp2_with fail
      refine (wWayOf b m hm _).mono ?_
      rintro e w2 ⟨rfl, h2⟩
      have B2 := (B1.keep h2).push (wyO b m)
      clear h2 B1
      obtain ⟨k0, k1, k2⟩ := G1.out.below B2.bel
      go_wp2
      refine wp_loop_rounds 4 ?_
      rw [rounds_succ]
      go_wp2_with fail
      have B3 := B2.push (DO n1 a1 z1.length c1 e1)
      refine (M1 _ B3.bel).out.mono ?_
      rintro e w3 ⟨rfl, h1⟩
      have B4 := B3.keep h1
      clear h1 k0 k1 k2 B3 B2
      obtain ⟨k0, k1, k2⟩ := G2.out.below B4.bel
      go_wp2_with fail
      rw [rounds_succ]
      go_wp2_with fail
      have B5 := B4.push (DO n2 a2 z2.length c2 e2)
      refine (M2 _ B5.bel).out.mono ?_
      rintro e w4 ⟨rfl, h2⟩
      have B6 := B5.keep h2
      clear h2 k0 k1 k2 B5 B4
      obtain ⟨f0, f1, f2, f3, f4⟩ := way_cells B6 w2.heap.size b m (by simp)
      obtain ⟨k0, k1, k2, k3, k4, r0, r1, r2, r3, r4⟩ := zway_cells B6 w.heap.size (by simp)
      go_wp2_with fail
      rw [rounds_succ]
      go_wp2
      have B9 := (B6.sub (L' := [(w.heap.size, ZW)]) (by simp)).fill5 (Nat.le_refl _) (by simp) (.int .u8 (fm b)) (.int .i64 (pr b : Nat)) (.int .i64 (lo b)) (.int .i64 (hi b)) (.int .u8 m)
      refine bodyPost_ret (results_W2 rfl _ _ w.heap.size _ rfl B9.head rfl) rfl ?_
      exact ⟨rfl, B9.bel⟩
end Go.Proofs.YtdnghibkagcbcaaGreatDoor

namespace Go.Proofs.YtdnghibkagcbcaaGreatDoor
open Go.RowKit Go.Wd Go.Box
set_option linter.unusedVariables false
set_option maxRecDepth 3000
theorem lz64B (x : Int) (w : World) (h0 : 0 ≤ x) (h1 : x < 18446744073709551616) (B : Nat) (hB : BitLen x B) (hB2 : B ≤ 64) :
    Calls Tryz.prog 117 #[.int .u64 x] w fun e w' => e = .returned (.int .i64 ((64 - B : Nat) : Int)) ∧ Below w.heap.size w w' := by
  refine (lz64 x w h0 h1 hB hB2).mono ?_
  rintro e w' ⟨rfl, rfl⟩
  exact ⟨by rw [Int.natCast_sub hB2]; rfl, Below.refl _ _⟩
theorem wSeenCut (n more : Bool) (a : Option Addr) (c : Nat) (zs : List Int) (ex xp : Int) (w : World) (hl : Lie w a zs) (g : DG n zs ex) (hz : 0 < zs.length) {B : Nat} (hB : BitLen (Nt.val zs) B) (hB2 : B ≤ 64) (hx1 : -60000000 ≤ xp) (hx2 : xp ≤ 60000000) :
    Calls Tryz.prog 82 #[dV n a zs.length c ex, .bool more, .int .i64 xp] w fun e w' => e = .returned (snV n (B + ex + xp) (Nt.val zs * 2 ^ (64 - B)) more) ∧ Below w.heap.size w w' := by
  have hx := g.ex_bd
  have hp := g.pos hz
  have m2 : Nt.val zs < 18446744073709551616 := by
    rcases hB with ⟨h, _⟩ | ⟨_, h⟩
    · omega
    · exact Int.lt_of_lt_of_le h.lt (p2le hB2)
  have H2 := Hide.mk (two_digits g.good m2)
  have B1 := ((Bx.nil w).push (DO n a zs.length c ex)).push (snO false 0 0 false)
  rw [show (w.alloc (DO n a zs.length c ex)).heap.size = w.heap.size + 1 by simp] at B1
  have HN := Hide.mk (num_yes a c zs _ g.good.may (hl.below B1.bel (Nat.le_refl _)) g.good.can.1 H2.out)
  obtain ⟨⟨f0, f1, f2⟩, _⟩ := cells3 B1 w.heap.size _ _ _ _ (.tail _ (.head _))
  have hv : Nt.val zs * 2 ^ (64 - B) % 18446744073709551616 = Nt.val zs * 2 ^ (64 - B) := by
    have h := (hB.up hp (64 - B))
    rw [show B + (64 - B) = 64 by omega] at h
    rcases h with ⟨h, _⟩ | ⟨_, h⟩
    · rw [h]; rfl
    · exact Int.emod_eq_of_lt (Int.le_of_lt (Int.mul_pos hp (p2pos _))) h.lt
  have HT := fun W (hW : Below w.heap.size w W) => Hide.mk (dTop n a c zs ex W (hl.below hW (Nat.le_refl _)) g)
  have HZ := fun W => Hide.mk (lz64B (Nt.val zs) W (by omega) m2 B hB hB2)
  have HV := Hide.mk hv
  have HB := Hide.mk hB
  clear hv hB g hl
  go_enter Tryz.func82, Tryz.ntmps82
  go_wp2_with fail
  refine HN.out.mono ?_
  rintro e w2 ⟨rfl, rfl⟩
  clear HN
  go_wp2_with fail
  generalize hX : Nt.val zs = X at *
  have HX := Hide.mk hX
  clear hX
  have HF := B1.drew
  have HI := HF.sub (L' := [(w.heap.size, DO n a zs.length c ex)]) (by simp)
  have sh := fun W (hW : Bx w [(w.heap.size, DO n a zs.length c ex)] W) => (cells3 hW w.heap.size _ _ _ _ (.head _)).1
  refine Drawn.enter (Bx w [(w.heap.size, DO n a zs.length c ex)]) (by kernel_rfl) ?_
  refine Drawn.tk (i := 0) (v := ?v326) rfl (fun W hW => ?_) HI ?_
  rotate_left
  · have ⟨f0, f1, f2⟩ := sh W hW
    go_simp <;> exact rfl
  refine Drawn.tk (i := 1) (v := ?v327) rfl (fun W hW => ?_) HI ?_
  rotate_left
  · have ⟨f0, f1, f2⟩ := sh W hW
    go_simp <;> exact rfl
  refine Drawn.tk (i := 2) (v := ?v328) rfl (fun W hW => ?_) HI ?_
  rotate_left
  · have ⟨f0, f1, f2⟩ := sh W hW
    go_simp <;> exact rfl
  refine Drawn.tk (i := 4) (v := ?v329) rfl (fun W hW => ?_) HI ?_
  rotate_left
  · have ⟨f0, f1, f2⟩ := sh W hW
    go_simp <;> exact rfl
  refine Drawn.tk (i := 6) (v := ?v330) rfl (fun W hW => ?_) HI ?_
  rotate_left
  · have ⟨f0, f1, f2⟩ := sh W hW
    go_simp <;> exact rfl
  refine Drawn.tk (i := 7) (v := ?v331) rfl (fun W hW => ?_) HI ?_
  rotate_left
  · have ⟨f0, f1, f2⟩ := sh W hW
    go_simp <;> exact rfl
  refine Drawn.tk (i := 10) (v := ?v332) rfl (fun W hW => ?_) HI ?_
  rotate_left
  · have ⟨f0, f1, f2⟩ := sh W hW
    go_simp <;> exact rfl
  refine Drawn.one (j := 3) (by kernel_rfl) rfl (fun K hK => ?_)
  go_simp
  refine (HT _ HI.bel).out.mono ?_
  rintro e wn ⟨C, rfl, hC, _, hn⟩
  obtain rfl := hC.unique HB.out
  refine hK _ _ (HI.keep hn) ?_
  clear hK K hC
  replace HI := HI.keep hn
  replace HF := HF.keep hn
  clear hn
  refine Drawn.tk (i := 5) (v := .int .i64 ((C : Int) + ex + xp)) rfl (fun W hW => ?_) HI ?_
  · have ⟨f0, f1, f2⟩ := sh W hW
    go_simp <;> (exact wrap_ok (by omega) (by omega))
  refine Drawn.one (j := 8) (by kernel_rfl) rfl (fun K hK => ?_)
  go_simp
  refine ((HZ _).out).mono ?_
  rintro e wn ⟨rfl, hn⟩
  refine hK _ _ (HI.keep hn) ?_
  clear hK K
  replace HI := HI.keep hn
  replace HF := HF.keep hn
  clear hn
  refine Drawn.tk (i := 9) (v := .int .u64 (X * 2 ^ (64 - C))) rfl (fun W hW => ?_) HI ?_
  · have ⟨f0, f1, f2⟩ := sh W hW
    go_simp <;> (rw [IntKind.wrap_u64]; exact HV.out)
  refine Drawn.tk (i := 11) (v := ?v333) rfl (fun W hW => ?_) HI ?_
  rotate_left
  · have ⟨f0, f1, f2⟩ := sh W hW
    go_simp <;> exact rfl
  obtain ⟨⟨f0, f1, f2, f3⟩, r0, r1, r2, r3⟩ := cells4 HF (w.heap.size + 1) _ _ _ _ _ (.head _)
  have HF2 := HF.fill4 (by omega) (by simp) (.bool n) (.int .i64 ((C : Int) + ex + xp)) (.int .u64 (X * 2 ^ (64 - C))) (.bool more)
  refine Drawn.one (j := 12) (by kernel_rfl) rfl (fun K hK => ?_)
  go_simp
  replace HI := HF2.sub (L' := [(w.heap.size, DO n a zs.length c ex)]) (by simp)
  refine hK _ _ HI ?_
  clear hK K f0 f1 f2 f3 r0 r1 r2 r3
  refine Drawn.done (by kernel_rfl) ?_
  try go_simp
  go_wp2
  refine bodyPost_ret (results_N1 rfl _ _ (w.heap.size + 1) _ rfl HF2.head rfl) rfl ?_
  exact ⟨by rw [HX.out], HF2.bel⟩
end Go.Proofs.YtdnghibkagcbcaaGreatDoor

namespace Go.Proofs.YtdnghibkagcbcaaGreatDoor
open Go.RowKit Go.Wd Go.Box
set_option linter.unusedVariables false
set_option maxRecDepth 3000
theorem fm_seen {s E : Int} {n : Bool} {z : List Int} {x : Int} (F : Fm s E n z x) (h0 : s ≠ 0) {C : Nat} (hC : BitLen (s.natAbs : Int) C) (hC2 : C ≤ 64) (hE1 : -16777216 ≤ E) (hE2 : E + 64 ≤ 16777216) (hl : z.length ≤ 4096) :
    ∃ B : Nat, DG n z x ∧ 0 < z.length ∧ n = decide (s < 0) ∧ BitLen (Nt.val z) B ∧ B ≤ 64 ∧ (B : Int) + x = C + E ∧ Nt.val z * 2 ^ (64 - B) = (s.natAbs : Int) * 2 ^ (64 - C) := by
  rcases F with ⟨rfl, _⟩ | ⟨_, t, ht, hn, rfl, hc, hv⟩
  · exact absurd rfl h0
  · have hs : 0 < (s.natAbs : Int) := by omega
    have ht2 := low_bits3 hC ht hs
    have hd := hC.down t
    rw [← hv] at hd
    have ho := odd_of_low ht
    rw [← hv] at ho
    have hz : 0 < z.length := by
      cases z with
      | nil => rw [Nt.val_nil] at ho; omega
      | cons d q => simp
    refine ⟨C - t, ⟨hc, hl, .inr ⟨hz, by rw [hv]; exact ht.one, by omega, by omega⟩⟩, hz, hn, hd, by omega, by omega, ?_⟩
    rw [show 64 - (C - t) = t + (64 - C) by omega, Int.pow_add, ← Int.mul_assoc, ← ho]
theorem wWhole (n : Bool) (a : Option Addr) (k c : Nat) (ex : Int) (w : World) :
    Calls Tryz.prog 81 #[dV n a k c ex] w fun e w' => e = .returned (dV n a k c 0) ∧ Below w.heap.size w w' := by
  have B1 := ((Bx.nil w).push (DO n a k c ex)).push (DO n a k c 0)
  go_enter Tryz.func81, Tryz.ntmps81
  go_wp2
  refine bodyPost_ret (results_D1 rfl _ _ (w.heap.size + 1) _ rfl ⟨by simpa using B1.head, rfl⟩) rfl ?_
  exact ⟨rfl, B1.bel⟩
theorem natAbs_sv (n : Bool) {X : Int} (h : 0 ≤ X) : ((sv n X).natAbs : Int) = X := sv_abs n h
theorem wSeenNumber (n : Bool) (a : Option Addr) (c : Nat) (zs : List Int) (ex : Int) (w : World) (hl : Lie w a zs) (g : DG n zs ex) (hz : 0 < zs.length) (hT : Tab w) {B : Nat} (hB : BitLen (Nt.val zs) B) (hB2 : B ≤ 131072) :
    Calls Tryz.prog 47 #[dV n a zs.length c ex] w fun e w' => e = .returned (snV n (B + ex) (qf (Nt.val zs) 1 (64 - B)) (qg (Nt.val zs) 1 (64 - B))) ∧ Below w.heap.size w w' := by
  have hx := g.ex_bd
  have hK := KK_int
  have hp := g.pos hz
  have g0 : DG n zs 0 := ⟨g.can, g.len, .inr ⟨hz, g.odd hz, by omega, by omega⟩⟩
  obtain ⟨d, hd⟩ : ∃ d : Nat, max ((B : Int) - 64) 0 = (d : Int) := ⟨(max ((B : Int) - 64) 0).toNat, by omega⟩
  have hBd := hB.down d
  have hB0 : 0 < B := by
    rcases hB with ⟨h, _⟩ | ⟨_, h⟩
    · omega
    · refine Nat.pos_of_ne_zero fun z => ?_
      have := h.lt
      rw [z, Int.pow_zero] at this
      omega
  have eq : qf (Nt.val zs) 1 (64 - B) = Nt.val zs / 2 ^ d * 2 ^ (64 - (B - d)) ∧ qg (Nt.val zs) 1 (64 - B) = decide (Nt.val zs % 2 ^ d ≠ 0) := by
    unfold qf qg
    rw [Int.one_mul]
    by_cases c : B ≤ 64
    · rw [show d = 0 by omega, show (-(64 - (B : Int))).toNat = 0 by omega, show (64 - (B : Int)).toNat = 64 - B by omega, Int.pow_zero, Int.ediv_one, Int.ediv_one, Int.emod_one, Int.emod_one, Nat.sub_zero]
      exact ⟨rfl, rfl⟩
    · rw [show (-(64 - (B : Int))).toNat = d by omega, show (64 - (B : Int)).toNat = 0 by omega, show 64 - (B - d) = 0 by omega, Int.pow_zero, Int.mul_one, Int.mul_one]
      exact ⟨rfl, rfl⟩
  have hBd2 : ((B - d : Nat) : Int) = B - d := by omega
  have hBd3 : B - d ≤ 64 := by omega
  have hs0 : 0 < Nt.val zs / 2 ^ d := by
    rcases hBd with ⟨_, h⟩ | ⟨h, _⟩
    · omega
    · exact h
  have hab := natAbs_sv n (Int.le_of_lt hs0)
  have hE1 : -16777216 ≤ 0 + (d : Int) := by omega
  have hE2 : 0 + (d : Int) + 64 ≤ 16777216 := by omega
  have hne : sv n (Nt.val zs / 2 ^ d) ≠ 0 := fun q => by rw [q] at hab; simp at hab; omega
  have hC : BitLen ((sv n (Nt.val zs / 2 ^ d)).natAbs : Int) (B - d) := by rw [hab]; exact hBd
  have hr : sv n (Nt.val zs / 2 ^ d) = 0 ∨ ∃ t : Nat, LowBit ((sv n (Nt.val zs / 2 ^ d)).natAbs : Int) t ∧ 0 + (d : Int) + t ≤ 16777216 := by
    obtain ⟨t, ht⟩ := low_ex hs0
    have := low_bits3 hBd ht hs0
    exact .inr ⟨t, by rw [hab]; exact ht, by omega⟩
  have hsg : decide (sv n (Nt.val zs / 2 ^ d) < 0) = n := by
    have := sv_neg n hs0
    exact this
  rw [eq.1, eq.2]
  have B1 := ((Bx.nil w).push (DO n a zs.length c ex)).push (snO false 0 0 false)
  rw [show (w.alloc (DO n a zs.length c ex)).heap.size = w.heap.size + 1 by simp] at B1
  have HC := fun W (hW : Below w.heap.size w W) => Hide.mk (cut_near n a c zs 0 64 W (hl.below hW (Nat.le_refl _)) g0 (hT.below hW (Nat.le_refl _)) (by omega) (by omega) hB hB2 d hd _ rfl rfl hr)
  have HF := fun (n' : Bool) (z' : List Int) (x' : Int) F hl => Hide.mk (fm_seen (n := n') (z := z') (x := x') F hne hC hBd3 hE1 hE2 hl)
  rw [hsg, hab] at HF
  clear hr hC hne hab hs0 hBd hB hd eq hsg
  generalize decide (Nt.val zs % 2 ^ d ≠ 0) = q at *
  generalize Nt.val zs / 2 ^ d * 2 ^ (64 - (B - d)) = H at *
  obtain ⟨⟨f0, f1, f2⟩, _⟩ := cells3 B1 w.heap.size _ _ _ _ (.tail _ (.head _))
  go_enter Tryz.func47, Tryz.ntmps47
  go_wp2_with fail
  refine (wWhole n a zs.length c ex _).mono ?_
  rintro e w2 ⟨rfl, h2⟩
  have B2 := B1.keep h2
  clear h2 B1 f0 f1 f2
  go_wp2_with fail
  refine (HC _ B2.bel).out.mono ?_
  rintro e w3 ⟨n', z', x', a', c', rfl, F, hl3, l3, _, h3⟩
  obtain ⟨C, g3, hz3, hn3, hC3, hC4, e3, v3⟩ := (HF _ _ _ F hl3).out
  subst hn3
  have B3 := (B2.keep h3).push (DO n' a' z'.length c' x')
  have M3 := (Bx.nil w3).push (DO n' a' z'.length c' x')
  have HS := Hide.mk (wSeenCut n' q a' c' z' x' ex _ (l3.below M3.bel (Nat.le_refl _)) g3 hz3 hC3 hC4 (by omega) (by omega))
  rw [v3, show (C : Int) + x' + ex = B + ex by omega] at HS
  have B4 := B3
  obtain ⟨⟨f0, f1, f2⟩, _⟩ := cells3 B4 w.heap.size _ _ _ _ (.tail _ (.tail _ (.head _)))
  obtain ⟨⟨g0, g1, g2⟩, _⟩ := cells3 B4 w3.heap.size _ _ _ _ (.head _)
  clear F hl3 l3 h3 g3 hz3 hC3 hC4 e3 v3 M3 B3 B2 HC HF hBd2 hBd3 hE1 hE2
  go_wp2_with fail
  refine HS.out.mono ?_
  rintro e w5 ⟨rfl, h5⟩
  have B5 := (B4.keep h5).sub (L' := [(w.heap.size + 1, snO false 0 0 false)]) (by simp)
  clear h5 f0 f1 f2 g0 g1 g2 B4 HS
  obtain ⟨⟨f0, f1, f2, f3⟩, r0, r1, r2, r3⟩ := cells4 B5 (w.heap.size + 1) _ _ _ _ _ (.head _)
  go_wp2
  have B6 := B5.fill4 (by omega) (by simp) (.bool n') (.int .i64 ((B : Int) + ex)) (.int .u64 H) (.bool q)
  refine bodyPost_ret (results_N1 rfl _ _ (w.heap.size + 1) _ rfl B6.head rfl) rfl ?_
  exact ⟨rfl, B6.bel⟩
end Go.Proofs.YtdnghibkagcbcaaGreatDoor
