import Derived.Test.YteejaghimppcgaaDoorDyadCutsPart14
namespace Go.Proofs.YteejaghimppcgaaDoor
open Go.RowKit Go.Wd Go.Box
set_option linter.unusedVariables false
set_option maxRecDepth 3000
/-- The one form of s times 2 to the E, however long. -/
def Fm (s E : Int) (n : Bool) (zs : List Int) (ex : Int) : Prop :=
  (s = 0 ∧ n = false ∧ zs = [] ∧ ex = 0) ∨ (s ≠ 0 ∧ ∃ t : Nat, LowBit (s.natAbs : Int) t ∧ n = decide (s < 0) ∧ ex = E + t ∧ Nt.Can zs ∧ Nt.val zs = (s.natAbs : Int) / 2 ^ t)
def RF (w w' : World) (s E : Int) (e : Ending) : Prop :=
  ∃ n zs ex a c, e = .returned (dV n a zs.length c ex) ∧ Fm s E n zs ex ∧ Lie w' a zs ∧ Below w.heap.size w w'
theorem Fm.same {s E : Int} {n1 n2 : Bool} {z1 z2 : List Int} {e1 e2 : Int} (h : Fm s E n1 z1 e1) (k : Fm s E n2 z2 e2) : n1 = n2 ∧ e1 = e2 ∧ z1 = z2 := by
  rcases h with ⟨h0, rfl, rfl, rfl⟩ | ⟨h0, t, ht, rfl, rfl, hc, hv⟩ <;> rcases k with ⟨k0, rfl, rfl, rfl⟩ | ⟨k0, r, hr, rfl, rfl, kc, kv⟩
  · exact ⟨rfl, rfl, rfl⟩
  · exact absurd h0 k0
  · exact absurd k0 h0
  · obtain rfl := ht.unique hr
    exact ⟨rfl, rfl, Nt.can_unique hc kc (by rw [hv, kv])⟩
set_option maxHeartbeats 1000000 in
theorem formX1 (n : Bool) (a : Option Addr) (ca : Nat) (za : List Int) (ex : Int) (w : World) (ha : Lie w a za) (qa : Nt.Can za) (hm : za.length ≤ 10000) (hz : 0 < za.length) {t : Nat} (ht : LowBit (Nt.val za) t) (h0 : -9000000000000000000 ≤ ex) (h1 : ex ≤ 9000000000000000000) :
    Calls Tryd.prog 80 #[.bool n, .slice a za.length ca, .int .i64 ex] w fun e w' => ∃ zs a' c, e = .returned (dV n a' zs.length c (ex + t)) ∧ Nt.Can zs ∧ Nt.val zs = Nt.val za / 2 ^ t ∧ Lie w' a' zs ∧ Below w.heap.size w w' := by
  have B1 := (Bx.nil w).push (DO false none 0 0 0)
  have l1 := ha.below B1.bel (Nat.le_refl _)
  have HL := Hide.mk (refLow59 a ca za _ l1 qa hz (by omega))
  have Ht := Hide.mk ht
  have hne : ((za.length : Int) == 0) = false := beq_eq_false_iff_ne.2 (by omega)
  clear ha ht
  go_enter Tryd.func80, Tryd.ntmps80
  go_wp2_with fail
  refine HL.out.mono ?_
  rintro e w2 ⟨rfl, t2, rfl, ht2, htl⟩
  obtain rfl := ht2.unique Ht.out
  have HD := Hide.mk (refDown46 a ca za _ t2 (by omega) l1 qa hz (by omega))
  clear ht2 HL l1
  go_wp2_with fail
  refine HD.out.mono ?_
  rintro e w3 ⟨zs, a', c, rfl, hO, hC, hV, h3⟩
  have B3 := B1.keep h3
  obtain ⟨a2, c2, he, _, _, hl⟩ := hO.lie
  simp only [Value.slice.injEq, true_and] at he
  obtain ⟨rfl, rfl⟩ := he
  have H := Hide.mk (And.intro hC (And.intro hV hl))
  obtain ⟨⟨f0, f1, f2⟩, r0, r1, r2⟩ := cells3 B3 w.heap.size _ _ _ _ (.head _)
  clear hO hC hV h3 HD hl B1
  generalize decide (Nt.val za % 2 ^ t2 ≠ 0) = q at *
  generalize hu : (t2 : Int) = u at *
  have hu0 : 0 ≤ u := by omega
  have hu1 : u < 320000 := by omega
  have HU := Hide.mk hu
  clear hu htl
  have B4 := B3.fill3 (Nat.le_refl _) (by simp) (.bool n) (.slice a' zs.length c) (.int .i64 (ex + u))
  go_wp2
  refine bodyPost_ret (results_D1 rfl _ _ w.heap.size _ rfl ⟨B4.head, rfl⟩) rfl ?_
  have L := Live.set3 (g := w.heap.size) ⟨B3.head, rfl⟩ (.bool n) (.slice a' zs.length c) (.int .i64 (ex + u)) (Live.one H.out.2.2)
  exact ⟨zs, a', c, by rw [HU.out], H.out.1, H.out.2.1, L.all (a', zs) (.head _), B4.bel⟩
theorem formZ (n : Bool) (a : Option Addr) (ca : Nat) (ex : Int) (w : World) :
    Calls Tryd.prog 80 #[.bool n, .slice a 0 ca, .int .i64 ex] w fun e w' => e = .returned noD ∧ Below w.heap.size w w' := by
  go_enter Tryd.func80, Tryd.ntmps80
  go_wp2
  refine bodyPost_ret (results_D1 rfl _ _ w.heap.size _ rfl (dcell_new _ _ _ _)) rfl ?_
  exact ⟨rfl, below_alloc _ _⟩
/-- Form answers the one form. -/
theorem formX (n : Bool) (a : Option Addr) (ca : Nat) (za : List Int) (ex : Int) (w : World) (ha : Lie w a za) (qa : Nt.Can za) (hm : za.length ≤ 10000) (h0 : -9000000000000000000 ≤ ex) (h1 : ex ≤ 9000000000000000000) :
    Calls Tryd.prog 80 #[.bool n, .slice a za.length ca, .int .i64 ex] w fun e w' => RF w w' (sv n (Nt.val za)) ex e := by
  have hv0 := (Nt.val_bd qa.1).1
  by_cases hz : 0 < za.length
  · have hp : 0 < Nt.val za := by
      have h2 := can_ge qa hz
      have h3 := Nt.pw_pos (za.length - 1)
      omega
    obtain ⟨t, ht⟩ := low_ex hp
    refine (formX1 n a ca za ex w ha qa hm hz ht h0 h1).mono ?_
    rintro e w' ⟨zs, a', c, rfl, hC, hV, hl, hb⟩
    have habs : ((sv n (Nt.val za)).natAbs : Int) = Nt.val za := by
      cases n
      · rw [sv_f]; omega
      · rw [sv_t]; omega
    refine ⟨n, zs, ex + t, a', c, rfl, .inr ⟨?_, t, by rw [habs]; exact ht, ?_, rfl, hC, by rw [habs]; exact hV⟩, hl, hb⟩
    · cases n
      · rw [sv_f]; omega
      · rw [sv_t]; omega
    · cases n
      · rw [sv_f]; exact (decide_eq_false (by omega)).symm
      · rw [sv_t]; exact (decide_eq_true (by omega)).symm
  · obtain rfl : za = [] := List.length_eq_zero_iff.1 (by omega)
    refine (formZ n a ca ex w).mono ?_
    rintro e w' ⟨rfl, hb⟩
    refine ⟨false, [], 0, none, 0, rfl, .inl ⟨?_, rfl, rfl, rfl⟩, .inl rfl, hb⟩
    rw [Nt.val_nil]
    cases n <;> rfl
end Go.Proofs.YteejaghimppcgaaDoor

namespace Go.Proofs.YteejaghimppcgaaDoor
open Go.RowKit Go.Wd Go.Box
set_option linter.unusedVariables false
set_option maxRecDepth 3000
theorem rNegX (n : Bool) (a : Option Addr) (c k : Nat) (ex : Int) (hk : 0 < k) (w : World) :
    Calls Tryd.prog 29 #[dV n a k c ex] w fun e w' => e = .returned (dV (!n) a k c ex) ∧ Below w.heap.size w w' := by
  have B1 := ((Bx.nil w).push (DO (!n) a k c ex)).push (DO (!n) a k c ex)
  have hk2 : (0 : Int) < (k : Int) := by omega
  go_enter Tryd.func29, Tryd.ntmps29
  go_wp2
  refine bodyPost_ret (results_D1 rfl _ _ (w.heap.size + 1) _ rfl ⟨by simpa using B1.head, rfl⟩) rfl ?_
  exact ⟨rfl, B1.bel⟩
theorem rNegZ (a : Option Addr) (c : Nat) (ex : Int) (n : Bool) (w : World) :
    Calls Tryd.prog 29 #[dV n a 0 c ex] w fun e w' => e = .returned (dV n a 0 c ex) ∧ Below w.heap.size w w' := by
  have B1 := ((Bx.nil w).push (DO n a 0 c ex)).push (DO n a 0 c ex)
  go_enter Tryd.func29, Tryd.ntmps29
  go_wp2
  refine bodyPost_ret (results_D1 rfl _ _ (w.heap.size + 1) _ rfl ⟨by simpa using B1.head, rfl⟩) rfl ?_
  exact ⟨rfl, B1.bel⟩
end Go.Proofs.YteejaghimppcgaaDoor

namespace Go.Proofs.YteejaghimppcgaaDoor
open Go.RowKit Go.Wd Go.Box
set_option linter.unusedVariables false
set_option maxRecDepth 3000
theorem len_up {za zs : List Int} {k : Nat} (qa : Nt.Can za) (hl : za.length ≤ 4100) (hk : k ≤ 150000) (hc : Nt.Can zs) (hv : Nt.val zs = Nt.val za * 2 ^ k) : zs.length ≤ 8800 := by
  refine (Nt.can_len hc 8800).1 ?_
  rw [hv]
  have h1 : Nt.val za < 4294967296 ^ 4100 := (Nt.can_len qa 4100).2 hl
  have h0 := (Nt.val_bd qa.1).1
  have hp := p2pos k
  have e1 : (4294967296 : Int) ^ 4100 = 2 ^ (32 * 4100) := by rw [Int.pow_mul]; rfl
  have e2 : (4294967296 : Int) ^ 8800 = 2 ^ (32 * 8800) := by rw [Int.pow_mul]; rfl
  have h2 : Nt.val za * 2 ^ k < 4294967296 ^ 4100 * 2 ^ k := Int.mul_lt_mul_of_pos_right h1 hp
  rw [e1, ← Int.pow_add] at h2
  rw [e2]
  have h3 := p2mono (show 32 * 4100 + k ≤ 32 * 8800 by omega)
  exact Int.lt_of_lt_of_le h2 h3
theorem sum_lt88 {x y : Int} (h : x < 4294967296 ^ 8800) (k : y < 4294967296 ^ 8800) : x + y < 4294967296 ^ 8801 := by
  rw [Nt.pw_succ]
  have := Nt.pw_pos 8800
  generalize (4294967296 : Int) ^ 8800 = P at *
  omega
theorem refUpA (a : Option Addr) (ca : Nat) (za : List Int) (w : World) (M : Int) (n : Nat) (hM : M = (n : Int)) (hn1 : n ≤ 1000000) (ha : Lie w a za) (ra : Nt.Rng za) (hm : za.length ≤ 100000) :
    Calls Tryd.prog 82 #[.slice a za.length ca, .int .i64 M] w fun e w' => Made w w' (Nt.val za * 2 ^ n) e := by
  subst hM
  exact refUp_any a ca za w n hn1 ha ra hm
theorem sv_add (n : Bool) (x y : Int) : sv n (x + y) = sv n x + sv n y := by
  cases n
  · rfl
  · simp only [sv_t]; omega
theorem sv_sub (n : Bool) (x y : Int) : sv n (x - y) = sv n x + sv (!n) y := by
  cases n
  · rw [show (!false) = true from rfl]; simp only [sv_t, sv_f]; omega
  · rw [show (!true) = false from rfl]; simp only [sv_t, sv_f]; omega
theorem sv_sub2 (n : Bool) (x y : Int) : sv (!n) (y - x) = sv n x + sv (!n) y := by
  cases n
  · rw [show (!false) = true from rfl]; simp only [sv_t, sv_f]; omega
  · rw [show (!true) = false from rfl]; simp only [sv_t, sv_f]; omega
theorem can_len_le {x y : List Int} (hx : Nt.Can x) (hy : Nt.Can y) (h : Nt.val x ≤ Nt.val y) : x.length ≤ y.length :=
  (Nt.can_len hx y.length).1 (Int.lt_of_le_of_lt h ((Nt.can_len hy y.length).2 (Nat.le_refl _)))
theorem sgn_ge {x y : Int} (h : y ≤ x) : 0 ≤ sgn x y := by
  unfold sgn
  split
  · omega
  · split <;> omega
theorem sgn_less {x y : Int} (h : x < y) : sgn x y < 0 := by
  unfold sgn
  rw [if_pos h]
  decide
set_option maxHeartbeats 2000000 in
theorem addX_lt_same (n : Bool) (a1 a2 : Option Addr) (c1 c2 : Nat) (z1 z2 : List Int) (e1 e2 : Int) (w : World) (l1 : Lie w a1 z1) (l2 : Lie w a2 z2) (q1 : Nt.Can z1) (q2 : Nt.Can z2) (hl1 : z1.length ≤ 4100) (hl2 : z2.length ≤ 4100) (hz1 : 0 < z1.length) (hz2 : 0 < z2.length) (b1 : -20000000 ≤ e1) (b2 : e1 ≤ 20000000) (b3 : -20000000 ≤ e2) (b4 : e2 ≤ 20000000) (k1 k2 : Nat) (hk1 : k1 ≤ 150000) (hk2 : k2 ≤ 150000) (ho : e2 < e1) (hh1 : e1 - e2 = k1) (hh2 : e2 - e2 = k2)  :
    Calls Tryd.prog 42 #[dV n a1 z1.length c1 e1, dV n a2 z2.length c2 e2] w fun e w' => RF w w' (sv n (Nt.val z1 * 2 ^ k1) + sv n (Nt.val z2 * 2 ^ k2)) e2 e := by
  have B1 := (((Bx.nil w).push (DO n a1 z1.length c1 e1)).push (DO n a2 z2.length c2 e2)).push (DO false none 0 0 0)
  have d1 : ((z1.length : Int) == 0) = false := beq_eq_false_iff_ne.2 (by omega)
  have d2 : ((z2.length : Int) == 0) = false := beq_eq_false_iff_ne.2 (by omega)
  have d3 : (n == n) = true := by cases n <;> rfl
  go_enter Tryd.func42, Tryd.ntmps42
  go_wp2_with fail
  rw [show ((w.alloc (DO n a1 z1.length c1 e1)).alloc (DO n a2 z2.length c2 e2)).heap.size = w.heap.size + 1 + 1 by simp, show (w.alloc (DO n a1 z1.length c1 e1)).heap.size = w.heap.size + 1 by simp] at B1
  generalize hw1 : ((w.alloc (DO n a1 z1.length c1 e1)).alloc (DO n a2 z2.length c2 e2)).alloc (DO false none 0 0 0) = w1 at *
  clear hw1
  refine (refUpA a1 c1 z1 _ _ k1 (by omega) (by omega) (l1.below B1.bel (Nat.le_refl _)) q1.1 (by omega)).mono ?_
  rintro e w2 ⟨y1, p1, g1, rfl, O1, C1, V1, h2⟩
  have B2 := B1.keep h2
  obtain ⟨x9, x8, he, _, _, m1⟩ := O1.lie
  simp only [Value.slice.injEq, true_and] at he
  obtain ⟨rfl, rfl⟩ := he
  obtain ⟨⟨s0, s1, s2⟩, _⟩ := cells3 B2 (w.heap.size + 1) _ _ _ _ (.tail _ (.head _))
  obtain ⟨⟨r0, r1, r2⟩, _⟩ := cells3 B2 w.heap.size _ _ _ _ (.tail _ (.tail _ (.head _)))
  have Y1 := Hide.mk (len_up q1 hl1 hk1 C1 V1)
  have HC1 := Hide.mk (And.intro C1 V1)
  clear O1 h2 B1 C1 V1
  go_wp2_with fail
  refine (refUpA a2 c2 z2 _ _ k2 (by omega) (by omega) (l2.below B2.bel (Nat.le_refl _)) q2.1 (by omega)).mono ?_
  rintro e w3 ⟨y2, p2, g2, rfl, O2, C2, V2, h3⟩
  have HF := B2.keep h3
  replace m1 := m1.below h3 (Nat.le_refl _)
  obtain ⟨x9, x8, he, _, _, m2⟩ := O2.lie
  simp only [Value.slice.injEq, true_and] at he
  obtain ⟨rfl, rfl⟩ := he
  have Y2 := Hide.mk (len_up q2 hl2 hk2 C2 V2)
  have HC2 := Hide.mk (And.intro C2 V2)
  clear O2 h3 B2 C2 V2 s0 s1 s2 r0 r1 r2
  obtain ⟨⟨s0, s1, s2⟩, _⟩ := cells3 HF (w.heap.size + 1) _ _ _ _ (.tail _ (.head _))
  obtain ⟨⟨r0, r1, r2⟩, _⟩ := cells3 HF w.heap.size _ _ _ _ (.tail _ (.tail _ (.head _)))
  go_wp2_with fail
  replace HF := HF.drew
  replace m1 := m1.below (Below.refl _ _).drew (Nat.le_refl _)
  replace m2 := m2.below (Below.refl _ _).drew (Nat.le_refl _)
  have HI := HF.sub (L' := [(w.heap.size + 1, DO n a2 z2.length c2 e2), (w.heap.size, DO n a1 z1.length c1 e1)]) (by simp)
  have sh := fun W (hW : Bx w [(w.heap.size + 1, DO n a2 z2.length c2 e2), (w.heap.size, DO n a1 z1.length c1 e1)] W) => (cells3 hW w.heap.size _ _ _ _ (.tail _ (.head _))).1
  refine Drawn.enter (Bx w [(w.heap.size + 1, DO n a2 z2.length c2 e2), (w.heap.size, DO n a1 z1.length c1 e1)]) (by kernel_rfl) ?_
  refine Drawn.take (i := 0) (v := ?v116) rfl (by kernel_rfl) (by kernel_rfl) (by kernel_rfl) (fun _ _ _ h => h) (by kernel_rfl) (fun W hW => ?_) HI ?_
  rotate_left
  · have ⟨q0, q3, q4⟩ := sh W hW
    go_simp <;> exact rfl
  refine Drawn.take (i := 1) (v := ?v117) rfl (by kernel_rfl) (by kernel_rfl) (by kernel_rfl) (fun _ _ _ h => h) (by kernel_rfl) (fun W hW => ?_) HI ?_
  rotate_left
  · have ⟨q0, q3, q4⟩ := sh W hW
    go_simp <;> exact rfl
  refine Drawn.take (i := 2) (v := ?v118) rfl (by kernel_rfl) (by kernel_rfl) (by kernel_rfl) (fun _ _ _ h => h) (by kernel_rfl) (fun W hW => ?_) HI ?_
  rotate_left
  · have ⟨q0, q3, q4⟩ := sh W hW
    go_simp <;> exact rfl
  refine Drawn.take (i := 3) (v := ?v119) rfl (by kernel_rfl) (by kernel_rfl) (by kernel_rfl) (fun _ _ _ h => h) (by kernel_rfl) (fun W hW => ?_) HI ?_
  rotate_left
  · have ⟨q0, q3, q4⟩ := sh W hW
    go_simp <;> exact rfl
  refine Drawn.take (i := 5) (v := ?v120) rfl (by kernel_rfl) (by kernel_rfl) (by kernel_rfl) (fun _ _ _ h => h) (by kernel_rfl) (fun W hW => ?_) HI ?_
  rotate_left
  · have ⟨q0, q3, q4⟩ := sh W hW
    go_simp <;> exact rfl
  refine Drawn.one (j := 4) (by kernel_rfl) rfl (fun K hK => ?_)
  go_simp
  refine (refAdd23 _ _ _ _ y1 y2 _ m1 m2 HC1.out.1.1 HC2.out.1.1 (by have := Y1.out; omega) (by have := Y2.out; omega)).mono ?_
  rintro e w5 ⟨y5, p5, g5, rfl, O5, C5, V5, h5⟩
  refine hK _ _ (HI.keep h5) ?_
  clear hK K
  replace HI := HI.keep h5
  replace HF := HF.keep h5
  obtain ⟨x9, x8, he, _, _, m5⟩ := O5.lie
  simp only [Value.slice.injEq, true_and] at he
  obtain ⟨rfl, rfl⟩ := he
  have hlen5 : y5.length ≤ 10000 := by have v1 := (Nt.can_len HC1.out.1 8800).2 Y1.out; have v2 := (Nt.can_len HC2.out.1 8800).2 Y2.out; exact Nat.le_trans ((Nt.can_len C5 8801).1 (by rw [V5]; exact sum_lt88 v1 v2)) (by omega)
  clear O5 h5
  refine Drawn.one (j := 6) (by kernel_rfl) rfl (fun K hK => ?_)
  go_simp
  refine (formX n _ _ y5 e2 _ m5 C5 hlen5 (by omega) (by omega)).mono ?_
  rintro e w6 ⟨n6, z6, x6, a6, c6, rfl, F6, l6, h6⟩
  refine hK _ _ (HI.keep h6) ?_
  clear hK K
  replace HI := HI.keep h6
  replace HF := HF.keep h6
  have H6 := Hide.mk (And.intro F6 l6)
  rw [V5, HC1.out.2, HC2.out.2, sv_add] at H6
  clear F6 l6 h6 V5 C5 hlen5 m5 m1 m2
  obtain ⟨⟨f0, f1, f2⟩, r0, r1, r2⟩ := cells3 HF (w.heap.size + 1 + 1) _ _ _ _ (.head _)
  have HF2 := HF.fill3 (by omega) (by simp; omega) (.bool n6) (.slice a6 z6.length c6) (.int .i64 x6)
  refine Drawn.one (j := 7) (by kernel_rfl) rfl (fun K hK => ?_)
  go_simp
  replace HI := HF2.sub (L' := [(w.heap.size + 1, DO n a2 z2.length c2 e2), (w.heap.size, DO n a1 z1.length c1 e1)]) (by simp)
  refine hK _ _ HI ?_
  clear hK K f0 f1 f2 r0 r1 r2
  refine Drawn.done (by kernel_rfl) ?_
  try go_simp
  go_wp2
  refine bodyPost_ret (results_D1 rfl _ _ (w.heap.size + 1 + 1) _ rfl ⟨HF2.head, rfl⟩) rfl ?_
  have L := Live.set3 (g := w.heap.size + 1 + 1) ⟨HF.head, rfl⟩ (.bool n6) (.slice a6 z6.length c6) (.int .i64 x6) (Live.one H6.out.2)
  exact ⟨n6, z6, x6, a6, c6, rfl, H6.out.1, L.all (a6, z6) (.head _), HF2.bel⟩
set_option maxHeartbeats 2000000 in
theorem addX_lt_ge (n : Bool) (a1 a2 : Option Addr) (c1 c2 : Nat) (z1 z2 : List Int) (e1 e2 : Int) (w : World) (l1 : Lie w a1 z1) (l2 : Lie w a2 z2) (q1 : Nt.Can z1) (q2 : Nt.Can z2) (hl1 : z1.length ≤ 4100) (hl2 : z2.length ≤ 4100) (hz1 : 0 < z1.length) (hz2 : 0 < z2.length) (b1 : -20000000 ≤ e1) (b2 : e1 ≤ 20000000) (b3 : -20000000 ≤ e2) (b4 : e2 ≤ 20000000) (k1 k2 : Nat) (hk1 : k1 ≤ 150000) (hk2 : k2 ≤ 150000) (ho : e2 < e1) (hh1 : e1 - e2 = k1) (hh2 : e2 - e2 = k2) (hv : Nt.val z2 * 2 ^ k2 ≤ Nt.val z1 * 2 ^ k1) :
    Calls Tryd.prog 42 #[dV n a1 z1.length c1 e1, dV (!n) a2 z2.length c2 e2] w fun e w' => RF w w' (sv n (Nt.val z1 * 2 ^ k1) + sv (!n) (Nt.val z2 * 2 ^ k2)) e2 e := by
  have B1 := (((Bx.nil w).push (DO n a1 z1.length c1 e1)).push (DO (!n) a2 z2.length c2 e2)).push (DO false none 0 0 0)
  have d1 : ((z1.length : Int) == 0) = false := beq_eq_false_iff_ne.2 (by omega)
  have d2 : ((z2.length : Int) == 0) = false := beq_eq_false_iff_ne.2 (by omega)
  have d3 : (n == (!n)) = false := by cases n <;> rfl
  go_enter Tryd.func42, Tryd.ntmps42
  go_wp2_with fail
  rw [show ((w.alloc (DO n a1 z1.length c1 e1)).alloc (DO (!n) a2 z2.length c2 e2)).heap.size = w.heap.size + 1 + 1 by simp, show (w.alloc (DO n a1 z1.length c1 e1)).heap.size = w.heap.size + 1 by simp] at B1
  generalize hw1 : ((w.alloc (DO n a1 z1.length c1 e1)).alloc (DO (!n) a2 z2.length c2 e2)).alloc (DO false none 0 0 0) = w1 at *
  clear hw1
  refine (refUpA a1 c1 z1 _ _ k1 (by omega) (by omega) (l1.below B1.bel (Nat.le_refl _)) q1.1 (by omega)).mono ?_
  rintro e w2 ⟨y1, p1, g1, rfl, O1, C1, V1, h2⟩
  have B2 := B1.keep h2
  obtain ⟨x9, x8, he, _, _, m1⟩ := O1.lie
  simp only [Value.slice.injEq, true_and] at he
  obtain ⟨rfl, rfl⟩ := he
  obtain ⟨⟨s0, s1, s2⟩, _⟩ := cells3 B2 (w.heap.size + 1) _ _ _ _ (.tail _ (.head _))
  obtain ⟨⟨r0, r1, r2⟩, _⟩ := cells3 B2 w.heap.size _ _ _ _ (.tail _ (.tail _ (.head _)))
  have Y1 := Hide.mk (len_up q1 hl1 hk1 C1 V1)
  have HC1 := Hide.mk (And.intro C1 V1)
  clear O1 h2 B1 C1 V1
  go_wp2_with fail
  refine (refUpA a2 c2 z2 _ _ k2 (by omega) (by omega) (l2.below B2.bel (Nat.le_refl _)) q2.1 (by omega)).mono ?_
  rintro e w3 ⟨y2, p2, g2, rfl, O2, C2, V2, h3⟩
  have HF := B2.keep h3
  replace m1 := m1.below h3 (Nat.le_refl _)
  obtain ⟨x9, x8, he, _, _, m2⟩ := O2.lie
  simp only [Value.slice.injEq, true_and] at he
  obtain ⟨rfl, rfl⟩ := he
  have Y2 := Hide.mk (len_up q2 hl2 hk2 C2 V2)
  have HC2 := Hide.mk (And.intro C2 V2)
  clear O2 h3 B2 C2 V2 s0 s1 s2 r0 r1 r2
  obtain ⟨⟨s0, s1, s2⟩, _⟩ := cells3 HF (w.heap.size + 1) _ _ _ _ (.tail _ (.head _))
  obtain ⟨⟨r0, r1, r2⟩, _⟩ := cells3 HF w.heap.size _ _ _ _ (.tail _ (.tail _ (.head _)))
  go_wp2_with fail
  have hsg := sgn_ge (x := Nt.val y1) (y := Nt.val y2) (by rw [HC1.out.2, HC2.out.2]; exact hv)
  refine (refCmp22 _ _ _ _ y1 y2 _ m1 m2 HC1.out.1 HC2.out.1 (by have := Y1.out; unfold maxLen; omega)).mono ?_
  rintro e w4 ⟨rfl, h4⟩
  replace HF := HF.keep h4
  replace m1 := m1.below h4 (Nat.le_refl _)
  replace m2 := m2.below h4 (Nat.le_refl _)
  clear h4 s0 s1 s2 r0 r1 r2
  generalize sgn (Nt.val y1) (Nt.val y2) = sg0 at *
  go_wp2_with fail
  replace HF := HF.drew
  replace m1 := m1.below (Below.refl _ _).drew (Nat.le_refl _)
  replace m2 := m2.below (Below.refl _ _).drew (Nat.le_refl _)
  have HI := HF.sub (L' := [(w.heap.size + 1, DO (!n) a2 z2.length c2 e2), (w.heap.size, DO n a1 z1.length c1 e1)]) (by simp)
  have sh := fun W (hW : Bx w [(w.heap.size + 1, DO (!n) a2 z2.length c2 e2), (w.heap.size, DO n a1 z1.length c1 e1)] W) => (cells3 hW w.heap.size _ _ _ _ (.tail _ (.head _))).1
  refine Drawn.enter (Bx w [(w.heap.size + 1, DO (!n) a2 z2.length c2 e2), (w.heap.size, DO n a1 z1.length c1 e1)]) (by kernel_rfl) ?_
  refine Drawn.take (i := 0) (v := ?v121) rfl (by kernel_rfl) (by kernel_rfl) (by kernel_rfl) (fun _ _ _ h => h) (by kernel_rfl) (fun W hW => ?_) HI ?_
  rotate_left
  · have ⟨q0, q3, q4⟩ := sh W hW
    go_simp <;> exact rfl
  refine Drawn.take (i := 1) (v := ?v122) rfl (by kernel_rfl) (by kernel_rfl) (by kernel_rfl) (fun _ _ _ h => h) (by kernel_rfl) (fun W hW => ?_) HI ?_
  rotate_left
  · have ⟨q0, q3, q4⟩ := sh W hW
    go_simp <;> exact rfl
  refine Drawn.take (i := 2) (v := ?v123) rfl (by kernel_rfl) (by kernel_rfl) (by kernel_rfl) (fun _ _ _ h => h) (by kernel_rfl) (fun W hW => ?_) HI ?_
  rotate_left
  · have ⟨q0, q3, q4⟩ := sh W hW
    go_simp <;> exact rfl
  refine Drawn.take (i := 3) (v := ?v124) rfl (by kernel_rfl) (by kernel_rfl) (by kernel_rfl) (fun _ _ _ h => h) (by kernel_rfl) (fun W hW => ?_) HI ?_
  rotate_left
  · have ⟨q0, q3, q4⟩ := sh W hW
    go_simp <;> exact rfl
  refine Drawn.take (i := 5) (v := ?v125) rfl (by kernel_rfl) (by kernel_rfl) (by kernel_rfl) (fun _ _ _ h => h) (by kernel_rfl) (fun W hW => ?_) HI ?_
  rotate_left
  · have ⟨q0, q3, q4⟩ := sh W hW
    go_simp <;> exact rfl
  refine Drawn.one (j := 4) (by kernel_rfl) rfl (fun K hK => ?_)
  go_simp
  refine (refSub24 _ _ _ _ y1 y2 _ m1 m2 HC1.out.1.1 HC2.out.1.1 (by have := Y1.out; omega) (can_len_le HC2.out.1 HC1.out.1 (by rw [HC1.out.2, HC2.out.2]; exact hv)) (by rw [HC1.out.2, HC2.out.2]; exact hv)).mono ?_
  rintro e w5 ⟨y5, p5, g5, rfl, O5, C5, V5, h5⟩
  refine hK _ _ (HI.keep h5) ?_
  clear hK K
  replace HI := HI.keep h5
  replace HF := HF.keep h5
  obtain ⟨x9, x8, he, _, _, m5⟩ := O5.lie
  simp only [Value.slice.injEq, true_and] at he
  obtain ⟨rfl, rfl⟩ := he
  have hlen5 : y5.length ≤ 10000 := by exact Nat.le_trans (can_len_le C5 HC1.out.1 (by rw [V5]; have := (Nt.val_bd HC2.out.1.1).1; omega)) (Nat.le_trans Y1.out (by omega))
  clear O5 h5
  refine Drawn.one (j := 6) (by kernel_rfl) rfl (fun K hK => ?_)
  go_simp
  refine (formX n _ _ y5 e2 _ m5 C5 hlen5 (by omega) (by omega)).mono ?_
  rintro e w6 ⟨n6, z6, x6, a6, c6, rfl, F6, l6, h6⟩
  refine hK _ _ (HI.keep h6) ?_
  clear hK K
  replace HI := HI.keep h6
  replace HF := HF.keep h6
  have H6 := Hide.mk (And.intro F6 l6)
  rw [V5, HC1.out.2, HC2.out.2, sv_sub] at H6
  clear F6 l6 h6 V5 C5 hlen5 m5 m1 m2
  obtain ⟨⟨f0, f1, f2⟩, r0, r1, r2⟩ := cells3 HF (w.heap.size + 1 + 1) _ _ _ _ (.head _)
  have HF2 := HF.fill3 (by omega) (by simp; omega) (.bool n6) (.slice a6 z6.length c6) (.int .i64 x6)
  refine Drawn.one (j := 7) (by kernel_rfl) rfl (fun K hK => ?_)
  go_simp
  replace HI := HF2.sub (L' := [(w.heap.size + 1, DO (!n) a2 z2.length c2 e2), (w.heap.size, DO n a1 z1.length c1 e1)]) (by simp)
  refine hK _ _ HI ?_
  clear hK K f0 f1 f2 r0 r1 r2
  refine Drawn.done (by kernel_rfl) ?_
  try go_simp
  go_wp2
  refine bodyPost_ret (results_D1 rfl _ _ (w.heap.size + 1 + 1) _ rfl ⟨HF2.head, rfl⟩) rfl ?_
  have L := Live.set3 (g := w.heap.size + 1 + 1) ⟨HF.head, rfl⟩ (.bool n6) (.slice a6 z6.length c6) (.int .i64 x6) (Live.one H6.out.2)
  exact ⟨n6, z6, x6, a6, c6, rfl, H6.out.1, L.all (a6, z6) (.head _), HF2.bel⟩
set_option maxHeartbeats 2000000 in
theorem addX_lt_lt (n : Bool) (a1 a2 : Option Addr) (c1 c2 : Nat) (z1 z2 : List Int) (e1 e2 : Int) (w : World) (l1 : Lie w a1 z1) (l2 : Lie w a2 z2) (q1 : Nt.Can z1) (q2 : Nt.Can z2) (hl1 : z1.length ≤ 4100) (hl2 : z2.length ≤ 4100) (hz1 : 0 < z1.length) (hz2 : 0 < z2.length) (b1 : -20000000 ≤ e1) (b2 : e1 ≤ 20000000) (b3 : -20000000 ≤ e2) (b4 : e2 ≤ 20000000) (k1 k2 : Nat) (hk1 : k1 ≤ 150000) (hk2 : k2 ≤ 150000) (ho : e2 < e1) (hh1 : e1 - e2 = k1) (hh2 : e2 - e2 = k2) (hv : Nt.val z1 * 2 ^ k1 < Nt.val z2 * 2 ^ k2) :
    Calls Tryd.prog 42 #[dV n a1 z1.length c1 e1, dV (!n) a2 z2.length c2 e2] w fun e w' => RF w w' (sv n (Nt.val z1 * 2 ^ k1) + sv (!n) (Nt.val z2 * 2 ^ k2)) e2 e := by
  have B1 := (((Bx.nil w).push (DO n a1 z1.length c1 e1)).push (DO (!n) a2 z2.length c2 e2)).push (DO false none 0 0 0)
  have d1 : ((z1.length : Int) == 0) = false := beq_eq_false_iff_ne.2 (by omega)
  have d2 : ((z2.length : Int) == 0) = false := beq_eq_false_iff_ne.2 (by omega)
  have d3 : (n == (!n)) = false := by cases n <;> rfl
  go_enter Tryd.func42, Tryd.ntmps42
  go_wp2_with fail
  rw [show ((w.alloc (DO n a1 z1.length c1 e1)).alloc (DO (!n) a2 z2.length c2 e2)).heap.size = w.heap.size + 1 + 1 by simp, show (w.alloc (DO n a1 z1.length c1 e1)).heap.size = w.heap.size + 1 by simp] at B1
  generalize hw1 : ((w.alloc (DO n a1 z1.length c1 e1)).alloc (DO (!n) a2 z2.length c2 e2)).alloc (DO false none 0 0 0) = w1 at *
  clear hw1
  refine (refUpA a1 c1 z1 _ _ k1 (by omega) (by omega) (l1.below B1.bel (Nat.le_refl _)) q1.1 (by omega)).mono ?_
  rintro e w2 ⟨y1, p1, g1, rfl, O1, C1, V1, h2⟩
  have B2 := B1.keep h2
  obtain ⟨x9, x8, he, _, _, m1⟩ := O1.lie
  simp only [Value.slice.injEq, true_and] at he
  obtain ⟨rfl, rfl⟩ := he
  obtain ⟨⟨s0, s1, s2⟩, _⟩ := cells3 B2 (w.heap.size + 1) _ _ _ _ (.tail _ (.head _))
  obtain ⟨⟨r0, r1, r2⟩, _⟩ := cells3 B2 w.heap.size _ _ _ _ (.tail _ (.tail _ (.head _)))
  have Y1 := Hide.mk (len_up q1 hl1 hk1 C1 V1)
  have HC1 := Hide.mk (And.intro C1 V1)
  clear O1 h2 B1 C1 V1
  go_wp2_with fail
  refine (refUpA a2 c2 z2 _ _ k2 (by omega) (by omega) (l2.below B2.bel (Nat.le_refl _)) q2.1 (by omega)).mono ?_
  rintro e w3 ⟨y2, p2, g2, rfl, O2, C2, V2, h3⟩
  have HF := B2.keep h3
  replace m1 := m1.below h3 (Nat.le_refl _)
  obtain ⟨x9, x8, he, _, _, m2⟩ := O2.lie
  simp only [Value.slice.injEq, true_and] at he
  obtain ⟨rfl, rfl⟩ := he
  have Y2 := Hide.mk (len_up q2 hl2 hk2 C2 V2)
  have HC2 := Hide.mk (And.intro C2 V2)
  clear O2 h3 B2 C2 V2 s0 s1 s2 r0 r1 r2
  obtain ⟨⟨s0, s1, s2⟩, _⟩ := cells3 HF (w.heap.size + 1) _ _ _ _ (.tail _ (.head _))
  obtain ⟨⟨r0, r1, r2⟩, _⟩ := cells3 HF w.heap.size _ _ _ _ (.tail _ (.tail _ (.head _)))
  go_wp2_with fail
  have hsg := sgn_less (x := Nt.val y1) (y := Nt.val y2) (by rw [HC1.out.2, HC2.out.2]; exact hv)
  refine (refCmp22 _ _ _ _ y1 y2 _ m1 m2 HC1.out.1 HC2.out.1 (by have := Y1.out; unfold maxLen; omega)).mono ?_
  rintro e w4 ⟨rfl, h4⟩
  replace HF := HF.keep h4
  replace m1 := m1.below h4 (Nat.le_refl _)
  replace m2 := m2.below h4 (Nat.le_refl _)
  clear h4 s0 s1 s2 r0 r1 r2
  generalize sgn (Nt.val y1) (Nt.val y2) = sg0 at *
  go_wp2_with fail
  replace HF := HF.drew
  replace m1 := m1.below (Below.refl _ _).drew (Nat.le_refl _)
  replace m2 := m2.below (Below.refl _ _).drew (Nat.le_refl _)
  have HI := HF.sub (L' := [(w.heap.size + 1, DO (!n) a2 z2.length c2 e2), (w.heap.size, DO n a1 z1.length c1 e1)]) (by simp)
  have sh := fun W (hW : Bx w [(w.heap.size + 1, DO (!n) a2 z2.length c2 e2), (w.heap.size, DO n a1 z1.length c1 e1)] W) => (cells3 hW (w.heap.size + 1) _ _ _ _ (.head _)).1
  refine Drawn.enter (Bx w [(w.heap.size + 1, DO (!n) a2 z2.length c2 e2), (w.heap.size, DO n a1 z1.length c1 e1)]) (by kernel_rfl) ?_
  refine Drawn.take (i := 0) (v := ?v126) rfl (by kernel_rfl) (by kernel_rfl) (by kernel_rfl) (fun _ _ _ h => h) (by kernel_rfl) (fun W hW => ?_) HI ?_
  rotate_left
  · have ⟨q0, q3, q4⟩ := sh W hW
    go_simp <;> exact rfl
  refine Drawn.take (i := 1) (v := ?v127) rfl (by kernel_rfl) (by kernel_rfl) (by kernel_rfl) (fun _ _ _ h => h) (by kernel_rfl) (fun W hW => ?_) HI ?_
  rotate_left
  · have ⟨q0, q3, q4⟩ := sh W hW
    go_simp <;> exact rfl
  refine Drawn.take (i := 2) (v := ?v128) rfl (by kernel_rfl) (by kernel_rfl) (by kernel_rfl) (fun _ _ _ h => h) (by kernel_rfl) (fun W hW => ?_) HI ?_
  rotate_left
  · have ⟨q0, q3, q4⟩ := sh W hW
    go_simp <;> exact rfl
  refine Drawn.take (i := 3) (v := ?v129) rfl (by kernel_rfl) (by kernel_rfl) (by kernel_rfl) (fun _ _ _ h => h) (by kernel_rfl) (fun W hW => ?_) HI ?_
  rotate_left
  · have ⟨q0, q3, q4⟩ := sh W hW
    go_simp <;> exact rfl
  refine Drawn.take (i := 5) (v := ?v130) rfl (by kernel_rfl) (by kernel_rfl) (by kernel_rfl) (fun _ _ _ h => h) (by kernel_rfl) (fun W hW => ?_) HI ?_
  rotate_left
  · have ⟨q0, q3, q4⟩ := sh W hW
    go_simp <;> exact rfl
  refine Drawn.one (j := 4) (by kernel_rfl) rfl (fun K hK => ?_)
  go_simp
  refine (refSub24 _ _ _ _ y2 y1 _ m2 m1 HC2.out.1.1 HC1.out.1.1 (by have := Y2.out; omega) (can_len_le HC1.out.1 HC2.out.1 (by rw [HC1.out.2, HC2.out.2]; exact Int.le_of_lt hv)) (by rw [HC1.out.2, HC2.out.2]; exact Int.le_of_lt hv)).mono ?_
  rintro e w5 ⟨y5, p5, g5, rfl, O5, C5, V5, h5⟩
  refine hK _ _ (HI.keep h5) ?_
  clear hK K
  replace HI := HI.keep h5
  replace HF := HF.keep h5
  obtain ⟨x9, x8, he, _, _, m5⟩ := O5.lie
  simp only [Value.slice.injEq, true_and] at he
  obtain ⟨rfl, rfl⟩ := he
  have hlen5 : y5.length ≤ 10000 := by exact Nat.le_trans (can_len_le C5 HC2.out.1 (by rw [V5]; have := (Nt.val_bd HC1.out.1.1).1; omega)) (Nat.le_trans Y2.out (by omega))
  clear O5 h5
  refine Drawn.one (j := 6) (by kernel_rfl) rfl (fun K hK => ?_)
  go_simp
  refine (formX (!n) _ _ y5 e2 _ m5 C5 hlen5 (by omega) (by omega)).mono ?_
  rintro e w6 ⟨n6, z6, x6, a6, c6, rfl, F6, l6, h6⟩
  refine hK _ _ (HI.keep h6) ?_
  clear hK K
  replace HI := HI.keep h6
  replace HF := HF.keep h6
  have H6 := Hide.mk (And.intro F6 l6)
  rw [V5, HC1.out.2, HC2.out.2, sv_sub2] at H6
  clear F6 l6 h6 V5 C5 hlen5 m5 m1 m2
  obtain ⟨⟨f0, f1, f2⟩, r0, r1, r2⟩ := cells3 HF (w.heap.size + 1 + 1) _ _ _ _ (.head _)
  have HF2 := HF.fill3 (by omega) (by simp; omega) (.bool n6) (.slice a6 z6.length c6) (.int .i64 x6)
  refine Drawn.one (j := 7) (by kernel_rfl) rfl (fun K hK => ?_)
  go_simp
  replace HI := HF2.sub (L' := [(w.heap.size + 1, DO (!n) a2 z2.length c2 e2), (w.heap.size, DO n a1 z1.length c1 e1)]) (by simp)
  refine hK _ _ HI ?_
  clear hK K f0 f1 f2 r0 r1 r2
  refine Drawn.done (by kernel_rfl) ?_
  try go_simp
  go_wp2
  refine bodyPost_ret (results_D1 rfl _ _ (w.heap.size + 1 + 1) _ rfl ⟨HF2.head, rfl⟩) rfl ?_
  have L := Live.set3 (g := w.heap.size + 1 + 1) ⟨HF.head, rfl⟩ (.bool n6) (.slice a6 z6.length c6) (.int .i64 x6) (Live.one H6.out.2)
  exact ⟨n6, z6, x6, a6, c6, rfl, H6.out.1, L.all (a6, z6) (.head _), HF2.bel⟩
end Go.Proofs.YteejaghimppcgaaDoor

namespace Go.Proofs.YteejaghimppcgaaDoor
open Go.RowKit Go.Wd Go.Box
set_option linter.unusedVariables false
set_option maxRecDepth 3000
set_option maxHeartbeats 2000000 in
theorem addX_ge_same (n : Bool) (a1 a2 : Option Addr) (c1 c2 : Nat) (z1 z2 : List Int) (e1 e2 : Int) (w : World) (l1 : Lie w a1 z1) (l2 : Lie w a2 z2) (q1 : Nt.Can z1) (q2 : Nt.Can z2) (hl1 : z1.length ≤ 4100) (hl2 : z2.length ≤ 4100) (hz1 : 0 < z1.length) (hz2 : 0 < z2.length) (b1 : -20000000 ≤ e1) (b2 : e1 ≤ 20000000) (b3 : -20000000 ≤ e2) (b4 : e2 ≤ 20000000) (k1 k2 : Nat) (hk1 : k1 ≤ 150000) (hk2 : k2 ≤ 150000) (ho : e1 ≤ e2) (hh1 : e1 - e1 = k1) (hh2 : e2 - e1 = k2)  :
    Calls Tryd.prog 42 #[dV n a1 z1.length c1 e1, dV n a2 z2.length c2 e2] w fun e w' => RF w w' (sv n (Nt.val z1 * 2 ^ k1) + sv n (Nt.val z2 * 2 ^ k2)) e1 e := by
  have B1 := (((Bx.nil w).push (DO n a1 z1.length c1 e1)).push (DO n a2 z2.length c2 e2)).push (DO false none 0 0 0)
  have d1 : ((z1.length : Int) == 0) = false := beq_eq_false_iff_ne.2 (by omega)
  have d2 : ((z2.length : Int) == 0) = false := beq_eq_false_iff_ne.2 (by omega)
  have d3 : (n == n) = true := by cases n <;> rfl
  go_enter Tryd.func42, Tryd.ntmps42
  go_wp2_with fail
  rw [show ((w.alloc (DO n a1 z1.length c1 e1)).alloc (DO n a2 z2.length c2 e2)).heap.size = w.heap.size + 1 + 1 by simp, show (w.alloc (DO n a1 z1.length c1 e1)).heap.size = w.heap.size + 1 by simp] at B1
  generalize hw1 : ((w.alloc (DO n a1 z1.length c1 e1)).alloc (DO n a2 z2.length c2 e2)).alloc (DO false none 0 0 0) = w1 at *
  clear hw1
  refine (refUpA a1 c1 z1 _ _ k1 (by omega) (by omega) (l1.below B1.bel (Nat.le_refl _)) q1.1 (by omega)).mono ?_
  rintro e w2 ⟨y1, p1, g1, rfl, O1, C1, V1, h2⟩
  have B2 := B1.keep h2
  obtain ⟨x9, x8, he, _, _, m1⟩ := O1.lie
  simp only [Value.slice.injEq, true_and] at he
  obtain ⟨rfl, rfl⟩ := he
  obtain ⟨⟨s0, s1, s2⟩, _⟩ := cells3 B2 (w.heap.size + 1) _ _ _ _ (.tail _ (.head _))
  obtain ⟨⟨r0, r1, r2⟩, _⟩ := cells3 B2 w.heap.size _ _ _ _ (.tail _ (.tail _ (.head _)))
  have Y1 := Hide.mk (len_up q1 hl1 hk1 C1 V1)
  have HC1 := Hide.mk (And.intro C1 V1)
  clear O1 h2 B1 C1 V1
  go_wp2_with fail
  refine (refUpA a2 c2 z2 _ _ k2 (by omega) (by omega) (l2.below B2.bel (Nat.le_refl _)) q2.1 (by omega)).mono ?_
  rintro e w3 ⟨y2, p2, g2, rfl, O2, C2, V2, h3⟩
  have HF := B2.keep h3
  replace m1 := m1.below h3 (Nat.le_refl _)
  obtain ⟨x9, x8, he, _, _, m2⟩ := O2.lie
  simp only [Value.slice.injEq, true_and] at he
  obtain ⟨rfl, rfl⟩ := he
  have Y2 := Hide.mk (len_up q2 hl2 hk2 C2 V2)
  have HC2 := Hide.mk (And.intro C2 V2)
  clear O2 h3 B2 C2 V2 s0 s1 s2 r0 r1 r2
  obtain ⟨⟨s0, s1, s2⟩, _⟩ := cells3 HF (w.heap.size + 1) _ _ _ _ (.tail _ (.head _))
  obtain ⟨⟨r0, r1, r2⟩, _⟩ := cells3 HF w.heap.size _ _ _ _ (.tail _ (.tail _ (.head _)))
  go_wp2_with fail
  replace HF := HF.drew
  replace m1 := m1.below (Below.refl _ _).drew (Nat.le_refl _)
  replace m2 := m2.below (Below.refl _ _).drew (Nat.le_refl _)
  have HI := HF.sub (L' := [(w.heap.size + 1, DO n a2 z2.length c2 e2), (w.heap.size, DO n a1 z1.length c1 e1)]) (by simp)
  have sh := fun W (hW : Bx w [(w.heap.size + 1, DO n a2 z2.length c2 e2), (w.heap.size, DO n a1 z1.length c1 e1)] W) => (cells3 hW w.heap.size _ _ _ _ (.tail _ (.head _))).1
  refine Drawn.enter (Bx w [(w.heap.size + 1, DO n a2 z2.length c2 e2), (w.heap.size, DO n a1 z1.length c1 e1)]) (by kernel_rfl) ?_
  refine Drawn.take (i := 0) (v := ?v131) rfl (by kernel_rfl) (by kernel_rfl) (by kernel_rfl) (fun _ _ _ h => h) (by kernel_rfl) (fun W hW => ?_) HI ?_
  rotate_left
  · have ⟨q0, q3, q4⟩ := sh W hW
    go_simp <;> exact rfl
  refine Drawn.take (i := 1) (v := ?v132) rfl (by kernel_rfl) (by kernel_rfl) (by kernel_rfl) (fun _ _ _ h => h) (by kernel_rfl) (fun W hW => ?_) HI ?_
  rotate_left
  · have ⟨q0, q3, q4⟩ := sh W hW
    go_simp <;> exact rfl
  refine Drawn.take (i := 2) (v := ?v133) rfl (by kernel_rfl) (by kernel_rfl) (by kernel_rfl) (fun _ _ _ h => h) (by kernel_rfl) (fun W hW => ?_) HI ?_
  rotate_left
  · have ⟨q0, q3, q4⟩ := sh W hW
    go_simp <;> exact rfl
  refine Drawn.take (i := 3) (v := ?v134) rfl (by kernel_rfl) (by kernel_rfl) (by kernel_rfl) (fun _ _ _ h => h) (by kernel_rfl) (fun W hW => ?_) HI ?_
  rotate_left
  · have ⟨q0, q3, q4⟩ := sh W hW
    go_simp <;> exact rfl
  refine Drawn.take (i := 5) (v := ?v135) rfl (by kernel_rfl) (by kernel_rfl) (by kernel_rfl) (fun _ _ _ h => h) (by kernel_rfl) (fun W hW => ?_) HI ?_
  rotate_left
  · have ⟨q0, q3, q4⟩ := sh W hW
    go_simp <;> exact rfl
  refine Drawn.one (j := 4) (by kernel_rfl) rfl (fun K hK => ?_)
  go_simp
  refine (refAdd23 _ _ _ _ y1 y2 _ m1 m2 HC1.out.1.1 HC2.out.1.1 (by have := Y1.out; omega) (by have := Y2.out; omega)).mono ?_
  rintro e w5 ⟨y5, p5, g5, rfl, O5, C5, V5, h5⟩
  refine hK _ _ (HI.keep h5) ?_
  clear hK K
  replace HI := HI.keep h5
  replace HF := HF.keep h5
  obtain ⟨x9, x8, he, _, _, m5⟩ := O5.lie
  simp only [Value.slice.injEq, true_and] at he
  obtain ⟨rfl, rfl⟩ := he
  have hlen5 : y5.length ≤ 10000 := by have v1 := (Nt.can_len HC1.out.1 8800).2 Y1.out; have v2 := (Nt.can_len HC2.out.1 8800).2 Y2.out; exact Nat.le_trans ((Nt.can_len C5 8801).1 (by rw [V5]; exact sum_lt88 v1 v2)) (by omega)
  clear O5 h5
  refine Drawn.one (j := 6) (by kernel_rfl) rfl (fun K hK => ?_)
  go_simp
  refine (formX n _ _ y5 e1 _ m5 C5 hlen5 (by omega) (by omega)).mono ?_
  rintro e w6 ⟨n6, z6, x6, a6, c6, rfl, F6, l6, h6⟩
  refine hK _ _ (HI.keep h6) ?_
  clear hK K
  replace HI := HI.keep h6
  replace HF := HF.keep h6
  have H6 := Hide.mk (And.intro F6 l6)
  rw [V5, HC1.out.2, HC2.out.2, sv_add] at H6
  clear F6 l6 h6 V5 C5 hlen5 m5 m1 m2
  obtain ⟨⟨f0, f1, f2⟩, r0, r1, r2⟩ := cells3 HF (w.heap.size + 1 + 1) _ _ _ _ (.head _)
  have HF2 := HF.fill3 (by omega) (by simp; omega) (.bool n6) (.slice a6 z6.length c6) (.int .i64 x6)
  refine Drawn.one (j := 7) (by kernel_rfl) rfl (fun K hK => ?_)
  go_simp
  replace HI := HF2.sub (L' := [(w.heap.size + 1, DO n a2 z2.length c2 e2), (w.heap.size, DO n a1 z1.length c1 e1)]) (by simp)
  refine hK _ _ HI ?_
  clear hK K f0 f1 f2 r0 r1 r2
  refine Drawn.done (by kernel_rfl) ?_
  try go_simp
  go_wp2
  refine bodyPost_ret (results_D1 rfl _ _ (w.heap.size + 1 + 1) _ rfl ⟨HF2.head, rfl⟩) rfl ?_
  have L := Live.set3 (g := w.heap.size + 1 + 1) ⟨HF.head, rfl⟩ (.bool n6) (.slice a6 z6.length c6) (.int .i64 x6) (Live.one H6.out.2)
  exact ⟨n6, z6, x6, a6, c6, rfl, H6.out.1, L.all (a6, z6) (.head _), HF2.bel⟩
set_option maxHeartbeats 2000000 in
theorem addX_ge_ge (n : Bool) (a1 a2 : Option Addr) (c1 c2 : Nat) (z1 z2 : List Int) (e1 e2 : Int) (w : World) (l1 : Lie w a1 z1) (l2 : Lie w a2 z2) (q1 : Nt.Can z1) (q2 : Nt.Can z2) (hl1 : z1.length ≤ 4100) (hl2 : z2.length ≤ 4100) (hz1 : 0 < z1.length) (hz2 : 0 < z2.length) (b1 : -20000000 ≤ e1) (b2 : e1 ≤ 20000000) (b3 : -20000000 ≤ e2) (b4 : e2 ≤ 20000000) (k1 k2 : Nat) (hk1 : k1 ≤ 150000) (hk2 : k2 ≤ 150000) (ho : e1 ≤ e2) (hh1 : e1 - e1 = k1) (hh2 : e2 - e1 = k2) (hv : Nt.val z2 * 2 ^ k2 ≤ Nt.val z1 * 2 ^ k1) :
    Calls Tryd.prog 42 #[dV n a1 z1.length c1 e1, dV (!n) a2 z2.length c2 e2] w fun e w' => RF w w' (sv n (Nt.val z1 * 2 ^ k1) + sv (!n) (Nt.val z2 * 2 ^ k2)) e1 e := by
  have B1 := (((Bx.nil w).push (DO n a1 z1.length c1 e1)).push (DO (!n) a2 z2.length c2 e2)).push (DO false none 0 0 0)
  have d1 : ((z1.length : Int) == 0) = false := beq_eq_false_iff_ne.2 (by omega)
  have d2 : ((z2.length : Int) == 0) = false := beq_eq_false_iff_ne.2 (by omega)
  have d3 : (n == (!n)) = false := by cases n <;> rfl
  go_enter Tryd.func42, Tryd.ntmps42
  go_wp2_with fail
  rw [show ((w.alloc (DO n a1 z1.length c1 e1)).alloc (DO (!n) a2 z2.length c2 e2)).heap.size = w.heap.size + 1 + 1 by simp, show (w.alloc (DO n a1 z1.length c1 e1)).heap.size = w.heap.size + 1 by simp] at B1
  generalize hw1 : ((w.alloc (DO n a1 z1.length c1 e1)).alloc (DO (!n) a2 z2.length c2 e2)).alloc (DO false none 0 0 0) = w1 at *
  clear hw1
  refine (refUpA a1 c1 z1 _ _ k1 (by omega) (by omega) (l1.below B1.bel (Nat.le_refl _)) q1.1 (by omega)).mono ?_
  rintro e w2 ⟨y1, p1, g1, rfl, O1, C1, V1, h2⟩
  have B2 := B1.keep h2
  obtain ⟨x9, x8, he, _, _, m1⟩ := O1.lie
  simp only [Value.slice.injEq, true_and] at he
  obtain ⟨rfl, rfl⟩ := he
  obtain ⟨⟨s0, s1, s2⟩, _⟩ := cells3 B2 (w.heap.size + 1) _ _ _ _ (.tail _ (.head _))
  obtain ⟨⟨r0, r1, r2⟩, _⟩ := cells3 B2 w.heap.size _ _ _ _ (.tail _ (.tail _ (.head _)))
  have Y1 := Hide.mk (len_up q1 hl1 hk1 C1 V1)
  have HC1 := Hide.mk (And.intro C1 V1)
  clear O1 h2 B1 C1 V1
  go_wp2_with fail
  refine (refUpA a2 c2 z2 _ _ k2 (by omega) (by omega) (l2.below B2.bel (Nat.le_refl _)) q2.1 (by omega)).mono ?_
  rintro e w3 ⟨y2, p2, g2, rfl, O2, C2, V2, h3⟩
  have HF := B2.keep h3
  replace m1 := m1.below h3 (Nat.le_refl _)
  obtain ⟨x9, x8, he, _, _, m2⟩ := O2.lie
  simp only [Value.slice.injEq, true_and] at he
  obtain ⟨rfl, rfl⟩ := he
  have Y2 := Hide.mk (len_up q2 hl2 hk2 C2 V2)
  have HC2 := Hide.mk (And.intro C2 V2)
  clear O2 h3 B2 C2 V2 s0 s1 s2 r0 r1 r2
  obtain ⟨⟨s0, s1, s2⟩, _⟩ := cells3 HF (w.heap.size + 1) _ _ _ _ (.tail _ (.head _))
  obtain ⟨⟨r0, r1, r2⟩, _⟩ := cells3 HF w.heap.size _ _ _ _ (.tail _ (.tail _ (.head _)))
  go_wp2_with fail
  have hsg := sgn_ge (x := Nt.val y1) (y := Nt.val y2) (by rw [HC1.out.2, HC2.out.2]; exact hv)
  refine (refCmp22 _ _ _ _ y1 y2 _ m1 m2 HC1.out.1 HC2.out.1 (by have := Y1.out; unfold maxLen; omega)).mono ?_
  rintro e w4 ⟨rfl, h4⟩
  replace HF := HF.keep h4
  replace m1 := m1.below h4 (Nat.le_refl _)
  replace m2 := m2.below h4 (Nat.le_refl _)
  clear h4 s0 s1 s2 r0 r1 r2
  generalize sgn (Nt.val y1) (Nt.val y2) = sg0 at *
  go_wp2_with fail
  replace HF := HF.drew
  replace m1 := m1.below (Below.refl _ _).drew (Nat.le_refl _)
  replace m2 := m2.below (Below.refl _ _).drew (Nat.le_refl _)
  have HI := HF.sub (L' := [(w.heap.size + 1, DO (!n) a2 z2.length c2 e2), (w.heap.size, DO n a1 z1.length c1 e1)]) (by simp)
  have sh := fun W (hW : Bx w [(w.heap.size + 1, DO (!n) a2 z2.length c2 e2), (w.heap.size, DO n a1 z1.length c1 e1)] W) => (cells3 hW w.heap.size _ _ _ _ (.tail _ (.head _))).1
  refine Drawn.enter (Bx w [(w.heap.size + 1, DO (!n) a2 z2.length c2 e2), (w.heap.size, DO n a1 z1.length c1 e1)]) (by kernel_rfl) ?_
  refine Drawn.take (i := 0) (v := ?v136) rfl (by kernel_rfl) (by kernel_rfl) (by kernel_rfl) (fun _ _ _ h => h) (by kernel_rfl) (fun W hW => ?_) HI ?_
  rotate_left
  · have ⟨q0, q3, q4⟩ := sh W hW
    go_simp <;> exact rfl
  refine Drawn.take (i := 1) (v := ?v137) rfl (by kernel_rfl) (by kernel_rfl) (by kernel_rfl) (fun _ _ _ h => h) (by kernel_rfl) (fun W hW => ?_) HI ?_
  rotate_left
  · have ⟨q0, q3, q4⟩ := sh W hW
    go_simp <;> exact rfl
  refine Drawn.take (i := 2) (v := ?v138) rfl (by kernel_rfl) (by kernel_rfl) (by kernel_rfl) (fun _ _ _ h => h) (by kernel_rfl) (fun W hW => ?_) HI ?_
  rotate_left
  · have ⟨q0, q3, q4⟩ := sh W hW
    go_simp <;> exact rfl
  refine Drawn.take (i := 3) (v := ?v139) rfl (by kernel_rfl) (by kernel_rfl) (by kernel_rfl) (fun _ _ _ h => h) (by kernel_rfl) (fun W hW => ?_) HI ?_
  rotate_left
  · have ⟨q0, q3, q4⟩ := sh W hW
    go_simp <;> exact rfl
  refine Drawn.take (i := 5) (v := ?v140) rfl (by kernel_rfl) (by kernel_rfl) (by kernel_rfl) (fun _ _ _ h => h) (by kernel_rfl) (fun W hW => ?_) HI ?_
  rotate_left
  · have ⟨q0, q3, q4⟩ := sh W hW
    go_simp <;> exact rfl
  refine Drawn.one (j := 4) (by kernel_rfl) rfl (fun K hK => ?_)
  go_simp
  refine (refSub24 _ _ _ _ y1 y2 _ m1 m2 HC1.out.1.1 HC2.out.1.1 (by have := Y1.out; omega) (can_len_le HC2.out.1 HC1.out.1 (by rw [HC1.out.2, HC2.out.2]; exact hv)) (by rw [HC1.out.2, HC2.out.2]; exact hv)).mono ?_
  rintro e w5 ⟨y5, p5, g5, rfl, O5, C5, V5, h5⟩
  refine hK _ _ (HI.keep h5) ?_
  clear hK K
  replace HI := HI.keep h5
  replace HF := HF.keep h5
  obtain ⟨x9, x8, he, _, _, m5⟩ := O5.lie
  simp only [Value.slice.injEq, true_and] at he
  obtain ⟨rfl, rfl⟩ := he
  have hlen5 : y5.length ≤ 10000 := by exact Nat.le_trans (can_len_le C5 HC1.out.1 (by rw [V5]; have := (Nt.val_bd HC2.out.1.1).1; omega)) (Nat.le_trans Y1.out (by omega))
  clear O5 h5
  refine Drawn.one (j := 6) (by kernel_rfl) rfl (fun K hK => ?_)
  go_simp
  refine (formX n _ _ y5 e1 _ m5 C5 hlen5 (by omega) (by omega)).mono ?_
  rintro e w6 ⟨n6, z6, x6, a6, c6, rfl, F6, l6, h6⟩
  refine hK _ _ (HI.keep h6) ?_
  clear hK K
  replace HI := HI.keep h6
  replace HF := HF.keep h6
  have H6 := Hide.mk (And.intro F6 l6)
  rw [V5, HC1.out.2, HC2.out.2, sv_sub] at H6
  clear F6 l6 h6 V5 C5 hlen5 m5 m1 m2
  obtain ⟨⟨f0, f1, f2⟩, r0, r1, r2⟩ := cells3 HF (w.heap.size + 1 + 1) _ _ _ _ (.head _)
  have HF2 := HF.fill3 (by omega) (by simp; omega) (.bool n6) (.slice a6 z6.length c6) (.int .i64 x6)
  refine Drawn.one (j := 7) (by kernel_rfl) rfl (fun K hK => ?_)
  go_simp
  replace HI := HF2.sub (L' := [(w.heap.size + 1, DO (!n) a2 z2.length c2 e2), (w.heap.size, DO n a1 z1.length c1 e1)]) (by simp)
  refine hK _ _ HI ?_
  clear hK K f0 f1 f2 r0 r1 r2
  refine Drawn.done (by kernel_rfl) ?_
  try go_simp
  go_wp2
  refine bodyPost_ret (results_D1 rfl _ _ (w.heap.size + 1 + 1) _ rfl ⟨HF2.head, rfl⟩) rfl ?_
  have L := Live.set3 (g := w.heap.size + 1 + 1) ⟨HF.head, rfl⟩ (.bool n6) (.slice a6 z6.length c6) (.int .i64 x6) (Live.one H6.out.2)
  exact ⟨n6, z6, x6, a6, c6, rfl, H6.out.1, L.all (a6, z6) (.head _), HF2.bel⟩
set_option maxHeartbeats 2000000 in
theorem addX_ge_lt (n : Bool) (a1 a2 : Option Addr) (c1 c2 : Nat) (z1 z2 : List Int) (e1 e2 : Int) (w : World) (l1 : Lie w a1 z1) (l2 : Lie w a2 z2) (q1 : Nt.Can z1) (q2 : Nt.Can z2) (hl1 : z1.length ≤ 4100) (hl2 : z2.length ≤ 4100) (hz1 : 0 < z1.length) (hz2 : 0 < z2.length) (b1 : -20000000 ≤ e1) (b2 : e1 ≤ 20000000) (b3 : -20000000 ≤ e2) (b4 : e2 ≤ 20000000) (k1 k2 : Nat) (hk1 : k1 ≤ 150000) (hk2 : k2 ≤ 150000) (ho : e1 ≤ e2) (hh1 : e1 - e1 = k1) (hh2 : e2 - e1 = k2) (hv : Nt.val z1 * 2 ^ k1 < Nt.val z2 * 2 ^ k2) :
    Calls Tryd.prog 42 #[dV n a1 z1.length c1 e1, dV (!n) a2 z2.length c2 e2] w fun e w' => RF w w' (sv n (Nt.val z1 * 2 ^ k1) + sv (!n) (Nt.val z2 * 2 ^ k2)) e1 e := by
  have B1 := (((Bx.nil w).push (DO n a1 z1.length c1 e1)).push (DO (!n) a2 z2.length c2 e2)).push (DO false none 0 0 0)
  have d1 : ((z1.length : Int) == 0) = false := beq_eq_false_iff_ne.2 (by omega)
  have d2 : ((z2.length : Int) == 0) = false := beq_eq_false_iff_ne.2 (by omega)
  have d3 : (n == (!n)) = false := by cases n <;> rfl
  go_enter Tryd.func42, Tryd.ntmps42
  go_wp2_with fail
  rw [show ((w.alloc (DO n a1 z1.length c1 e1)).alloc (DO (!n) a2 z2.length c2 e2)).heap.size = w.heap.size + 1 + 1 by simp, show (w.alloc (DO n a1 z1.length c1 e1)).heap.size = w.heap.size + 1 by simp] at B1
  generalize hw1 : ((w.alloc (DO n a1 z1.length c1 e1)).alloc (DO (!n) a2 z2.length c2 e2)).alloc (DO false none 0 0 0) = w1 at *
  clear hw1
  refine (refUpA a1 c1 z1 _ _ k1 (by omega) (by omega) (l1.below B1.bel (Nat.le_refl _)) q1.1 (by omega)).mono ?_
  rintro e w2 ⟨y1, p1, g1, rfl, O1, C1, V1, h2⟩
  have B2 := B1.keep h2
  obtain ⟨x9, x8, he, _, _, m1⟩ := O1.lie
  simp only [Value.slice.injEq, true_and] at he
  obtain ⟨rfl, rfl⟩ := he
  obtain ⟨⟨s0, s1, s2⟩, _⟩ := cells3 B2 (w.heap.size + 1) _ _ _ _ (.tail _ (.head _))
  obtain ⟨⟨r0, r1, r2⟩, _⟩ := cells3 B2 w.heap.size _ _ _ _ (.tail _ (.tail _ (.head _)))
  have Y1 := Hide.mk (len_up q1 hl1 hk1 C1 V1)
  have HC1 := Hide.mk (And.intro C1 V1)
  clear O1 h2 B1 C1 V1
  go_wp2_with fail
  refine (refUpA a2 c2 z2 _ _ k2 (by omega) (by omega) (l2.below B2.bel (Nat.le_refl _)) q2.1 (by omega)).mono ?_
  rintro e w3 ⟨y2, p2, g2, rfl, O2, C2, V2, h3⟩
  have HF := B2.keep h3
  replace m1 := m1.below h3 (Nat.le_refl _)
  obtain ⟨x9, x8, he, _, _, m2⟩ := O2.lie
  simp only [Value.slice.injEq, true_and] at he
  obtain ⟨rfl, rfl⟩ := he
  have Y2 := Hide.mk (len_up q2 hl2 hk2 C2 V2)
  have HC2 := Hide.mk (And.intro C2 V2)
  clear O2 h3 B2 C2 V2 s0 s1 s2 r0 r1 r2
  obtain ⟨⟨s0, s1, s2⟩, _⟩ := cells3 HF (w.heap.size + 1) _ _ _ _ (.tail _ (.head _))
  obtain ⟨⟨r0, r1, r2⟩, _⟩ := cells3 HF w.heap.size _ _ _ _ (.tail _ (.tail _ (.head _)))
  go_wp2_with fail
  have hsg := sgn_less (x := Nt.val y1) (y := Nt.val y2) (by rw [HC1.out.2, HC2.out.2]; exact hv)
  refine (refCmp22 _ _ _ _ y1 y2 _ m1 m2 HC1.out.1 HC2.out.1 (by have := Y1.out; unfold maxLen; omega)).mono ?_
  rintro e w4 ⟨rfl, h4⟩
  replace HF := HF.keep h4
  replace m1 := m1.below h4 (Nat.le_refl _)
  replace m2 := m2.below h4 (Nat.le_refl _)
  clear h4 s0 s1 s2 r0 r1 r2
  generalize sgn (Nt.val y1) (Nt.val y2) = sg0 at *
  go_wp2_with fail
  replace HF := HF.drew
  replace m1 := m1.below (Below.refl _ _).drew (Nat.le_refl _)
  replace m2 := m2.below (Below.refl _ _).drew (Nat.le_refl _)
  have HI := HF.sub (L' := [(w.heap.size + 1, DO (!n) a2 z2.length c2 e2), (w.heap.size, DO n a1 z1.length c1 e1)]) (by simp)
  have sh := fun W (hW : Bx w [(w.heap.size + 1, DO (!n) a2 z2.length c2 e2), (w.heap.size, DO n a1 z1.length c1 e1)] W) => (cells3 hW (w.heap.size + 1) _ _ _ _ (.head _)).1
  refine Drawn.enter (Bx w [(w.heap.size + 1, DO (!n) a2 z2.length c2 e2), (w.heap.size, DO n a1 z1.length c1 e1)]) (by kernel_rfl) ?_
  refine Drawn.take (i := 0) (v := ?v141) rfl (by kernel_rfl) (by kernel_rfl) (by kernel_rfl) (fun _ _ _ h => h) (by kernel_rfl) (fun W hW => ?_) HI ?_
  rotate_left
  · have ⟨q0, q3, q4⟩ := sh W hW
    go_simp <;> exact rfl
  refine Drawn.take (i := 1) (v := ?v142) rfl (by kernel_rfl) (by kernel_rfl) (by kernel_rfl) (fun _ _ _ h => h) (by kernel_rfl) (fun W hW => ?_) HI ?_
  rotate_left
  · have ⟨q0, q3, q4⟩ := sh W hW
    go_simp <;> exact rfl
  refine Drawn.take (i := 2) (v := ?v143) rfl (by kernel_rfl) (by kernel_rfl) (by kernel_rfl) (fun _ _ _ h => h) (by kernel_rfl) (fun W hW => ?_) HI ?_
  rotate_left
  · have ⟨q0, q3, q4⟩ := sh W hW
    go_simp <;> exact rfl
  refine Drawn.take (i := 3) (v := ?v144) rfl (by kernel_rfl) (by kernel_rfl) (by kernel_rfl) (fun _ _ _ h => h) (by kernel_rfl) (fun W hW => ?_) HI ?_
  rotate_left
  · have ⟨q0, q3, q4⟩ := sh W hW
    go_simp <;> exact rfl
  refine Drawn.take (i := 5) (v := ?v145) rfl (by kernel_rfl) (by kernel_rfl) (by kernel_rfl) (fun _ _ _ h => h) (by kernel_rfl) (fun W hW => ?_) HI ?_
  rotate_left
  · have ⟨q0, q3, q4⟩ := sh W hW
    go_simp <;> exact rfl
  refine Drawn.one (j := 4) (by kernel_rfl) rfl (fun K hK => ?_)
  go_simp
  refine (refSub24 _ _ _ _ y2 y1 _ m2 m1 HC2.out.1.1 HC1.out.1.1 (by have := Y2.out; omega) (can_len_le HC1.out.1 HC2.out.1 (by rw [HC1.out.2, HC2.out.2]; exact Int.le_of_lt hv)) (by rw [HC1.out.2, HC2.out.2]; exact Int.le_of_lt hv)).mono ?_
  rintro e w5 ⟨y5, p5, g5, rfl, O5, C5, V5, h5⟩
  refine hK _ _ (HI.keep h5) ?_
  clear hK K
  replace HI := HI.keep h5
  replace HF := HF.keep h5
  obtain ⟨x9, x8, he, _, _, m5⟩ := O5.lie
  simp only [Value.slice.injEq, true_and] at he
  obtain ⟨rfl, rfl⟩ := he
  have hlen5 : y5.length ≤ 10000 := by exact Nat.le_trans (can_len_le C5 HC2.out.1 (by rw [V5]; have := (Nt.val_bd HC1.out.1.1).1; omega)) (Nat.le_trans Y2.out (by omega))
  clear O5 h5
  refine Drawn.one (j := 6) (by kernel_rfl) rfl (fun K hK => ?_)
  go_simp
  refine (formX (!n) _ _ y5 e1 _ m5 C5 hlen5 (by omega) (by omega)).mono ?_
  rintro e w6 ⟨n6, z6, x6, a6, c6, rfl, F6, l6, h6⟩
  refine hK _ _ (HI.keep h6) ?_
  clear hK K
  replace HI := HI.keep h6
  replace HF := HF.keep h6
  have H6 := Hide.mk (And.intro F6 l6)
  rw [V5, HC1.out.2, HC2.out.2, sv_sub2] at H6
  clear F6 l6 h6 V5 C5 hlen5 m5 m1 m2
  obtain ⟨⟨f0, f1, f2⟩, r0, r1, r2⟩ := cells3 HF (w.heap.size + 1 + 1) _ _ _ _ (.head _)
  have HF2 := HF.fill3 (by omega) (by simp; omega) (.bool n6) (.slice a6 z6.length c6) (.int .i64 x6)
  refine Drawn.one (j := 7) (by kernel_rfl) rfl (fun K hK => ?_)
  go_simp
  replace HI := HF2.sub (L' := [(w.heap.size + 1, DO (!n) a2 z2.length c2 e2), (w.heap.size, DO n a1 z1.length c1 e1)]) (by simp)
  refine hK _ _ HI ?_
  clear hK K f0 f1 f2 r0 r1 r2
  refine Drawn.done (by kernel_rfl) ?_
  try go_simp
  go_wp2
  refine bodyPost_ret (results_D1 rfl _ _ (w.heap.size + 1 + 1) _ rfl ⟨HF2.head, rfl⟩) rfl ?_
  have L := Live.set3 (g := w.heap.size + 1 + 1) ⟨HF.head, rfl⟩ (.bool n6) (.slice a6 z6.length c6) (.int .i64 x6) (Live.one H6.out.2)
  exact ⟨n6, z6, x6, a6, c6, rfl, H6.out.1, L.all (a6, z6) (.head _), HF2.bel⟩
/-- The exact sum of two numbers that are not nought, in its one form. -/
theorem addX (n1 n2 : Bool) (a1 a2 : Option Addr) (c1 c2 : Nat) (z1 z2 : List Int) (e1 e2 : Int) (w : World) (l1 : Lie w a1 z1) (l2 : Lie w a2 z2) (q1 : Nt.Can z1) (q2 : Nt.Can z2) (hl1 : z1.length ≤ 4100) (hl2 : z2.length ≤ 4100) (hz1 : 0 < z1.length) (hz2 : 0 < z2.length) (b1 : -20000000 ≤ e1) (b2 : e1 ≤ 20000000) (b3 : -20000000 ≤ e2) (b4 : e2 ≤ 20000000) (k1 k2 : Nat) (hk1 : k1 ≤ 150000) (hk2 : k2 ≤ 150000) (hh1 : e1 - min e1 e2 = k1) (hh2 : e2 - min e1 e2 = k2) :
    Calls Tryd.prog 42 #[dV n1 a1 z1.length c1 e1, dV n2 a2 z2.length c2 e2] w fun e w' => RF w w' (sv n1 (Nt.val z1 * 2 ^ k1) + sv n2 (Nt.val z2 * 2 ^ k2)) (min e1 e2) e := by
  have key : n1 = n2 ∨ n2 = !n1 := by cases n1 <;> cases n2 <;> simp
  by_cases ho : e2 < e1
  · rw [show min e1 e2 = e2 by omega] at *
    rcases key with rfl | rfl
    · exact addX_lt_same n1 a1 a2 c1 c2 z1 z2 e1 e2 w l1 l2 q1 q2 hl1 hl2 hz1 hz2 b1 b2 b3 b4 k1 k2 hk1 hk2 ho hh1 hh2
    · by_cases hv : Nt.val z2 * 2 ^ k2 ≤ Nt.val z1 * 2 ^ k1
      · exact addX_lt_ge n1 a1 a2 c1 c2 z1 z2 e1 e2 w l1 l2 q1 q2 hl1 hl2 hz1 hz2 b1 b2 b3 b4 k1 k2 hk1 hk2 ho hh1 hh2 hv
      · exact addX_lt_lt n1 a1 a2 c1 c2 z1 z2 e1 e2 w l1 l2 q1 q2 hl1 hl2 hz1 hz2 b1 b2 b3 b4 k1 k2 hk1 hk2 ho hh1 hh2 (by omega)
  · rw [show min e1 e2 = e1 by omega] at *
    rcases key with rfl | rfl
    · exact addX_ge_same n1 a1 a2 c1 c2 z1 z2 e1 e2 w l1 l2 q1 q2 hl1 hl2 hz1 hz2 b1 b2 b3 b4 k1 k2 hk1 hk2 (by omega) hh1 hh2
    · by_cases hv : Nt.val z2 * 2 ^ k2 ≤ Nt.val z1 * 2 ^ k1
      · exact addX_ge_ge n1 a1 a2 c1 c2 z1 z2 e1 e2 w l1 l2 q1 q2 hl1 hl2 hz1 hz2 b1 b2 b3 b4 k1 k2 hk1 hk2 (by omega) hh1 hh2 hv
      · exact addX_ge_lt n1 a1 a2 c1 c2 z1 z2 e1 e2 w l1 l2 q1 q2 hl1 hl2 hz1 hz2 b1 b2 b3 b4 k1 k2 hk1 hk2 (by omega) hh1 hh2 (by omega)
end Go.Proofs.YteejaghimppcgaaDoor

namespace Go.Proofs.YteejaghimppcgaaDoor
open Go.RowKit Go.Wd Go.Box
set_option linter.unusedVariables false
set_option maxRecDepth 3000
theorem rBound_long (n : Bool) (a : Option Addr) (c k : Nat) (ex : Int) (hk : (4096 : Int) < (k : Int)) (w : World) :
    Calls Tryd.prog 79 #[dV n a k c ex] w fun e w' => e = .returned (.tuple #[noD, .int .i64 3]) ∧ Below w.heap.size w w' := by
  have B1 := ((Bx.nil w).push (DO n a k c ex)).push (DO false none 0 0 0)
  go_enter Tryd.func79, Tryd.ntmps79
  go_wp2
  refine bodyPost_ret (results_D2 rfl _ _ (w.heap.size + 1) _ rfl ⟨by simpa using B1.head, rfl⟩) rfl ?_
  exact ⟨rfl, B1.bel⟩
theorem rBound_low (n : Bool) (a : Option Addr) (c k : Nat) (ex : Int) (hk : (k : Int) ≤ 4096) (hx : ex < -16777216) (w : World) :
    Calls Tryd.prog 79 #[dV n a k c ex] w fun e w' => e = .returned (.tuple #[noD, .int .i64 20]) ∧ Below w.heap.size w w' := by
  have B1 := ((Bx.nil w).push (DO n a k c ex)).push (DO false none 0 0 0)
  go_enter Tryd.func79, Tryd.ntmps79
  go_wp2
  refine bodyPost_ret (results_D2 rfl _ _ (w.heap.size + 1) _ rfl ⟨by simpa using B1.head, rfl⟩) rfl ?_
  exact ⟨rfl, B1.bel⟩
theorem rBound_high (n : Bool) (a : Option Addr) (c k : Nat) (ex : Int) (hk : (k : Int) ≤ 4096) (hx : 16777216 < ex) (w : World) :
    Calls Tryd.prog 79 #[dV n a k c ex] w fun e w' => e = .returned (.tuple #[noD, .int .i64 20]) ∧ Below w.heap.size w w' := by
  have B1 := ((Bx.nil w).push (DO n a k c ex)).push (DO false none 0 0 0)
  have hx2 : -16777216 ≤ ex := by omega
  go_enter Tryd.func79, Tryd.ntmps79
  go_wp2
  refine bodyPost_ret (results_D2 rfl _ _ (w.heap.size + 1) _ rfl ⟨by simpa using B1.head, rfl⟩) rfl ?_
  exact ⟨rfl, B1.bel⟩
theorem rBound (n : Bool) (a : Option Addr) (c k : Nat) (ex : Int) (hk : (k : Int) ≤ 4096) (hx : -16777216 ≤ ex) (hx2 : ex ≤ 16777216) (w : World) :
    Calls Tryd.prog 79 #[dV n a k c ex] w fun e w' => e = .returned (.tuple #[dV n a k c ex, .int .i64 0]) ∧ Below w.heap.size w w' := by
  have B1 := ((Bx.nil w).push (DO n a k c ex)).push (DO n a k c ex)
  go_enter Tryd.func79, Tryd.ntmps79
  go_wp2
  refine bodyPost_ret (results_D2 rfl _ _ (w.heap.size + 1) _ rfl ⟨by simpa using B1.head, rfl⟩) rfl ?_
  exact ⟨rfl, B1.bel⟩
/-- A call's answer of an exact number is the bound's. -/
theorem bound_call (n1 n2 n3 : Bool) (a1 a2 a3 : Option Addr) (k1 c1 k2 c2 k3 c3 : Nat) (e1 e2 e3 code : Int) (w : World)
    (HB : ∀ W, Calls Tryd.prog 79 #[dV n2 a2 k2 c2 e2] W fun e w' => e = .returned (.tuple #[dV n3 a3 k3 c3 e3, .int .i64 code]) ∧ Below W.heap.size W w')
    (HS : ∀ W, Below w.heap.size w W → Calls Tryd.prog 28 #[dV n1 a1 k1 c1 e1, dV n3 a3 k3 c3 e3] W fun e w' => e = .returned (.bool true) ∧ Below W.heap.size W w') :
    Calls Tryd.prog 39 #[dV n1 a1 k1 c1 e1, .int .i64 code, dV n2 a2 k2 c2 e2] w fun e w' => e = .returned (.bool true) ∧ Below w.heap.size w w' := by
  have B1 := ((Bx.nil w).push (DO n1 a1 k1 c1 e1)).push (DO n2 a2 k2 c2 e2)
  have d1 : (code == code) = true := by simp
  have H1 := fun W => Hide.mk (HB W)
  have H2 := fun W h => Hide.mk (HS W h)
  clear HB HS
  go_enter Tryd.func39, Tryd.ntmps39
  go_wp2_with fail
  rw [show (w.alloc (DO n1 a1 k1 c1 e1)).heap.size = w.heap.size + 1 by simp] at B1
  generalize hw1 : (w.alloc (DO n1 a1 k1 c1 e1)).alloc (DO n2 a2 k2 c2 e2) = w1 at *
  clear hw1
  refine (H1 _).out.mono ?_
  rintro e w2 ⟨rfl, h2⟩
  have B2 := B1.keep h2
  have hlt : w.heap.size < w2.heap.size := B2.lt (.tail _ (.head _))
  have B3 := B2.push (DO n3 a3 k3 c3 e3)
  obtain ⟨⟨s0, s1, s2⟩, _⟩ := cells3 B2 w.heap.size _ _ _ _ (.tail _ (.head _))
  have H3 := H2 _ B3.bel
  clear h2 B1 H1 H2
  go_wp2_with fail
  refine H3.out.mono ?_
  rintro e w4 ⟨rfl, h4⟩
  have B4 := B3.keep h4
  clear h4 H3 B3 B2 s0 s1 s2
  go_wp2
  go_ret
  exact ⟨rfl, B4.bel⟩
end Go.Proofs.YteejaghimppcgaaDoor

namespace Go.Proofs.YteejaghimppcgaaDoor
open Go.RowKit Go.Wd Go.Box
set_option linter.unusedVariables false
set_option maxRecDepth 3000
/-- A call's answer for the exact number s times 2 to the E, as it lies in w. -/
def Ans (w : World) (s E : Int) (n : Bool) (a : Option Addr) (k c : Nat) (ex code : Int) : Prop :=
  (s = 0 ∧ n = false ∧ a = none ∧ k = 0 ∧ c = 0 ∧ ex = 0 ∧ code = 0) ∨ (s ≠ 0 ∧ ∃ t : Nat, LowBit (s.natAbs : Int) t ∧
    ((-16777216 ≤ E + t ∧ E + t ≤ 16777216 ∧ n = decide (s < 0) ∧ ex = E + t ∧ code = 0 ∧ ∃ zs, k = zs.length ∧ Good zs ((s.natAbs : Int) / 2 ^ t) ∧ Lie w a zs) ∨
     (4294967296 ^ 4096 ≤ (s.natAbs : Int) / 2 ^ t ∧ n = false ∧ a = none ∧ k = 0 ∧ c = 0 ∧ ex = 0 ∧ code = 3) ∨
     ((s.natAbs : Int) / 2 ^ t < 4294967296 ^ 4096 ∧ (E + t < -16777216 ∨ 16777216 < E + t) ∧ n = false ∧ a = none ∧ k = 0 ∧ c = 0 ∧ ex = 0 ∧ code = 20)))
theorem DV.ans {w w' : World} {s E : Int} {n : Bool} {a : Option Addr} {k c : Nat} {ex code : Int} (h : DV w w' s E n a k c ex code) : Ans w' s E n a k c ex code := by
  rcases h.all with h | ⟨h0, t, ht, h⟩
  · exact .inl h
  · refine .inr ⟨h0, t, ht, ?_⟩
    rcases h with ⟨j1, j2, j3, j4, j5, zs, rfl, j6, j7⟩ | h | h
    · obtain ⟨a2, c2, he, _, _, hl⟩ := j7.lie
      simp only [Value.slice.injEq, true_and] at he
      obtain ⟨rfl, rfl⟩ := he
      exact .inl ⟨j1, j2, j3, j4, j5, zs, rfl, j6, hl⟩
    · exact .inr (.inl h)
    · exact .inr (.inr h)
theorem Ans.below {w w' : World} {s E : Int} {n : Bool} {a : Option Addr} {k c : Nat} {ex code : Int} (h : Ans w s E n a k c ex code) (hb : Below w.heap.size w w') : Ans w' s E n a k c ex code := by
  rcases h with h | ⟨h0, t, ht, h⟩
  · exact .inl h
  · refine .inr ⟨h0, t, ht, ?_⟩
    rcases h with ⟨j1, j2, j3, j4, j5, zs, j6, j7, j8⟩ | h | h
    · exact .inl ⟨j1, j2, j3, j4, j5, zs, j6, j7, j8.below hb (Nat.le_refl _)⟩
    · exact .inr (.inl h)
    · exact .inr (.inr h)
theorem same_noneX (w : World) : Calls Tryd.prog 28 #[noD, noD] w fun e w' => e = .returned (.bool true) ∧ Below w.heap.size w w' :=
  dsame40 false false none none 0 0 [] [] 0 0 w (zeroDG.lie (.inl rfl)) (zeroDG.lie (.inl rfl)) true rfl
/-- What a call answers for an exact number is what the reference's bound says of it. -/
theorem boundX {s E : Int} {n1 n2 : Bool} {a1 a2 : Option Addr} {k1 c1 c2 : Nat} {z2 : List Int} {x1 e2 code : Int} (w : World) (A : Ans w s E n1 a1 k1 c1 x1 code) (F : Fm s E n2 z2 e2) (l2 : Lie w a2 z2) :
    Calls Tryd.prog 39 #[dV n1 a1 k1 c1 x1, .int .i64 code, dV n2 a2 z2.length c2 e2] w fun e w' => e = .returned (.bool true) ∧ Below w.heap.size w w' := by
  rcases A with ⟨h0, rfl, rfl, rfl, rfl, rfl, rfl⟩ | ⟨h0, t, ht, h⟩
  · rcases F with ⟨_, rfl, rfl, rfl⟩ | ⟨f0, _⟩
    · exact bound_call false false false none a2 a2 0 0 0 c2 0 c2 0 0 0 0 w (fun W => rBound false a2 c2 0 0 (by decide) (by decide) (by decide) W)
        (fun W hW => dsame40 false false none a2 0 c2 [] [] 0 0 W (zeroDG.lie (.inl rfl)) (zeroDG.lie (.inl rfl)) true rfl)
    · exact absurd h0 f0
  · rcases F with ⟨f0, _⟩ | ⟨_, r, hr, rfl, rfl, fc, fv⟩
    · exact absurd f0 h0
    · obtain rfl := ht.unique hr
      rcases h with ⟨j1, j2, rfl, rfl, rfl, zs, rfl, j6, j7⟩ | ⟨j1, rfl, rfl, rfl, rfl, rfl, rfl⟩ | ⟨j0, j1, rfl, rfl, rfl, rfl, rfl, rfl⟩
      · obtain rfl : zs = z2 := Nt.can_unique j6.can fc (by rw [j6.val, fv])
        have hl := j6.len
        refine bound_call _ _ _ a1 a2 a2 zs.length c1 zs.length c2 zs.length c2 _ _ _ 0 w (fun W => rBound _ a2 c2 zs.length _ (by omega) j1 j2 W) (fun W hW => ?_)
        have hlen : zs.length ≤ maxLen := by unfold maxLen; omega
        exact dsame40 _ _ a1 a2 c1 c2 zs zs _ _ W ⟨j7.below hW (Nat.le_refl _), hlen, fc.1⟩ ⟨l2.below hW (Nat.le_refl _), hlen, fc.1⟩ true (decide_eq_true ⟨rfl, rfl, rfl⟩)
      · have hlen : (4096 : Int) < (z2.length : Int) := by
          by_cases c : z2.length ≤ 4096
          · have := (Nt.can_len fc 4096).2 c
            rw [fv] at this
            exact absurd this (Int.not_lt.2 j1)
          · omega
        exact bound_call _ _ _ none a2 none 0 0 z2.length c2 0 0 _ _ _ 3 w (fun W => rBound_long _ a2 c2 z2.length _ hlen W) (fun W hW => same_noneX W)
      · have hlen : (z2.length : Int) ≤ 4096 := by
          have := (Nt.can_len fc 4096).1 (by rw [fv]; exact j0)
          omega
        rcases j1 with j1 | j1
        · exact bound_call _ _ _ none a2 none 0 0 z2.length c2 0 0 _ _ _ 20 w (fun W => rBound_low _ a2 c2 z2.length _ hlen j1 W) (fun W hW => same_noneX W)
        · exact bound_call _ _ _ none a2 none 0 0 z2.length c2 0 0 _ _ _ 20 w (fun W => rBound_high _ a2 c2 z2.length _ hlen j1 W) (fun W hW => same_noneX W)
end Go.Proofs.YteejaghimppcgaaDoor

namespace Go.Proofs.YteejaghimppcgaaDoor
open Go.RowKit Go.Wd Go.Box
set_option linter.unusedVariables false
set_option maxRecDepth 3000
theorem RF.set {w W : World} {s E : Int} {n6 : Bool} {z6 : List Int} {x6 : Int} {a6 : Option Addr} {c6 g : Nat} (F : Fm s E n6 z6 x6) (l6 : Lie W a6 z6) (hg : W.heap[g]? = some (DO false none 0 0 0)) (hb : Below w.heap.size w W) (hle : w.heap.size ≤ g) :
    RF w (((W.setCell ⟨g, 0, none⟩ (.bool n6)).setCell ⟨g, 1, none⟩ (.slice a6 z6.length c6)).setCell ⟨g, 2, none⟩ (.int .i64 x6)) s E (.returned (dV n6 a6 z6.length c6 x6)) := by
  have L := Live.set3 (g := g) ⟨hg, rfl⟩ (.bool n6) (.slice a6 z6.length c6) (.int .i64 x6) (Live.one l6)
  exact ⟨n6, z6, x6, a6, c6, rfl, F, L.all (a6, z6) (.head _), ((hb.setCell (p := ⟨g, 0, none⟩) hle _).setCell (p := ⟨g, 1, none⟩) hle _).setCell (p := ⟨g, 2, none⟩) hle _⟩
set_option maxHeartbeats 2000000 in
theorem subX (n1 n2 : Bool) (a1 a2 : Option Addr) (c1 c2 : Nat) (z1 z2 : List Int) (e1 e2 : Int) (w : World) (l1 : Lie w a1 z1) (l2 : Lie w a2 z2) (q1 : Nt.Can z1) (q2 : Nt.Can z2) (hl1 : z1.length ≤ 4100) (hl2 : z2.length ≤ 4100) (hz1 : 0 < z1.length) (hz2 : 0 < z2.length) (b1 : -20000000 ≤ e1) (b2 : e1 ≤ 20000000) (b3 : -20000000 ≤ e2) (b4 : e2 ≤ 20000000) (k1 k2 : Nat) (hk1 : k1 ≤ 150000) (hk2 : k2 ≤ 150000) (hh1 : e1 - min e1 e2 = k1) (hh2 : e2 - min e1 e2 = k2) :
    Calls Tryd.prog 43 #[dV n1 a1 z1.length c1 e1, dV n2 a2 z2.length c2 e2] w fun e w' => RF w w' (sv n1 (Nt.val z1 * 2 ^ k1) + sv (!n2) (Nt.val z2 * 2 ^ k2)) (min e1 e2) e := by
  have B1 := (((Bx.nil w).push (DO n1 a1 z1.length c1 e1)).push (DO n2 a2 z2.length c2 e2)).push (DO false none 0 0 0)
  go_enter Tryd.func43, Tryd.ntmps43
  go_wp2_with fail
  rw [show ((w.alloc (DO n1 a1 z1.length c1 e1)).alloc (DO n2 a2 z2.length c2 e2)).heap.size = w.heap.size + 1 + 1 by simp, show (w.alloc (DO n1 a1 z1.length c1 e1)).heap.size = w.heap.size + 1 by simp] at B1
  generalize hw1 : ((w.alloc (DO n1 a1 z1.length c1 e1)).alloc (DO n2 a2 z2.length c2 e2)).alloc (DO false none 0 0 0) = w1 at *
  clear hw1
  have HF := B1.drew
  have HI := HF.sub (L' := [(w.heap.size + 1, DO n2 a2 z2.length c2 e2), (w.heap.size, DO n1 a1 z1.length c1 e1)]) (by simp)
  have sh := fun W (hW : Bx w [(w.heap.size + 1, DO n2 a2 z2.length c2 e2), (w.heap.size, DO n1 a1 z1.length c1 e1)] W) => And.intro (cells3 hW (w.heap.size + 1) _ _ _ _ (.head _)).1 (cells3 hW w.heap.size _ _ _ _ (.tail _ (.head _))).1
  refine Drawn.enter (Bx w [(w.heap.size + 1, DO n2 a2 z2.length c2 e2), (w.heap.size, DO n1 a1 z1.length c1 e1)]) (by kernel_rfl) ?_
  refine Drawn.take (i := 0) (v := ?v146) rfl (by kernel_rfl) (by kernel_rfl) (by kernel_rfl) (fun _ _ _ h => h) (by kernel_rfl) (fun W hW => ?_) HI ?_
  rotate_left
  · have ⟨⟨s0, s1, s2⟩, q0, q3, q4⟩ := sh W hW
    go_simp <;> exact rfl
  refine Drawn.take (i := 1) (v := ?v147) rfl (by kernel_rfl) (by kernel_rfl) (by kernel_rfl) (fun _ _ _ h => h) (by kernel_rfl) (fun W hW => ?_) HI ?_
  rotate_left
  · have ⟨⟨s0, s1, s2⟩, q0, q3, q4⟩ := sh W hW
    go_simp <;> exact rfl
  refine Drawn.one (j := 2) (by kernel_rfl) rfl (fun K hK => ?_)
  go_simp
  refine (rNegX n2 a2 c2 z2.length e2 hz2 _).mono ?_
  rintro e wn ⟨rfl, hn⟩
  refine hK _ _ (HI.keep hn) ?_
  clear hK K
  replace HI := HI.keep hn
  replace HF := HF.keep hn
  clear hn
  refine Drawn.one (j := 3) (by kernel_rfl) rfl (fun K hK => ?_)
  go_simp
  refine (addX n1 (!n2) a1 a2 c1 c2 z1 z2 e1 e2 _ (l1.below HI.bel (Nat.le_refl _)) (l2.below HI.bel (Nat.le_refl _)) q1 q2 hl1 hl2 hz1 hz2 b1 b2 b3 b4 k1 k2 hk1 hk2 hh1 hh2).mono ?_
  rintro e w6 ⟨n6, z6, x6, a6, c6, rfl, F6, l6, h6⟩
  refine hK _ _ (HI.keep h6) ?_
  clear hK K
  replace HI := HI.keep h6
  replace HF := HF.keep h6
  have H6 := Hide.mk (And.intro F6 l6)
  clear F6 l6 h6
  obtain ⟨⟨f0, f1, f2⟩, r0, r1, r2⟩ := cells3 HF (w.heap.size + 1 + 1) _ _ _ _ (.head _)
  have HF2 := HF.fill3 (by omega) (by simp; omega) (.bool n6) (.slice a6 z6.length c6) (.int .i64 x6)
  refine Drawn.one (j := 4) (by kernel_rfl) rfl (fun K hK => ?_)
  go_simp
  replace HI := HF2.sub (L' := [(w.heap.size + 1, DO n2 a2 z2.length c2 e2), (w.heap.size, DO n1 a1 z1.length c1 e1)]) (by simp)
  refine hK _ _ HI ?_
  clear hK K f0 f1 f2 r0 r1 r2
  refine Drawn.done (by kernel_rfl) ?_
  try go_simp
  go_wp2
  refine bodyPost_ret (results_D1 rfl _ _ (w.heap.size + 1 + 1) _ rfl ⟨HF2.head, rfl⟩) rfl ?_
  exact RF.set H6.out.1 H6.out.2 HF.head HF.bel (by omega)
/-- A sum with nought is the other number. -/
theorem addX_z1 (a1 a2 : Option Addr) (c1 c2 k2 : Nat) (n1 n2 : Bool) (e1 e2 : Int) (w : World) :
    Calls Tryd.prog 42 #[dV n1 a1 0 c1 e1, dV n2 a2 k2 c2 e2] w fun e w' => e = .returned (dV n2 a2 k2 c2 e2) ∧ Below w.heap.size w w' := by
  have B1 := (((Bx.nil w).push (DO n1 a1 0 c1 e1)).push (DO n2 a2 k2 c2 e2)).push (DO n2 a2 k2 c2 e2)
  go_enter Tryd.func42, Tryd.ntmps42
  go_wp2
  refine bodyPost_ret (results_D1 rfl _ _ (w.heap.size + 1 + 1) _ rfl ⟨by simpa using B1.head, rfl⟩) rfl ?_
  exact ⟨rfl, B1.bel⟩
theorem addX_z2 (a1 a2 : Option Addr) (c1 c2 k1 : Nat) (n1 n2 : Bool) (e1 e2 : Int) (hk : 0 < k1) (w : World) :
    Calls Tryd.prog 42 #[dV n1 a1 k1 c1 e1, dV n2 a2 0 c2 e2] w fun e w' => e = .returned (dV n1 a1 k1 c1 e1) ∧ Below w.heap.size w w' := by
  have B1 := (((Bx.nil w).push (DO n1 a1 k1 c1 e1)).push (DO n2 a2 0 c2 e2)).push (DO n1 a1 k1 c1 e1)
  have d1 : ((k1 : Int) == 0) = false := beq_eq_false_iff_ne.2 (by omega)
  go_enter Tryd.func42, Tryd.ntmps42
  go_wp2
  refine bodyPost_ret (results_D1 rfl _ _ (w.heap.size + 1 + 1) _ rfl ⟨by simpa using B1.head, rfl⟩) rfl ?_
  exact ⟨rfl, B1.bel⟩
end Go.Proofs.YteejaghimppcgaaDoor
