import Derived.Test.YteejaghimppcgaaDoorRB
import Derived.Test.YteejaghimppcgaaDoorDyadClosesPart13
namespace Go.Proofs.YteejaghimppcgaaDoor
open Go.RowKit Go.Wd Go.Box
set_option linter.unusedVariables false
set_option maxRecDepth 3000
/-- A number of at most so many bits is cut to itself. -/
theorem cut_keep (n : Bool) (z : List Int) (ex bits : Int) (g : DG n z ex) {B : Nat} (hB : BitLen (Nt.val z) B) (hb : (B : Int) ≤ bits) (hb1 : 1 ≤ bits) (hb2 : bits ≤ 8192) (W : World) (a : Option Addr) (c : Nat) (l : Lie W a z) (hT : Tab W) :
    Calls Tryd.prog 46 #[dV n a z.length c ex, .int .i64 bits] W fun e w' => ∃ a' c' q', e = .returned (.tuple #[dV n a' z.length c' ex, .bool q', .int .i64 0]) ∧ Lie w' a' z ∧ Below W.heap.size W w' := by
  have hx := g.ex_bd
  have F := fmG g
  refine (cut_near n a c z ex bits W l g hT hb1 hb2 hB (by omega) 0 (by omega) _ rfl (s := sv n (Nt.val z)) (by rw [Int.pow_zero, Int.ediv_one]) ?_).mono ?_
  · by_cases h0 : sv n (Nt.val z) = 0
    · exact .inl h0
    · obtain ⟨t, ht⟩ := low_ex (show 0 < ((sv n (Nt.val z)).natAbs : Int) by omega)
      refine .inr ⟨t, ht, ?_⟩
      rcases F with ⟨q, _⟩ | ⟨_, r, hr, _, he, _⟩
      · exact absurd q h0
      · obtain rfl := ht.unique hr
        omega
  · rintro e w' ⟨n', z', x', a', c', rfl, F', _, l', _, hb'⟩
    rw [show ex + ((0 : Nat) : Int) = ex by omega] at F'
    obtain ⟨rfl, rfl, rfl⟩ := F'.same F
    exact ⟨a', c', _, rfl, l', hb'⟩
theorem pK_pow {e : Int} (h : -(KK : Int) ≤ e) {n : Nat} (hn : (n : Int) = e + KK) : pK e = 2 ^ n := by unfold pK; congr 1; omega
/-- A product held against a number, in whole numbers. -/
theorem sgn_at (P X e i : Int) (h1 : -(KK : Int) ≤ e - i) (h2 : -(KK : Int) ≤ e) (h3 : -(KK : Int) + i ≤ e) : sgn (P * pK (e - i)) (X * pK e) = sgn (P * 2 ^ (-i).toNat) (X * 2 ^ i.toNat) := by
  obtain ⟨m, hm⟩ : ∃ m : Nat, (m : Int) = e + KK - i.toNat := ⟨(e + KK - i.toNat).toNat, by omega⟩
  have e1 : pK (e - i) = 2 ^ (-i).toNat * 2 ^ m := by rw [← Int.pow_add]; exact pK_pow h1 (by omega)
  have e2 : pK e = 2 ^ i.toNat * 2 ^ m := by rw [← Int.pow_add]; exact pK_pow h2 (by omega)
  rw [e1, e2, ← Int.mul_assoc, ← Int.mul_assoc, sgn_scale (p2pos m)]
theorem low_bits2 {x : Int} {b t : Nat} (h : BitLen x b) (ht : LowBit x t) (hx : 0 < x) : t < b := by
  refine Classical.byContradiction fun k => ?_
  have o := ht.one
  rcases h with ⟨h, _⟩ | ⟨_, h⟩
  · omega
  · have h1 := h.lt
    have h2 := p2le (show b ≤ t by omega)
    rw [Int.ediv_eq_zero_of_lt (by omega) (by omega)] at o
    omega
/-- The digits of a number in its form. -/
theorem fm_len {s E : Int} {n : Bool} {z : List Int} {ex : Int} (F : Fm s E n z ex) (h0 : s ≠ 0) {b : Nat} (hb : BitLen (s.natAbs : Int) b) : ∃ T : Nat, BitLen (Nt.val z) T ∧ (T : Int) + ex = b + E ∧ T ≤ b := by
  rcases F with ⟨q, _⟩ | ⟨_, t, ht, _, rfl, hc, hv⟩
  · exact absurd q h0
  · have hp : 0 < (s.natAbs : Int) := by omega
    have h1 := low_bits2 hb ht hp
    refine ⟨b - t, ?_, by omega, by omega⟩
    rw [hv]; exact hb.down t
/-- In units of 2^E, with at most so many bits. -/
theorem db_of {s E : Int} {b n : Nat} (hn : (n : Int) = E + KK) (h1 : -(2 ^ b) < s) (h2 : s < 2 ^ b) : DB n (n + b) (s * pK E) := by
  have e : pK E = 2 ^ n := pK_pow (by omega) hn
  have hp := p2pos n
  rw [e]
  refine ⟨Int.mul_emod_left _ _, ?_, ?_⟩
  · rw [Int.pow_add, Int.mul_comm (2 ^ n)]
    have := Int.mul_lt_mul_of_pos_right h1 hp
    rw [Int.neg_mul] at this; exact this
  · rw [Int.pow_add, Int.mul_comm (2 ^ n)]
    exact Int.mul_lt_mul_of_pos_right h2 hp
theorem pK_mul {a b : Int} (h1 : -(KK : Int) ≤ a) (h2 : -(KK : Int) ≤ b) (h3 : -(KK : Int) ≤ a + b) : pK (a + b) * 2 ^ KK = pK a * pK b := by
  unfold pK
  rw [← Int.pow_add, ← Int.pow_add]; congr 1; omega
theorem oneDN {E : Int} (h1 : -16777216 ≤ E) (h2 : E ≤ 16777216) : DN false [1] E (pK E) :=
  ⟨⟨(can_cons (by decide) (by decide) Nt.can_nil (by intro _; decide)), by simp, .inr ⟨by simp, by rw [val_one 1]; rfl, h1, h2⟩⟩, by unfold dv; rw [val_one 1, sv_f, Int.one_mul]⟩
theorem mag_DN {z : List Int} {e : Int} (g : DG false z e) : DN false z e (Nt.val z * pK e) := ⟨g, by unfold dv; rw [sv_f]⟩
set_option maxHeartbeats 4000000 in
theorem within_core (g : Bool) (nq nb : Bool) (aq ab al : Option Addr) (cq cb cl : Nat) (zq zb z1 : List Int) (xq xb e1 bits : Int) (b : Nat) (w : World) (lq : Lie w aq zq) (lb : Lie w ab zb) (ll : Lie w al z1) {R E i P P2 : Int} (F : Fm R E nq zq xq) (hR : BitLen R b) (hbb : bits = (b : Int)) (hb1 : 1 ≤ bits) (hb2 : bits ≤ 600) (hE1 : -50000 ≤ E) (hE2 : E ≤ 50000) (g1 : DG false z1 e1) (hz1 : 0 < z1.length) (he1 : -3000 ≤ e1) (he2 : e1 ≤ 3000) (hi1 : -50000 ≤ i) (hi2 : i ≤ 50000) (hT : Tab w)
    (hP : P * 2 ^ (-i).toNat ≤ Nt.val z1 * 2 ^ i.toNat) (hP2 : Nt.val z1 * 2 ^ i.toNat < P2 * 2 ^ (-i).toNat) (hg : g = decide (P * 2 ^ (-i).toNat ≠ Nt.val z1 * 2 ^ i.toNat))
    (HT1 : DN nq zq xq (R * pK E) → ∀ W, Lie W aq zq → Lie W ab zb → Tab W → Calls Tryd.prog 98 #[dV nq aq zq.length cq xq, dV nb ab zb.length cb xb] W fun e w' => Nums W w' (P * pK (e1 - i)) e)
    (HT2 : ∀ W n z x a c, DN n z x ((R + 1) * pK E) → Lie W a z → Lie W ab zb → Tab W → Calls Tryd.prog 98 #[dV n a (List.length z) c x, dV nb ab zb.length cb xb] W fun e w' => Nums W w' (P2 * pK (e1 - i)) e) :
    Calls Tryd.prog 55 #[dV nq aq zq.length cq xq, .bool g, .int .i64 bits, dV nb ab zb.length cb xb, dV false al z1.length cl e1] w fun e w' => e = .returned (.bool true) ∧ Below w.heap.size w w' := by
  have hK := KK_int
  have R0 : 0 < R := by
    rcases hR with ⟨_, h⟩ | ⟨h, _⟩
    · omega
    · exact h
  have hRlt : R < 2 ^ b := by
    rcases hR with ⟨h, _⟩ | ⟨_, h⟩
    · omega
    · exact h.lt
  obtain ⟨n, hn⟩ : ∃ n : Nat, (n : Int) = E + KK := ⟨(E + KK).toNat, by omega⟩
  have hp := p2pos b
  have hps : (2 : Int) ^ (b + 1) = 2 * 2 ^ b := by rw [Int.pow_succ]; omega
  have D1 : DB n (n + (b + 1)) (R * pK E) := db_of hn (by omega) (by omega)
  have D2 : DB n (n + (b + 1)) ((R + 1) * pK E) := db_of hn (by omega) (by omega)
  have Nq : DN nq zq xq (R * pK E) := F.dn (by omega) D1 (by omega) (by omega)
  have Nl := mag_DN g1
  have X0 := g1.pos hz1
  have s1 : Hide (sgn (R * pK E) 0 = 1 ∧ sgn (Nt.val z1 * pK e1) 0 = 1) := ⟨sgn_is2 (Int.mul_pos R0 (pK_pos _)), sgn_is2 (Int.mul_pos X0 (pK_pos _))⟩
  obtain ⟨T, hT1, hT2, hT3⟩ := fm_len F (by omega) (b := b) (by rw [show ((R.natAbs : Nat) : Int) = R by omega]; exact hR)
  have hte : (T : Int) + xq - bits = E := by omega
  have HC := fun W (l : Lie W aq zq) (t : Tab W) => cut_keep nq zq xq bits Nq.dg hT1 (by omega) hb1 (by omega) W aq cq l t
  have HTop : ∀ W, Lie W aq zq → Calls Tryd.prog 27 #[dV nq aq zq.length cq xq] W fun e w' => e = .returned (.int .i64 (T + xq)) ∧ Below W.heap.size W w' := fun W l => (dTop nq aq cq zq xq W l Nq.dg).mono (by
    rintro e w' ⟨B, rfl, hB, _, hb⟩
    obtain rfl := hB.unique hT1
    exact ⟨rfl, hb⟩)
  have HA : ∀ W A, Lie W aq zq → Lie W A [1] → Tab W → Calls Tryd.prog 35 #[dV nq aq zq.length cq xq, dV false A 1 1 (T + xq - bits)] W fun e w' => Nums W w' ((R + 1) * pK E) e := fun W A l lA t => by
    rw [hte]
    refine (dadd_fit nq false aq A cq 1 zq [1] xq E W (u := R * pK E) (v := pK E) l lA Nq (oneDN (by omega) (by omega)) t (lo := n) (hi := n + (b + 1)) (by rw [show R * pK E + pK E = (R + 1) * pK E by rw [Int.add_mul, Int.one_mul]]; exact D2) (by omega) (by omega)).mono ?_
    rintro e w' ⟨ng, zs, ex, a, c, rfl, I⟩
    rw [show R * pK E + pK E = (R + 1) * pK E by rw [Int.add_mul, Int.one_mul]] at I
    exact ⟨ng, zs, ex, a, c, rfl, I.num, I.lie, I.bel⟩
  have K2 : Hide (sgn (P2 * pK (e1 - i)) (Nt.val z1 * pK e1) = 1) := ⟨by rw [sgn_at _ _ _ _ (by omega) (by omega) (by omega), sgn_is2 hP2]⟩
  by_cases hc : P * 2 ^ (-i).toNat = Nt.val z1 * 2 ^ i.toNat
  · have e : g = false := by rw [hg, decide_eq_false (by simpa using hc)]
    subst e
    have K1 : Hide (sgn (P * pK (e1 - i)) (Nt.val z1 * pK e1) = 0) := ⟨by rw [sgn_at _ _ _ _ (by omega) (by omega) (by omega), sgn_is0 hc]⟩
    exact within_eq nq nb false aq ab al cq cb cl zq zb z1 xq xb e1 bits w lq lb ll Nq Nl hT hb1 (by omega) s1 s1 HC (HT1 Nq) K1 HTop (by omega) (by omega) HA HT2 K2
  · have e : g = true := by rw [hg, decide_eq_true hc]
    subst e
    have K1 : Hide (sgn (P * pK (e1 - i)) (Nt.val z1 * pK e1) = -1) := ⟨by rw [sgn_at _ _ _ _ (by omega) (by omega) (by omega), sgn_is1 (by omega)]⟩
    exact within_lt nq nb false aq ab al cq cb cl zq zb z1 xq xb e1 bits w lq lb ll Nq Nl hT hb1 (by omega) s1 s1 HC (HT1 Nq) K1 HTop (by omega) (by omega) HA HT2 K2
theorem small_val {z : List Int} (h : Nt.Can z) (hl : z.length ≤ 100) : Nt.val z < 2 ^ 3200 := by
  have := (Nt.can_len h 100).2 hl
  rw [show (4294967296 : Int) ^ 100 = 2 ^ 3200 by rw [show (4294967296 : Int) = 2 ^ 32 by decide, ← Int.pow_mul]] at this
  exact this
/-- The quotient, held against its product. -/
theorem within_q (nq : Bool) (aq ay al : Option Addr) (cq cy cl : Nat) (zq z2 z1 : List Int) (xq e2 e1 bits : Int) (b : Nat) (w : World) (lq : Lie w aq zq) (ly : Lie w ay z2) (ll : Lie w al z1) {i : Int} (g1 : DG false z1 e1) (g2 : DG false z2 e2) (hz1 : 0 < z1.length) (hz2 : 0 < z2.length) (F : Fm (qf (Nt.val z1) (Nt.val z2) i) (e1 - e2 - i) nq zq xq) (hR : BitLen (qf (Nt.val z1) (Nt.val z2) i) b) (hbb : bits = (b : Int)) (hb1 : 1 ≤ bits) (hb2 : bits ≤ 600) (k2 : z2.length ≤ 100) (he1 : -3000 ≤ e1) (he2 : e1 ≤ 3000) (he3 : -3000 ≤ e2) (he4 : e2 ≤ 3000) (hi1 : -20000 ≤ i) (hi2 : i ≤ 20000) (hT : Tab w) :
    Calls Tryd.prog 55 #[dV nq aq zq.length cq xq, .bool (qg (Nt.val z1) (Nt.val z2) i), .int .i64 bits, dV false ay z2.length cy e2, dV false al z1.length cl e1] w fun e w' => e = .returned (.bool true) ∧ Below w.heap.size w w' := by
  have hK := KK_int
  have X0 := g1.pos hz1
  have Y0 := g2.pos hz2
  have Y1 := small_val g2.can k2
  have hD : 0 < Nt.val z2 * 2 ^ (-i).toNat := Int.mul_pos Y0 (p2pos _)
  have f1 := Int.mul_ediv_add_emod (Nt.val z1 * 2 ^ i.toNat) (Nt.val z2 * 2 ^ (-i).toNat)
  have f2 := Int.emod_nonneg (Nt.val z1 * 2 ^ i.toNat) (show Nt.val z2 * 2 ^ (-i).toNat ≠ 0 by omega)
  have f3 := Int.emod_lt_of_pos (Nt.val z1 * 2 ^ i.toNat) hD
  have q1 : qf (Nt.val z1) (Nt.val z2) i = Nt.val z1 * 2 ^ i.toNat / (Nt.val z2 * 2 ^ (-i).toNat) := rfl
  have q2 : qg (Nt.val z1) (Nt.val z2) i = decide (Nt.val z1 * 2 ^ i.toNat % (Nt.val z2 * 2 ^ (-i).toNat) ≠ 0) := rfl
  rw [← q1] at f1
  rw [q2]
  have Ny := mag_DN g2
  have nn := qf_nn (Int.le_of_lt X0) Y0 i
  have hRlt : qf (Nt.val z1) (Nt.val z2) i < 2 ^ b := by
    rcases hR with ⟨h, _⟩ | ⟨_, h⟩
    · rw [h]; exact p2pos b
    · exact h.lt
  generalize qf (Nt.val z1) (Nt.val z2) i = R at *
  obtain ⟨n, hn⟩ : ∃ n : Nat, (n : Int) = e1 - e2 - i + KK := ⟨(e1 - e2 - i + KK).toNat, by omega⟩
  obtain ⟨m, hm⟩ : ∃ m : Nat, (m : Int) = e2 + KK := ⟨(e2 + KK).toNat, by omega⟩
  have hp := p2pos b
  have hps : (2 : Int) ^ (b + 1) = 2 * 2 ^ b := by rw [Int.pow_succ]; omega
  have DY : DB m (m + 3200) (Nt.val z2 * pK e2) := db_of hm (by omega) Y1
  have hmul : pK (e1 - i) * 2 ^ KK = pK (e1 - e2 - i) * pK e2 := by
    have := pK_mul (a := e1 - e2 - i) (b := e2) (by omega) (by omega) (by omega)
    rw [show e1 - e2 - i + e2 = e1 - i by omega] at this; exact this
  have hs := sgn_is2 (Int.mul_pos Y0 (pK_pos e2))
  have e3 : R * Nt.val z2 * 2 ^ (-i).toNat = Nt.val z2 * 2 ^ (-i).toNat * R := by grind
  have e4 : (R + 1) * Nt.val z2 * 2 ^ (-i).toNat = Nt.val z2 * 2 ^ (-i).toNat * R + Nt.val z2 * 2 ^ (-i).toNat := by grind
  refine within_core _ nq false aq ay al cq cy cl zq z2 z1 xq e2 e1 bits b w lq ly ll (P := R * Nt.val z2) (P2 := (R + 1) * Nt.val z2) (i := i) F hR hbb hb1 hb2 (by omega) (by omega) g1 hz1 he1 he2 (by omega) (by omega) hT ?_ ?_ ?_ ?_ ?_
  · rw [e3]; omega
  · rw [e4]; omega
  · rw [e3]
    refine decide_eq_decide.2 (not_congr ⟨fun h => ?_, fun h => ?_⟩) <;> omega
  · intro Nq W l1 l2 t
    exact times_by nq false aq ay cq cy zq z2 xq e2 W l1 l2 Nq Ny t ((db_of (b := b + 1) hn (by omega) (by omega)).mul DY) (by omega) (by omega) (by omega) (by rw [Int.mul_assoc, hmul]; grind) 1 hs rfl
  · intro W n' z x a c Nm l1 l2 t
    exact times_by n' false a ay c cy z z2 x e2 W l1 l2 Nm Ny t ((db_of (b := b + 1) hn (by omega) (by omega)).mul DY) (by omega) (by omega) (by omega) (by rw [Int.mul_assoc, hmul]; grind) 1 hs rfl
/-- The root, held against its square. -/
theorem within_r (nq : Bool) (aq al : Option Addr) (cq cl : Nat) (zq z1 : List Int) (xq e1 bits : Int) (b : Nat) (w : World) (lq : Lie w aq zq) (ll : Lie w al z1) {j r : Int} {g : Bool} (g1 : DG false z1 e1) (hz1 : 0 < z1.length) (F : Fm r (-j) nq zq xq) (hR : RAt (Nt.val z1) e1 b j r g) (hbb : bits = (b : Int)) (hb1 : 1 ≤ bits) (hb2 : bits ≤ 600) (he1 : -3000 ≤ e1) (he2 : e1 ≤ 3000) (hj1 : -20000 ≤ j) (hj2 : j ≤ 20000) (hT : Tab w) :
    Calls Tryd.prog 55 #[dV nq aq zq.length cq xq, .bool g, .int .i64 bits, noD, dV false al z1.length cl e1] w fun e w' => e = .returned (.bool true) ∧ Below w.heap.size w w' := by
  have hK := KK_int
  have hlt : r < 2 ^ b := by
    rcases hR.bits with ⟨h, _⟩ | ⟨_, h⟩
    · rw [h]; exact p2pos b
    · exact h.lt
  have nn := hR.rt.nn
  obtain ⟨n, hn⟩ : ∃ n : Nat, (n : Int) = -j + KK := ⟨(-j + KK).toNat, by omega⟩
  have hp := p2pos b
  have hps : (2 : Int) ^ (b + 1) = 2 * 2 ^ b := by rw [Int.pow_succ]; omega
  have hmul : pK (e1 - (e1 + 2 * j)) * 2 ^ KK = pK (-j) * pK (-j) := by
    have := pK_mul (a := -j) (b := -j) (by omega) (by omega) (by omega)
    rw [show -j + -j = e1 - (e1 + 2 * j) by omega] at this; exact this
  refine within_core g nq false aq none al cq 0 cl zq [] z1 xq 0 e1 bits b w lq (.inl rfl) ll (P := r * r) (P2 := (r + 1) * (r + 1)) (i := e1 + 2 * j) F hR.bits hbb hb1 hb2 (by omega) (by omega) g1 hz1 he1 he2 (by omega) (by omega) hT hR.rt.le hR.rt.lt hR.rt.fl ?_ ?_
  · intro Nq W l1 l2 t
    exact times_sq nq aq cq zq xq W l1 Nq t ((db_of (b := b + 1) hn (by omega) (by omega)).mul (db_of (b := b + 1) hn (by omega) (by omega))) (by omega) (by omega) (by omega) (by rw [Int.mul_assoc, hmul]; grind)
  · intro W n' z x a c Nm l1 l2 t
    exact times_sq n' a c z x W l1 Nm t ((db_of (b := b + 1) hn (by omega) (by omega)).mul (db_of (b := b + 1) hn (by omega) (by omega))) (by omega) (by omega) (by omega) (by rw [Int.mul_assoc, hmul]; grind)
end Go.Proofs.YteejaghimppcgaaDoor

namespace Go.Proofs.YteejaghimppcgaaDoor
open Go.RowKit Go.Wd Go.Box
set_option linter.unusedVariables false
set_option maxRecDepth 3000
set_option maxHeartbeats 40000000 in
theorem within_nought (nq nb nl : Bool) (aq ab al : Option Addr) (cq cb cl : Nat) (zq zb zl : List Int) (xq xb xl bits : Int) (w : World) (lq : Lie w aq zq) (lb : Lie w ab zb) (ll : Lie w al zl) {uq ul p1 p2 ut : Int} (Nq : DN nq zq xq uq) (Nl : DN nl zl xl ul) (hT : Tab w) (hb1 : 1 ≤ bits) (hb2 : bits ≤ 8192) (s1 s2 : Hide (sgn uq 0 = 0 ∧ sgn ul 0 = 0))
    (HC : ∀ W, Lie W aq zq → Tab W → Calls Tryd.prog 46 #[dV nq aq zq.length cq xq, .int .i64 bits] W fun e w' => ∃ a' c' q', e = .returned (.tuple #[dV nq a' zq.length c' xq, .bool q', .int .i64 0]) ∧ Lie w' a' zq ∧ Below W.heap.size W w')
    (HT1 : ∀ W, Lie W aq zq → Lie W ab zb → Tab W → Calls Tryd.prog 98 #[dV nq aq zq.length cq xq, dV nb ab zb.length cb xb] W fun e w' => Nums W w' p1 e)
 (HK1 : Hide (sgn p1 ul = 0)) :
    Calls Tryd.prog 55 #[dV nq aq zq.length cq xq, .bool false, .int .i64 bits, dV nb ab zb.length cb xb, dV nl al zl.length cl xl] w fun e w' => e = .returned (.bool true) ∧ Below w.heap.size w w' := by
  have B1 := (((Bx.nil w).push (DO nq aq zq.length cq xq)).push (DO nb ab zb.length cb xb)).push (DO nl al zl.length cl xl)
  rw [show ((w.alloc (DO nq aq zq.length cq xq)).alloc (DO nb ab zb.length cb xb)).heap.size = w.heap.size + 1 + 1 by simp, show (w.alloc (DO nq aq zq.length cq xq)).heap.size = w.heap.size + 1 by simp] at B1
  have hgq := (Nq.dg.lie lq)
  have hlen := hgq.len
  have hrng := hgq.rng
  clear hgq
  go_enter Tryd.func55, Tryd.ntmps55
  go_wp2_with fail
  generalize hw1 : ((w.alloc (DO nq aq zq.length cq xq)).alloc (DO nb ab zb.length cb xb)).alloc (DO nl al zl.length cl xl) = w1 at *
  clear hw1
  have BX := B1
  have HB := Below.refl w1.heap.size w1
  replace lq := lq.below BX.bel (Nat.le_refl _)
  replace lb := lb.below BX.bel (Nat.le_refl _)
  replace ll := ll.below BX.bel (Nat.le_refl _)
  clear B1
  refine (HC _ lq (hT.below BX.bel (Nat.le_refl _))).mono ?_
  rintro e uC ⟨aC, cC, qC, rfl, lC, hC⟩
  replace BX := BX.keep hC
  replace HB := below_then HB hC
  replace lq := lq.below hC (Nat.le_refl _)
  replace lb := lb.below hC (Nat.le_refl _)
  replace ll := ll.below hC (Nat.le_refl _)
  clear hC
  have haC := below_alloc uC (DO nq aC zq.length cC xq)
  replace BX := BX.push (DO nq aC zq.length cC xq)
  replace HB := below_then HB haC
  replace lq := lq.below haC (Nat.le_refl _)
  replace lb := lb.below haC (Nat.le_refl _)
  replace ll := ll.below haC (Nat.le_refl _)
  replace lC := lC.below haC (Nat.le_refl _)
  clear haC
  obtain ⟨⟨fq0, fq1, fq2⟩, _⟩ := cells3 BX w.heap.size _ _ _ _ (show (w.heap.size, DO nq aq zq.length cq xq) ∈ _ by simp)
  obtain ⟨⟨fd0, fd1, fd2⟩, _⟩ := cells3 BX (w.heap.size + 1) _ _ _ _ (show ((w.heap.size + 1), DO nb ab zb.length cb xb) ∈ _ by simp)
  go_wp2_with fail
  generalize hvC : uC.alloc (DO nq aC zq.length cC xq) = vC at *
  clear hvC
  refine (HT1 _ lq lb (hT.below BX.bel (Nat.le_refl _))).mono ?_
  rintro e uP ⟨nP, zP, xP, aP, cP, rfl, IP⟩
  have NP := IP.num
  have lP := IP.lie
  have hP := IP.bel
  clear IP
  replace BX := BX.keep hP
  replace HB := below_then HB hP
  replace lq := lq.below hP (Nat.le_refl _)
  replace lb := lb.below hP (Nat.le_refl _)
  replace ll := ll.below hP (Nat.le_refl _)
  replace lC := lC.below hP (Nat.le_refl _)
  clear hP
  have hgP0 : w.heap.size + 1 + 1 < uP.heap.size := BX.lt (p := ((w.heap.size + 1 + 1), DO nl al zl.length cl xl)) (by simp)
  have haP := below_alloc uP (DO nP aP zP.length cP xP)
  replace BX := BX.push (DO nP aP zP.length cP xP)
  replace HB := below_then HB haP
  replace lq := lq.below haP (Nat.le_refl _)
  replace lb := lb.below haP (Nat.le_refl _)
  replace ll := ll.below haP (Nat.le_refl _)
  replace lC := lC.below haP (Nat.le_refl _)
  replace lP := lP.below haP (Nat.le_refl _)
  clear haP
  obtain ⟨⟨fl0, fl1, fl2⟩, _⟩ := cells3 BX (w.heap.size + 1 + 1) _ _ _ _ (show ((w.heap.size + 1 + 1), DO nl al zl.length cl xl) ∈ _ by simp)
  go_wp2_with fail
  generalize hvP : uP.alloc (DO nP aP zP.length cP xP) = vP at *
  clear hvP
  refine (dcmp55 nP nl aP al cP cl zP zl xP xl _ lP ll NP Nl (hT.below BX.bel (Nat.le_refl _)) (0) HK1.out).mono ?_
  rintro e k1w ⟨rfl, k1⟩
  replace BX := BX.keep k1
  replace HB := below_then HB k1
  replace lq := lq.below k1 (Nat.le_refl _)
  replace lb := lb.below k1 (Nat.le_refl _)
  replace ll := ll.below k1 (Nat.le_refl _)
  replace lC := lC.below k1 (Nat.le_refl _)
  replace lP := lP.below k1 (Nat.le_refl _)
  clear k1
  go_wp2_with fail
  have HI := (BX.sub (L' := [(uC.heap.size, DO nq aC zq.length cC xq), ((w.heap.size + 1 + 1), DO nl al zl.length cl xl), (w.heap.size, DO nq aq zq.length cq xq)]) (by simp)).drew
  have sh := fun W (hW : Bx w [(uC.heap.size, DO nq aC zq.length cC xq), ((w.heap.size + 1 + 1), DO nl al zl.length cl xl), (w.heap.size, DO nq aq zq.length cq xq)] W) => And.intro (cells3 hW uC.heap.size _ _ _ _ (show (uC.heap.size, DO nq aC zq.length cC xq) ∈ _ by simp)).1 (And.intro (cells3 hW (w.heap.size + 1 + 1) _ _ _ _ (show ((w.heap.size + 1 + 1), DO nl al zl.length cl xl) ∈ _ by simp)).1 ((cells3 hW w.heap.size _ _ _ _ (show (w.heap.size, DO nq aq zq.length cq xq) ∈ _ by simp)).1))
  replace HB := Below.drew HB
  replace BX := BX.drew
  replace lq : Lie (World.drew _) _ _ := lq
  replace lb : Lie (World.drew _) _ _ := lb
  replace ll : Lie (World.drew _) _ _ := ll
  replace lC : Lie (World.drew _) _ _ := lC
  replace lP : Lie (World.drew _) _ _ := lP
  refine Drawn.enter (Bx w [(uC.heap.size, DO nq aC zq.length cC xq), ((w.heap.size + 1 + 1), DO nl al zl.length cl xl), (w.heap.size, DO nq aq zq.length cq xq)]) (by kernel_rfl) ?_
  refine Drawn.take (i := 0) (v := ?v0) rfl (by kernel_rfl) (by kernel_rfl) (by kernel_rfl) (fun _ _ _ h => h) (by kernel_rfl) (fun W hW => ?_) HI ?_
  rotate_left
  · have ⟨⟨sC0, sC1, sC2⟩, ⟨sl0, sl1, sl2⟩, sq0, sq1, sq2⟩ := sh W hW
    go_simp <;> exact rfl
  refine Drawn.take (i := 1) (v := ?v1) rfl (by kernel_rfl) (by kernel_rfl) (by kernel_rfl) (fun _ _ _ h => h) (by kernel_rfl) (fun W hW => ?_) HI ?_
  rotate_left
  · have ⟨⟨sC0, sC1, sC2⟩, ⟨sl0, sl1, sl2⟩, sq0, sq1, sq2⟩ := sh W hW
    go_simp <;> exact rfl
  refine Drawn.take (i := 2) (v := ?v2) rfl (by kernel_rfl) (by kernel_rfl) (by kernel_rfl) (fun _ _ _ h => h) (by kernel_rfl) (fun W hW => ?_) HI ?_
  rotate_left
  · have ⟨⟨sC0, sC1, sC2⟩, ⟨sl0, sl1, sl2⟩, sq0, sq1, sq2⟩ := sh W hW
    go_simp <;> exact rfl
  refine Drawn.take (i := 3) (v := ?v3) rfl (by kernel_rfl) (by kernel_rfl) (by kernel_rfl) (fun _ _ _ h => h) (by kernel_rfl) (fun W hW => ?_) HI ?_
  rotate_left
  · have ⟨⟨sC0, sC1, sC2⟩, ⟨sl0, sl1, sl2⟩, sq0, sq1, sq2⟩ := sh W hW
    go_simp <;> exact rfl
  refine Drawn.take (i := 4) (v := ?v4) rfl (by kernel_rfl) (by kernel_rfl) (by kernel_rfl) (fun _ _ _ h => h) (by kernel_rfl) (fun W hW => ?_) HI ?_
  rotate_left
  · have ⟨⟨sC0, sC1, sC2⟩, ⟨sl0, sl1, sl2⟩, sq0, sq1, sq2⟩ := sh W hW
    go_simp <;> exact rfl
  refine Drawn.take (i := 5) (v := ?v5) rfl (by kernel_rfl) (by kernel_rfl) (by kernel_rfl) (fun _ _ _ h => h) (by kernel_rfl) (fun W hW => ?_) HI ?_
  rotate_left
  · have ⟨⟨sC0, sC1, sC2⟩, ⟨sl0, sl1, sl2⟩, sq0, sq1, sq2⟩ := sh W hW
    go_simp <;> exact rfl
  refine Drawn.take (i := 6) (v := ?v6) rfl (by kernel_rfl) (by kernel_rfl) (by kernel_rfl) (fun _ _ _ h => h) (by kernel_rfl) (fun W hW => ?_) HI ?_
  rotate_left
  · have ⟨⟨sC0, sC1, sC2⟩, ⟨sl0, sl1, sl2⟩, sq0, sq1, sq2⟩ := sh W hW
    go_simp <;> exact rfl
  refine Drawn.take (i := 7) (v := ?v7) rfl (by kernel_rfl) (by kernel_rfl) (by kernel_rfl) (fun _ _ _ h => h) (by kernel_rfl) (fun W hW => ?_) HI ?_
  rotate_left
  · have ⟨⟨sC0, sC1, sC2⟩, ⟨sl0, sl1, sl2⟩, sq0, sq1, sq2⟩ := sh W hW
    go_simp <;> exact rfl
  refine Drawn.take (i := 8) (v := ?v8) rfl (by kernel_rfl) (by kernel_rfl) (by kernel_rfl) (fun _ _ _ h => h) (by kernel_rfl) (fun W hW => ?_) HI ?_
  rotate_left
  · have ⟨⟨sC0, sC1, sC2⟩, ⟨sl0, sl1, sl2⟩, sq0, sq1, sq2⟩ := sh W hW
    go_simp <;> exact rfl
  refine Drawn.take (i := 9) (v := ?v9) rfl (by kernel_rfl) (by kernel_rfl) (by kernel_rfl) (fun _ _ _ h => h) (by kernel_rfl) (fun W hW => ?_) HI ?_
  rotate_left
  · have ⟨⟨sC0, sC1, sC2⟩, ⟨sl0, sl1, sl2⟩, sq0, sq1, sq2⟩ := sh W hW
    go_simp <;> exact rfl
  refine Drawn.take (i := 10) (v := ?v10) rfl (by kernel_rfl) (by kernel_rfl) (by kernel_rfl) (fun _ _ _ h => h) (by kernel_rfl) (fun W hW => ?_) HI ?_
  rotate_left
  · have ⟨⟨sC0, sC1, sC2⟩, ⟨sl0, sl1, sl2⟩, sq0, sq1, sq2⟩ := sh W hW
    go_simp <;> exact rfl
  refine Drawn.take (i := 11) (v := ?v11) rfl (by kernel_rfl) (by kernel_rfl) (by kernel_rfl) (fun _ _ _ h => h) (by kernel_rfl) (fun W hW => ?_) HI ?_
  rotate_left
  · have ⟨⟨sC0, sC1, sC2⟩, ⟨sl0, sl1, sl2⟩, sq0, sq1, sq2⟩ := sh W hW
    go_simp <;> exact rfl
  refine Drawn.take (i := 12) (v := ?v12) rfl (by kernel_rfl) (by kernel_rfl) (by kernel_rfl) (fun _ _ _ h => h) (by kernel_rfl) (fun W hW => ?_) HI ?_
  rotate_left
  · have ⟨⟨sC0, sC1, sC2⟩, ⟨sl0, sl1, sl2⟩, sq0, sq1, sq2⟩ := sh W hW
    go_simp <;> exact rfl
  refine Drawn.one (j := 13) (by kernel_rfl) rfl (fun K hK => ?_)
  go_simp
  refine (dsame40 nq nq aC aq cC cq zq zq xq xq _ ⟨lC, hlen, hrng⟩ ⟨lq, hlen, hrng⟩ true (decide_eq_true ⟨rfl, rfl, rfl⟩)).mono ?_
  rintro e k2w ⟨rfl, k2⟩
  refine hK _ _ (HI.keep k2) ?_
  clear hK K
  replace HI := HI.keep k2
  replace BX := BX.keep k2
  replace HB := below_then HB k2
  replace lq := lq.below k2 (Nat.le_refl _)
  replace lb := lb.below k2 (Nat.le_refl _)
  replace ll := ll.below k2 (Nat.le_refl _)
  replace lC := lC.below k2 (Nat.le_refl _)
  replace lP := lP.below k2 (Nat.le_refl _)
  clear k2
  refine Drawn.take (i := 14) (v := .bool false) rfl (by kernel_rfl) (by kernel_rfl) (by kernel_rfl) (fun _ _ _ h => h) (by kernel_rfl) (fun W hW => ?_) HI ?_
  · have ⟨⟨sC0, sC1, sC2⟩, ⟨sl0, sl1, sl2⟩, sq0, sq1, sq2⟩ := sh W hW
    go_simp <;> (rfl)
  refine Drawn.take (i := 15) (v := ?v13) rfl (by kernel_rfl) (by kernel_rfl) (by kernel_rfl) (fun _ _ _ h => h) (by kernel_rfl) (fun W hW => ?_) HI ?_
  rotate_left
  · have ⟨⟨sC0, sC1, sC2⟩, ⟨sl0, sl1, sl2⟩, sq0, sq1, sq2⟩ := sh W hW
    go_simp <;> exact rfl
  refine Drawn.take (i := 16) (v := ?v14) rfl (by kernel_rfl) (by kernel_rfl) (by kernel_rfl) (fun _ _ _ h => h) (by kernel_rfl) (fun W hW => ?_) HI ?_
  rotate_left
  · have ⟨⟨sC0, sC1, sC2⟩, ⟨sl0, sl1, sl2⟩, sq0, sq1, sq2⟩ := sh W hW
    go_simp <;> exact rfl
  refine Drawn.take (i := 17) (v := ?v15) rfl (by kernel_rfl) (by kernel_rfl) (by kernel_rfl) (fun _ _ _ h => h) (by kernel_rfl) (fun W hW => ?_) HI ?_
  rotate_left
  · have ⟨⟨sC0, sC1, sC2⟩, ⟨sl0, sl1, sl2⟩, sq0, sq1, sq2⟩ := sh W hW
    go_simp <;> exact rfl
  refine Drawn.take (i := 18) (v := .bool false) rfl (by kernel_rfl) (by kernel_rfl) (by kernel_rfl) (fun _ _ _ h => h) (by kernel_rfl) (fun W hW => ?_) HI ?_
  · have ⟨⟨sC0, sC1, sC2⟩, ⟨sl0, sl1, sl2⟩, sq0, sq1, sq2⟩ := sh W hW
    go_simp <;> (first | rfl | decide | simp)
  refine Drawn.take (i := 19) (v := ?v16) rfl (by kernel_rfl) (by kernel_rfl) (by kernel_rfl) (fun _ _ _ h => h) (by kernel_rfl) (fun W hW => ?_) HI ?_
  rotate_left
  · have ⟨⟨sC0, sC1, sC2⟩, ⟨sl0, sl1, sl2⟩, sq0, sq1, sq2⟩ := sh W hW
    go_simp <;> exact rfl
  refine Drawn.take (i := 20) (v := ?v17) rfl (by kernel_rfl) (by kernel_rfl) (by kernel_rfl) (fun _ _ _ h => h) (by kernel_rfl) (fun W hW => ?_) HI ?_
  rotate_left
  · have ⟨⟨sC0, sC1, sC2⟩, ⟨sl0, sl1, sl2⟩, sq0, sq1, sq2⟩ := sh W hW
    go_simp <;> exact rfl
  refine Drawn.take (i := 21) (v := ?v18) rfl (by kernel_rfl) (by kernel_rfl) (by kernel_rfl) (fun _ _ _ h => h) (by kernel_rfl) (fun W hW => ?_) HI ?_
  rotate_left
  · have ⟨⟨sC0, sC1, sC2⟩, ⟨sl0, sl1, sl2⟩, sq0, sq1, sq2⟩ := sh W hW
    go_simp <;> exact rfl
  refine Drawn.take (i := 22) (v := ?v19) rfl (by kernel_rfl) (by kernel_rfl) (by kernel_rfl) (fun _ _ _ h => h) (by kernel_rfl) (fun W hW => ?_) HI ?_
  rotate_left
  · have ⟨⟨sC0, sC1, sC2⟩, ⟨sl0, sl1, sl2⟩, sq0, sq1, sq2⟩ := sh W hW
    go_simp <;> exact rfl
  refine Drawn.take (i := 23) (v := .bool false) rfl (by kernel_rfl) (by kernel_rfl) (by kernel_rfl) (fun _ _ _ h => h) (by kernel_rfl) (fun W hW => ?_) HI ?_
  · have ⟨⟨sC0, sC1, sC2⟩, ⟨sl0, sl1, sl2⟩, sq0, sq1, sq2⟩ := sh W hW
    go_simp <;> (first | rfl | decide | simp)
  refine Drawn.take (i := 24) (v := ?v20) rfl (by kernel_rfl) (by kernel_rfl) (by kernel_rfl) (fun _ _ _ h => h) (by kernel_rfl) (fun W hW => ?_) HI ?_
  rotate_left
  · have ⟨⟨sC0, sC1, sC2⟩, ⟨sl0, sl1, sl2⟩, sq0, sq1, sq2⟩ := sh W hW
    go_simp <;> exact rfl
  refine Drawn.take (i := 25) (v := ?v21) rfl (by kernel_rfl) (by kernel_rfl) (by kernel_rfl) (fun _ _ _ h => h) (by kernel_rfl) (fun W hW => ?_) HI ?_
  rotate_left
  · have ⟨⟨sC0, sC1, sC2⟩, ⟨sl0, sl1, sl2⟩, sq0, sq1, sq2⟩ := sh W hW
    go_simp <;> exact rfl
  refine Drawn.take (i := 26) (v := ?v22) rfl (by kernel_rfl) (by kernel_rfl) (by kernel_rfl) (fun _ _ _ h => h) (by kernel_rfl) (fun W hW => ?_) HI ?_
  rotate_left
  · have ⟨⟨sC0, sC1, sC2⟩, ⟨sl0, sl1, sl2⟩, sq0, sq1, sq2⟩ := sh W hW
    go_simp <;> exact rfl
  refine Drawn.take (i := 27) (v := ?v23) rfl (by kernel_rfl) (by kernel_rfl) (by kernel_rfl) (fun _ _ _ h => h) (by kernel_rfl) (fun W hW => ?_) HI ?_
  rotate_left
  · have ⟨⟨sC0, sC1, sC2⟩, ⟨sl0, sl1, sl2⟩, sq0, sq1, sq2⟩ := sh W hW
    go_simp <;> exact rfl
  refine Drawn.take (i := 30) (v := ?v24) rfl (by kernel_rfl) (by kernel_rfl) (by kernel_rfl) (fun _ _ _ h => h) (by kernel_rfl) (fun W hW => ?_) HI ?_
  rotate_left
  · have ⟨⟨sC0, sC1, sC2⟩, ⟨sl0, sl1, sl2⟩, sq0, sq1, sq2⟩ := sh W hW
    go_simp <;> exact rfl
  refine Drawn.one (j := 28) (by kernel_rfl) rfl (fun K hK => ?_)
  go_simp
  refine (dsign49 nq aq cq zq xq uq _ lq Nq 0 s1.out.1).mono ?_
  rintro e k3w ⟨rfl, k3⟩
  refine hK _ _ (HI.keep k3) ?_
  clear hK K
  replace HI := HI.keep k3
  replace BX := BX.keep k3
  replace HB := below_then HB k3
  replace lq := lq.below k3 (Nat.le_refl _)
  replace lb := lb.below k3 (Nat.le_refl _)
  replace ll := ll.below k3 (Nat.le_refl _)
  replace lC := lC.below k3 (Nat.le_refl _)
  replace lP := lP.below k3 (Nat.le_refl _)
  clear k3
  refine Drawn.take (i := 29) (v := ?v25) rfl (by kernel_rfl) (by kernel_rfl) (by kernel_rfl) (fun _ _ _ h => h) (by kernel_rfl) (fun W hW => ?_) HI ?_
  rotate_left
  · have ⟨⟨sC0, sC1, sC2⟩, ⟨sl0, sl1, sl2⟩, sq0, sq1, sq2⟩ := sh W hW
    go_simp <;> exact rfl
  refine Drawn.one (j := 31) (by kernel_rfl) rfl (fun K hK => ?_)
  go_simp
  refine (dsign49 nl al cl zl xl ul _ ll Nl 0 s1.out.2).mono ?_
  rintro e k4w ⟨rfl, k4⟩
  refine hK _ _ (HI.keep k4) ?_
  clear hK K
  replace HI := HI.keep k4
  replace BX := BX.keep k4
  replace HB := below_then HB k4
  replace lq := lq.below k4 (Nat.le_refl _)
  replace lb := lb.below k4 (Nat.le_refl _)
  replace ll := ll.below k4 (Nat.le_refl _)
  replace lC := lC.below k4 (Nat.le_refl _)
  replace lP := lP.below k4 (Nat.le_refl _)
  clear k4
  refine Drawn.take (i := 32) (v := ?v26) rfl (by kernel_rfl) (by kernel_rfl) (by kernel_rfl) (fun _ _ _ h => h) (by kernel_rfl) (fun W hW => ?_) HI ?_
  rotate_left
  · have ⟨⟨sC0, sC1, sC2⟩, ⟨sl0, sl1, sl2⟩, sq0, sq1, sq2⟩ := sh W hW
    go_simp <;> exact rfl
  refine Drawn.take (i := 33) (v := ?v27) rfl (by kernel_rfl) (by kernel_rfl) (by kernel_rfl) (fun _ _ _ h => h) (by kernel_rfl) (fun W hW => ?_) HI ?_
  rotate_left
  · have ⟨⟨sC0, sC1, sC2⟩, ⟨sl0, sl1, sl2⟩, sq0, sq1, sq2⟩ := sh W hW
    go_simp <;> exact rfl
  refine Drawn.take (i := 34) (v := ?v28) rfl (by kernel_rfl) (by kernel_rfl) (by kernel_rfl) (fun _ _ _ h => h) (by kernel_rfl) (fun W hW => ?_) HI ?_
  rotate_left
  · have ⟨⟨sC0, sC1, sC2⟩, ⟨sl0, sl1, sl2⟩, sq0, sq1, sq2⟩ := sh W hW
    go_simp <;> exact rfl
  refine Drawn.done (by kernel_rfl) ?_
  try go_simp
  clear HI sh
  obtain ⟨⟨fq0, fq1, fq2⟩, _⟩ := cells3 BX w.heap.size _ _ _ _ (show (w.heap.size, DO nq aq zq.length cq xq) ∈ _ by simp)
  go_wp2_with fail
  refine (dsign49 nq aq cq zq xq uq _ lq Nq 0 s1.out.1).mono ?_
  rintro e k5w ⟨rfl, k5⟩
  replace BX := BX.keep k5
  replace HB := below_then HB k5
  replace lq := lq.below k5 (Nat.le_refl _)
  replace lb := lb.below k5 (Nat.le_refl _)
  replace ll := ll.below k5 (Nat.le_refl _)
  replace lC := lC.below k5 (Nat.le_refl _)
  replace lP := lP.below k5 (Nat.le_refl _)
  clear k5
  go_wp2
  go_ret
  exact ⟨rfl, BX.bel⟩
end Go.Proofs.YteejaghimppcgaaDoor

namespace Go.Proofs.YteejaghimppcgaaDoor
open Go.RowKit Go.Wd Go.Box
set_option linter.unusedVariables false
set_option maxRecDepth 3000
theorem arow2 (W : World) (g : Nat) (hg : W.heap.size = g) (x y : Arg) (hx : DLie W x.a x.zs) (hy : DLie W y.a y.zs) :
    ARow (W.alloc (.cells #[.bool x.ng, .slice x.a x.zs.length x.c, .int .i64 x.ex, .bool y.ng, .slice y.a y.zs.length y.c, .int .i64 y.ex] 36)) g [x, y] := by
  subst hg
  have hn := heap_alloc_new W (.cells #[.bool x.ng, .slice x.a x.zs.length x.c, .int .i64 x.ex, .bool y.ng, .slice y.a y.zs.length y.c, .int .i64 y.ex] 36)
  have hb := below_alloc W (.cells #[.bool x.ng, .slice x.a x.zs.length x.c, .int .i64 x.ex, .bool y.ng, .slice y.a y.zs.length y.c, .int .i64 y.ex] 36)
  refine ⟨?_, ?_, ?_, ?_⟩ <;> intro i u hu <;> match i, hu with
    | 0, hu => cases hu; first | exact cell_of_row _ _ 0 _ 36 (0, 0) hn | exact cell_of_row _ _ 1 _ 36 (0, 0) hn | exact cell_of_row _ _ 2 _ 36 (0, 0) hn | exact hx.below hb
    | 1, hu => cases hu; first | exact cell_of_row _ _ 3 _ 36 (0, 0) hn | exact cell_of_row _ _ 4 _ 36 (0, 0) hn | exact cell_of_row _ _ 5 _ 36 (0, 0) hn | exact hy.below hb
theorem mag_DN2 {z : List Int} {e : Int} (g : DG false z e) : DN false z e (Nt.val z * pK e) := ⟨g, by unfold dv; rw [sv_f]⟩
set_option maxHeartbeats 40000000 in
theorem closes_far (n1 n2 : Bool) (a1 a2 : Option Addr) (c1 c2 : Nat) (z1 z2 : List Int) (e1 e2 bits : Int) (w : World) (u1 : DLie w a1 z1) (u2 : DLie w a2 z2) (hT : Tab w) (HNear : Hide (([⟨n1, a1, c1, z1, e1⟩, ⟨n2, a2, c2, z2, e2⟩] : List Arg).all nearB = false)) :
    Calls Tryd.prog 8 #[dV n1 a1 z1.length c1 e1, dV n2 a2 z2.length c2 e2, .int .i64 bits] w fun e w' => e = .returned (.bool true) ∧ Below w.heap.size w w' := by
  have la := u1.lie
  have lb := u2.lie
  have B1 := (((Bx.nil w).push (DO n1 a1 z1.length c1 e1)).push (DO n2 a2 z2.length c2 e2)).push (DO2 n1 a1 z1.length c1 e1 n2 a2 z2.length c2 e2)
  rw [show ((w.alloc (DO n1 a1 z1.length c1 e1)).alloc (DO n2 a2 z2.length c2 e2)).heap.size = w.heap.size + 1 + 1 by simp, show (w.alloc (DO n1 a1 z1.length c1 e1)).heap.size = w.heap.size + 1 by simp] at B1
  have hr := arow2 ((w.alloc (DO n1 a1 z1.length c1 e1)).alloc (DO n2 a2 z2.length c2 e2)) (w.heap.size + 1 + 1) (by simp) ⟨n1, a1, c1, z1, e1⟩ ⟨n2, a2, c2, z2, e2⟩ (u1.below (below_then (below_alloc _ _) (below_alloc _ _))) (u2.below (below_then (below_alloc _ _) (below_alloc _ _)))
  have HN := Hide.mk (near75 _ _ _ hr (by simp))
  clear hr
  go_enter Tryd.func8, Tryd.ntmps8
  go_wp2_with fail
  refine HN.out.mono ?_
  rintro e w1 ⟨rfl, hn⟩
  rw [HNear.out]
  have BX := (B1.keep hn).sub (L' := [((w.heap.size + 1), DO n2 a2 z2.length c2 e2), (w.heap.size, DO n1 a1 z1.length c1 e1)]) (by simp)
  clear HN hn B1
  have HB := Below.refl w1.heap.size w1
  replace la := la.below BX.bel (Nat.le_refl _)
  replace lb := lb.below BX.bel (Nat.le_refl _)
  go_wp2_with fail
  refine (dknown34 _ (hT.below BX.bel (Nat.le_refl _))).mono ?_
  rintro e k1w ⟨rfl, k1⟩
  replace BX := BX.keep k1
  replace HB := below_then HB k1
  replace la := la.below k1 (Nat.le_refl _)
  replace lb := lb.below k1 (Nat.le_refl _)
  clear k1
  go_wp2
  go_ret
  exact ⟨rfl, BX.bel⟩
set_option maxHeartbeats 40000000 in
theorem closes_low (n1 n2 : Bool) (a1 a2 : Option Addr) (c1 c2 : Nat) (z1 z2 : List Int) (e1 e2 bits : Int) (w : World) (u1 : DLie w a1 z1) (u2 : DLie w a2 z2) (hT : Tab w) (HNear : Hide (([⟨n1, a1, c1, z1, e1⟩, ⟨n2, a2, c2, z2, e2⟩] : List Arg).all nearB = true)) (hC : bits < 1) :
    Calls Tryd.prog 8 #[dV n1 a1 z1.length c1 e1, dV n2 a2 z2.length c2 e2, .int .i64 bits] w fun e w' => e = .returned (.bool true) ∧ Below w.heap.size w w' := by
  have la := u1.lie
  have lb := u2.lie
  have B1 := (((Bx.nil w).push (DO n1 a1 z1.length c1 e1)).push (DO n2 a2 z2.length c2 e2)).push (DO2 n1 a1 z1.length c1 e1 n2 a2 z2.length c2 e2)
  rw [show ((w.alloc (DO n1 a1 z1.length c1 e1)).alloc (DO n2 a2 z2.length c2 e2)).heap.size = w.heap.size + 1 + 1 by simp, show (w.alloc (DO n1 a1 z1.length c1 e1)).heap.size = w.heap.size + 1 by simp] at B1
  have hr := arow2 ((w.alloc (DO n1 a1 z1.length c1 e1)).alloc (DO n2 a2 z2.length c2 e2)) (w.heap.size + 1 + 1) (by simp) ⟨n1, a1, c1, z1, e1⟩ ⟨n2, a2, c2, z2, e2⟩ (u1.below (below_then (below_alloc _ _) (below_alloc _ _))) (u2.below (below_then (below_alloc _ _) (below_alloc _ _)))
  have HN := Hide.mk (near75 _ _ _ hr (by simp))
  clear hr
  go_enter Tryd.func8, Tryd.ntmps8
  go_wp2_with fail
  refine HN.out.mono ?_
  rintro e w1 ⟨rfl, hn⟩
  rw [HNear.out]
  have BX := (B1.keep hn).sub (L' := [((w.heap.size + 1), DO n2 a2 z2.length c2 e2), (w.heap.size, DO n1 a1 z1.length c1 e1)]) (by simp)
  clear HN hn B1
  have HB := Below.refl w1.heap.size w1
  replace la := la.below BX.bel (Nat.le_refl _)
  replace lb := lb.below BX.bel (Nat.le_refl _)
  go_wp2_with fail
  refine (dknown34 _ (hT.below BX.bel (Nat.le_refl _))).mono ?_
  rintro e k1w ⟨rfl, k1⟩
  replace BX := BX.keep k1
  replace HB := below_then HB k1
  replace la := la.below k1 (Nat.le_refl _)
  replace lb := lb.below k1 (Nat.le_refl _)
  clear k1
  go_wp2
  go_ret
  exact ⟨rfl, BX.bel⟩
set_option maxHeartbeats 40000000 in
theorem closes_high (n1 n2 : Bool) (a1 a2 : Option Addr) (c1 c2 : Nat) (z1 z2 : List Int) (e1 e2 bits : Int) (w : World) (u1 : DLie w a1 z1) (u2 : DLie w a2 z2) (hT : Tab w) (HNear : Hide (([⟨n1, a1, c1, z1, e1⟩, ⟨n2, a2, c2, z2, e2⟩] : List Arg).all nearB = true)) (hC1 : 1 ≤ bits) (hC : 600 < bits) :
    Calls Tryd.prog 8 #[dV n1 a1 z1.length c1 e1, dV n2 a2 z2.length c2 e2, .int .i64 bits] w fun e w' => e = .returned (.bool true) ∧ Below w.heap.size w w' := by
  have la := u1.lie
  have lb := u2.lie
  have B1 := (((Bx.nil w).push (DO n1 a1 z1.length c1 e1)).push (DO n2 a2 z2.length c2 e2)).push (DO2 n1 a1 z1.length c1 e1 n2 a2 z2.length c2 e2)
  rw [show ((w.alloc (DO n1 a1 z1.length c1 e1)).alloc (DO n2 a2 z2.length c2 e2)).heap.size = w.heap.size + 1 + 1 by simp, show (w.alloc (DO n1 a1 z1.length c1 e1)).heap.size = w.heap.size + 1 by simp] at B1
  have hr := arow2 ((w.alloc (DO n1 a1 z1.length c1 e1)).alloc (DO n2 a2 z2.length c2 e2)) (w.heap.size + 1 + 1) (by simp) ⟨n1, a1, c1, z1, e1⟩ ⟨n2, a2, c2, z2, e2⟩ (u1.below (below_then (below_alloc _ _) (below_alloc _ _))) (u2.below (below_then (below_alloc _ _) (below_alloc _ _)))
  have HN := Hide.mk (near75 _ _ _ hr (by simp))
  clear hr
  go_enter Tryd.func8, Tryd.ntmps8
  go_wp2_with fail
  refine HN.out.mono ?_
  rintro e w1 ⟨rfl, hn⟩
  rw [HNear.out]
  have BX := (B1.keep hn).sub (L' := [((w.heap.size + 1), DO n2 a2 z2.length c2 e2), (w.heap.size, DO n1 a1 z1.length c1 e1)]) (by simp)
  clear HN hn B1
  have HB := Below.refl w1.heap.size w1
  replace la := la.below BX.bel (Nat.le_refl _)
  replace lb := lb.below BX.bel (Nat.le_refl _)
  go_wp2_with fail
  refine (dknown34 _ (hT.below BX.bel (Nat.le_refl _))).mono ?_
  rintro e k1w ⟨rfl, k1⟩
  replace BX := BX.keep k1
  replace HB := below_then HB k1
  replace la := la.below k1 (Nat.le_refl _)
  replace lb := lb.below k1 (Nat.le_refl _)
  clear k1
  go_wp2
  go_ret
  exact ⟨rfl, BX.bel⟩
end Go.Proofs.YteejaghimppcgaaDoor

namespace Go.Proofs.YteejaghimppcgaaDoor
open Go.RowKit Go.Wd Go.Box
set_option linter.unusedVariables false
set_option maxRecDepth 3000
set_option maxHeartbeats 40000000 in
theorem closes_b0 (n1 n2 : Bool) (a1 a2 : Option Addr) (c1 c2 : Nat) (z1 z2 : List Int) (e1 e2 bits : Int) (w : World) (u1 : DLie w a1 z1) (u2 : DLie w a2 z2) (hT : Tab w) (HNear : Hide (([⟨n1, a1, c1, z1, e1⟩, ⟨n2, a2, c2, z2, e2⟩] : List Arg).all nearB = true)) (hC1 : 1 ≤ bits) (hC2 : bits ≤ 600) {v1 v2 : Int} (N1 : DN n1 z1 e1 v1) (N2 : DN n2 z2 e2 v2) (HY : Hide (sgn (Nt.val z2 * pK e2) 0 = 0))
    {r E9 : Int} {gr : Bool} (HR1 : Hide (∀ W A C, Lie W A z1 → Tab W → Calls Tryd.prog 51 #[dV false A z1.length C e1, .int .i64 bits] W fun e w' => ∃ n z x a c, e = .returned (.tuple #[dV n a (List.length z) c x, .bool gr, .int .i64 0]) ∧ Fm r E9 n z x ∧ Lie w' a z ∧ Below W.heap.size W w'))
    (HW2 : Hide (∀ W n z x a c A C, Fm r E9 n z x → Lie W a z → Lie W A z1 → Tab W → Calls Tryd.prog 55 #[dV n a z.length c x, .bool gr, .int .i64 bits, noD, dV false A z1.length C e1] W fun e w' => e = .returned (.bool true) ∧ Below W.heap.size W w')) :
    Calls Tryd.prog 8 #[dV n1 a1 z1.length c1 e1, dV n2 a2 z2.length c2 e2, .int .i64 bits] w fun e w' => e = .returned (.bool true) ∧ Below w.heap.size w w' := by
  have la := u1.lie
  have lb := u2.lie
  have B1 := (((Bx.nil w).push (DO n1 a1 z1.length c1 e1)).push (DO n2 a2 z2.length c2 e2)).push (DO2 n1 a1 z1.length c1 e1 n2 a2 z2.length c2 e2)
  rw [show ((w.alloc (DO n1 a1 z1.length c1 e1)).alloc (DO n2 a2 z2.length c2 e2)).heap.size = w.heap.size + 1 + 1 by simp, show (w.alloc (DO n1 a1 z1.length c1 e1)).heap.size = w.heap.size + 1 by simp] at B1
  have hr := arow2 ((w.alloc (DO n1 a1 z1.length c1 e1)).alloc (DO n2 a2 z2.length c2 e2)) (w.heap.size + 1 + 1) (by simp) ⟨n1, a1, c1, z1, e1⟩ ⟨n2, a2, c2, z2, e2⟩ (u1.below (below_then (below_alloc _ _) (below_alloc _ _))) (u2.below (below_then (below_alloc _ _) (below_alloc _ _)))
  have HN := Hide.mk (near75 _ _ _ hr (by simp))
  clear hr
  go_enter Tryd.func8, Tryd.ntmps8
  go_wp2_with fail
  refine HN.out.mono ?_
  rintro e w1 ⟨rfl, hn⟩
  rw [HNear.out]
  have BX := (B1.keep hn).sub (L' := [((w.heap.size + 1), DO n2 a2 z2.length c2 e2), (w.heap.size, DO n1 a1 z1.length c1 e1)]) (by simp)
  clear HN hn B1
  have HB := Below.refl w1.heap.size w1
  replace la := la.below BX.bel (Nat.le_refl _)
  replace lb := lb.below BX.bel (Nat.le_refl _)
  obtain ⟨⟨fa0, fa1, fa2⟩, _⟩ := cells3 BX w.heap.size _ _ _ _ (show (w.heap.size, DO n1 a1 z1.length c1 e1) ∈ _ by simp)
  go_wp2_with fail
  refine (dabs48 n1 a1 c1 z1 e1 _ la N1.dg (hT.below BX.bel (Nat.le_refl _))).mono ?_
  rintro e uX ⟨nX, aX, mX, cX, xX, dX, rfl, vX0⟩
  have hX := vX0.bel
  obtain ⟨rfl, rfl, rfl, rfl, iX⟩ := vX0.isD (abs_num N1)
  have wX := iX.own.wrA.weak HB.size
  have lX := iX.lie
  clear iX vX0
  replace BX := BX.keep hX
  replace HB := below_then HB hX
  replace la := la.below hX (Nat.le_refl _)
  replace lb := lb.below hX (Nat.le_refl _)
  clear hX
  have haX := below_alloc uX (DO false aX z1.length cX e1)
  replace BX := BX.push (DO false aX z1.length cX e1)
  replace HB := below_then HB haX
  replace la := la.below haX (Nat.le_refl _)
  replace lb := lb.below haX (Nat.le_refl _)
  replace lX := lX.below haX (Nat.le_refl _)
  replace wX := wX.below (C := 0) haX
  clear haX
  obtain ⟨⟨fb0, fb1, fb2⟩, _⟩ := cells3 BX (w.heap.size + 1) _ _ _ _ (show ((w.heap.size + 1), DO n2 a2 z2.length c2 e2) ∈ _ by simp)
  go_wp2_with fail
  generalize hvX : uX.alloc (DO false aX z1.length cX e1) = vX at *
  clear hvX
  refine (dabs48 n2 a2 c2 z2 e2 _ lb N2.dg (hT.below BX.bel (Nat.le_refl _))).mono ?_
  rintro e uY ⟨nY, aY, mY, cY, xY, dY, rfl, vY0⟩
  have hY := vY0.bel
  obtain ⟨rfl, rfl, rfl, rfl, iY⟩ := vY0.isD (abs_num N2)
  have lY := iY.lie
  clear iY vY0
  replace BX := BX.keep hY
  replace HB := below_then HB hY
  replace la := la.below hY (Nat.le_refl _)
  replace lb := lb.below hY (Nat.le_refl _)
  replace lX := lX.below hY (Nat.le_refl _)
  replace wX := wX.below (C := 0) hY
  clear hY
  have haY := below_alloc uY (DO false aY z2.length cY e2)
  replace BX := BX.push (DO false aY z2.length cY e2)
  replace HB := below_then HB haY
  replace la := la.below haY (Nat.le_refl _)
  replace lb := lb.below haY (Nat.le_refl _)
  replace lX := lX.below haY (Nat.le_refl _)
  replace lY := lY.below haY (Nat.le_refl _)
  replace wX := wX.below (C := 0) haY
  clear haY
  obtain ⟨⟨fY0, fY1, fY2⟩, _⟩ := cells3 BX uY.heap.size _ _ _ _ (show (uY.heap.size, DO false aY z2.length cY e2) ∈ _ by simp)
  go_wp2_with fail
  generalize hvY : uY.alloc (DO false aY z2.length cY e2) = vY at *
  clear hvY
  refine (dsign49 false aY cY z2 e2 _ _ lY (mag_DN2 (abs_num N2).dg) 0 HY.out).mono ?_
  rintro e k1w ⟨rfl, k1⟩
  replace BX := BX.keep k1
  replace HB := below_then HB k1
  replace la := la.below k1 (Nat.le_refl _)
  replace lb := lb.below k1 (Nat.le_refl _)
  replace lX := lX.below k1 (Nat.le_refl _)
  replace lY := lY.below k1 (Nat.le_refl _)
  replace wX := wX.below (C := 0) k1
  clear k1
  obtain ⟨⟨fX0, fX1, fX2⟩, _⟩ := cells3 BX uX.heap.size _ _ _ _ (show (uX.heap.size, DO false aX z1.length cX e1) ∈ _ by simp)
  go_wp2_with fail
  refine (HR1.out _ aX cX lX (hT.below BX.bel (Nat.le_refl _))).mono ?_
  rintro e uR ⟨nR, zR, xR, aR, cR, rfl, FR, lR, hR⟩
  have HFR := Hide.mk FR
  clear FR
  replace BX := BX.keep hR
  replace HB := below_then HB hR
  replace la := la.below hR (Nat.le_refl _)
  replace lb := lb.below hR (Nat.le_refl _)
  replace lX := lX.below hR (Nat.le_refl _)
  replace lY := lY.below hR (Nat.le_refl _)
  replace wX := wX.below (C := 0) hR
  clear hR
  have haR := below_alloc uR (DO nR aR zR.length cR xR)
  replace BX := BX.push (DO nR aR zR.length cR xR)
  replace HB := below_then HB haR
  replace la := la.below haR (Nat.le_refl _)
  replace lb := lb.below haR (Nat.le_refl _)
  replace lX := lX.below haR (Nat.le_refl _)
  replace lY := lY.below haR (Nat.le_refl _)
  replace lR := lR.below haR (Nat.le_refl _)
  replace wX := wX.below (C := 0) haR
  clear haR
  obtain ⟨⟨fR0, fR1, fR2⟩, _⟩ := cells3 BX uR.heap.size _ _ _ _ (show (uR.heap.size, DO nR aR zR.length cR xR) ∈ _ by simp)
  obtain ⟨⟨fX0, fX1, fX2⟩, _⟩ := cells3 BX uX.heap.size _ _ _ _ (show (uX.heap.size, DO false aX z1.length cX e1) ∈ _ by simp)
  go_wp2_with fail
  generalize hvR : uR.alloc (DO nR aR zR.length cR xR) = vR at *
  clear hvR
  refine (HW2.out _ nR zR xR aR cR aX cX HFR.out lR lX (hT.below BX.bel (Nat.le_refl _))).mono ?_
  rintro e k2w ⟨rfl, k2⟩
  replace BX := BX.keep k2
  replace HB := below_then HB k2
  replace la := la.below k2 (Nat.le_refl _)
  replace lb := lb.below k2 (Nat.le_refl _)
  replace lX := lX.below k2 (Nat.le_refl _)
  replace lY := lY.below k2 (Nat.le_refl _)
  replace lR := lR.below k2 (Nat.le_refl _)
  replace wX := wX.below (C := 0) k2
  clear k2
  go_wp2_with fail
  refine (dknown34 _ (hT.below BX.bel (Nat.le_refl _))).mono ?_
  rintro e k3w ⟨rfl, k3⟩
  replace BX := BX.keep k3
  replace HB := below_then HB k3
  replace la := la.below k3 (Nat.le_refl _)
  replace lb := lb.below k3 (Nat.le_refl _)
  replace lX := lX.below k3 (Nat.le_refl _)
  replace lY := lY.below k3 (Nat.le_refl _)
  replace lR := lR.below k3 (Nat.le_refl _)
  replace wX := wX.below (C := 0) k3
  clear k3
  go_wp2
  go_ret
  exact ⟨rfl, BX.bel⟩
end Go.Proofs.YteejaghimppcgaaDoor
