import Derived.Test.YtchmljbkophdaaaGreatDoorRoundRootsPart23
namespace Go.Proofs.YtchmljbkophdaaaGreatDoor
open Go.RowKit Go.Wd Go.Box
set_option linter.unusedVariables false
set_option maxRecDepth 3000
/-- Quo of two numbers that are not nought. -/
theorem pQuo (b : Bool) (m : Int) (hm : Mode m) (n1 n2 : Bool) (a1 a2 : Option Addr) (c1 c2 : Nat) (z1 z2 : List Int) (e1 e2 T : Int) (w : World) (l1 : Lie w a1 z1) (l2 : Lie w a2 z2) (g1 : DG n1 z1 e1) (g2 : DG n2 z2 e2) (hTab : Tab w) (hz1 : 0 < z1.length) (hz2 : 0 < z2.length) {i : Int} (hi : BitLen (qf (Nt.val z1) (Nt.val z2) i) 64) (hi1 : -1000000 ≤ i) (hi2 : i ≤ 1000000) (hT : T = 64 - i + (e1 - e2)) {H I : Int} {G J : Bool} (hH : H = qf (Nt.val z1) (Nt.val z2) (e1 - e2 + 1 - ulp b T)) (hG : G = qg (Nt.val z1) (Nt.val z2) (e1 - e2 + 1 - ulp b T)) (hI : I = qf (Nt.val z1) (Nt.val z2) (e1 - e2 + 1 - (T - pr b))) (hJ : J = qg (Nt.val z1) (Nt.val z2) (e1 - e2 + 1 - (T - pr b))) :
    Calls Tryz.prog 22 #[.int .u8 (fm b), .int .u8 m, dV n1 a1 z1.length c1 e1, dV n2 a2 z2.length c2 e2] w fun e w' => e = .returned (.tuple #[.int .u64 (rdW b m (n1 != n2) T H G), .int .u8 (rdX b m (n1 != n2) T H G I J), .int .i64 0]) ∧ Below w.heap.size w w' := by
  have x1 := g1.ex_bd
  have x2 := g2.ex_bd
  have p1 := g1.pos hz1
  have p2 := g2.pos hz2
  have hpb := pr_bd b
  have hub := ulp_ge b T
  have hlo := lo_bd b
  obtain ⟨s1, hs1, hs12⟩ := sgn_dv g1 hz1
  obtain ⟨s2, hs2, hs22⟩ := sgn_dv g2 hz2
  have u1 := g1.lie l1
  have u2 := g2.lie l2
  have hb : 9223372036854775808 ≤ qf (Nt.val z1) (Nt.val z2) i ∧ qf (Nt.val z1) (Nt.val z2) i < 18446744073709551616 := by
    rcases hi with ⟨_, h⟩ | ⟨_, h⟩
    · omega
    · have a := h.lt
      have b := h.le
      omega
  obtain ⟨d, hd⟩ : ∃ d : Nat, ulp b T - T + 63 = (d : Int) := ⟨(ulp b T - T + 63).toNat, by omega⟩
  have k1 : qf (Nt.val z1) (Nt.val z2) i / 2 ^ d = H ∧ gx (qf (Nt.val z1) (Nt.val z2) i) d (qg (Nt.val z1) (Nt.val z2) i) = G := by
    have a1 := qf_down (Nt.val z1) (Nt.val z2) p2 i d
    have a2 := qg_down (Nt.val z1) (Nt.val z2) p2 i d
    rw [show i - (d : Int) = e1 - e2 + 1 - ulp b T by omega] at a1 a2
    exact ⟨by rw [hH, a1], by rw [hG, a2]; rfl⟩
  have k2 : qf (Nt.val z1) (Nt.val z2) i / 2 ^ (63 - pr b) = I ∧ gx (qf (Nt.val z1) (Nt.val z2) i) (63 - pr b) (qg (Nt.val z1) (Nt.val z2) i) = J := by
    have a1 := qf_down (Nt.val z1) (Nt.val z2) p2 i (63 - pr b)
    have a2 := qg_down (Nt.val z1) (Nt.val z2) p2 i (63 - pr b)
    rw [show i - ((63 - pr b : Nat) : Int) = e1 - e2 + 1 - (T - pr b) by omega] at a1 a2
    exact ⟨by rw [hI, a1], by rw [hJ, a2]; rfl⟩
  refine wQuo_good b m n1 a1 c1 z1.length e1 n2 a2 c2 z2.length e2 s1 s2 (n1 != n2) T (qf (Nt.val z1) (Nt.val z2) i) _ _ (qg (Nt.val z1) (Nt.val z2) i) w hs12 hs22 ?_ ?_ ?_ ?_ ?_
  · intro g0 W hW h3 h4
    have := wWayFor2 b m hm g0 n1 a1 c1 z1 e1 n2 a2 c2 z2 e2 W (u1.below hW) (u2.below hW) true true g1.may g2.may h3 h4
    exact this
  · intro W hW
    exact dsign49 n2 a2 c2 z2 e2 _ W (l2.below hW (Nat.le_refl _)) ⟨g2, rfl⟩ s2 hs2
  · intro W hW
    exact dsign49 n1 a1 c1 z1 e1 _ W (l1.below hW (Nat.le_refl _)) ⟨g1, rfl⟩ s1 hs1
  · intro W hW
    have := wSeenQuo n1 n2 a1 a2 c1 c2 z1 z2 e1 e2 W (l1.below hW (Nat.le_refl _)) (l2.below hW (Nat.le_refl _)) g1 g2 (hTab.below hW (Nat.le_refl _)) hz1 hz2 hi hi1 hi2
    rw [← hT] at this
    exact this
  · intro W hW
    have := wRounded b m (n1 != n2) T (qf (Nt.val z1) (Nt.val z2) i) (qg (Nt.val z1) (Nt.val z2) i) d W (hTab.below hW (Nat.le_refl _)) hm (by omega) (by omega) hb.1 hb.2 hd
    rw [k1.1, k1.2, k2.1, k2.2] at this
    exact this
theorem fm_oddP {v : Int} {n : Bool} {z : List Int} {x : Int} (F : Fm v 0 n z x) (h0 : 0 < v) (h1 : v % 2 = 1) (h2 : v < 18446744073709551616) : n = false ∧ x = 0 ∧ Nt.val z = v ∧ 0 < z.length ∧ DG false z 0 := by
  rcases F with ⟨rfl, _⟩ | ⟨_, t, ht, hn, hx, hc, hv⟩
  · omega
  · have ha : (v.natAbs : Int) = v := by omega
    rw [ha] at ht hv
    have t0 : t = 0 := ht.unique (odd_low h1)
    subst t0
    rw [Int.pow_zero, Int.ediv_one] at hv
    have hz : 0 < z.length := by
      cases z with
      | nil => rw [Nt.val_nil] at hv; omega
      | cons d q => simp
    have hl : z.length ≤ 2 := by
      refine (Nt.can_len hc 2).1 ?_
      rw [hv, show (4294967296 : Int) ^ 2 = 18446744073709551616 by decide]
      exact h2
    refine ⟨by rw [hn]; exact decide_eq_false (by omega), by omega, hv, hz, ⟨hc, by omega, .inr ⟨hz, by omega, by omega, by omega⟩⟩⟩
set_option maxHeartbeats 1000000 in
theorem lKnown4 (w : World) (hTab : Tab w) :
    Calls Tryz.prog 12 #[] w fun e w' => e = .returned (.bool true) ∧ Below w.heap.size w w' := by
  have H1 := fun W => Hide.mk (rIntP 1 (by decide) (by decide) W)
  have H3 := fun W => Hide.mk (rIntP 3 (by decide) (by decide) W)
  have H5 := fun W => Hide.mk (rIntP 16777217 (by decide) (by decide) W)
  go_enter Tryz.func12, Tryz.ntmps12
  go_wp2_with fail
  refine (H1 _).out.mono ?_
  rintro e w2 ⟨n1, z1, x1, a1, c1, rfl, F1, l1, h1⟩
  have B1 := (Bx.nil w).keep h1
  obtain ⟨rfl, rfl, v1, hz1, g1⟩ := fm_oddP F1 (by decide) (by decide) (by decide)
  clear F1 h1
  go_wp2_with fail
  refine (H3 _).out.mono ?_
  rintro e w3 ⟨n3, z3, x3, a3, c3, rfl, F3, l3, h3⟩
  have B3 := B1.keep h3
  replace l1 := l1.below h3 (Nat.le_refl _)
  obtain ⟨rfl, rfl, v3, hz3, g3⟩ := fm_oddP F3 (by decide) (by decide) (by decide)
  clear F3 h3 B1 H1 H3
  have HQ := Hide.mk (pQuo false 1 (.inl rfl) false false a1 a3 c1 c3 z1 z3 0 0 (-1) w3 l1 l3 g1 g3 (hTab.below B3.bel (Nat.le_refl _)) hz1 hz3 (i := 65) (by rw [v1, v3]; exact .inr ⟨by decide, ⟨by decide, by decide⟩⟩) (by decide) (by decide) (by decide) rfl rfl rfl rfl)
  rw [v1, v3, show rdW false 1 (false != false) (-1) (qf 1 3 (0 - 0 + 1 - ulp false (-1))) (qg 1 3 (0 - 0 + 1 - ulp false (-1))) = 1051372203 by decide, show rdX false 1 (false != false) (-1) (qf 1 3 (0 - 0 + 1 - ulp false (-1))) (qg 1 3 (0 - 0 + 1 - ulp false (-1))) (qf 1 3 (0 - 0 + 1 - (-1 - (pr false : Nat)))) (qg 1 3 (0 - 0 + 1 - (-1 - (pr false : Nat)))) = 16 by decide, show fm false = 1 from rfl] at HQ
  clear l1 l3 g1 g3 hz1 hz3 v1 v3
  go_wp2_with fail
  refine HQ.out.mono ?_
  rintro e w4 ⟨rfl, h4⟩
  have B4 := B3.keep h4
  clear h4 B3 HQ
  go_wp2_with fail
  refine (H5 _).out.mono ?_
  rintro e w5 ⟨n5, z5, x5, a5, c5, rfl, F5, l5, h5⟩
  have B5 := B4.keep h5
  obtain ⟨rfl, rfl, v5, hz5, g5⟩ := fm_oddP F5 (by decide) (by decide) (by decide)
  clear F5 h5 B4 H5
  have HR := Hide.mk (pRound false 2 (.inr (.inl rfl)) false a5 c5 z5 0 25 w5 l5 g5 hz5 (hTab.below B5.bel (Nat.le_refl _)) (B := 25) (by rw [v5]; exact .inr ⟨by decide, ⟨by decide, by decide⟩⟩) (by decide) (by decide) rfl rfl rfl rfl)
  rw [v5, show rdW false 2 false 25 (qf 16777217 1 (0 + 1 - ulp false 25)) (qg 16777217 1 (0 + 1 - ulp false 25)) = 1266679809 by decide, show rdX false 2 false 25 (qf 16777217 1 (0 + 1 - ulp false 25)) (qg 16777217 1 (0 + 1 - ulp false 25)) (qf 16777217 1 (0 + 1 - (25 - (pr false : Nat)))) (qg 16777217 1 (0 + 1 - (25 - (pr false : Nat)))) = 16 by decide, show fm false = 1 from rfl] at HR
  clear l5 g5 hz5 v5
  go_wp2_with fail
  refine HR.out.mono ?_
  rintro e w6 ⟨rfl, h6⟩
  have B6 := B5.keep h6
  clear h6 B5 HR
  go_wp2
  go_ret
  exact ⟨rfl, B6.bel⟩
end Go.Proofs.YtchmljbkophdaaaGreatDoor

namespace Go.Proofs.YtchmljbkophdaaaGreatDoor
open Go.RowKit Go.Wd Go.Box
set_option linter.unusedVariables false
set_option maxRecDepth 3000
theorem way_bad {f m code : Int} (h : Opn f m code) (hc : (code == 0) = false) (W : World) :
    Calls Tryz.prog 48 #[.int .u8 f, .int .u8 m] W fun e w' => e = .returned (.tuple #[noW, .int .i64 code]) ∧ Below W.heap.size W w' := by
  rcases h with ⟨hf, rfl⟩ | ⟨b, rfl, ⟨hm, rfl⟩ | ⟨hm, rfl⟩⟩
  · exact wWayOf_bad f m hf W
  · exact wWayOf_mode b m hm W
  · exact absurd hc (by decide)
theorem sameP (n : Bool) (a1 a2 : Option Addr) (c1 c2 : Nat) (z : List Int) (ex : Int) (w : World) (u1 : DLie w a1 z) (u2 : DLie w a2 z) :
    Calls Tryz.prog 21 #[dV n a1 z.length c1 ex, dV n a2 z.length c2 ex] w fun e w' => e = .returned (.bool true) ∧ Below w.heap.size w w' :=
  dsame40 n n a1 a2 c1 c2 z z ex ex w u1 u2 true (decide_eq_true ⟨rfl, rfl, rfl⟩)
end Go.Proofs.YtchmljbkophdaaaGreatDoor

namespace Go.Proofs.YtchmljbkophdaaaGreatDoor
open Go.RowKit Go.Wd Go.Box
set_option linter.unusedVariables false
set_option maxRecDepth 3000
def bq (g : Bool) : Int := if g then 1 else 0
/-- Beyond: a number of 60 bits, and whether there is more: in quarters of its last bit. -/
theorem rBeyond (n : Bool) (a : Option Addr) (c : Nat) (z : List Int) (x : Int) (w : World) (l : Lie w a z) {q E : Int} (F : Fm (sv n q) E n z x) (hq : BitLen q 60) (g : Bool) (h1 : -16000000 ≤ E) (h2 : E ≤ 16000000) :
    Calls Tryz.prog 63 #[dV n a z.length c x, .bool g] w fun e w' => RF w w' (sv n (4 * q + bq g)) (E - 2) e := by
  have hq0 : 0 < q := by
    rcases hq with ⟨_, h⟩ | ⟨h, _⟩
    · omega
    · exact h
  have hq1 : q < 2 ^ 60 := by
    rcases hq with ⟨h, _⟩ | ⟨_, h⟩
    · omega
    · exact h.lt
  have hE : E = E - 2 + (2 : Nat) := by omega
  have F2 : Fm (sv n (4 * q)) (E - 2) n z x := by
    rw [hE] at F
    have := F.scale
    rw [sv_mulP, show q * 2 ^ 2 = 4 * q by omega] at this
    exact this
  have B1 := ((Bx.nil w).push (DO n a z.length c x)).push (DO false none 0 0 0)
  rw [show (w.alloc (DO n a z.length c x)).heap.size = w.heap.size + 1 by simp] at B1
  obtain ⟨⟨s0, s1, s2⟩, _⟩ := cells3 B1 w.heap.size _ _ _ _ (.tail _ (.head _))
  obtain ⟨⟨t0, t1, t2⟩, r0, r1, r2⟩ := cells3 B1 (w.heap.size + 1) _ _ _ _ (.head _)
  have HF2 := Hide.mk F2
  cases g
  · clear F F2 hE
    go_enter Tryz.func63, Tryz.ntmps63
    go_wp2
    have Bf := ((Bx.nil w).push (DO n a z.length c x)).push (DO n a z.length c x)
    refine bodyPost_ret (results_D1 rfl _ _ (w.heap.size + 1) _ rfl ⟨by simpa using Bf.head, rfl⟩) rfl ?_
    exact ⟨n, z, x, a, c, rfl, by rw [show 4 * q + bq false = 4 * q by simp [bq]]; exact HF2.out, l.below Bf.bel (Nat.le_refl _), Bf.bel⟩
  · have hne : sv n q ≠ 0 := fun h => by have := natAbs_sv n (Int.le_of_lt hq0); rw [h] at this; simp at this; omega
    have HT := fun W (hW : Below w.heap.size w W) => Hide.mk (rTopF n a c z x W (l.below hW (Nat.le_refl _)) F hne (by rw [natAbs_sv n (Int.le_of_lt hq0)]; exact hq) (by omega) (by omega) (by omega))
    have f1 := two_fm (E - 2)
    have rq : Rm (sv n (4 * q)) (E - 2) 64 := ⟨by cases n <;> simp only [sv_t, sv_f] <;> omega, by cases n <;> simp only [sv_t, sv_f] <;> omega⟩
    have r1' : Rm 1 (E - 2) 64 := ⟨by omega, by omega⟩
    have HA := fun W (h : Below w.heap.size w W) a1 c1 (l1 : Lie W a1 [1]) => Hide.mk (addM 64 n false a a1 c c1 z [1] x (E - 2) W (l.below h (Nat.le_refl _)) l1 F2 f1 rq r1' (by omega) (by omega) (by omega))
    have HS := fun W (h : Below w.heap.size w W) a1 c1 (l1 : Lie W a1 [1]) => Hide.mk (subM 64 n false a a1 c c1 z [1] x (E - 2) W (l.below h (Nat.le_refl _)) l1 F2 f1 rq r1' (by omega) (by omega) (by omega))
    have ht : ((60 : Nat) : Int) = 60 := rfl
    rw [ht] at HT
    clear F F2 hE f1 rq r1' hq hne ht
    cases n
    · go_enter Tryz.func63, Tryz.ntmps63
      go_wp2_with fail
      refine (HT _ B1.bel).out.mono ?_
      rintro e w2 ⟨rfl, h2⟩
      have B2 := B1.keep h2
      clear h2 B1 s0 s1 s2 t0 t1 t2 r0 r1 r2
      go_wp2_with fail
      try rw [show E + 60 - 60 - 2 = E - 2 by omega]
      refine (rTwo (E - 2) _).mono ?_
      rintro e w3 ⟨a1, c1, rfl, l1, h3⟩
      have B3 := (B2.keep h3).push (DO false a1 1 c1 (E - 2))
      have hlt : w.heap.size + 1 < w3.heap.size := (B2.keep h3).lt (.head _)
      replace l1 := l1.below (below_alloc w3 (DO false a1 1 c1 (E - 2))) (Nat.le_refl _)
      clear h3 B2
      obtain ⟨⟨s0, s1, s2⟩, _⟩ := cells3 B3 w.heap.size _ _ _ _ (.tail _ (.tail _ (.head _)))
      obtain ⟨⟨u0, u1, u2⟩, _⟩ := cells3 B3 w3.heap.size _ _ _ _ (.head _)
      go_wp2_with fail
      refine (HA _ B3.bel a1 c1 l1).out.mono ?_
      rintro e w4 ⟨n4, z4, x4, a4, c4, rfl, F4, l4, h4⟩
      have B4 := (B3.keep h4).sub (L' := [(w.heap.size + 1, DO false none 0 0 0)]) (by simp)
      have H4 := Hide.mk F4
      clear h4 F4 B3 s0 s1 s2 u0 u1 u2
      obtain ⟨⟨t0, t1, t2⟩, r0, r1, r2⟩ := cells3 B4 (w.heap.size + 1) _ _ _ _ (.head _)
      go_wp2
      have Bf := B4.fill3 (by omega) (by simp) (.bool n4) (.slice a4 z4.length c4) (.int .i64 x4)
      refine bodyPost_ret (results_D1 rfl _ _ (w.heap.size + 1) _ rfl ⟨Bf.head, rfl⟩) rfl ?_
      exact ⟨n4, z4, x4, a4, c4, rfl, by have := H4.out; rw [sv_f] at this ⊢; exact this, lie_set3P (g := w.heap.size + 1) B4.head _ _ _ l4, Bf.bel⟩
    · go_enter Tryz.func63, Tryz.ntmps63
      go_wp2_with fail
      refine (HT _ B1.bel).out.mono ?_
      rintro e w2 ⟨rfl, h2⟩
      have B2 := B1.keep h2
      clear h2 B1 s0 s1 s2 t0 t1 t2 r0 r1 r2
      go_wp2_with fail
      try rw [show E + 60 - 60 - 2 = E - 2 by omega]
      refine (rTwo (E - 2) _).mono ?_
      rintro e w3 ⟨a1, c1, rfl, l1, h3⟩
      have B3 := (B2.keep h3).push (DO false a1 1 c1 (E - 2))
      have hlt : w.heap.size + 1 < w3.heap.size := (B2.keep h3).lt (.head _)
      replace l1 := l1.below (below_alloc w3 (DO false a1 1 c1 (E - 2))) (Nat.le_refl _)
      clear h3 B2
      obtain ⟨⟨s0, s1, s2⟩, _⟩ := cells3 B3 w.heap.size _ _ _ _ (.tail _ (.tail _ (.head _)))
      obtain ⟨⟨u0, u1, u2⟩, _⟩ := cells3 B3 w3.heap.size _ _ _ _ (.head _)
      go_wp2_with fail
      refine (HS _ B3.bel a1 c1 l1).out.mono ?_
      rintro e w4 ⟨n4, z4, x4, a4, c4, rfl, F4, l4, h4⟩
      have B4 := (B3.keep h4).sub (L' := [(w.heap.size + 1, DO false none 0 0 0)]) (by simp)
      have H4 := Hide.mk F4
      clear h4 F4 B3 s0 s1 s2 u0 u1 u2
      obtain ⟨⟨t0, t1, t2⟩, r0, r1, r2⟩ := cells3 B4 (w.heap.size + 1) _ _ _ _ (.head _)
      go_wp2
      have Bf := B4.fill3 (by omega) (by simp) (.bool n4) (.slice a4 z4.length c4) (.int .i64 x4)
      refine bodyPost_ret (results_D1 rfl _ _ (w.heap.size + 1) _ rfl ⟨Bf.head, rfl⟩) rfl ?_
      exact ⟨n4, z4, x4, a4, c4, rfl, by have := H4.out; rw [sv_t] at this ⊢; rw [show -(4 * q + bq true) = -(4 * q) - 1 by simp [bq]; omega]; exact this, lie_set3P (g := w.heap.size + 1) B4.head _ _ _ l4, Bf.bel⟩
end Go.Proofs.YtchmljbkophdaaaGreatDoor

namespace Go.Proofs.YtchmljbkophdaaaGreatDoor
open Go.RowKit Go.Wd Go.Box
set_option linter.unusedVariables false
set_option maxRecDepth 3000
theorem qf_shift (x : Int) (t : Nat) (i : Int) : qf (x * 2 ^ t) 1 i = qf x 1 (i + t) ∧ qg (x * 2 ^ t) 1 i = qg x 1 (i + t) := by
  obtain ⟨c, h1, h2⟩ : ∃ c : Nat, t + i.toNat = (i + t).toNat + c ∧ (-i).toNat = (-(i + t)).toNat + c := ⟨t + i.toNat - (i + t).toNat, by omega, by omega⟩
  have hp := p2pos c
  unfold qf qg
  rw [Int.one_mul, Int.one_mul, Int.mul_assoc, ← Int.pow_add, h1, h2, Int.pow_add, Int.pow_add, ← Int.mul_assoc]
  refine ⟨Int.mul_ediv_mul_of_pos_left _ _ hp, ?_⟩
  rw [Int.mul_comm (x * 2 ^ (i + t).toNat), Int.mul_comm (2 ^ (-(i + t)).toNat), Int.mul_emod_mul_of_pos _ _ hp]
  generalize x * 2 ^ (i + t).toNat % 2 ^ (-(i + t)).toNat = u
  by_cases h : u = 0
  · subst h; simp
  · rw [decide_eq_true h, decide_eq_true (Int.mul_ne_zero (by omega) h)]
theorem far_half (q : Int) (d : Nat) (g : Bool) : (4 * q + bq g) / 2 ^ (d + 2) = q / 2 ^ d ∧ decide ((4 * q + bq g) % 2 ^ (d + 2) ≠ 0) = gx q d g := by
  have e : (2 : Int) ^ (d + 2) = 4 * 2 ^ d := by rw [Int.pow_add, Int.mul_comm]; rfl
  have hb : bq g = 0 ∧ g = false ∨ bq g = 1 ∧ g = true := by cases g <;> simp [bq]
  have h1 : (4 * q + bq g) / 4 = q := by omega
  have h2 : (4 * q + bq g) % 4 = bq g := by omega
  rw [e, cut_div (by omega), mod_split (by omega), h1, h2]
  refine ⟨rfl, ?_⟩
  unfold gx
  have hm := Int.emod_nonneg q (show (2 : Int) ^ d ≠ 0 by have := p2pos d; omega)
  generalize q % 2 ^ d = u at *
  rcases hb with ⟨h, rfl⟩ | ⟨h, rfl⟩
  · rw [h, Bool.or_false]
    by_cases c : u = 0
    · subst c; simp
    · rw [decide_eq_true c, decide_eq_true (by omega)]
  · rw [h, Bool.or_true]
    exact decide_eq_true (by omega)
/-- The reference rounds what lies beyond a number of 60 bits as if all bits were there. -/
theorem rRoundB (b : Bool) (m : Int) (hm : Mode m) (n n' : Bool) (a : Option Addr) (c : Nat) (z : List Int) (x T : Int) (w : World) (l : Lie w a z) {q E : Int} {g : Bool} (F : Fm (sv n (4 * q + bq g)) (E - 2) n' z x) (hq : BitLen q 60) (h1 : -16000000 ≤ E) (h2 : E ≤ 16000000) (hT : T = 60 + E) (d : Nat) (hd : (d : Int) = ulp b T - 1 - E) :
    Calls Tryz.prog 19 #[.int .u8 (fm b), .int .u8 m, dV n' a z.length c x] w fun e' w' => e' = .returned (.tuple #[.int .u64 (rdW b m n T (q / 2 ^ d) (gx q d g)), .int .u8 (rdX b m n T (q / 2 ^ d) (gx q d g) (q / 2 ^ (59 - pr b)) (gx q (59 - pr b) g))]) ∧ Below w.heap.size w w' := by
  have hpb := pr_bd b
  have hq0 : 0 < q := by
    rcases hq with ⟨_, h⟩ | ⟨h, _⟩
    · omega
    · exact h
  have hbq : 0 ≤ bq g ∧ bq g ≤ 1 := by cases g <;> simp [bq]
  have hq1 : 2 ^ 59 ≤ q ∧ q < 2 ^ 60 := by
    rcases hq with ⟨h, _⟩ | ⟨_, h⟩
    · omega
    · exact ⟨by have := h.le; omega, h.lt⟩
  have hZ : BitLen (4 * q + bq g) 62 := .inr ⟨by omega, ⟨by omega, by omega⟩⟩
  have hab := natAbs_sv n (show 0 ≤ 4 * q + bq g by omega)
  have hne : sv n (4 * q + bq g) ≠ 0 := fun h => by rw [h] at hab; simp at hab; omega
  have hsg := sv_neg n (show 0 < 4 * q + bq g by omega)
  have F' := F
  obtain ⟨t, rfl, ht, hc, hz, hn, hv, hdv, hlen⟩ := F.data hne (L := 62) (by rw [hab]; exact hZ)
  rw [hsg] at hn
  subst hn
  have hval : Nt.val z * 2 ^ t = 4 * q + bq g := by
    have h8 := hab
    rw [← hv, natAbs_sv n' (Int.mul_nonneg (Nt.val_bd hc.1).1 (Int.le_of_lt (p2pos t)))] at h8
    exact h8
  have hodd : Nt.val z % 2 = 1 := by
    rcases F' with ⟨h, _⟩ | ⟨_, t', ht', _, hx', _, hv'⟩
    · exact absurd h hne
    · rw [hv']; exact ht'.one
  have gz : DG n' z (E - 2 + t) := ⟨hc, by omega, .inr ⟨hz, hodd, by omega, by omega⟩⟩
  have half : ∀ (e : Int) (k : Nat), (k : Int) = e - 1 - E → qf (Nt.val z) 1 (E - 2 + t + 1 - e) = q / 2 ^ k ∧ qg (Nt.val z) 1 (E - 2 + t + 1 - e) = gx q k g := by
    intro e k hk
    obtain ⟨s1, s2⟩ := qf_shift (Nt.val z) t (E - 2 + 1 - e)
    rw [show E - 2 + 1 - e + (t : Int) = E - 2 + t + 1 - e by omega, hval] at s1 s2
    obtain ⟨f1, f2⟩ := far_half q k g
    rw [← s1, ← s2]
    unfold qf qg
    rw [Int.one_mul, show (E - 2 + 1 - e).toNat = 0 by omega, show (-(E - 2 + 1 - e)).toNat = k + 2 by omega, Int.pow_zero, Int.mul_one]
    exact ⟨f1, f2⟩
  obtain ⟨k1, k2⟩ := half (ulp b T) d hd
  obtain ⟨k3, k4⟩ := half (T - pr b) (59 - pr b) (by omega)
  exact rRound b m hm n' a c z (E - 2 + t) T w l gz hz hdv (by omega) (by omega) k1.symm k2.symm k3.symm k4.symm
theorem rRoot_walk (b : Bool) (m : Int) (a : Option Addr) (c k : Nat) (ex s r E W0 X0 : Int) (g : Bool) (w : World) (hs : (s == 0) = false)
    (KS : ∀ W, Calls Tryz.prog 23 #[dV false a k c ex] W fun e w' => e = .returned (.int .i64 s) ∧ Below W.heap.size W w')
    (KR : ∀ W, Below w.heap.size w W → Calls Tryz.prog 65 #[dV false a k c ex, .int .i64 60] W fun e w' => RCut W w' (sv false r) E g e)
    (KB : ∀ n1 z1 x1 a1 c1 W, Fm (sv false r) E n1 z1 x1 → Lie W a1 z1 → Calls Tryz.prog 63 #[dV n1 a1 (List.length z1) c1 x1, .bool g] W fun e w' => RF W w' (sv false (4 * r + bq g)) (E - 2) e)
    (KF : ∀ n1 z1 x1 a1 c1 W, Fm (sv false (4 * r + bq g)) (E - 2) n1 z1 x1 → Lie W a1 z1 → Calls Tryz.prog 19 #[.int .u8 (fm b), .int .u8 m, dV n1 a1 (List.length z1) c1 x1] W fun e w' => e = .returned (.tuple #[.int .u64 W0, .int .u8 X0]) ∧ Below W.heap.size W w') :
    Calls Tryz.prog 26 #[.int .u8 (fm b), .int .u8 m, dV false a k c ex] w fun e w' => e = .returned (.tuple #[.int .u64 W0, .int .u8 X0]) ∧ Below w.heap.size w w' := by
  have HS := fun W => Hide.mk (KS W)
  have HR := fun W h => Hide.mk (KR W h)
  have HB := fun n1 z1 x1 a1 c1 W f l => Hide.mk (KB n1 z1 x1 a1 c1 W f l)
  have HF := fun n1 z1 x1 a1 c1 W f l => Hide.mk (KF n1 z1 x1 a1 c1 W f l)
  clear KS KR KB KF
  have B1 := (Bx.nil w).push (DO false a k c ex)
  obtain ⟨⟨s0, s1, s2⟩, _⟩ := cells3 B1 w.heap.size _ _ _ _ (.head _)
  go_enter Tryz.func26, Tryz.ntmps26
  go_wp2_with fail
  refine (HS _).out.mono ?_
  rintro e w2 ⟨rfl, h2⟩
  have B2 := B1.keep h2
  clear h2 B1 s0 s1 s2 HS
  obtain ⟨⟨s0, s1, s2⟩, _⟩ := cells3 B2 w.heap.size _ _ _ _ (.head _)
  go_wp2_with fail
  refine (HR _ B2.bel).out.mono ?_
  rintro e w3 ⟨n1, z1, x1, a1, c1, rfl, F1, l1, h3⟩
  have B3 := (B2.keep h3).push (DO n1 a1 z1.length c1 x1)
  replace l1 := l1.below (below_alloc w3 (DO n1 a1 z1.length c1 x1)) (Nat.le_refl _)
  have H1 := Hide.mk F1
  clear h3 B2 s0 s1 s2 HR F1
  obtain ⟨⟨s0, s1, s2⟩, _⟩ := cells3 B3 w3.heap.size _ _ _ _ (.head _)
  go_wp2_with fail
  refine (HB _ _ _ _ _ _ H1.out l1).out.mono ?_
  rintro e w4 ⟨n4, z4, x4, a4, c4, rfl, F4, l4, h4⟩
  have B4 := B3.keep h4
  clear h4 B3 s0 s1 s2 HB
  go_wp2_with fail
  refine (HF _ _ _ _ _ _ F4 l4).out.mono ?_
  rintro e w5 ⟨rfl, h5⟩
  have B5 := B4.keep h5
  clear h5 B4
  go_wp2
  go_ret2
  exact ⟨rfl, B5.bel⟩
end Go.Proofs.YtchmljbkophdaaaGreatDoor

namespace Go.Proofs.YtchmljbkophdaaaGreatDoor
open Go.RowKit Go.Wd Go.Box
set_option linter.unusedVariables false
set_option maxRecDepth 3000
theorem rBeyond1 (n : Bool) (a : Option Addr) (c : Nat) (z : List Int) (x : Int) (w : World) (l : Lie w a z) {q E : Int} {n0 : Bool} (F : Fm (sv n0 q) E n z x) (hq : BitLen q 60) (g : Bool) (h1 : -16000000 ≤ E) (h2 : E ≤ 16000000) :
    Calls Tryz.prog 63 #[dV n a z.length c x, .bool g] w fun e w' => RF w w' (sv n0 (4 * q + bq g)) (E - 2) e := by
  have hq0 : 0 < q := by
    rcases hq with ⟨_, h⟩ | ⟨h, _⟩
    · omega
    · exact h
  have hsg := sv_neg n0 hq0
  have hn : n = n0 := by
    rcases F with ⟨h, _⟩ | ⟨_, t, _, hn, _⟩
    · have := natAbs_sv n0 (Int.le_of_lt hq0); rw [h] at this; simp at this; omega
    · rw [hn, hsg]
  subst hn
  exact rBeyond n a c z x w l F hq g h1 h2
theorem root_both (b : Bool) (m : Int) (hm : Mode m) (z : List Int) (ex : Int) (g : DG false z ex) (hz : 0 < z.length) {B : Nat} (hB : BitLen (Nt.val z) B) (hB2 : B ≤ 9700) :
    ∃ W0 X0, (∀ W a0 c0, Lie W a0 z → Tab W → Calls Tryz.prog 25 #[.int .u8 (fm b), .int .u8 m, dV false a0 z.length c0 ex] W fun e w' => e = .returned (.tuple #[.int .u64 W0, .int .u8 X0, .int .i64 0]) ∧ Below W.heap.size W w') ∧
      (∀ W a0 c0, Lie W a0 z → Calls Tryz.prog 26 #[.int .u8 (fm b), .int .u8 m, dV false a0 z.length c0 ex] W fun e w' => e = .returned (.tuple #[.int .u64 W0, .int .u8 X0]) ∧ Below W.heap.size W w') := by
  have hx := g.ex_bd
  have hp := g.pos hz
  have hpb := pr_bd b
  have hlo := lo_bd b
  have bx : Bits (Nt.val z) B := by
    rcases hB with ⟨h, _⟩ | ⟨_, h⟩
    · omega
    · exact h
  obtain ⟨i, r, g6, R6, r1, r2⟩ := r_at bx hp ex 60 (by decide)
  obtain ⟨j, s, g4, R4, s1, s2⟩ := r_at bx hp ex 64 (by decide)
  have FM := rtFam (Nt.val z) ex
  have dn := FM.down j s g4 4 R4.rt
  have hij : j - (4 : Nat) = i := FM.idx dn R6.rt (by have := R4.bits.down 4; exact this) R6.bits (by decide)
  obtain ⟨T, hT⟩ : ∃ T, T = 60 + -i := ⟨_, rfl⟩
  have hub := ulp_ge b T
  obtain ⟨d, hd⟩ : ∃ d : Nat, (d : Int) = ulp b T - 1 - -i := ⟨(ulp b T - 1 - -i).toNat, by omega⟩
  obtain ⟨d1, hd1⟩ : ∃ d : Nat, ulp b T - T + 63 = (d : Int) := ⟨(ulp b T - T + 63).toNat, by omega⟩
  have hb : 9223372036854775808 ≤ s ∧ s < 18446744073709551616 := by
    rcases R4.bits with ⟨_, h⟩ | ⟨_, h⟩
    · omega
    · have a := h.lt
      have b := h.le
      omega
  have key : ∀ u v : Nat, j - (u : Int) = i - v → s / 2 ^ u = r / 2 ^ v ∧ gx s u g4 = gx r v g6 := by
    intro u v h
    have p1 := FM.down j s g4 u R4.rt
    have p2 := FM.down i r g6 v R6.rt
    rw [h] at p1
    exact FM.uniq _ _ _ _ _ p1 p2
  obtain ⟨k1, k2⟩ := key d1 d (by omega)
  obtain ⟨k3, k4⟩ := key (63 - pr b) (59 - pr b) (by omega)
  refine ⟨rdW b m false T (r / 2 ^ d) (gx r d g6), rdX b m false T (r / 2 ^ d) (gx r d g6) (r / 2 ^ (59 - pr b)) (gx r (59 - pr b) g6), fun W a0 c0 l hTab => ?_, fun W a0 c0 l => ?_⟩
  · have u := g.lie l
    have hs : sgn (dv false z ex) 0 = 1 := by
      have h9 := pK_pos ex
      refine sgn_is2 ?_
      unfold dv
      rw [sv_f]
      exact Int.mul_pos hp h9
    refine wRoot_good b m false a0 c0 z.length ex 1 false T s _ _ g4 W rfl (by decide) ?_ ?_ ?_ ?_
    · intro g0 V hV h3
      have := wWayFor1 b m hm g0 false a0 c0 z ex V (u.below hV) true g.may h3
      exact this
    · intro V hV
      exact dsign49 false a0 c0 z ex _ V (l.below hV (Nat.le_refl _)) ⟨g, rfl⟩ 1 hs
    · intro V hV
      have := wSeenRoot a0 c0 z ex V (l.below hV (Nat.le_refl _)) g hz (hTab.below hV (Nat.le_refl _)) R4 (by omega) (by omega)
      rw [show 64 - j = T by omega] at this
      exact this
    · intro V hV
      have := wRounded b m false T s g4 d1 V (hTab.below hV (Nat.le_refl _)) hm (by omega) (by omega) hb.1 hb.2 hd1
      rw [k1, k2, k3, k4] at this
      exact this
  · have KS : ∀ V, Calls Tryz.prog 23 #[dV false a0 z.length c0 ex] V fun e w' => e = .returned (.int .i64 1) ∧ Below V.heap.size V w' := fun V => rSgnAny false a0 c0 z.length ex 1 (.inr (.inl ⟨hz, rfl, rfl⟩)) V
    refine rRoot_walk b m a0 c0 z.length ex 1 r (-i) _ _ g6 W rfl KS ?_ ?_ ?_
    · intro V hV
      exact rRootT a0 c0 z ex V (l.below hV (Nat.le_refl _)) g 60 60 rfl (by decide) (by decide) hz R6
    · intro n1 z1 x1 a1 c1 V F l1
      exact rBeyond1 n1 a1 c1 z1 x1 V l1 F R6.bits g6 (by omega) (by omega)
    · intro n1 z1 x1 a1 c1 V F l1
      exact rRoundB b m hm false n1 a1 c1 z1 x1 T V l1 F R6.bits (by omega) (by omega) hT d hd
end Go.Proofs.YtchmljbkophdaaaGreatDoor

namespace Go.Proofs.YtchmljbkophdaaaGreatDoor
open Go.RowKit Go.Wd Go.Box
set_option linter.unusedVariables false
set_option maxRecDepth 3000
theorem pRoot_bad {f m code : Int} (h : Opn f m code) (hc : (code == 0) = false) (n : Bool) (a : Option Addr) (c k : Nat) (ex : Int) (w : World) :
    Calls Tryz.prog 25 #[.int .u8 f, .int .u8 m, dV n a k c ex] w fun e w' => e = .returned (.tuple #[.int .u64 0, .int .u8 0, .int .i64 code]) ∧ Below w.heap.size w w' :=
  wRoot_bad f m n a c k ex code w hc (fun g W _ _ => wWayFor_bad f m code 1 g W hc (way_bad h hc))
theorem pRoot_arg (b : Bool) (m : Int) (hm : Mode m) (n : Bool) (a : Option Addr) (c : Nat) (z : List Int) (ex : Int) (w : World) (u : DLie w a z) (hq : dmayB n z ex = false) :
    Calls Tryz.prog 25 #[.int .u8 (fm b), .int .u8 m, dV n a z.length c ex] w fun e w' => e = .returned (.tuple #[.int .u64 0, .int .u8 0, .int .i64 2]) ∧ Below w.heap.size w w' :=
  wRoot_bad (fm b) m n a c z.length ex 2 w rfl (fun g W hW h3 => wWayFor1 b m hm g n a c z ex W (u.below hW) false hq h3)
theorem pRoot_zero (b : Bool) (m : Int) (hm : Mode m) (a : Option Addr) (c : Nat) (w : World) :
    Calls Tryz.prog 25 #[.int .u8 (fm b), .int .u8 m, dV false a ([] : List Int).length c 0] w fun e w' => e = .returned (.tuple #[.int .u64 0, .int .u8 0, .int .i64 0]) ∧ Below w.heap.size w w' :=
  wRoot_zero b m false a c ([] : List Int).length 0 w (fun g W hW h3 => wWayFor1 b m hm g false a c [] 0 W (zeroDG.lie (.inl rfl)) true rfl h3) (fun W _ => dsign49 false a c [] 0 0 W (.inl rfl) ⟨zeroDG, zero_dv _ _⟩ 0 rfl)
theorem pRoot_zeroG (b : Bool) (m : Int) (hm : Mode m) (n : Bool) (a : Option Addr) (c : Nat) (z : List Int) (ex : Int) (w : World) (h : z = [] ∧ n = false ∧ ex = 0) :
    Calls Tryz.prog 25 #[.int .u8 (fm b), .int .u8 m, dV n a z.length c ex] w fun e w' => e = .returned (.tuple #[.int .u64 0, .int .u8 0, .int .i64 0]) ∧ Below w.heap.size w w' := by
  obtain ⟨rfl, rfl, rfl⟩ := h
  exact pRoot_zero b m hm a c w
theorem pRoot_less (b : Bool) (m : Int) (hm : Mode m) (a : Option Addr) (c : Nat) (z : List Int) (ex : Int) (w : World) (l : Lie w a z) (g : DG true z ex) (hz : 0 < z.length) :
    Calls Tryz.prog 25 #[.int .u8 (fm b), .int .u8 m, dV true a z.length c ex] w fun e w' => e = .returned (.tuple #[.int .u64 0, .int .u8 0, .int .i64 10]) ∧ Below w.heap.size w w' := by
  have u := g.lie l
  have hs : sgn (dv true z ex) 0 = -1 := by
    refine sgn_is1 ?_
    have h9 := Int.mul_pos (g.pos hz) (pK_pos ex)
    unfold dv
    rw [sv_t, Int.neg_mul]
    omega
  exact wRoot_less b m true a c z.length ex w (fun g0 W hW h3 => wWayFor1 b m hm g0 true a c z ex W (u.below hW) true g.may h3) (fun W hW => dsign49 true a c z ex _ W (l.below hW (Nat.le_refl _)) ⟨g, rfl⟩ (-1) hs)
theorem rRootZero (f m : Int) (n : Bool) (a : Option Addr) (c k : Nat) (ex : Int) (w : World)
    (HS : ∀ W, Calls Tryz.prog 23 #[dV n a k c ex] W fun e w' => e = .returned (.int .i64 0) ∧ Below W.heap.size W w') :
    Calls Tryz.prog 26 #[.int .u8 f, .int .u8 m, dV n a k c ex] w fun e w' => e = .returned (.tuple #[.int .u64 0, .int .u8 0]) ∧ Below w.heap.size w w' := by
  have H := fun W => Hide.mk (HS W)
  clear HS
  have B1 := (Bx.nil w).push (DO n a k c ex)
  obtain ⟨⟨s0, s1, s2⟩, _⟩ := cells3 B1 w.heap.size _ _ _ _ (.head _)
  go_enter Tryz.func26, Tryz.ntmps26
  go_wp2_with fail
  refine (H _).out.mono ?_
  rintro e w2 ⟨rfl, h2⟩
  have B2 := B1.keep h2
  go_wp2
  go_ret2
  exact ⟨rfl, B2.bel⟩
set_option maxHeartbeats 2000000 in
theorem rr_long (n : Bool) (a : Option Addr) (c : Nat) (z : List Int) (ex m : Int) (f : Int) (hl : (300 : Int) < (z.length : Int)) (w : World) (u : DLie w a z) (hT : Tab w) :
    Calls Tryz.prog 5 #[.int .u8 f, .int .u8 m, dV n a z.length c ex] w fun e w' => e = .returned (.bool true) ∧ Below w.heap.size w w' := by
  have BX := (Bx.nil w).push (DO n a z.length c ex)
  obtain ⟨⟨q0, q1, q2⟩, _⟩ := cells3 BX w.heap.size _ _ _ _ (show (w.heap.size, DO n a z.length c ex) ∈ _ by simp)
  go_enter Tryz.func5, Tryz.ntmps5
  go_wp2_with fail
  refine (lLong4 n a z.length c ex _ true (decide_eq_true hl)).mono ?_
  rintro e v1 ⟨rfl, hk⟩
  replace BX := BX.keep hk
  clear hk q0 q1 q2
  obtain ⟨⟨q0, q1, q2⟩, _⟩ := cells3 BX w.heap.size _ _ _ _ (show (w.heap.size, DO n a z.length c ex) ∈ _ by simp)
  go_wp2_with fail
  refine (lKnown4 _ (hT.below BX.bel (Nat.le_refl _))).mono ?_
  rintro e v2 ⟨rfl, hk⟩
  replace BX := BX.keep hk
  clear hk q0 q1 q2
  obtain ⟨⟨q0, q1, q2⟩, _⟩ := cells3 BX w.heap.size _ _ _ _ (show (w.heap.size, DO n a z.length c ex) ∈ _ by simp)
  go_wp2
  go_ret
  exact ⟨rfl, BX.bel⟩
set_option maxHeartbeats 2000000 in
theorem rr_bad (n : Bool) (a : Option Addr) (c : Nat) (z : List Int) (ex m : Int) (f code : Int) (ho : Opn f m code) (hc : (code == 0) = false) (hl : (z.length : Int) ≤ 300) (w : World) (u : DLie w a z) (hT : Tab w) (hml : z.length ≤ 1000000) (hnil : a = none → c = 0) :
    Calls Tryz.prog 5 #[.int .u8 f, .int .u8 m, dV n a z.length c ex] w fun e w' => e = .returned (.bool true) ∧ Below w.heap.size w w' := by
  have BX := (Bx.nil w).push (DO n a z.length c ex)
  obtain ⟨⟨q0, q1, q2⟩, _⟩ := cells3 BX w.heap.size _ _ _ _ (show (w.heap.size, DO n a z.length c ex) ∈ _ by simp)
  go_enter Tryz.func5, Tryz.ntmps5
  go_wp2_with fail
  refine (lLong4 n a z.length c ex _ false (decide_eq_false (by omega))).mono ?_
  rintro e v3 ⟨rfl, hk⟩
  replace BX := BX.keep hk
  clear hk q0 q1 q2
  obtain ⟨⟨q0, q1, q2⟩, _⟩ := cells3 BX w.heap.size _ _ _ _ (show (w.heap.size, DO n a z.length c ex) ∈ _ by simp)
  go_wp2_with fail
  refine (lent4 n a c z ex _ (u.below BX.bel).lie hml hnil).mono ?_
  rintro e v4 ⟨ax, cx, rfl, lx0, hk, _⟩
  replace BX := (BX.keep hk).push (DO n ax z.length cx ex)
  have lx := lx0.below (below_alloc v4 (DO n ax z.length cx ex)) (Nat.le_refl _)
  obtain ⟨gx0, hgx⟩ : ∃ g, v4.heap.size = g := ⟨_, rfl⟩
  rw [hgx] at BX
  clear lx0 hk q0 q1 q2
  obtain ⟨⟨q0, q1, q2⟩, _⟩ := cells3 BX w.heap.size _ _ _ _ (show (w.heap.size, DO n a z.length c ex) ∈ _ by simp)
  obtain ⟨⟨p0, p1, p2⟩, _⟩ := cells3 BX gx0 _ _ _ _ (show (gx0, DO n ax z.length cx ex) ∈ _ by simp)
  go_wp2_with fail
  try rw [hgx]
  clear hgx
  refine (pRoot_bad ho hc n ax cx z.length ex _).mono ?_
  rintro e v5 ⟨rfl, hk⟩
  replace BX := BX.keep hk
  replace lx := lx.below hk (Nat.le_refl _)
  clear hk q0 q1 q2 p0 p1 p2
  obtain ⟨⟨q0, q1, q2⟩, _⟩ := cells3 BX w.heap.size _ _ _ _ (show (w.heap.size, DO n a z.length c ex) ∈ _ by simp)
  obtain ⟨⟨p0, p1, p2⟩, _⟩ := cells3 BX gx0 _ _ _ _ (show (gx0, DO n ax z.length cx ex) ∈ _ by simp)
  go_wp2_with fail
  replace BX := BX.push (DO n a z.length c ex)
  replace lx := lx.below (below_alloc _ (DO n a z.length c ex)) (Nat.le_refl _)
  clear q0 q1 q2 p0 p1 p2
  obtain ⟨⟨q0, q1, q2⟩, _⟩ := cells3 BX w.heap.size _ _ _ _ (show (w.heap.size, DO n a z.length c ex) ∈ _ by simp)
  obtain ⟨⟨p0, p1, p2⟩, _⟩ := cells3 BX gx0 _ _ _ _ (show (gx0, DO n ax z.length cx ex) ∈ _ by simp)
  refine (lOpens_bad f m code _ ho hc _).mono ?_
  rintro e v6 ⟨rfl, hk⟩
  replace BX := BX.keep hk
  replace lx := lx.below hk (Nat.le_refl _)
  clear hk q0 q1 q2 p0 p1 p2
  obtain ⟨⟨q0, q1, q2⟩, _⟩ := cells3 BX w.heap.size _ _ _ _ (show (w.heap.size, DO n a z.length c ex) ∈ _ by simp)
  obtain ⟨⟨p0, p1, p2⟩, _⟩ := cells3 BX gx0 _ _ _ _ (show (gx0, DO n ax z.length cx ex) ∈ _ by simp)
  go_wp2_with fail
  refine (lRefused code _).mono ?_
  rintro e v7 ⟨rfl, hk⟩
  replace BX := BX.keep hk
  replace lx := lx.below hk (Nat.le_refl _)
  clear hk q0 q1 q2 p0 p1 p2
  obtain ⟨⟨q0, q1, q2⟩, _⟩ := cells3 BX w.heap.size _ _ _ _ (show (w.heap.size, DO n a z.length c ex) ∈ _ by simp)
  obtain ⟨⟨p0, p1, p2⟩, _⟩ := cells3 BX gx0 _ _ _ _ (show (gx0, DO n ax z.length cx ex) ∈ _ by simp)
  go_wp2_with fail
  refine (lKnown4 _ (hT.below BX.bel (Nat.le_refl _))).mono ?_
  rintro e v8 ⟨rfl, hk⟩
  replace BX := BX.keep hk
  replace lx := lx.below hk (Nat.le_refl _)
  clear hk q0 q1 q2 p0 p1 p2
  obtain ⟨⟨q0, q1, q2⟩, _⟩ := cells3 BX w.heap.size _ _ _ _ (show (w.heap.size, DO n a z.length c ex) ∈ _ by simp)
  obtain ⟨⟨p0, p1, p2⟩, _⟩ := cells3 BX gx0 _ _ _ _ (show (gx0, DO n ax z.length cx ex) ∈ _ by simp)
  go_wp2
  go_ret
  exact ⟨rfl, BX.bel⟩
set_option maxHeartbeats 2000000 in
theorem rr_arg (n : Bool) (a : Option Addr) (c : Nat) (z : List Int) (ex m : Int) (b : Bool) (hm : Mode m) (hq : dmayB n z ex = false) (hl : (z.length : Int) ≤ 300) (w : World) (u : DLie w a z) (hT : Tab w) (hml : z.length ≤ 1000000) (hnil : a = none → c = 0) :
    Calls Tryz.prog 5 #[.int .u8 (fm b), .int .u8 m, dV n a z.length c ex] w fun e w' => e = .returned (.bool true) ∧ Below w.heap.size w w' := by
  have BX := (Bx.nil w).push (DO n a z.length c ex)
  obtain ⟨⟨q0, q1, q2⟩, _⟩ := cells3 BX w.heap.size _ _ _ _ (show (w.heap.size, DO n a z.length c ex) ∈ _ by simp)
  go_enter Tryz.func5, Tryz.ntmps5
  go_wp2_with fail
  refine (lLong4 n a z.length c ex _ false (decide_eq_false (by omega))).mono ?_
  rintro e v9 ⟨rfl, hk⟩
  replace BX := BX.keep hk
  clear hk q0 q1 q2
  obtain ⟨⟨q0, q1, q2⟩, _⟩ := cells3 BX w.heap.size _ _ _ _ (show (w.heap.size, DO n a z.length c ex) ∈ _ by simp)
  go_wp2_with fail
  refine (lent4 n a c z ex _ (u.below BX.bel).lie hml hnil).mono ?_
  rintro e v10 ⟨ax, cx, rfl, lx0, hk, _⟩
  replace BX := (BX.keep hk).push (DO n ax z.length cx ex)
  have lx := lx0.below (below_alloc v10 (DO n ax z.length cx ex)) (Nat.le_refl _)
  obtain ⟨gx0, hgx⟩ : ∃ g, v10.heap.size = g := ⟨_, rfl⟩
  rw [hgx] at BX
  clear lx0 hk q0 q1 q2
  obtain ⟨⟨q0, q1, q2⟩, _⟩ := cells3 BX w.heap.size _ _ _ _ (show (w.heap.size, DO n a z.length c ex) ∈ _ by simp)
  obtain ⟨⟨p0, p1, p2⟩, _⟩ := cells3 BX gx0 _ _ _ _ (show (gx0, DO n ax z.length cx ex) ∈ _ by simp)
  go_wp2_with fail
  try rw [hgx]
  clear hgx
  refine (pRoot_arg b m hm n ax cx z ex _ ⟨lx, u.len, u.rng⟩ hq).mono ?_
  rintro e v11 ⟨rfl, hk⟩
  replace BX := BX.keep hk
  replace lx := lx.below hk (Nat.le_refl _)
  clear hk q0 q1 q2 p0 p1 p2
  obtain ⟨⟨q0, q1, q2⟩, _⟩ := cells3 BX w.heap.size _ _ _ _ (show (w.heap.size, DO n a z.length c ex) ∈ _ by simp)
  obtain ⟨⟨p0, p1, p2⟩, _⟩ := cells3 BX gx0 _ _ _ _ (show (gx0, DO n ax z.length cx ex) ∈ _ by simp)
  go_wp2_with fail
  replace BX := BX.push (DO n a z.length c ex)
  replace lx := lx.below (below_alloc _ (DO n a z.length c ex)) (Nat.le_refl _)
  clear q0 q1 q2 p0 p1 p2
  obtain ⟨⟨q0, q1, q2⟩, _⟩ := cells3 BX w.heap.size _ _ _ _ (show (w.heap.size, DO n a z.length c ex) ∈ _ by simp)
  obtain ⟨⟨p0, p1, p2⟩, _⟩ := cells3 BX gx0 _ _ _ _ (show (gx0, DO n ax z.length cx ex) ∈ _ by simp)
  refine (lOpens1_no b m hm _ n a c z ex _ (u.below BX.bel) hq (at3_of BX (.head _))).mono ?_
  rintro e v12 ⟨rfl, hk⟩
  replace BX := BX.keep hk
  replace lx := lx.below hk (Nat.le_refl _)
  clear hk q0 q1 q2 p0 p1 p2
  obtain ⟨⟨q0, q1, q2⟩, _⟩ := cells3 BX w.heap.size _ _ _ _ (show (w.heap.size, DO n a z.length c ex) ∈ _ by simp)
  obtain ⟨⟨p0, p1, p2⟩, _⟩ := cells3 BX gx0 _ _ _ _ (show (gx0, DO n ax z.length cx ex) ∈ _ by simp)
  go_wp2_with fail
  refine (lRefused 2 _).mono ?_
  rintro e v13 ⟨rfl, hk⟩
  replace BX := BX.keep hk
  replace lx := lx.below hk (Nat.le_refl _)
  clear hk q0 q1 q2 p0 p1 p2
  obtain ⟨⟨q0, q1, q2⟩, _⟩ := cells3 BX w.heap.size _ _ _ _ (show (w.heap.size, DO n a z.length c ex) ∈ _ by simp)
  obtain ⟨⟨p0, p1, p2⟩, _⟩ := cells3 BX gx0 _ _ _ _ (show (gx0, DO n ax z.length cx ex) ∈ _ by simp)
  go_wp2_with fail
  refine (lKnown4 _ (hT.below BX.bel (Nat.le_refl _))).mono ?_
  rintro e v14 ⟨rfl, hk⟩
  replace BX := BX.keep hk
  replace lx := lx.below hk (Nat.le_refl _)
  clear hk q0 q1 q2 p0 p1 p2
  obtain ⟨⟨q0, q1, q2⟩, _⟩ := cells3 BX w.heap.size _ _ _ _ (show (w.heap.size, DO n a z.length c ex) ∈ _ by simp)
  obtain ⟨⟨p0, p1, p2⟩, _⟩ := cells3 BX gx0 _ _ _ _ (show (gx0, DO n ax z.length cx ex) ∈ _ by simp)
  go_wp2
  go_ret
  exact ⟨rfl, BX.bel⟩
set_option maxHeartbeats 2000000 in
theorem rr_zero (a : Option Addr) (c : Nat) (z : List Int) (ex m : Int) (b : Bool) (hm : Mode m) (hZ : Hide (z = [] ∧ ex = 0)) (hl : (z.length : Int) ≤ 300) (w : World) (u : DLie w a z) (hT : Tab w) (hml : z.length ≤ 1000000) (hnil : a = none → c = 0) :
    Calls Tryz.prog 5 #[.int .u8 (fm b), .int .u8 m, dV false a z.length c ex] w fun e w' => e = .returned (.bool true) ∧ Below w.heap.size w w' := by
  have BX := (Bx.nil w).push (DO false a z.length c ex)
  obtain ⟨⟨q0, q1, q2⟩, _⟩ := cells3 BX w.heap.size _ _ _ _ (show (w.heap.size, DO false a z.length c ex) ∈ _ by simp)
  go_enter Tryz.func5, Tryz.ntmps5
  go_wp2_with fail
  refine (lLong4 false a z.length c ex _ false (decide_eq_false (by omega))).mono ?_
  rintro e v15 ⟨rfl, hk⟩
  replace BX := BX.keep hk
  clear hk q0 q1 q2
  obtain ⟨⟨q0, q1, q2⟩, _⟩ := cells3 BX w.heap.size _ _ _ _ (show (w.heap.size, DO false a z.length c ex) ∈ _ by simp)
  go_wp2_with fail
  refine (lent4 false a c z ex _ (u.below BX.bel).lie hml hnil).mono ?_
  rintro e v16 ⟨ax, cx, rfl, lx0, hk, _⟩
  replace BX := (BX.keep hk).push (DO false ax z.length cx ex)
  have lx := lx0.below (below_alloc v16 (DO false ax z.length cx ex)) (Nat.le_refl _)
  obtain ⟨gx0, hgx⟩ : ∃ g, v16.heap.size = g := ⟨_, rfl⟩
  rw [hgx] at BX
  clear lx0 hk q0 q1 q2
  obtain ⟨⟨q0, q1, q2⟩, _⟩ := cells3 BX w.heap.size _ _ _ _ (show (w.heap.size, DO false a z.length c ex) ∈ _ by simp)
  obtain ⟨⟨p0, p1, p2⟩, _⟩ := cells3 BX gx0 _ _ _ _ (show (gx0, DO false ax z.length cx ex) ∈ _ by simp)
  go_wp2_with fail
  try rw [hgx]
  clear hgx
  refine (pRoot_zeroG b m hm false ax cx z ex _ ⟨hZ.out.1, rfl, hZ.out.2⟩).mono ?_
  rintro e v17 ⟨rfl, hk⟩
  replace BX := BX.keep hk
  replace lx := lx.below hk (Nat.le_refl _)
  clear hk q0 q1 q2 p0 p1 p2
  obtain ⟨⟨q0, q1, q2⟩, _⟩ := cells3 BX w.heap.size _ _ _ _ (show (w.heap.size, DO false a z.length c ex) ∈ _ by simp)
  obtain ⟨⟨p0, p1, p2⟩, _⟩ := cells3 BX gx0 _ _ _ _ (show (gx0, DO false ax z.length cx ex) ∈ _ by simp)
  go_wp2_with fail
  replace BX := BX.push (DO false a z.length c ex)
  replace lx := lx.below (below_alloc _ (DO false a z.length c ex)) (Nat.le_refl _)
  clear q0 q1 q2 p0 p1 p2
  obtain ⟨⟨q0, q1, q2⟩, _⟩ := cells3 BX w.heap.size _ _ _ _ (show (w.heap.size, DO false a z.length c ex) ∈ _ by simp)
  obtain ⟨⟨p0, p1, p2⟩, _⟩ := cells3 BX gx0 _ _ _ _ (show (gx0, DO false ax z.length cx ex) ∈ _ by simp)
  refine (lOpens1 b m hm _ false a c z ex _ (u.below BX.bel) (by rw [hZ.out.1, hZ.out.2]; rfl) (at3_of BX (.head _))).mono ?_
  rintro e v18 ⟨rfl, hk⟩
  replace BX := BX.keep hk
  replace lx := lx.below hk (Nat.le_refl _)
  clear hk q0 q1 q2 p0 p1 p2
  obtain ⟨⟨q0, q1, q2⟩, _⟩ := cells3 BX w.heap.size _ _ _ _ (show (w.heap.size, DO false a z.length c ex) ∈ _ by simp)
  obtain ⟨⟨p0, p1, p2⟩, _⟩ := cells3 BX gx0 _ _ _ _ (show (gx0, DO false ax z.length cx ex) ∈ _ by simp)
  go_wp2_with fail
  refine (rRootZero (fm b) m false a c z.length ex _ (fun W => by rw [hZ.out.1, hZ.out.2]; exact rSgnAny false a c 0 0 0 (.inl ⟨rfl, rfl⟩) W)).mono ?_
  rintro e v19 ⟨rfl, hk⟩
  replace BX := BX.keep hk
  replace lx := lx.below hk (Nat.le_refl _)
  clear hk q0 q1 q2 p0 p1 p2
  obtain ⟨⟨q0, q1, q2⟩, _⟩ := cells3 BX w.heap.size _ _ _ _ (show (w.heap.size, DO false a z.length c ex) ∈ _ by simp)
  obtain ⟨⟨p0, p1, p2⟩, _⟩ := cells3 BX gx0 _ _ _ _ (show (gx0, DO false ax z.length cx ex) ∈ _ by simp)
  go_wp2_with fail
  refine (lTold 0 0 _).mono ?_
  rintro e v20 ⟨rfl, hk⟩
  replace BX := BX.keep hk
  replace lx := lx.below hk (Nat.le_refl _)
  clear hk q0 q1 q2 p0 p1 p2
  obtain ⟨⟨q0, q1, q2⟩, _⟩ := cells3 BX w.heap.size _ _ _ _ (show (w.heap.size, DO false a z.length c ex) ∈ _ by simp)
  obtain ⟨⟨p0, p1, p2⟩, _⟩ := cells3 BX gx0 _ _ _ _ (show (gx0, DO false ax z.length cx ex) ∈ _ by simp)
  go_wp2_with fail
  refine (sameP false ax a cx c z ex _ ⟨lx, u.len, u.rng⟩ (u.below BX.bel)).mono ?_
  rintro e v21 ⟨rfl, hk⟩
  replace BX := BX.keep hk
  replace lx := lx.below hk (Nat.le_refl _)
  clear hk q0 q1 q2 p0 p1 p2
  obtain ⟨⟨q0, q1, q2⟩, _⟩ := cells3 BX w.heap.size _ _ _ _ (show (w.heap.size, DO false a z.length c ex) ∈ _ by simp)
  obtain ⟨⟨p0, p1, p2⟩, _⟩ := cells3 BX gx0 _ _ _ _ (show (gx0, DO false ax z.length cx ex) ∈ _ by simp)
  go_wp2_with fail
  refine (lKnown4 _ (hT.below BX.bel (Nat.le_refl _))).mono ?_
  rintro e v22 ⟨rfl, hk⟩
  replace BX := BX.keep hk
  replace lx := lx.below hk (Nat.le_refl _)
  clear hk q0 q1 q2 p0 p1 p2
  obtain ⟨⟨q0, q1, q2⟩, _⟩ := cells3 BX w.heap.size _ _ _ _ (show (w.heap.size, DO false a z.length c ex) ∈ _ by simp)
  obtain ⟨⟨p0, p1, p2⟩, _⟩ := cells3 BX gx0 _ _ _ _ (show (gx0, DO false ax z.length cx ex) ∈ _ by simp)
  go_wp2
  go_ret
  exact ⟨rfl, BX.bel⟩
set_option maxHeartbeats 2000000 in
theorem rr_less (a : Option Addr) (c : Nat) (z : List Int) (ex m : Int) (b : Bool) (hm : Mode m) (g : DG true z ex) (hz : 0 < z.length) (hl : (z.length : Int) ≤ 300) (w : World) (u : DLie w a z) (hT : Tab w) (hml : z.length ≤ 1000000) (hnil : a = none → c = 0) :
    Calls Tryz.prog 5 #[.int .u8 (fm b), .int .u8 m, dV true a z.length c ex] w fun e w' => e = .returned (.bool true) ∧ Below w.heap.size w w' := by
  have BX := (Bx.nil w).push (DO true a z.length c ex)
  obtain ⟨⟨q0, q1, q2⟩, _⟩ := cells3 BX w.heap.size _ _ _ _ (show (w.heap.size, DO true a z.length c ex) ∈ _ by simp)
  go_enter Tryz.func5, Tryz.ntmps5
  go_wp2_with fail
  refine (lLong4 true a z.length c ex _ false (decide_eq_false (by omega))).mono ?_
  rintro e v23 ⟨rfl, hk⟩
  replace BX := BX.keep hk
  clear hk q0 q1 q2
  obtain ⟨⟨q0, q1, q2⟩, _⟩ := cells3 BX w.heap.size _ _ _ _ (show (w.heap.size, DO true a z.length c ex) ∈ _ by simp)
  go_wp2_with fail
  refine (lent4 true a c z ex _ (u.below BX.bel).lie hml hnil).mono ?_
  rintro e v24 ⟨ax, cx, rfl, lx0, hk, _⟩
  replace BX := (BX.keep hk).push (DO true ax z.length cx ex)
  have lx := lx0.below (below_alloc v24 (DO true ax z.length cx ex)) (Nat.le_refl _)
  obtain ⟨gx0, hgx⟩ : ∃ g, v24.heap.size = g := ⟨_, rfl⟩
  rw [hgx] at BX
  clear lx0 hk q0 q1 q2
  obtain ⟨⟨q0, q1, q2⟩, _⟩ := cells3 BX w.heap.size _ _ _ _ (show (w.heap.size, DO true a z.length c ex) ∈ _ by simp)
  obtain ⟨⟨p0, p1, p2⟩, _⟩ := cells3 BX gx0 _ _ _ _ (show (gx0, DO true ax z.length cx ex) ∈ _ by simp)
  go_wp2_with fail
  try rw [hgx]
  clear hgx
  refine (pRoot_less b m hm ax cx z ex _ lx g hz).mono ?_
  rintro e v25 ⟨rfl, hk⟩
  replace BX := BX.keep hk
  replace lx := lx.below hk (Nat.le_refl _)
  clear hk q0 q1 q2 p0 p1 p2
  obtain ⟨⟨q0, q1, q2⟩, _⟩ := cells3 BX w.heap.size _ _ _ _ (show (w.heap.size, DO true a z.length c ex) ∈ _ by simp)
  obtain ⟨⟨p0, p1, p2⟩, _⟩ := cells3 BX gx0 _ _ _ _ (show (gx0, DO true ax z.length cx ex) ∈ _ by simp)
  go_wp2_with fail
  replace BX := BX.push (DO true a z.length c ex)
  replace lx := lx.below (below_alloc _ (DO true a z.length c ex)) (Nat.le_refl _)
  clear q0 q1 q2 p0 p1 p2
  obtain ⟨⟨q0, q1, q2⟩, _⟩ := cells3 BX w.heap.size _ _ _ _ (show (w.heap.size, DO true a z.length c ex) ∈ _ by simp)
  obtain ⟨⟨p0, p1, p2⟩, _⟩ := cells3 BX gx0 _ _ _ _ (show (gx0, DO true ax z.length cx ex) ∈ _ by simp)
  refine (lOpens1 b m hm _ true a c z ex _ (u.below BX.bel) g.may (at3_of BX (.head _))).mono ?_
  rintro e v26 ⟨rfl, hk⟩
  replace BX := BX.keep hk
  replace lx := lx.below hk (Nat.le_refl _)
  clear hk q0 q1 q2 p0 p1 p2
  obtain ⟨⟨q0, q1, q2⟩, _⟩ := cells3 BX w.heap.size _ _ _ _ (show (w.heap.size, DO true a z.length c ex) ∈ _ by simp)
  obtain ⟨⟨p0, p1, p2⟩, _⟩ := cells3 BX gx0 _ _ _ _ (show (gx0, DO true ax z.length cx ex) ∈ _ by simp)
  go_wp2_with fail
  refine (lRefused 10 _).mono ?_
  rintro e v27 ⟨rfl, hk⟩
  replace BX := BX.keep hk
  replace lx := lx.below hk (Nat.le_refl _)
  clear hk q0 q1 q2 p0 p1 p2
  obtain ⟨⟨q0, q1, q2⟩, _⟩ := cells3 BX w.heap.size _ _ _ _ (show (w.heap.size, DO true a z.length c ex) ∈ _ by simp)
  obtain ⟨⟨p0, p1, p2⟩, _⟩ := cells3 BX gx0 _ _ _ _ (show (gx0, DO true ax z.length cx ex) ∈ _ by simp)
  go_wp2_with fail
  refine (lKnown4 _ (hT.below BX.bel (Nat.le_refl _))).mono ?_
  rintro e v28 ⟨rfl, hk⟩
  replace BX := BX.keep hk
  replace lx := lx.below hk (Nat.le_refl _)
  clear hk q0 q1 q2 p0 p1 p2
  obtain ⟨⟨q0, q1, q2⟩, _⟩ := cells3 BX w.heap.size _ _ _ _ (show (w.heap.size, DO true a z.length c ex) ∈ _ by simp)
  obtain ⟨⟨p0, p1, p2⟩, _⟩ := cells3 BX gx0 _ _ _ _ (show (gx0, DO true ax z.length cx ex) ∈ _ by simp)
  go_wp2
  go_ret
  exact ⟨rfl, BX.bel⟩
set_option maxHeartbeats 2000000 in
theorem rr_good (a : Option Addr) (c : Nat) (z : List Int) (ex m : Int) (b : Bool) (hm : Mode m) (g : DG false z ex) (hz : 0 < z.length) (W0 X0 : Int) (KP : ∀ W a0 c0, Lie W a0 z → Tab W → Calls Tryz.prog 25 #[.int .u8 (fm b), .int .u8 m, dV false a0 z.length c0 ex] W fun e w' => e = .returned (.tuple #[.int .u64 W0, .int .u8 X0, .int .i64 0]) ∧ Below W.heap.size W w') (KR : ∀ W, Lie W a z → Calls Tryz.prog 26 #[.int .u8 (fm b), .int .u8 m, dV false a z.length c ex] W fun e w' => e = .returned (.tuple #[.int .u64 W0, .int .u8 X0]) ∧ Below W.heap.size W w') (hl : (z.length : Int) ≤ 300) (w : World) (u : DLie w a z) (hT : Tab w) (hml : z.length ≤ 1000000) (hnil : a = none → c = 0) :
    Calls Tryz.prog 5 #[.int .u8 (fm b), .int .u8 m, dV false a z.length c ex] w fun e w' => e = .returned (.bool true) ∧ Below w.heap.size w w' := by
  have BX := (Bx.nil w).push (DO false a z.length c ex)
  obtain ⟨⟨q0, q1, q2⟩, _⟩ := cells3 BX w.heap.size _ _ _ _ (show (w.heap.size, DO false a z.length c ex) ∈ _ by simp)
  go_enter Tryz.func5, Tryz.ntmps5
  have HP := fun W a0 c0 h1 h2 => Hide.mk (KP W a0 c0 h1 h2)
  have HR := fun W h1 => Hide.mk (KR W h1)
  clear KP KR
  go_wp2_with fail
  refine (lLong4 false a z.length c ex _ false (decide_eq_false (by omega))).mono ?_
  rintro e v29 ⟨rfl, hk⟩
  replace BX := BX.keep hk
  clear hk q0 q1 q2
  obtain ⟨⟨q0, q1, q2⟩, _⟩ := cells3 BX w.heap.size _ _ _ _ (show (w.heap.size, DO false a z.length c ex) ∈ _ by simp)
  go_wp2_with fail
  refine (lent4 false a c z ex _ (u.below BX.bel).lie hml hnil).mono ?_
  rintro e v30 ⟨ax, cx, rfl, lx0, hk, _⟩
  replace BX := (BX.keep hk).push (DO false ax z.length cx ex)
  have lx := lx0.below (below_alloc v30 (DO false ax z.length cx ex)) (Nat.le_refl _)
  obtain ⟨gx0, hgx⟩ : ∃ g, v30.heap.size = g := ⟨_, rfl⟩
  rw [hgx] at BX
  clear lx0 hk q0 q1 q2
  obtain ⟨⟨q0, q1, q2⟩, _⟩ := cells3 BX w.heap.size _ _ _ _ (show (w.heap.size, DO false a z.length c ex) ∈ _ by simp)
  obtain ⟨⟨p0, p1, p2⟩, _⟩ := cells3 BX gx0 _ _ _ _ (show (gx0, DO false ax z.length cx ex) ∈ _ by simp)
  go_wp2_with fail
  try rw [hgx]
  clear hgx
  refine ((HP _ ax cx lx (hT.below BX.bel (Nat.le_refl _))).out).mono ?_
  rintro e v31 ⟨rfl, hk⟩
  replace BX := BX.keep hk
  replace lx := lx.below hk (Nat.le_refl _)
  clear hk q0 q1 q2 p0 p1 p2
  obtain ⟨⟨q0, q1, q2⟩, _⟩ := cells3 BX w.heap.size _ _ _ _ (show (w.heap.size, DO false a z.length c ex) ∈ _ by simp)
  obtain ⟨⟨p0, p1, p2⟩, _⟩ := cells3 BX gx0 _ _ _ _ (show (gx0, DO false ax z.length cx ex) ∈ _ by simp)
  go_wp2_with fail
  replace BX := BX.push (DO false a z.length c ex)
  replace lx := lx.below (below_alloc _ (DO false a z.length c ex)) (Nat.le_refl _)
  clear q0 q1 q2 p0 p1 p2
  obtain ⟨⟨q0, q1, q2⟩, _⟩ := cells3 BX w.heap.size _ _ _ _ (show (w.heap.size, DO false a z.length c ex) ∈ _ by simp)
  obtain ⟨⟨p0, p1, p2⟩, _⟩ := cells3 BX gx0 _ _ _ _ (show (gx0, DO false ax z.length cx ex) ∈ _ by simp)
  refine (lOpens1 b m hm _ false a c z ex _ (u.below BX.bel) g.may (at3_of BX (.head _))).mono ?_
  rintro e v32 ⟨rfl, hk⟩
  replace BX := BX.keep hk
  replace lx := lx.below hk (Nat.le_refl _)
  clear hk q0 q1 q2 p0 p1 p2
  obtain ⟨⟨q0, q1, q2⟩, _⟩ := cells3 BX w.heap.size _ _ _ _ (show (w.heap.size, DO false a z.length c ex) ∈ _ by simp)
  obtain ⟨⟨p0, p1, p2⟩, _⟩ := cells3 BX gx0 _ _ _ _ (show (gx0, DO false ax z.length cx ex) ∈ _ by simp)
  go_wp2_with fail
  refine ((HR _ (u.below BX.bel).lie).out).mono ?_
  rintro e v33 ⟨rfl, hk⟩
  replace BX := BX.keep hk
  replace lx := lx.below hk (Nat.le_refl _)
  clear hk q0 q1 q2 p0 p1 p2
  obtain ⟨⟨q0, q1, q2⟩, _⟩ := cells3 BX w.heap.size _ _ _ _ (show (w.heap.size, DO false a z.length c ex) ∈ _ by simp)
  obtain ⟨⟨p0, p1, p2⟩, _⟩ := cells3 BX gx0 _ _ _ _ (show (gx0, DO false ax z.length cx ex) ∈ _ by simp)
  go_wp2_with fail
  refine (lTold W0 X0 _).mono ?_
  rintro e v34 ⟨rfl, hk⟩
  replace BX := BX.keep hk
  replace lx := lx.below hk (Nat.le_refl _)
  clear hk q0 q1 q2 p0 p1 p2
  obtain ⟨⟨q0, q1, q2⟩, _⟩ := cells3 BX w.heap.size _ _ _ _ (show (w.heap.size, DO false a z.length c ex) ∈ _ by simp)
  obtain ⟨⟨p0, p1, p2⟩, _⟩ := cells3 BX gx0 _ _ _ _ (show (gx0, DO false ax z.length cx ex) ∈ _ by simp)
  go_wp2_with fail
  refine (sameP false ax a cx c z ex _ ⟨lx, u.len, u.rng⟩ (u.below BX.bel)).mono ?_
  rintro e v35 ⟨rfl, hk⟩
  replace BX := BX.keep hk
  replace lx := lx.below hk (Nat.le_refl _)
  clear hk q0 q1 q2 p0 p1 p2
  obtain ⟨⟨q0, q1, q2⟩, _⟩ := cells3 BX w.heap.size _ _ _ _ (show (w.heap.size, DO false a z.length c ex) ∈ _ by simp)
  obtain ⟨⟨p0, p1, p2⟩, _⟩ := cells3 BX gx0 _ _ _ _ (show (gx0, DO false ax z.length cx ex) ∈ _ by simp)
  go_wp2_with fail
  refine (lKnown4 _ (hT.below BX.bel (Nat.le_refl _))).mono ?_
  rintro e v36 ⟨rfl, hk⟩
  replace BX := BX.keep hk
  replace lx := lx.below hk (Nat.le_refl _)
  clear hk q0 q1 q2 p0 p1 p2
  obtain ⟨⟨q0, q1, q2⟩, _⟩ := cells3 BX w.heap.size _ _ _ _ (show (w.heap.size, DO false a z.length c ex) ∈ _ by simp)
  obtain ⟨⟨p0, p1, p2⟩, _⟩ := cells3 BX gx0 _ _ _ _ (show (gx0, DO false ax z.length cx ex) ∈ _ by simp)
  go_wp2
  go_ret
  exact ⟨rfl, BX.bel⟩
/-- RoundRoots, whatever it is called with. -/
theorem rr_any (f m : Int) (n : Bool) (a : Option Addr) (c : Nat) (z : List Int) (ex : Int) (w : World) (u : DLie w a z) (hT : Tab w) (hnil : a = none → c = 0) :
    Calls Tryz.prog 5 #[.int .u8 f, .int .u8 m, dV n a z.length c ex] w fun e w' => e = .returned (.bool true) ∧ Below w.heap.size w w' := by
  by_cases hl : (300 : Int) < (z.length : Int)
  · exact rr_long n a c z ex m f hl w u hT
  · have hl2 : (z.length : Int) ≤ 300 := by omega
    have hml : z.length ≤ 1000000 := by omega
    rcases fm_or_bad f with ⟨b, rfl⟩ | hf
    · by_cases hm : Mode m
      · cases hq : dmayB n z ex with
        | false => exact rr_arg n a c z ex m b hm hq hl2 w u hT hml hnil
        | true =>
          have g := DG.of u.rng hq
          by_cases hz : 0 < z.length
          · cases n
            · obtain ⟨B, hB⟩ := bitLen_ex g.good.nonneg
              have hB2 : B ≤ 9700 := by
                have h9 : Nt.val z < 4294967296 ^ z.length := (Nt.can_len g.can z.length).2 (Nat.le_refl _)
                rw [show (4294967296 : Int) = 2 ^ 32 from rfl, ← Int.pow_mul] at h9
                have := bl_le hB h9
                omega
              obtain ⟨W0, X0, HP, HR⟩ := root_both b m hm z ex g hz hB hB2
              exact rr_good a c z ex m b hm g hz W0 X0 HP (fun W h1 => HR W a c h1) hl2 w u hT hml hnil
            · exact rr_less a c z ex m b hm g hz hl2 w u hT hml hnil
          · obtain ⟨h1, h2, h3⟩ := g.nil (by omega)
            subst h2
            exact rr_zero a c z ex m b hm ⟨⟨h1, h3⟩⟩ hl2 w u hT hml hnil
      · exact rr_bad n a c z ex m (fm b) 5 (.inr ⟨b, rfl, .inl ⟨hm, rfl⟩⟩) rfl hl2 w u hT hml hnil
    · exact rr_bad n a c z ex m f 4 (.inl ⟨hf, rfl⟩) rfl hl2 w u hT hml hnil
end Go.Proofs.YtchmljbkophdaaaGreatDoor
