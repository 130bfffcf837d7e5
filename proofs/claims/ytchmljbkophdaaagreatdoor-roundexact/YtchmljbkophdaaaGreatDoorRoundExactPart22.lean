import Derived.Test.YtchmljbkophdaaaGreatDoorRoundExactPart21
namespace Go.Proofs.YtchmljbkophdaaaGreatDoor
open Go.RowKit Go.Wd Go.Box
set_option linter.unusedVariables false
set_option maxRecDepth 3000
/-- Quo of two numbers that are not nought. -/
theorem pQuo (b : Bool) (m : Int) (hm : Mode m) (n1 n2 : Bool) (a1 a2 : Option Addr) (c1 c2 : Nat) (z1 z2 : List Int) (e1 e2 T : Int) (w : World) (l1 : Lie w a1 z1) (l2 : Lie w a2 z2) (g1 : DG n1 z1 e1) (g2 : DG n2 z2 e2) (hTab : Tab w) (hz1 : 0 < z1.length) (hz2 : 0 < z2.length) {i : Int} (hi : BitLen (qf (Nt.val z1) (Nt.val z2) i) 64) (hi1 : -1000000 ≤ i) (hi2 : i ≤ 1000000) (hT : T = 64 - i + (e1 - e2)) {H I : Int} {G J : Bool} (hH : H = qf (Nt.val z1) (Nt.val z2) (e1 - e2 + 1 - ulp b T)) (hG : G = qg (Nt.val z1) (Nt.val z2) (e1 - e2 + 1 - ulp b T)) (hI : I = qf (Nt.val z1) (Nt.val z2) (e1 - e2 + 1 - (T - pr b))) (hJ : J = qg (Nt.val z1) (Nt.val z2) (e1 - e2 + 1 - (T - pr b))) :
    Calls Tryz.prog 22 #[.int .u8 (fm b), .int .u8 m, dV n1 a1 z1.length c1 e1, dV n2 a2 z2.length c2 e2] w fun e w' => e = .returned (.tuple #[.int .u64 (rdW b m (n1 != n2) T H G), .int .u8 (rdX b m (n1 != n2) T H G I J), .int .i64 0]) ∧ Below w.heap.size w w' := by
  have x1 := g1.ex_bd
  have x2 := g2.ex_bd
  have p1 := g1.pos hz1
  have p2 := g2.pos hz2
  have hpb := pr_bd b
  have hub := ulp_ge b T
  have hlo := lo_bd b
  obtain ⟨s1, hs1, hs12⟩ := sgn_dv g1 hz1
  obtain ⟨s2, hs2, hs22⟩ := sgn_dv g2 hz2
  have u1 := g1.lie l1
  have u2 := g2.lie l2
  have hb : 9223372036854775808 ≤ qf (Nt.val z1) (Nt.val z2) i ∧ qf (Nt.val z1) (Nt.val z2) i < 18446744073709551616 := by
    rcases hi with ⟨_, h⟩ | ⟨_, h⟩
    · omega
    · have a := h.lt
      have b := h.le
      omega
  obtain ⟨d, hd⟩ : ∃ d : Nat, ulp b T - T + 63 = (d : Int) := ⟨(ulp b T - T + 63).toNat, by omega⟩
  have k1 : qf (Nt.val z1) (Nt.val z2) i / 2 ^ d = H ∧ gx (qf (Nt.val z1) (Nt.val z2) i) d (qg (Nt.val z1) (Nt.val z2) i) = G := by
    have a1 := qf_down (Nt.val z1) (Nt.val z2) p2 i d
    have a2 := qg_down (Nt.val z1) (Nt.val z2) p2 i d
    rw [show i - (d : Int) = e1 - e2 + 1 - ulp b T by omega] at a1 a2
    exact ⟨by rw [hH, a1], by rw [hG, a2]; rfl⟩
  have k2 : qf (Nt.val z1) (Nt.val z2) i / 2 ^ (63 - pr b) = I ∧ gx (qf (Nt.val z1) (Nt.val z2) i) (63 - pr b) (qg (Nt.val z1) (Nt.val z2) i) = J := by
    have a1 := qf_down (Nt.val z1) (Nt.val z2) p2 i (63 - pr b)
    have a2 := qg_down (Nt.val z1) (Nt.val z2) p2 i (63 - pr b)
    rw [show i - ((63 - pr b : Nat) : Int) = e1 - e2 + 1 - (T - pr b) by omega] at a1 a2
    exact ⟨by rw [hI, a1], by rw [hJ, a2]; rfl⟩
  refine wQuo_good b m n1 a1 c1 z1.length e1 n2 a2 c2 z2.length e2 s1 s2 (n1 != n2) T (qf (Nt.val z1) (Nt.val z2) i) _ _ (qg (Nt.val z1) (Nt.val z2) i) w hs12 hs22 ?_ ?_ ?_ ?_ ?_
  · intro g0 W hW h3 h4
    have := wWayFor2 b m hm g0 n1 a1 c1 z1 e1 n2 a2 c2 z2 e2 W (u1.below hW) (u2.below hW) true true g1.may g2.may h3 h4
    exact this
  · intro W hW
    exact dsign49 n2 a2 c2 z2 e2 _ W (l2.below hW (Nat.le_refl _)) ⟨g2, rfl⟩ s2 hs2
  · intro W hW
    exact dsign49 n1 a1 c1 z1 e1 _ W (l1.below hW (Nat.le_refl _)) ⟨g1, rfl⟩ s1 hs1
  · intro W hW
    have := wSeenQuo n1 n2 a1 a2 c1 c2 z1 z2 e1 e2 W (l1.below hW (Nat.le_refl _)) (l2.below hW (Nat.le_refl _)) g1 g2 (hTab.below hW (Nat.le_refl _)) hz1 hz2 hi hi1 hi2
    rw [← hT] at this
    exact this
  · intro W hW
    have := wRounded b m (n1 != n2) T (qf (Nt.val z1) (Nt.val z2) i) (qg (Nt.val z1) (Nt.val z2) i) d W (hTab.below hW (Nat.le_refl _)) hm (by omega) (by omega) hb.1 hb.2 hd
    rw [k1.1, k1.2, k2.1, k2.2] at this
    exact this
theorem fm_oddP {v : Int} {n : Bool} {z : List Int} {x : Int} (F : Fm v 0 n z x) (h0 : 0 < v) (h1 : v % 2 = 1) (h2 : v < 18446744073709551616) : n = false ∧ x = 0 ∧ Nt.val z = v ∧ 0 < z.length ∧ DG false z 0 := by
  rcases F with ⟨rfl, _⟩ | ⟨_, t, ht, hn, hx, hc, hv⟩
  · omega
  · have ha : (v.natAbs : Int) = v := by omega
    rw [ha] at ht hv
    have t0 : t = 0 := ht.unique (odd_low h1)
    subst t0
    rw [Int.pow_zero, Int.ediv_one] at hv
    have hz : 0 < z.length := by
      cases z with
      | nil => rw [Nt.val_nil] at hv; omega
      | cons d q => simp
    have hl : z.length ≤ 2 := by
      refine (Nt.can_len hc 2).1 ?_
      rw [hv, show (4294967296 : Int) ^ 2 = 18446744073709551616 by decide]
      exact h2
    refine ⟨by rw [hn]; exact decide_eq_false (by omega), by omega, hv, hz, ⟨hc, by omega, .inr ⟨hz, by omega, by omega, by omega⟩⟩⟩
set_option maxHeartbeats 1000000 in
theorem lKnown4 (w : World) (hTab : Tab w) :
    Calls Tryz.prog 12 #[] w fun e w' => e = .returned (.bool true) ∧ Below w.heap.size w w' := by
  have H1 := fun W => Hide.mk (rIntP 1 (by decide) (by decide) W)
  have H3 := fun W => Hide.mk (rIntP 3 (by decide) (by decide) W)
  have H5 := fun W => Hide.mk (rIntP 16777217 (by decide) (by decide) W)
  go_enter Tryz.func12, Tryz.ntmps12
  go_wp2_with fail
  refine (H1 _).out.mono ?_
  rintro e w2 ⟨n1, z1, x1, a1, c1, rfl, F1, l1, h1⟩
  have B1 := (Bx.nil w).keep h1
  obtain ⟨rfl, rfl, v1, hz1, g1⟩ := fm_oddP F1 (by decide) (by decide) (by decide)
  clear F1 h1
  go_wp2_with fail
  refine (H3 _).out.mono ?_
  rintro e w3 ⟨n3, z3, x3, a3, c3, rfl, F3, l3, h3⟩
  have B3 := B1.keep h3
  replace l1 := l1.below h3 (Nat.le_refl _)
  obtain ⟨rfl, rfl, v3, hz3, g3⟩ := fm_oddP F3 (by decide) (by decide) (by decide)
  clear F3 h3 B1 H1 H3
  have HQ := Hide.mk (pQuo false 1 (.inl rfl) false false a1 a3 c1 c3 z1 z3 0 0 (-1) w3 l1 l3 g1 g3 (hTab.below B3.bel (Nat.le_refl _)) hz1 hz3 (i := 65) (by rw [v1, v3]; exact .inr ⟨by decide, ⟨by decide, by decide⟩⟩) (by decide) (by decide) (by decide) rfl rfl rfl rfl)
  rw [v1, v3, show rdW false 1 (false != false) (-1) (qf 1 3 (0 - 0 + 1 - ulp false (-1))) (qg 1 3 (0 - 0 + 1 - ulp false (-1))) = 1051372203 by decide, show rdX false 1 (false != false) (-1) (qf 1 3 (0 - 0 + 1 - ulp false (-1))) (qg 1 3 (0 - 0 + 1 - ulp false (-1))) (qf 1 3 (0 - 0 + 1 - (-1 - (pr false : Nat)))) (qg 1 3 (0 - 0 + 1 - (-1 - (pr false : Nat)))) = 16 by decide, show fm false = 1 from rfl] at HQ
  clear l1 l3 g1 g3 hz1 hz3 v1 v3
  go_wp2_with fail
  refine HQ.out.mono ?_
  rintro e w4 ⟨rfl, h4⟩
  have B4 := B3.keep h4
  clear h4 B3 HQ
  go_wp2_with fail
  refine (H5 _).out.mono ?_
  rintro e w5 ⟨n5, z5, x5, a5, c5, rfl, F5, l5, h5⟩
  have B5 := B4.keep h5
  obtain ⟨rfl, rfl, v5, hz5, g5⟩ := fm_oddP F5 (by decide) (by decide) (by decide)
  clear F5 h5 B4 H5
  have HR := Hide.mk (pRound false 2 (.inr (.inl rfl)) false a5 c5 z5 0 25 w5 l5 g5 hz5 (hTab.below B5.bel (Nat.le_refl _)) (B := 25) (by rw [v5]; exact .inr ⟨by decide, ⟨by decide, by decide⟩⟩) (by decide) (by decide) rfl rfl rfl rfl)
  rw [v5, show rdW false 2 false 25 (qf 16777217 1 (0 + 1 - ulp false 25)) (qg 16777217 1 (0 + 1 - ulp false 25)) = 1266679809 by decide, show rdX false 2 false 25 (qf 16777217 1 (0 + 1 - ulp false 25)) (qg 16777217 1 (0 + 1 - ulp false 25)) (qf 16777217 1 (0 + 1 - (25 - (pr false : Nat)))) (qg 16777217 1 (0 + 1 - (25 - (pr false : Nat)))) = 16 by decide, show fm false = 1 from rfl] at HR
  clear l5 g5 hz5 v5
  go_wp2_with fail
  refine HR.out.mono ?_
  rintro e w6 ⟨rfl, h6⟩
  have B6 := B5.keep h6
  clear h6 B5 HR
  go_wp2
  go_ret
  exact ⟨rfl, B6.bel⟩
end Go.Proofs.YtchmljbkophdaaaGreatDoor

namespace Go.Proofs.YtchmljbkophdaaaGreatDoor
open Go.RowKit Go.Wd Go.Box
set_option linter.unusedVariables false
set_option maxRecDepth 3000
theorem way_bad {f m code : Int} (h : Opn f m code) (hc : (code == 0) = false) (W : World) :
    Calls Tryz.prog 48 #[.int .u8 f, .int .u8 m] W fun e w' => e = .returned (.tuple #[noW, .int .i64 code]) ∧ Below W.heap.size W w' := by
  rcases h with ⟨hf, rfl⟩ | ⟨b, rfl, ⟨hm, rfl⟩ | ⟨hm, rfl⟩⟩
  · exact wWayOf_bad f m hf W
  · exact wWayOf_mode b m hm W
  · exact absurd hc (by decide)
theorem pRound_bad {f m code : Int} (h : Opn f m code) (hc : (code == 0) = false) (n : Bool) (a : Option Addr) (c k : Nat) (ex : Int) (w : World) :
    Calls Tryz.prog 14 #[.int .u8 f, .int .u8 m, dV n a k c ex] w fun e w' => e = .returned (.tuple #[.int .u64 0, .int .u8 0, .int .i64 code]) ∧ Below w.heap.size w w' :=
  wRound_bad f m n a c k ex code w hc (fun g W _ _ => wWayFor_bad f m code 1 g W hc (way_bad h hc))
theorem pRound_arg (b : Bool) (m : Int) (hm : Mode m) (n : Bool) (a : Option Addr) (c : Nat) (z : List Int) (ex : Int) (w : World) (u : DLie w a z) (hq : dmayB n z ex = false) :
    Calls Tryz.prog 14 #[.int .u8 (fm b), .int .u8 m, dV n a z.length c ex] w fun e w' => e = .returned (.tuple #[.int .u64 0, .int .u8 0, .int .i64 2]) ∧ Below w.heap.size w w' :=
  wRound_bad (fm b) m n a c z.length ex 2 w rfl (fun g W hW h3 => wWayFor1 b m hm g n a c z ex W (u.below hW) false hq h3)
theorem pRound_zero (b : Bool) (m : Int) (hm : Mode m) (a : Option Addr) (c : Nat) (w : World) :
    Calls Tryz.prog 14 #[.int .u8 (fm b), .int .u8 m, dV false a ([] : List Int).length c 0] w fun e w' => e = .returned (.tuple #[.int .u64 0, .int .u8 0, .int .i64 0]) ∧ Below w.heap.size w w' :=
  wRound_zero b m false a c ([] : List Int).length 0 w (fun g W hW h3 => wWayFor1 b m hm g false a c [] 0 W (zeroDG.lie (.inl rfl)) true rfl h3) (fun W _ => dsign49 false a c [] 0 0 W (.inl rfl) ⟨zeroDG, zero_dv _ _⟩ 0 rfl)
theorem pRound_zeroG (b : Bool) (m : Int) (hm : Mode m) (n : Bool) (a : Option Addr) (c : Nat) (z : List Int) (ex : Int) (w : World) (h : z = [] ∧ n = false ∧ ex = 0) :
    Calls Tryz.prog 14 #[.int .u8 (fm b), .int .u8 m, dV n a z.length c ex] w fun e w' => e = .returned (.tuple #[.int .u64 0, .int .u8 0, .int .i64 0]) ∧ Below w.heap.size w w' := by
  obtain ⟨rfl, rfl, rfl⟩ := h
  exact pRound_zero b m hm a c w
theorem pOver (b : Bool) (m : Int) (hm : Mode m) (n : Bool) (w : World) :
    Calls Tryz.prog 15 #[.int .u8 (fm b), .int .u8 m, .bool n] w fun e w' => e = .returned (.tuple #[.int .u64 (ovw b m n), .int .i64 0]) ∧ Below w.heap.size w w' := by
  refine (wOverF (fm b) m 0 n _ w (.inl ⟨b, rfl, hm, rfl, rfl⟩)).mono ?_
  rintro e w' ⟨r, rfl, h, hb⟩
  rcases h with ⟨_, b2, hb2, rfl⟩ | ⟨h, _⟩
  · have : b = b2 := by cases b <;> cases b2 <;> first | rfl | (simp [fm] at hb2)
    subst this
    exact ⟨rfl, hb⟩
  · exact absurd rfl h
theorem pOver_bad {f m code : Int} (h : Opn f m code) (hc : (code == 0) = false) (n : Bool) (w : World) :
    Calls Tryz.prog 15 #[.int .u8 f, .int .u8 m, .bool n] w fun e w' => e = .returned (.tuple #[.int .u64 0, .int .i64 code]) ∧ Below w.heap.size w w' := by
  have hv : ∃ v, WayIs f m v code := by
    rcases h with ⟨hf, rfl⟩ | ⟨b, rfl, ⟨hm, rfl⟩ | ⟨hm, rfl⟩⟩
    · exact ⟨_, .inr (.inl ⟨hf, rfl, rfl⟩)⟩
    · exact ⟨_, .inr (.inr ⟨b, rfl, hm, rfl, rfl⟩)⟩
    · exact absurd hc (by decide)
  obtain ⟨v, hv⟩ := hv
  refine (wOverF f m code n v w hv).mono ?_
  rintro e w' ⟨r, rfl, h, hb⟩
  rcases h with ⟨h0, _⟩ | ⟨_, rfl⟩
  · subst h0; exact absurd hc (by decide)
  · exact ⟨rfl, hb⟩
theorem sameP (n : Bool) (a1 a2 : Option Addr) (c1 c2 : Nat) (z : List Int) (ex : Int) (w : World) (u1 : DLie w a1 z) (u2 : DLie w a2 z) :
    Calls Tryz.prog 21 #[dV n a1 z.length c1 ex, dV n a2 z.length c2 ex] w fun e w' => e = .returned (.bool true) ∧ Below w.heap.size w w' :=
  dsame40 n n a1 a2 c1 c2 z z ex ex w u1 u2 true (decide_eq_true ⟨rfl, rfl, rfl⟩)
set_option maxHeartbeats 2000000 in
theorem rx_long (n : Bool) (a : Option Addr) (c : Nat) (z : List Int) (ex m : Int) (f : Int) (hl : (300 : Int) < (z.length : Int)) (w : World) (u : DLie w a z) (hT : Tab w) :
    Calls Tryz.prog 3 #[.int .u8 f, .int .u8 m, dV n a z.length c ex] w fun e w' => e = .returned (.bool true) ∧ Below w.heap.size w w' := by
  have BX := (Bx.nil w).push (DO n a z.length c ex)
  obtain ⟨⟨q0, q1, q2⟩, _⟩ := cells3 BX w.heap.size _ _ _ _ (show (w.heap.size, DO n a z.length c ex) ∈ _ by simp)
  go_enter Tryz.func3, Tryz.ntmps3
  go_wp2_with fail
  refine (lLong4 n a z.length c ex _ true (decide_eq_true hl)).mono ?_
  rintro e v1 ⟨rfl, hk⟩
  replace BX := BX.keep hk
  clear hk q0 q1 q2
  obtain ⟨⟨q0, q1, q2⟩, _⟩ := cells3 BX w.heap.size _ _ _ _ (show (w.heap.size, DO n a z.length c ex) ∈ _ by simp)
  go_wp2_with fail
  refine (lKnown4 _ (hT.below BX.bel (Nat.le_refl _))).mono ?_
  rintro e v2 ⟨rfl, hk⟩
  replace BX := BX.keep hk
  clear hk q0 q1 q2
  obtain ⟨⟨q0, q1, q2⟩, _⟩ := cells3 BX w.heap.size _ _ _ _ (show (w.heap.size, DO n a z.length c ex) ∈ _ by simp)
  go_wp2
  go_ret
  exact ⟨rfl, BX.bel⟩
set_option maxHeartbeats 2000000 in
theorem rx_bad (n : Bool) (a : Option Addr) (c : Nat) (z : List Int) (ex m : Int) (f code : Int) (ho : Opn f m code) (hc : (code == 0) = false) (hl : (z.length : Int) ≤ 300) (w : World) (u : DLie w a z) (hT : Tab w) (hml : z.length ≤ 1000000) (hnil : a = none → c = 0) :
    Calls Tryz.prog 3 #[.int .u8 f, .int .u8 m, dV n a z.length c ex] w fun e w' => e = .returned (.bool true) ∧ Below w.heap.size w w' := by
  have BX := (Bx.nil w).push (DO n a z.length c ex)
  obtain ⟨⟨q0, q1, q2⟩, _⟩ := cells3 BX w.heap.size _ _ _ _ (show (w.heap.size, DO n a z.length c ex) ∈ _ by simp)
  go_enter Tryz.func3, Tryz.ntmps3
  have hcc : (code == code) = true := by simp
  go_wp2_with fail
  refine (lLong4 n a z.length c ex _ false (decide_eq_false (by omega))).mono ?_
  rintro e v3 ⟨rfl, hk⟩
  replace BX := BX.keep hk
  clear hk q0 q1 q2
  obtain ⟨⟨q0, q1, q2⟩, _⟩ := cells3 BX w.heap.size _ _ _ _ (show (w.heap.size, DO n a z.length c ex) ∈ _ by simp)
  go_wp2_with fail
  refine (lent4 n a c z ex _ (u.below BX.bel).lie hml hnil).mono ?_
  rintro e v4 ⟨ax, cx, rfl, lx0, hk, _⟩
  replace BX := (BX.keep hk).push (DO n ax z.length cx ex)
  have lx := lx0.below (below_alloc v4 (DO n ax z.length cx ex)) (Nat.le_refl _)
  obtain ⟨gx0, hgx⟩ : ∃ g, v4.heap.size = g := ⟨_, rfl⟩
  rw [hgx] at BX
  clear lx0 hk q0 q1 q2
  obtain ⟨⟨q0, q1, q2⟩, _⟩ := cells3 BX w.heap.size _ _ _ _ (show (w.heap.size, DO n a z.length c ex) ∈ _ by simp)
  obtain ⟨⟨p0, p1, p2⟩, _⟩ := cells3 BX gx0 _ _ _ _ (show (gx0, DO n ax z.length cx ex) ∈ _ by simp)
  go_wp2_with fail
  try rw [hgx]
  clear hgx
  refine (pRound_bad ho hc n ax cx z.length ex _).mono ?_
  rintro e v5 ⟨rfl, hk⟩
  replace BX := BX.keep hk
  replace lx := lx.below hk (Nat.le_refl _)
  clear hk q0 q1 q2 p0 p1 p2
  obtain ⟨⟨q0, q1, q2⟩, _⟩ := cells3 BX w.heap.size _ _ _ _ (show (w.heap.size, DO n a z.length c ex) ∈ _ by simp)
  obtain ⟨⟨p0, p1, p2⟩, _⟩ := cells3 BX gx0 _ _ _ _ (show (gx0, DO n ax z.length cx ex) ∈ _ by simp)
  go_wp2_with fail
  refine (pOver_bad ho hc n _).mono ?_
  rintro e v6 ⟨rfl, hk⟩
  replace BX := BX.keep hk
  replace lx := lx.below hk (Nat.le_refl _)
  clear hk q0 q1 q2 p0 p1 p2
  obtain ⟨⟨q0, q1, q2⟩, _⟩ := cells3 BX w.heap.size _ _ _ _ (show (w.heap.size, DO n a z.length c ex) ∈ _ by simp)
  obtain ⟨⟨p0, p1, p2⟩, _⟩ := cells3 BX gx0 _ _ _ _ (show (gx0, DO n ax z.length cx ex) ∈ _ by simp)
  go_wp2_with fail
  refine (lOpens_bad f m code (.slice none 0 0) ho hc _).mono ?_
  rintro e v7 ⟨rfl, hk⟩
  replace BX := BX.keep hk
  replace lx := lx.below hk (Nat.le_refl _)
  clear hk q0 q1 q2 p0 p1 p2
  obtain ⟨⟨q0, q1, q2⟩, _⟩ := cells3 BX w.heap.size _ _ _ _ (show (w.heap.size, DO n a z.length c ex) ∈ _ by simp)
  obtain ⟨⟨p0, p1, p2⟩, _⟩ := cells3 BX gx0 _ _ _ _ (show (gx0, DO n ax z.length cx ex) ∈ _ by simp)
  go_wp2_with fail
  refine (lOpens_bad f m code (.slice none 0 0) ho hc _).mono ?_
  rintro e v8 ⟨rfl, hk⟩
  replace BX := BX.keep hk
  replace lx := lx.below hk (Nat.le_refl _)
  clear hk q0 q1 q2 p0 p1 p2
  obtain ⟨⟨q0, q1, q2⟩, _⟩ := cells3 BX w.heap.size _ _ _ _ (show (w.heap.size, DO n a z.length c ex) ∈ _ by simp)
  obtain ⟨⟨p0, p1, p2⟩, _⟩ := cells3 BX gx0 _ _ _ _ (show (gx0, DO n ax z.length cx ex) ∈ _ by simp)
  go_wp2_with fail
  replace BX := BX.push (DO n a z.length c ex)
  replace lx := lx.below (below_alloc _ (DO n a z.length c ex)) (Nat.le_refl _)
  clear q0 q1 q2 p0 p1 p2
  obtain ⟨⟨q0, q1, q2⟩, _⟩ := cells3 BX w.heap.size _ _ _ _ (show (w.heap.size, DO n a z.length c ex) ∈ _ by simp)
  obtain ⟨⟨p0, p1, p2⟩, _⟩ := cells3 BX gx0 _ _ _ _ (show (gx0, DO n ax z.length cx ex) ∈ _ by simp)
  refine (lOpens_bad f m code _ ho hc _).mono ?_
  rintro e v9 ⟨rfl, hk⟩
  replace BX := BX.keep hk
  replace lx := lx.below hk (Nat.le_refl _)
  clear hk q0 q1 q2 p0 p1 p2
  obtain ⟨⟨q0, q1, q2⟩, _⟩ := cells3 BX w.heap.size _ _ _ _ (show (w.heap.size, DO n a z.length c ex) ∈ _ by simp)
  obtain ⟨⟨p0, p1, p2⟩, _⟩ := cells3 BX gx0 _ _ _ _ (show (gx0, DO n ax z.length cx ex) ∈ _ by simp)
  go_wp2_with fail
  refine (lRefused code _).mono ?_
  rintro e v10 ⟨rfl, hk⟩
  replace BX := BX.keep hk
  replace lx := lx.below hk (Nat.le_refl _)
  clear hk q0 q1 q2 p0 p1 p2
  obtain ⟨⟨q0, q1, q2⟩, _⟩ := cells3 BX w.heap.size _ _ _ _ (show (w.heap.size, DO n a z.length c ex) ∈ _ by simp)
  obtain ⟨⟨p0, p1, p2⟩, _⟩ := cells3 BX gx0 _ _ _ _ (show (gx0, DO n ax z.length cx ex) ∈ _ by simp)
  go_wp2_with fail
  refine (lKnown4 _ (hT.below BX.bel (Nat.le_refl _))).mono ?_
  rintro e v11 ⟨rfl, hk⟩
  replace BX := BX.keep hk
  replace lx := lx.below hk (Nat.le_refl _)
  clear hk q0 q1 q2 p0 p1 p2
  obtain ⟨⟨q0, q1, q2⟩, _⟩ := cells3 BX w.heap.size _ _ _ _ (show (w.heap.size, DO n a z.length c ex) ∈ _ by simp)
  obtain ⟨⟨p0, p1, p2⟩, _⟩ := cells3 BX gx0 _ _ _ _ (show (gx0, DO n ax z.length cx ex) ∈ _ by simp)
  go_wp2
  go_ret
  exact ⟨rfl, BX.bel⟩
set_option maxHeartbeats 2000000 in
theorem rx_arg (n : Bool) (a : Option Addr) (c : Nat) (z : List Int) (ex m : Int) (b : Bool) (hm : Mode m) (hq : dmayB n z ex = false) (hl : (z.length : Int) ≤ 300) (w : World) (u : DLie w a z) (hT : Tab w) (hml : z.length ≤ 1000000) (hnil : a = none → c = 0) :
    Calls Tryz.prog 3 #[.int .u8 (fm b), .int .u8 m, dV n a z.length c ex] w fun e w' => e = .returned (.bool true) ∧ Below w.heap.size w w' := by
  have BX := (Bx.nil w).push (DO n a z.length c ex)
  obtain ⟨⟨q0, q1, q2⟩, _⟩ := cells3 BX w.heap.size _ _ _ _ (show (w.heap.size, DO n a z.length c ex) ∈ _ by simp)
  go_enter Tryz.func3, Tryz.ntmps3
  have hoo : (ovw b m n == ovw b m n) = true := by simp
  go_wp2_with fail
  refine (lLong4 n a z.length c ex _ false (decide_eq_false (by omega))).mono ?_
  rintro e v3 ⟨rfl, hk⟩
  replace BX := BX.keep hk
  clear hk q0 q1 q2
  obtain ⟨⟨q0, q1, q2⟩, _⟩ := cells3 BX w.heap.size _ _ _ _ (show (w.heap.size, DO n a z.length c ex) ∈ _ by simp)
  go_wp2_with fail
  refine (lent4 n a c z ex _ (u.below BX.bel).lie hml hnil).mono ?_
  rintro e v4 ⟨ax, cx, rfl, lx0, hk, _⟩
  replace BX := (BX.keep hk).push (DO n ax z.length cx ex)
  have lx := lx0.below (below_alloc v4 (DO n ax z.length cx ex)) (Nat.le_refl _)
  obtain ⟨gx0, hgx⟩ : ∃ g, v4.heap.size = g := ⟨_, rfl⟩
  rw [hgx] at BX
  clear lx0 hk q0 q1 q2
  obtain ⟨⟨q0, q1, q2⟩, _⟩ := cells3 BX w.heap.size _ _ _ _ (show (w.heap.size, DO n a z.length c ex) ∈ _ by simp)
  obtain ⟨⟨p0, p1, p2⟩, _⟩ := cells3 BX gx0 _ _ _ _ (show (gx0, DO n ax z.length cx ex) ∈ _ by simp)
  go_wp2_with fail
  try rw [hgx]
  clear hgx
  refine (pRound_arg b m hm n ax cx z ex _ ⟨lx, u.len, u.rng⟩ hq).mono ?_
  rintro e v12 ⟨rfl, hk⟩
  replace BX := BX.keep hk
  replace lx := lx.below hk (Nat.le_refl _)
  clear hk q0 q1 q2 p0 p1 p2
  obtain ⟨⟨q0, q1, q2⟩, _⟩ := cells3 BX w.heap.size _ _ _ _ (show (w.heap.size, DO n a z.length c ex) ∈ _ by simp)
  obtain ⟨⟨p0, p1, p2⟩, _⟩ := cells3 BX gx0 _ _ _ _ (show (gx0, DO n ax z.length cx ex) ∈ _ by simp)
  go_wp2_with fail
  refine (pOver b m hm n _).mono ?_
  rintro e v13 ⟨rfl, hk⟩
  replace BX := BX.keep hk
  replace lx := lx.below hk (Nat.le_refl _)
  clear hk q0 q1 q2 p0 p1 p2
  obtain ⟨⟨q0, q1, q2⟩, _⟩ := cells3 BX w.heap.size _ _ _ _ (show (w.heap.size, DO n a z.length c ex) ∈ _ by simp)
  obtain ⟨⟨p0, p1, p2⟩, _⟩ := cells3 BX gx0 _ _ _ _ (show (gx0, DO n ax z.length cx ex) ∈ _ by simp)
  go_wp2_with fail
  refine (lOpens_nil b m hm _).mono ?_
  rintro e v14 ⟨rfl, hk⟩
  replace BX := BX.keep hk
  replace lx := lx.below hk (Nat.le_refl _)
  clear hk q0 q1 q2 p0 p1 p2
  obtain ⟨⟨q0, q1, q2⟩, _⟩ := cells3 BX w.heap.size _ _ _ _ (show (w.heap.size, DO n a z.length c ex) ∈ _ by simp)
  obtain ⟨⟨p0, p1, p2⟩, _⟩ := cells3 BX gx0 _ _ _ _ (show (gx0, DO n ax z.length cx ex) ∈ _ by simp)
  go_wp2_with fail
  refine (rOverP b m n hm _).mono ?_
  rintro e v15 ⟨rfl, hk⟩
  replace BX := BX.keep hk
  replace lx := lx.below hk (Nat.le_refl _)
  clear hk q0 q1 q2 p0 p1 p2
  obtain ⟨⟨q0, q1, q2⟩, _⟩ := cells3 BX w.heap.size _ _ _ _ (show (w.heap.size, DO n a z.length c ex) ∈ _ by simp)
  obtain ⟨⟨p0, p1, p2⟩, _⟩ := cells3 BX gx0 _ _ _ _ (show (gx0, DO n ax z.length cx ex) ∈ _ by simp)
  go_wp2_with fail
  replace BX := BX.push (DO n a z.length c ex)
  replace lx := lx.below (below_alloc _ (DO n a z.length c ex)) (Nat.le_refl _)
  clear q0 q1 q2 p0 p1 p2
  obtain ⟨⟨q0, q1, q2⟩, _⟩ := cells3 BX w.heap.size _ _ _ _ (show (w.heap.size, DO n a z.length c ex) ∈ _ by simp)
  obtain ⟨⟨p0, p1, p2⟩, _⟩ := cells3 BX gx0 _ _ _ _ (show (gx0, DO n ax z.length cx ex) ∈ _ by simp)
  refine (lOpens1_no b m hm _ n a c z ex _ (u.below BX.bel) hq (at3_of BX (.head _))).mono ?_
  rintro e v16 ⟨rfl, hk⟩
  replace BX := BX.keep hk
  replace lx := lx.below hk (Nat.le_refl _)
  clear hk q0 q1 q2 p0 p1 p2
  obtain ⟨⟨q0, q1, q2⟩, _⟩ := cells3 BX w.heap.size _ _ _ _ (show (w.heap.size, DO n a z.length c ex) ∈ _ by simp)
  obtain ⟨⟨p0, p1, p2⟩, _⟩ := cells3 BX gx0 _ _ _ _ (show (gx0, DO n ax z.length cx ex) ∈ _ by simp)
  go_wp2_with fail
  refine (lRefused 2 _).mono ?_
  rintro e v17 ⟨rfl, hk⟩
  replace BX := BX.keep hk
  replace lx := lx.below hk (Nat.le_refl _)
  clear hk q0 q1 q2 p0 p1 p2
  obtain ⟨⟨q0, q1, q2⟩, _⟩ := cells3 BX w.heap.size _ _ _ _ (show (w.heap.size, DO n a z.length c ex) ∈ _ by simp)
  obtain ⟨⟨p0, p1, p2⟩, _⟩ := cells3 BX gx0 _ _ _ _ (show (gx0, DO n ax z.length cx ex) ∈ _ by simp)
  go_wp2_with fail
  refine (lKnown4 _ (hT.below BX.bel (Nat.le_refl _))).mono ?_
  rintro e v18 ⟨rfl, hk⟩
  replace BX := BX.keep hk
  replace lx := lx.below hk (Nat.le_refl _)
  clear hk q0 q1 q2 p0 p1 p2
  obtain ⟨⟨q0, q1, q2⟩, _⟩ := cells3 BX w.heap.size _ _ _ _ (show (w.heap.size, DO n a z.length c ex) ∈ _ by simp)
  obtain ⟨⟨p0, p1, p2⟩, _⟩ := cells3 BX gx0 _ _ _ _ (show (gx0, DO n ax z.length cx ex) ∈ _ by simp)
  go_wp2
  go_ret
  exact ⟨rfl, BX.bel⟩
set_option maxHeartbeats 2000000 in
theorem rx_zero (n : Bool) (a : Option Addr) (c : Nat) (z : List Int) (ex m : Int) (b : Bool) (hm : Mode m) (hZ : Hide (z = [] ∧ n = false ∧ ex = 0)) (hl : (z.length : Int) ≤ 300) (w : World) (u : DLie w a z) (hT : Tab w) (hml : z.length ≤ 1000000) (hnil : a = none → c = 0) :
    Calls Tryz.prog 3 #[.int .u8 (fm b), .int .u8 m, dV n a z.length c ex] w fun e w' => e = .returned (.bool true) ∧ Below w.heap.size w w' := by
  have BX := (Bx.nil w).push (DO n a z.length c ex)
  obtain ⟨⟨q0, q1, q2⟩, _⟩ := cells3 BX w.heap.size _ _ _ _ (show (w.heap.size, DO n a z.length c ex) ∈ _ by simp)
  go_enter Tryz.func3, Tryz.ntmps3
  have hoo : (ovw b m n == ovw b m n) = true := by simp
  go_wp2_with fail
  refine (lLong4 n a z.length c ex _ false (decide_eq_false (by omega))).mono ?_
  rintro e v3 ⟨rfl, hk⟩
  replace BX := BX.keep hk
  clear hk q0 q1 q2
  obtain ⟨⟨q0, q1, q2⟩, _⟩ := cells3 BX w.heap.size _ _ _ _ (show (w.heap.size, DO n a z.length c ex) ∈ _ by simp)
  go_wp2_with fail
  refine (lent4 n a c z ex _ (u.below BX.bel).lie hml hnil).mono ?_
  rintro e v4 ⟨ax, cx, rfl, lx0, hk, _⟩
  replace BX := (BX.keep hk).push (DO n ax z.length cx ex)
  have lx := lx0.below (below_alloc v4 (DO n ax z.length cx ex)) (Nat.le_refl _)
  obtain ⟨gx0, hgx⟩ : ∃ g, v4.heap.size = g := ⟨_, rfl⟩
  rw [hgx] at BX
  clear lx0 hk q0 q1 q2
  obtain ⟨⟨q0, q1, q2⟩, _⟩ := cells3 BX w.heap.size _ _ _ _ (show (w.heap.size, DO n a z.length c ex) ∈ _ by simp)
  obtain ⟨⟨p0, p1, p2⟩, _⟩ := cells3 BX gx0 _ _ _ _ (show (gx0, DO n ax z.length cx ex) ∈ _ by simp)
  go_wp2_with fail
  try rw [hgx]
  clear hgx
  refine (pRound_zeroG b m hm n ax cx z ex _ hZ.out).mono ?_
  rintro e v19 ⟨rfl, hk⟩
  replace BX := BX.keep hk
  replace lx := lx.below hk (Nat.le_refl _)
  clear hk q0 q1 q2 p0 p1 p2
  obtain ⟨⟨q0, q1, q2⟩, _⟩ := cells3 BX w.heap.size _ _ _ _ (show (w.heap.size, DO n a z.length c ex) ∈ _ by simp)
  obtain ⟨⟨p0, p1, p2⟩, _⟩ := cells3 BX gx0 _ _ _ _ (show (gx0, DO n ax z.length cx ex) ∈ _ by simp)
  go_wp2_with fail
  refine (pOver b m hm n _).mono ?_
  rintro e v20 ⟨rfl, hk⟩
  replace BX := BX.keep hk
  replace lx := lx.below hk (Nat.le_refl _)
  clear hk q0 q1 q2 p0 p1 p2
  obtain ⟨⟨q0, q1, q2⟩, _⟩ := cells3 BX w.heap.size _ _ _ _ (show (w.heap.size, DO n a z.length c ex) ∈ _ by simp)
  obtain ⟨⟨p0, p1, p2⟩, _⟩ := cells3 BX gx0 _ _ _ _ (show (gx0, DO n ax z.length cx ex) ∈ _ by simp)
  go_wp2_with fail
  refine (lOpens_nil b m hm _).mono ?_
  rintro e v21 ⟨rfl, hk⟩
  replace BX := BX.keep hk
  replace lx := lx.below hk (Nat.le_refl _)
  clear hk q0 q1 q2 p0 p1 p2
  obtain ⟨⟨q0, q1, q2⟩, _⟩ := cells3 BX w.heap.size _ _ _ _ (show (w.heap.size, DO n a z.length c ex) ∈ _ by simp)
  obtain ⟨⟨p0, p1, p2⟩, _⟩ := cells3 BX gx0 _ _ _ _ (show (gx0, DO n ax z.length cx ex) ∈ _ by simp)
  go_wp2_with fail
  refine (rOverP b m n hm _).mono ?_
  rintro e v22 ⟨rfl, hk⟩
  replace BX := BX.keep hk
  replace lx := lx.below hk (Nat.le_refl _)
  clear hk q0 q1 q2 p0 p1 p2
  obtain ⟨⟨q0, q1, q2⟩, _⟩ := cells3 BX w.heap.size _ _ _ _ (show (w.heap.size, DO n a z.length c ex) ∈ _ by simp)
  obtain ⟨⟨p0, p1, p2⟩, _⟩ := cells3 BX gx0 _ _ _ _ (show (gx0, DO n ax z.length cx ex) ∈ _ by simp)
  go_wp2_with fail
  replace BX := BX.push (DO n a z.length c ex)
  replace lx := lx.below (below_alloc _ (DO n a z.length c ex)) (Nat.le_refl _)
  clear q0 q1 q2 p0 p1 p2
  obtain ⟨⟨q0, q1, q2⟩, _⟩ := cells3 BX w.heap.size _ _ _ _ (show (w.heap.size, DO n a z.length c ex) ∈ _ by simp)
  obtain ⟨⟨p0, p1, p2⟩, _⟩ := cells3 BX gx0 _ _ _ _ (show (gx0, DO n ax z.length cx ex) ∈ _ by simp)
  refine (lOpens1 b m hm _ n a c z ex _ (u.below BX.bel) (by rw [hZ.out.1, hZ.out.2.1, hZ.out.2.2]; rfl) (at3_of BX (.head _))).mono ?_
  rintro e v23 ⟨rfl, hk⟩
  replace BX := BX.keep hk
  replace lx := lx.below hk (Nat.le_refl _)
  clear hk q0 q1 q2 p0 p1 p2
  obtain ⟨⟨q0, q1, q2⟩, _⟩ := cells3 BX w.heap.size _ _ _ _ (show (w.heap.size, DO n a z.length c ex) ∈ _ by simp)
  obtain ⟨⟨p0, p1, p2⟩, _⟩ := cells3 BX gx0 _ _ _ _ (show (gx0, DO n ax z.length cx ex) ∈ _ by simp)
  go_wp2_with fail
  refine (rRound_zero (fm b) m n a c z.length ex _ (fun W => by rw [hZ.out.1, hZ.out.2.1, hZ.out.2.2]; exact rSgnAny false a c 0 0 0 (.inl ⟨rfl, rfl⟩) W)).mono ?_
  rintro e v24 ⟨rfl, hk⟩
  replace BX := BX.keep hk
  replace lx := lx.below hk (Nat.le_refl _)
  clear hk q0 q1 q2 p0 p1 p2
  obtain ⟨⟨q0, q1, q2⟩, _⟩ := cells3 BX w.heap.size _ _ _ _ (show (w.heap.size, DO n a z.length c ex) ∈ _ by simp)
  obtain ⟨⟨p0, p1, p2⟩, _⟩ := cells3 BX gx0 _ _ _ _ (show (gx0, DO n ax z.length cx ex) ∈ _ by simp)
  go_wp2_with fail
  refine (lTold 0 0 _).mono ?_
  rintro e v25 ⟨rfl, hk⟩
  replace BX := BX.keep hk
  replace lx := lx.below hk (Nat.le_refl _)
  clear hk q0 q1 q2 p0 p1 p2
  obtain ⟨⟨q0, q1, q2⟩, _⟩ := cells3 BX w.heap.size _ _ _ _ (show (w.heap.size, DO n a z.length c ex) ∈ _ by simp)
  obtain ⟨⟨p0, p1, p2⟩, _⟩ := cells3 BX gx0 _ _ _ _ (show (gx0, DO n ax z.length cx ex) ∈ _ by simp)
  go_wp2_with fail
  refine (sameP n ax a cx c z ex _ ⟨lx, u.len, u.rng⟩ (u.below BX.bel)).mono ?_
  rintro e v26 ⟨rfl, hk⟩
  replace BX := BX.keep hk
  replace lx := lx.below hk (Nat.le_refl _)
  clear hk q0 q1 q2 p0 p1 p2
  obtain ⟨⟨q0, q1, q2⟩, _⟩ := cells3 BX w.heap.size _ _ _ _ (show (w.heap.size, DO n a z.length c ex) ∈ _ by simp)
  obtain ⟨⟨p0, p1, p2⟩, _⟩ := cells3 BX gx0 _ _ _ _ (show (gx0, DO n ax z.length cx ex) ∈ _ by simp)
  go_wp2_with fail
  refine (lKnown4 _ (hT.below BX.bel (Nat.le_refl _))).mono ?_
  rintro e v27 ⟨rfl, hk⟩
  replace BX := BX.keep hk
  replace lx := lx.below hk (Nat.le_refl _)
  clear hk q0 q1 q2 p0 p1 p2
  obtain ⟨⟨q0, q1, q2⟩, _⟩ := cells3 BX w.heap.size _ _ _ _ (show (w.heap.size, DO n a z.length c ex) ∈ _ by simp)
  obtain ⟨⟨p0, p1, p2⟩, _⟩ := cells3 BX gx0 _ _ _ _ (show (gx0, DO n ax z.length cx ex) ∈ _ by simp)
  go_wp2
  go_ret
  exact ⟨rfl, BX.bel⟩
set_option maxHeartbeats 2000000 in
theorem rx_good (n : Bool) (a : Option Addr) (c : Nat) (z : List Int) (ex m : Int) (b : Bool) (hm : Mode m) (g : DG n z ex) (hz : 0 < z.length) (W0 X0 : Int) (KP : ∀ W a0 c0, Lie W a0 z → Tab W → Calls Tryz.prog 14 #[.int .u8 (fm b), .int .u8 m, dV n a0 z.length c0 ex] W fun e w' => e = .returned (.tuple #[.int .u64 W0, .int .u8 X0, .int .i64 0]) ∧ Below W.heap.size W w') (KR : ∀ W, Lie W a z → Calls Tryz.prog 19 #[.int .u8 (fm b), .int .u8 m, dV n a z.length c ex] W fun e w' => e = .returned (.tuple #[.int .u64 W0, .int .u8 X0]) ∧ Below W.heap.size W w') (hl : (z.length : Int) ≤ 300) (w : World) (u : DLie w a z) (hT : Tab w) (hml : z.length ≤ 1000000) (hnil : a = none → c = 0) :
    Calls Tryz.prog 3 #[.int .u8 (fm b), .int .u8 m, dV n a z.length c ex] w fun e w' => e = .returned (.bool true) ∧ Below w.heap.size w w' := by
  have BX := (Bx.nil w).push (DO n a z.length c ex)
  obtain ⟨⟨q0, q1, q2⟩, _⟩ := cells3 BX w.heap.size _ _ _ _ (show (w.heap.size, DO n a z.length c ex) ∈ _ by simp)
  go_enter Tryz.func3, Tryz.ntmps3
  have hoo : (ovw b m n == ovw b m n) = true := by simp
  have HP := fun W a0 c0 h1 h2 => Hide.mk (KP W a0 c0 h1 h2)
  have HR := fun W h1 => Hide.mk (KR W h1)
  clear KP KR
  go_wp2_with fail
  refine (lLong4 n a z.length c ex _ false (decide_eq_false (by omega))).mono ?_
  rintro e v3 ⟨rfl, hk⟩
  replace BX := BX.keep hk
  clear hk q0 q1 q2
  obtain ⟨⟨q0, q1, q2⟩, _⟩ := cells3 BX w.heap.size _ _ _ _ (show (w.heap.size, DO n a z.length c ex) ∈ _ by simp)
  go_wp2_with fail
  refine (lent4 n a c z ex _ (u.below BX.bel).lie hml hnil).mono ?_
  rintro e v4 ⟨ax, cx, rfl, lx0, hk, _⟩
  replace BX := (BX.keep hk).push (DO n ax z.length cx ex)
  have lx := lx0.below (below_alloc v4 (DO n ax z.length cx ex)) (Nat.le_refl _)
  obtain ⟨gx0, hgx⟩ : ∃ g, v4.heap.size = g := ⟨_, rfl⟩
  rw [hgx] at BX
  clear lx0 hk q0 q1 q2
  obtain ⟨⟨q0, q1, q2⟩, _⟩ := cells3 BX w.heap.size _ _ _ _ (show (w.heap.size, DO n a z.length c ex) ∈ _ by simp)
  obtain ⟨⟨p0, p1, p2⟩, _⟩ := cells3 BX gx0 _ _ _ _ (show (gx0, DO n ax z.length cx ex) ∈ _ by simp)
  go_wp2_with fail
  try rw [hgx]
  clear hgx
  refine ((HP _ ax cx lx (hT.below BX.bel (Nat.le_refl _))).out).mono ?_
  rintro e v28 ⟨rfl, hk⟩
  replace BX := BX.keep hk
  replace lx := lx.below hk (Nat.le_refl _)
  clear hk q0 q1 q2 p0 p1 p2
  obtain ⟨⟨q0, q1, q2⟩, _⟩ := cells3 BX w.heap.size _ _ _ _ (show (w.heap.size, DO n a z.length c ex) ∈ _ by simp)
  obtain ⟨⟨p0, p1, p2⟩, _⟩ := cells3 BX gx0 _ _ _ _ (show (gx0, DO n ax z.length cx ex) ∈ _ by simp)
  go_wp2_with fail
  refine (pOver b m hm n _).mono ?_
  rintro e v29 ⟨rfl, hk⟩
  replace BX := BX.keep hk
  replace lx := lx.below hk (Nat.le_refl _)
  clear hk q0 q1 q2 p0 p1 p2
  obtain ⟨⟨q0, q1, q2⟩, _⟩ := cells3 BX w.heap.size _ _ _ _ (show (w.heap.size, DO n a z.length c ex) ∈ _ by simp)
  obtain ⟨⟨p0, p1, p2⟩, _⟩ := cells3 BX gx0 _ _ _ _ (show (gx0, DO n ax z.length cx ex) ∈ _ by simp)
  go_wp2_with fail
  refine (lOpens_nil b m hm _).mono ?_
  rintro e v30 ⟨rfl, hk⟩
  replace BX := BX.keep hk
  replace lx := lx.below hk (Nat.le_refl _)
  clear hk q0 q1 q2 p0 p1 p2
  obtain ⟨⟨q0, q1, q2⟩, _⟩ := cells3 BX w.heap.size _ _ _ _ (show (w.heap.size, DO n a z.length c ex) ∈ _ by simp)
  obtain ⟨⟨p0, p1, p2⟩, _⟩ := cells3 BX gx0 _ _ _ _ (show (gx0, DO n ax z.length cx ex) ∈ _ by simp)
  go_wp2_with fail
  refine (rOverP b m n hm _).mono ?_
  rintro e v31 ⟨rfl, hk⟩
  replace BX := BX.keep hk
  replace lx := lx.below hk (Nat.le_refl _)
  clear hk q0 q1 q2 p0 p1 p2
  obtain ⟨⟨q0, q1, q2⟩, _⟩ := cells3 BX w.heap.size _ _ _ _ (show (w.heap.size, DO n a z.length c ex) ∈ _ by simp)
  obtain ⟨⟨p0, p1, p2⟩, _⟩ := cells3 BX gx0 _ _ _ _ (show (gx0, DO n ax z.length cx ex) ∈ _ by simp)
  go_wp2_with fail
  replace BX := BX.push (DO n a z.length c ex)
  replace lx := lx.below (below_alloc _ (DO n a z.length c ex)) (Nat.le_refl _)
  clear q0 q1 q2 p0 p1 p2
  obtain ⟨⟨q0, q1, q2⟩, _⟩ := cells3 BX w.heap.size _ _ _ _ (show (w.heap.size, DO n a z.length c ex) ∈ _ by simp)
  obtain ⟨⟨p0, p1, p2⟩, _⟩ := cells3 BX gx0 _ _ _ _ (show (gx0, DO n ax z.length cx ex) ∈ _ by simp)
  refine (lOpens1 b m hm _ n a c z ex _ (u.below BX.bel) g.may (at3_of BX (.head _))).mono ?_
  rintro e v32 ⟨rfl, hk⟩
  replace BX := BX.keep hk
  replace lx := lx.below hk (Nat.le_refl _)
  clear hk q0 q1 q2 p0 p1 p2
  obtain ⟨⟨q0, q1, q2⟩, _⟩ := cells3 BX w.heap.size _ _ _ _ (show (w.heap.size, DO n a z.length c ex) ∈ _ by simp)
  obtain ⟨⟨p0, p1, p2⟩, _⟩ := cells3 BX gx0 _ _ _ _ (show (gx0, DO n ax z.length cx ex) ∈ _ by simp)
  go_wp2_with fail
  refine ((HR _ (u.below BX.bel).lie).out).mono ?_
  rintro e v33 ⟨rfl, hk⟩
  replace BX := BX.keep hk
  replace lx := lx.below hk (Nat.le_refl _)
  clear hk q0 q1 q2 p0 p1 p2
  obtain ⟨⟨q0, q1, q2⟩, _⟩ := cells3 BX w.heap.size _ _ _ _ (show (w.heap.size, DO n a z.length c ex) ∈ _ by simp)
  obtain ⟨⟨p0, p1, p2⟩, _⟩ := cells3 BX gx0 _ _ _ _ (show (gx0, DO n ax z.length cx ex) ∈ _ by simp)
  go_wp2_with fail
  refine (lTold W0 X0 _).mono ?_
  rintro e v34 ⟨rfl, hk⟩
  replace BX := BX.keep hk
  replace lx := lx.below hk (Nat.le_refl _)
  clear hk q0 q1 q2 p0 p1 p2
  obtain ⟨⟨q0, q1, q2⟩, _⟩ := cells3 BX w.heap.size _ _ _ _ (show (w.heap.size, DO n a z.length c ex) ∈ _ by simp)
  obtain ⟨⟨p0, p1, p2⟩, _⟩ := cells3 BX gx0 _ _ _ _ (show (gx0, DO n ax z.length cx ex) ∈ _ by simp)
  go_wp2_with fail
  refine (sameP n ax a cx c z ex _ ⟨lx, u.len, u.rng⟩ (u.below BX.bel)).mono ?_
  rintro e v35 ⟨rfl, hk⟩
  replace BX := BX.keep hk
  replace lx := lx.below hk (Nat.le_refl _)
  clear hk q0 q1 q2 p0 p1 p2
  obtain ⟨⟨q0, q1, q2⟩, _⟩ := cells3 BX w.heap.size _ _ _ _ (show (w.heap.size, DO n a z.length c ex) ∈ _ by simp)
  obtain ⟨⟨p0, p1, p2⟩, _⟩ := cells3 BX gx0 _ _ _ _ (show (gx0, DO n ax z.length cx ex) ∈ _ by simp)
  go_wp2_with fail
  refine (lKnown4 _ (hT.below BX.bel (Nat.le_refl _))).mono ?_
  rintro e v36 ⟨rfl, hk⟩
  replace BX := BX.keep hk
  replace lx := lx.below hk (Nat.le_refl _)
  clear hk q0 q1 q2 p0 p1 p2
  obtain ⟨⟨q0, q1, q2⟩, _⟩ := cells3 BX w.heap.size _ _ _ _ (show (w.heap.size, DO n a z.length c ex) ∈ _ by simp)
  obtain ⟨⟨p0, p1, p2⟩, _⟩ := cells3 BX gx0 _ _ _ _ (show (gx0, DO n ax z.length cx ex) ∈ _ by simp)
  go_wp2
  go_ret
  exact ⟨rfl, BX.bel⟩
/-- RoundExact, whatever it is called with. -/
theorem rx_any (f m : Int) (n : Bool) (a : Option Addr) (c : Nat) (z : List Int) (ex : Int) (w : World) (u : DLie w a z) (hT : Tab w) (hnil : a = none → c = 0) :
    Calls Tryz.prog 3 #[.int .u8 f, .int .u8 m, dV n a z.length c ex] w fun e w' => e = .returned (.bool true) ∧ Below w.heap.size w w' := by
  by_cases hl : (300 : Int) < (z.length : Int)
  · exact rx_long n a c z ex m f hl w u hT
  · have hl2 : (z.length : Int) ≤ 300 := by omega
    have hml : z.length ≤ 1000000 := by omega
    rcases fm_or_bad f with ⟨b, rfl⟩ | hf
    · by_cases hm : Mode m
      · cases hq : dmayB n z ex with
        | false => exact rx_arg n a c z ex m b hm hq hl2 w u hT hml hnil
        | true =>
          have g := DG.of u.rng hq
          by_cases hz : 0 < z.length
          · obtain ⟨B, hB⟩ := bitLen_ex g.good.nonneg
            have hB2 : B ≤ 9700 := by
              have h9 : Nt.val z < 4294967296 ^ z.length := (Nt.can_len g.can z.length).2 (Nat.le_refl _)
              rw [show (4294967296 : Int) = 2 ^ 32 from rfl, ← Int.pow_mul] at h9
              have := bl_le hB h9
              omega
            exact rx_good n a c z ex m b hm g hz _ _ (fun W a0 c0 h1 h2 => pRound b m hm n a0 c0 z ex (B + ex) W h1 g hz h2 hB (by omega) rfl rfl rfl rfl rfl) (fun W h1 => rRound b m hm n a c z ex (B + ex) W h1 g hz hB hB2 rfl rfl rfl rfl rfl) hl2 w u hT hml hnil
          · obtain ⟨h1, h2, h3⟩ := g.nil (by omega)
            exact rx_zero n a c z ex m b hm ⟨⟨h1, h2, h3⟩⟩ hl2 w u hT hml hnil
      · exact rx_bad n a c z ex m (fm b) 5 (.inr ⟨b, rfl, .inl ⟨hm, rfl⟩⟩) rfl hl2 w u hT hml hnil
    · exact rx_bad n a c z ex m f 4 (.inl ⟨hf, rfl⟩) rfl hl2 w u hT hml hnil
end Go.Proofs.YtchmljbkophdaaaGreatDoor
