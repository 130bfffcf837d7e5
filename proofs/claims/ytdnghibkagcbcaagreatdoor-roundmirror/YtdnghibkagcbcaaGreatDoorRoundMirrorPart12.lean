import Derived.Test.YtdnghibkagcbcaaGreatDoorRoundMirrorPart11
namespace Go.Proofs.YtdnghibkagcbcaaGreatDoor
open Go.RowKit Go.Wd Go.Box
set_option linter.unusedVariables false
set_option maxRecDepth 3000
theorem qf1_bits {X : Int} {B k : Nat} (hX : 0 < X) (hB : BitLen X B) (i : Int) (hk : (k : Int) = B + i) : BitLen (qf X 1 i) k := by
  unfold qf
  rw [Int.one_mul]
  have h1 := (hB.up hX i.toNat).down (-i).toNat
  rw [show B + i.toNat - (-i).toNat = k by omega] at h1
  exact h1
/-- What is taken has as many units as the format lets. -/
theorem fitsH (b : Bool) (T : Int) {h : Int} (h0 : 0 ≤ h) (h1 : h < 2 ^ (pr b + 1)) (h2 : ulp b T ≠ lo b → 2 ^ pr b ≤ h) (m : Int) (n g : Bool) :
    0 ≤ tk m n h g ∧ tk m n h g ≤ 2 ^ pr b ∧ (ulp b T ≠ lo b → 2 ^ (pr b - 1) ≤ tk m n h g) := by
  have hp := pr_bd b
  have h4 := tk_bd m n h g
  have h5 := halfu_lt h1
  refine ⟨by omega, by omega, fun c => ?_⟩
  have h6 := h2 c
  rw [show pr b = pr b - 1 + 1 by omega] at h6
  have := halfu_ge h6
  omega
theorem word_bd (b : Bool) {u unit : Int} {L : Nat} (hL : BitLen u L) (h0 : 0 ≤ u) (h1 : u ≤ 2 ^ pr b) (h2 : unit ≠ lo b → 2 ^ (pr b - 1) ≤ u) (h3 : lo b ≤ unit) (h4 : (L : Int) + unit ≤ hi b) :
    0 ≤ (unit - lo b) * fr b + u ∧ (unit - lo b) * fr b + u < sg b := by
  by_cases e : unit = lo b
  · subst e
    rw [Int.sub_self, Int.zero_mul, Int.zero_add]
    refine ⟨h0, ?_⟩
    cases b <;> simp only [pr, sg] at * <;> omega
  · have hl := bl_ge hL (h2 e)
    have hp := pr_bd b
    have hu : unit - lo b ≤ hi b - pr b - lo b := by omega
    have hd : 0 ≤ unit - lo b := by omega
    generalize unit - lo b = d at *
    cases b <;> simp only [pr, sg, fr, hi, lo] at * <;> omega
end Go.Proofs.YtdnghibkagcbcaaGreatDoor

namespace Go.Proofs.YtdnghibkagcbcaaGreatDoor
open Go.RowKit Go.Wd Go.Box
set_option linter.unusedVariables false
set_option maxRecDepth 3000
theorem lLong4 (n : Bool) (a : Option Addr) (k c : Nat) (ex : Int) (w : World) (q : Bool) (hq : decide ((300 : Int) < (k : Int)) = q) :
    Calls Tryz.prog 11 #[dV n a k c ex] w fun e w' => e = .returned (.bool q) ∧ Below w.heap.size w w' := by
  have B1 := (Bx.nil w).push (DO n a k c ex)
  obtain ⟨⟨s0, s1, s2⟩, _⟩ := cells3 B1 w.heap.size _ _ _ _ (.head _)
  have HQ := Hide.mk hq
  clear hq
  go_enter Tryz.func11, Tryz.ntmps11
  go_wp2
  go_ret
  exact ⟨by first | rfl | simpa using HQ.out, B1.bel⟩
theorem rIs4 (m : Int) (q : Bool) (hm : Mode m ∧ q = true ∨ ¬ Mode m ∧ q = false) (w : World) :
    Calls Tryz.prog 51 #[.int .u8 m] w fun e w' => e = .returned (.bool q) ∧ Below w.heap.size w w' := by
  have h : (1 ≤ m ∧ m ≤ 5) ∧ q = true ∨ (¬ 1 ≤ m ∧ q = false) ∨ ((1 ≤ m ∧ ¬ m ≤ 5) ∧ q = false) := by
    unfold Mode at hm
    rcases hm with ⟨h, rfl⟩ | ⟨h, rfl⟩
    · exact .inl ⟨by omega, rfl⟩
    · by_cases c : 1 ≤ m
      · exact .inr (.inr ⟨⟨c, by omega⟩, rfl⟩)
      · exact .inr (.inl ⟨c, rfl⟩)
  clear hm
  rcases h with ⟨⟨h1, h2⟩, rfl⟩ | ⟨h1, rfl⟩ | ⟨⟨h1, h2⟩, rfl⟩
  · go_enter Tryz.func51, Tryz.ntmps51
    go_wp2
    go_ret
    exact ⟨by first | rfl | simp, Below.refl _ _⟩
  · go_enter Tryz.func51, Tryz.ntmps51
    go_wp2
    go_ret
    exact ⟨by first | rfl | simp, Below.refl _ _⟩
  · go_enter Tryz.func51, Tryz.ntmps51
    go_wp2
    go_ret
    exact ⟨by first | rfl | simp, Below.refl _ _⟩
/-- What is asked first: the format, the mode. -/
def Opn (f m code : Int) : Prop := (Bad f ∧ code = 4) ∨ ∃ b, f = fm b ∧ ((¬ Mode m ∧ code = 5) ∨ (Mode m ∧ code = 0))
theorem lOpens_bad (f m code : Int) (sl : Value) (h : Opn f m code) (hc : (code == 0) = false) (w : World) :
    Calls Tryz.prog 16 #[.int .u8 f, .int .u8 m, sl] w fun e w' => e = .returned (.int .i64 code) ∧ Below w.heap.size w w' := by
  rcases h with ⟨hf, rfl⟩ | ⟨b, rfl, ⟨hm, rfl⟩ | ⟨hm, rfl⟩⟩
  · have H1 := fun W => Hide.mk (rIs_bad f hf W)
    go_enter Tryz.func16, Tryz.ntmps16
    go_wp2_with fail
    refine (H1 _).out.mono ?_
    rintro e w2 ⟨rfl, h2⟩
    go_wp2
    go_ret
    exact ⟨rfl, h2⟩
  · have H1 := fun W => Hide.mk (rIs b W)
    have H2 := fun W => Hide.mk (rIs4 m false (.inr ⟨hm, rfl⟩) W)
    go_enter Tryz.func16, Tryz.ntmps16
    go_wp2_with fail
    refine (H1 _).out.mono ?_
    rintro e w2 ⟨rfl, h2⟩
    have B2 := (Bx.nil w).keep h2
    go_wp2_with fail
    refine (H2 _).out.mono ?_
    rintro e w3 ⟨rfl, h3⟩
    have B3 := B2.keep h3
    go_wp2
    go_ret
    exact ⟨rfl, B3.bel⟩
  · exact absurd hc (by decide)
set_option maxHeartbeats 1000000 in
theorem lOpens1_no (b : Bool) (m : Int) (hm : Mode m) (g : Nat) (n1 : Bool) (a1 : Option Addr) (c1 : Nat) (z1 : List Int) (e1 : Int) (w : World) (h1 : DLie w a1 z1) (hq1 : dmayB n1 z1 e1 = false) (hg1 : At3 w g 0 n1 a1 z1.length c1 e1) :
    Calls Tryz.prog 16 #[.int .u8 (fm b), .int .u8 m, .slice (some ⟨g, 0, none⟩) 1 1] w fun e w' => e = .returned (.int .i64 2) ∧ Below w.heap.size w w' := by
  have H1 := fun W => Hide.mk (rIs b W)
  have H2 := fun W => Hide.mk (rIs4 m true (.inl ⟨hm, rfl⟩) W)
  have M1 := fun W (hW : Below w.heap.size w W) => Hide.mk (drefmay37 n1 a1 c1 z1 e1 W (h1.below hW) false hq1)
  have G1 := Hide.mk hg1
  clear h1 hq1 hg1
  go_enter Tryz.func16, Tryz.ntmps16
  go_wp2_with fail
  refine (H1 _).out.mono ?_
  rintro e w2 ⟨rfl, h2⟩
  have B2 := (Bx.nil w).keep h2
  go_wp2_with fail
  refine (H2 _).out.mono ?_
  rintro e w3 ⟨rfl, h3⟩
  have B3 := B2.keep h3
  clear h2 h3 B2 H1 H2
  obtain ⟨k0, k1, k2⟩ := G1.out.below B3.bel
  go_wp2
  refine wp_loop_rounds 3 ?_
  rw [rounds_succ]
  go_wp2_with fail
  refine (M1 _ B3.bel).out.mono ?_
  rintro e w4 ⟨rfl, hh⟩
  have B4 := B3.keep hh
  clear hh k0 k1 k2 B3
  go_wp2
  go_ret
  exact ⟨rfl, B4.bel⟩
set_option maxHeartbeats 1000000 in
theorem lOpens1 (b : Bool) (m : Int) (hm : Mode m) (g : Nat) (n1 : Bool) (a1 : Option Addr) (c1 : Nat) (z1 : List Int) (e1 : Int) (w : World) (h1 : DLie w a1 z1) (hq1 : dmayB n1 z1 e1 = true) (hg1 : At3 w g 0 n1 a1 z1.length c1 e1) :
    Calls Tryz.prog 16 #[.int .u8 (fm b), .int .u8 m, .slice (some ⟨g, 0, none⟩) 1 1] w fun e w' => e = .returned (.int .i64 0) ∧ Below w.heap.size w w' := by
  have H1 := fun W => Hide.mk (rIs b W)
  have H2 := fun W => Hide.mk (rIs4 m true (.inl ⟨hm, rfl⟩) W)
  have M1 := fun W (hW : Below w.heap.size w W) => Hide.mk (drefmay37 n1 a1 c1 z1 e1 W (h1.below hW) true hq1)
  have G1 := Hide.mk hg1
  clear h1 hq1 hg1
  go_enter Tryz.func16, Tryz.ntmps16
  go_wp2_with fail
  refine (H1 _).out.mono ?_
  rintro e w2 ⟨rfl, h2⟩
  have B2 := (Bx.nil w).keep h2
  go_wp2_with fail
  refine (H2 _).out.mono ?_
  rintro e w3 ⟨rfl, h3⟩
  have B3 := B2.keep h3
  clear h2 h3 B2 H1 H2
  obtain ⟨k0, k1, k2⟩ := G1.out.below B3.bel
  go_wp2
  refine wp_loop_rounds 3 ?_
  rw [rounds_succ]
  go_wp2_with fail
  refine (M1 _ B3.bel).out.mono ?_
  rintro e w4 ⟨rfl, hh⟩
  have B4 := B3.keep hh
  clear hh k0 k1 k2 B3
  go_wp2_with fail
  rw [rounds_succ]
  go_wp2
  go_ret
  exact ⟨rfl, B4.bel⟩
end Go.Proofs.YtdnghibkagcbcaaGreatDoor

namespace Go.Proofs.YtdnghibkagcbcaaGreatDoor
open Go.RowKit Go.Wd Go.Box
set_option linter.unusedVariables false
set_option maxRecDepth 3000
/-- Round of a number that is not nought. -/
theorem pRound (b : Bool) (m : Int) (hm : Mode m) (n : Bool) (a : Option Addr) (c : Nat) (z : List Int) (ex T : Int) (w : World) (l : Lie w a z) (g : DG n z ex) (hz : 0 < z.length) (hTab : Tab w) {B : Nat} (hB : BitLen (Nt.val z) B) (hB2 : B ≤ 131072) (hT : T = B + ex) {H I : Int} {G J : Bool} (hH : H = qf (Nt.val z) 1 (ex + 1 - ulp b T)) (hG : G = qg (Nt.val z) 1 (ex + 1 - ulp b T)) (hI : I = qf (Nt.val z) 1 (ex + 1 - (T - pr b))) (hJ : J = qg (Nt.val z) 1 (ex + 1 - (T - pr b))) :
    Calls Tryz.prog 14 #[.int .u8 (fm b), .int .u8 m, dV n a z.length c ex] w fun e w' => e = .returned (.tuple #[.int .u64 (rdW b m n T H G), .int .u8 (rdX b m n T H G I J), .int .i64 0]) ∧ Below w.heap.size w w' := by
  have hx := g.ex_bd
  have hp := g.pos hz
  have hpb := pr_bd b
  have hub := ulp_ge b T
  have u := g.lie l
  obtain ⟨s, hs, hs2⟩ := sgn_dv g hz
  have hi64 : BitLen (qf (Nt.val z) 1 (64 - B)) 64 := qf1_bits hp hB _ (by omega)
  have hb : 9223372036854775808 ≤ qf (Nt.val z) 1 (64 - B) ∧ qf (Nt.val z) 1 (64 - B) < 18446744073709551616 := by
    rcases hi64 with ⟨_, h⟩ | ⟨_, h⟩
    · omega
    · have a := h.lt
      have b := h.le
      omega
  obtain ⟨d, hd⟩ : ∃ d : Nat, ulp b T - T + 63 = (d : Int) := ⟨(ulp b T - T + 63).toNat, by omega⟩
  have e1 : qf (Nt.val z) 1 (64 - B) / 2 ^ d = H ∧ gx (qf (Nt.val z) 1 (64 - B)) d (qg (Nt.val z) 1 (64 - B)) = G := by
    have a1 := qf_down (Nt.val z) 1 (by omega) (64 - B) d
    have a2 := qg_down (Nt.val z) 1 (by omega) (64 - B) d
    rw [show 64 - (B : Int) - d = ex + 1 - ulp b T by omega] at a1 a2
    exact ⟨by rw [hH, a1], by rw [hG, a2]; rfl⟩
  have e2 : qf (Nt.val z) 1 (64 - B) / 2 ^ (63 - pr b) = I ∧ gx (qf (Nt.val z) 1 (64 - B)) (63 - pr b) (qg (Nt.val z) 1 (64 - B)) = J := by
    have a1 := qf_down (Nt.val z) 1 (by omega) (64 - B) (63 - pr b)
    have a2 := qg_down (Nt.val z) 1 (by omega) (64 - B) (63 - pr b)
    rw [show 64 - (B : Int) - (63 - pr b : Nat) = ex + 1 - (T - pr b) by omega] at a1 a2
    exact ⟨by rw [hI, a1], by rw [hJ, a2]; rfl⟩
  refine wRound_good b m n a c z.length ex s n T (qf (Nt.val z) 1 (64 - B)) _ _ (qg (Nt.val z) 1 (64 - B)) w hs2 ?_ ?_ ?_ ?_
  · intro g0 W hW h3
    have := wWayFor1 b m hm g0 n a c z ex W (u.below hW) true g.may h3
    exact this
  · intro W hW
    exact dsign49 n a c z ex _ W (l.below hW (Nat.le_refl _)) ⟨g, rfl⟩ s hs
  · intro W hW
    have := wSeenNumber n a c z ex W (l.below hW (Nat.le_refl _)) g hz (hTab.below hW (Nat.le_refl _)) hB hB2
    rw [← hT] at this
    exact this
  · intro W hW
    have := wRounded b m n T (qf (Nt.val z) 1 (64 - B)) (qg (Nt.val z) 1 (64 - B)) d W (hTab.below hW (Nat.le_refl _)) hm (by omega) (by omega) hb.1 hb.2 hd
    rw [e1.1, e1.2, e2.1, e2.2] at this
    exact this
theorem rIntP (v : Int) (h0 : 0 < v) (h1 : v < 9223372036854775808) (w : World) :
    Calls Tryz.prog 42 #[.int .i64 v] w fun e w' => RF w w' v 0 e := by
  have B1 := (Bx.nil w).push (DO false none 0 0 0)
  have hc : IntKind.u64.wrap v = v := by rw [IntKind.wrap_u64]; omega
  have hn : ¬ v < 0 := by omega
  have HO := fun W => Hide.mk (of17 v (by omega) (by omega) W)
  go_enter Tryz.func42, Tryz.ntmps42
  go_wp2_with fail
  try rw [hc]
  refine (HO _).out.mono ?_
  rintro e w2 ⟨zs, a, c, rfl, N2, _⟩
  have B2 := (B1.keep N2.bel)
  have HFm := Hide.mk (formX false a c zs 0 w2 N2.lie N2.can (by have := N2.len; omega) (by omega) (by omega))
  rw [N2.val, sv_f] at HFm
  clear N2 HO B1
  go_wp2_with fail
  refine HFm.out.mono ?_
  rintro e w3 ⟨n3, z3, x3, a3, c3, rfl, F3, l3, h3⟩
  have B3 := B2.keep h3
  have H3 := Hide.mk F3
  clear F3 h3 B2 HFm
  obtain ⟨⟨t0, t1, t2⟩, r0, r1, r2⟩ := cells3 B3 w.heap.size _ _ _ _ (.head _)
  go_wp2
  have Bf := B3.fill3 (Nat.le_refl _) (by simp) (.bool n3) (.slice a3 z3.length c3) (.int .i64 x3)
  refine bodyPost_ret (results_D1 rfl _ _ w.heap.size _ rfl ⟨Bf.head, rfl⟩) rfl ?_
  exact ⟨n3, z3, x3, a3, c3, rfl, H3.out, lie_set3P (g := w.heap.size) B3.head _ _ _ l3, Bf.bel⟩
end Go.Proofs.YtdnghibkagcbcaaGreatDoor

namespace Go.Proofs.YtdnghibkagcbcaaGreatDoor
open Go.RowKit Go.Wd Go.Box
set_option linter.unusedVariables false
set_option maxRecDepth 3000
/-- Quo of two numbers that are not nought. -/
theorem pQuo (b : Bool) (m : Int) (hm : Mode m) (n1 n2 : Bool) (a1 a2 : Option Addr) (c1 c2 : Nat) (z1 z2 : List Int) (e1 e2 T : Int) (w : World) (l1 : Lie w a1 z1) (l2 : Lie w a2 z2) (g1 : DG n1 z1 e1) (g2 : DG n2 z2 e2) (hTab : Tab w) (hz1 : 0 < z1.length) (hz2 : 0 < z2.length) {i : Int} (hi : BitLen (qf (Nt.val z1) (Nt.val z2) i) 64) (hi1 : -1000000 ≤ i) (hi2 : i ≤ 1000000) (hT : T = 64 - i + (e1 - e2)) {H I : Int} {G J : Bool} (hH : H = qf (Nt.val z1) (Nt.val z2) (e1 - e2 + 1 - ulp b T)) (hG : G = qg (Nt.val z1) (Nt.val z2) (e1 - e2 + 1 - ulp b T)) (hI : I = qf (Nt.val z1) (Nt.val z2) (e1 - e2 + 1 - (T - pr b))) (hJ : J = qg (Nt.val z1) (Nt.val z2) (e1 - e2 + 1 - (T - pr b))) :
    Calls Tryz.prog 22 #[.int .u8 (fm b), .int .u8 m, dV n1 a1 z1.length c1 e1, dV n2 a2 z2.length c2 e2] w fun e w' => e = .returned (.tuple #[.int .u64 (rdW b m (n1 != n2) T H G), .int .u8 (rdX b m (n1 != n2) T H G I J), .int .i64 0]) ∧ Below w.heap.size w w' := by
  have x1 := g1.ex_bd
  have x2 := g2.ex_bd
  have p1 := g1.pos hz1
  have p2 := g2.pos hz2
  have hpb := pr_bd b
  have hub := ulp_ge b T
  have hlo := lo_bd b
  obtain ⟨s1, hs1, hs12⟩ := sgn_dv g1 hz1
  obtain ⟨s2, hs2, hs22⟩ := sgn_dv g2 hz2
  have u1 := g1.lie l1
  have u2 := g2.lie l2
  have hb : 9223372036854775808 ≤ qf (Nt.val z1) (Nt.val z2) i ∧ qf (Nt.val z1) (Nt.val z2) i < 18446744073709551616 := by
    rcases hi with ⟨_, h⟩ | ⟨_, h⟩
    · omega
    · have a := h.lt
      have b := h.le
      omega
  obtain ⟨d, hd⟩ : ∃ d : Nat, ulp b T - T + 63 = (d : Int) := ⟨(ulp b T - T + 63).toNat, by omega⟩
  have k1 : qf (Nt.val z1) (Nt.val z2) i / 2 ^ d = H ∧ gx (qf (Nt.val z1) (Nt.val z2) i) d (qg (Nt.val z1) (Nt.val z2) i) = G := by
    have a1 := qf_down (Nt.val z1) (Nt.val z2) p2 i d
    have a2 := qg_down (Nt.val z1) (Nt.val z2) p2 i d
    rw [show i - (d : Int) = e1 - e2 + 1 - ulp b T by omega] at a1 a2
    exact ⟨by rw [hH, a1], by rw [hG, a2]; rfl⟩
  have k2 : qf (Nt.val z1) (Nt.val z2) i / 2 ^ (63 - pr b) = I ∧ gx (qf (Nt.val z1) (Nt.val z2) i) (63 - pr b) (qg (Nt.val z1) (Nt.val z2) i) = J := by
    have a1 := qf_down (Nt.val z1) (Nt.val z2) p2 i (63 - pr b)
    have a2 := qg_down (Nt.val z1) (Nt.val z2) p2 i (63 - pr b)
    rw [show i - ((63 - pr b : Nat) : Int) = e1 - e2 + 1 - (T - pr b) by omega] at a1 a2
    exact ⟨by rw [hI, a1], by rw [hJ, a2]; rfl⟩
  refine wQuo_good b m n1 a1 c1 z1.length e1 n2 a2 c2 z2.length e2 s1 s2 (n1 != n2) T (qf (Nt.val z1) (Nt.val z2) i) _ _ (qg (Nt.val z1) (Nt.val z2) i) w hs12 hs22 ?_ ?_ ?_ ?_ ?_
  · intro g0 W hW h3 h4
    have := wWayFor2 b m hm g0 n1 a1 c1 z1 e1 n2 a2 c2 z2 e2 W (u1.below hW) (u2.below hW) true true g1.may g2.may h3 h4
    exact this
  · intro W hW
    exact dsign49 n2 a2 c2 z2 e2 _ W (l2.below hW (Nat.le_refl _)) ⟨g2, rfl⟩ s2 hs2
  · intro W hW
    exact dsign49 n1 a1 c1 z1 e1 _ W (l1.below hW (Nat.le_refl _)) ⟨g1, rfl⟩ s1 hs1
  · intro W hW
    have := wSeenQuo n1 n2 a1 a2 c1 c2 z1 z2 e1 e2 W (l1.below hW (Nat.le_refl _)) (l2.below hW (Nat.le_refl _)) g1 g2 (hTab.below hW (Nat.le_refl _)) hz1 hz2 hi hi1 hi2
    rw [← hT] at this
    exact this
  · intro W hW
    have := wRounded b m (n1 != n2) T (qf (Nt.val z1) (Nt.val z2) i) (qg (Nt.val z1) (Nt.val z2) i) d W (hTab.below hW (Nat.le_refl _)) hm (by omega) (by omega) hb.1 hb.2 hd
    rw [k1.1, k1.2, k2.1, k2.2] at this
    exact this
theorem fm_oddP {v : Int} {n : Bool} {z : List Int} {x : Int} (F : Fm v 0 n z x) (h0 : 0 < v) (h1 : v % 2 = 1) (h2 : v < 18446744073709551616) : n = false ∧ x = 0 ∧ Nt.val z = v ∧ 0 < z.length ∧ DG false z 0 := by
  rcases F with ⟨rfl, _⟩ | ⟨_, t, ht, hn, hx, hc, hv⟩
  · omega
  · have ha : (v.natAbs : Int) = v := by omega
    rw [ha] at ht hv
    have t0 : t = 0 := ht.unique (odd_low h1)
    subst t0
    rw [Int.pow_zero, Int.ediv_one] at hv
    have hz : 0 < z.length := by
      cases z with
      | nil => rw [Nt.val_nil] at hv; omega
      | cons d q => simp
    have hl : z.length ≤ 2 := by
      refine (Nt.can_len hc 2).1 ?_
      rw [hv, show (4294967296 : Int) ^ 2 = 18446744073709551616 by decide]
      exact h2
    refine ⟨by rw [hn]; exact decide_eq_false (by omega), by omega, hv, hz, ⟨hc, by omega, .inr ⟨hz, by omega, by omega, by omega⟩⟩⟩
set_option maxHeartbeats 1000000 in
theorem lKnown4 (w : World) (hTab : Tab w) :
    Calls Tryz.prog 12 #[] w fun e w' => e = .returned (.bool true) ∧ Below w.heap.size w w' := by
  have H1 := fun W => Hide.mk (rIntP 1 (by decide) (by decide) W)
  have H3 := fun W => Hide.mk (rIntP 3 (by decide) (by decide) W)
  have H5 := fun W => Hide.mk (rIntP 16777217 (by decide) (by decide) W)
  go_enter Tryz.func12, Tryz.ntmps12
  go_wp2_with fail
  refine (H1 _).out.mono ?_
  rintro e w2 ⟨n1, z1, x1, a1, c1, rfl, F1, l1, h1⟩
  have B1 := (Bx.nil w).keep h1
  obtain ⟨rfl, rfl, v1, hz1, g1⟩ := fm_oddP F1 (by decide) (by decide) (by decide)
  clear F1 h1
  go_wp2_with fail
  refine (H3 _).out.mono ?_
  rintro e w3 ⟨n3, z3, x3, a3, c3, rfl, F3, l3, h3⟩
  have B3 := B1.keep h3
  replace l1 := l1.below h3 (Nat.le_refl _)
  obtain ⟨rfl, rfl, v3, hz3, g3⟩ := fm_oddP F3 (by decide) (by decide) (by decide)
  clear F3 h3 B1 H1 H3
  have HQ := Hide.mk (pQuo false 1 (.inl rfl) false false a1 a3 c1 c3 z1 z3 0 0 (-1) w3 l1 l3 g1 g3 (hTab.below B3.bel (Nat.le_refl _)) hz1 hz3 (i := 65) (by rw [v1, v3]; exact .inr ⟨by decide, ⟨by decide, by decide⟩⟩) (by decide) (by decide) (by decide) rfl rfl rfl rfl)
  rw [v1, v3, show rdW false 1 (false != false) (-1) (qf 1 3 (0 - 0 + 1 - ulp false (-1))) (qg 1 3 (0 - 0 + 1 - ulp false (-1))) = 1051372203 by decide, show rdX false 1 (false != false) (-1) (qf 1 3 (0 - 0 + 1 - ulp false (-1))) (qg 1 3 (0 - 0 + 1 - ulp false (-1))) (qf 1 3 (0 - 0 + 1 - (-1 - (pr false : Nat)))) (qg 1 3 (0 - 0 + 1 - (-1 - (pr false : Nat)))) = 16 by decide, show fm false = 1 from rfl] at HQ
  clear l1 l3 g1 g3 hz1 hz3 v1 v3
  go_wp2_with fail
  refine HQ.out.mono ?_
  rintro e w4 ⟨rfl, h4⟩
  have B4 := B3.keep h4
  clear h4 B3 HQ
  go_wp2_with fail
  refine (H5 _).out.mono ?_
  rintro e w5 ⟨n5, z5, x5, a5, c5, rfl, F5, l5, h5⟩
  have B5 := B4.keep h5
  obtain ⟨rfl, rfl, v5, hz5, g5⟩ := fm_oddP F5 (by decide) (by decide) (by decide)
  clear F5 h5 B4 H5
  have HR := Hide.mk (pRound false 2 (.inr (.inl rfl)) false a5 c5 z5 0 25 w5 l5 g5 hz5 (hTab.below B5.bel (Nat.le_refl _)) (B := 25) (by rw [v5]; exact .inr ⟨by decide, ⟨by decide, by decide⟩⟩) (by decide) (by decide) rfl rfl rfl rfl)
  rw [v5, show rdW false 2 false 25 (qf 16777217 1 (0 + 1 - ulp false 25)) (qg 16777217 1 (0 + 1 - ulp false 25)) = 1266679809 by decide, show rdX false 2 false 25 (qf 16777217 1 (0 + 1 - ulp false 25)) (qg 16777217 1 (0 + 1 - ulp false 25)) (qf 16777217 1 (0 + 1 - (25 - (pr false : Nat)))) (qg 16777217 1 (0 + 1 - (25 - (pr false : Nat)))) = 16 by decide, show fm false = 1 from rfl] at HR
  clear l5 g5 hz5 v5
  go_wp2_with fail
  refine HR.out.mono ?_
  rintro e w6 ⟨rfl, h6⟩
  have B6 := B5.keep h6
  clear h6 B5 HR
  go_wp2
  go_ret
  exact ⟨rfl, B6.bel⟩
end Go.Proofs.YtdnghibkagcbcaaGreatDoor

namespace Go.Proofs.YtdnghibkagcbcaaGreatDoor
open Go.RowKit Go.Wd Go.Box
set_option linter.unusedVariables false
set_option maxRecDepth 3000
theorem pRound_zero (b : Bool) (m : Int) (hm : Mode m) (a : Option Addr) (c : Nat) (w : World) :
    Calls Tryz.prog 14 #[.int .u8 (fm b), .int .u8 m, dV false a ([] : List Int).length c 0] w fun e w' => e = .returned (.tuple #[.int .u64 0, .int .u8 0, .int .i64 0]) ∧ Below w.heap.size w w' :=
  wRound_zero b m false a c ([] : List Int).length 0 w (fun g W hW h3 => wWayFor1 b m hm g false a c [] 0 W (zeroDG.lie (.inl rfl)) true rfl h3) (fun W _ => dsign49 false a c [] 0 0 W (.inl rfl) ⟨zeroDG, zero_dv _ _⟩ 0 rfl)
theorem pRound_zeroG (b : Bool) (m : Int) (hm : Mode m) (n : Bool) (a : Option Addr) (c : Nat) (z : List Int) (ex : Int) (w : World) (h : z = [] ∧ n = false ∧ ex = 0) :
    Calls Tryz.prog 14 #[.int .u8 (fm b), .int .u8 m, dV n a z.length c ex] w fun e w' => e = .returned (.tuple #[.int .u64 0, .int .u8 0, .int .i64 0]) ∧ Below w.heap.size w w' := by
  obtain ⟨rfl, rfl, rfl⟩ := h
  exact pRound_zero b m hm a c w
end Go.Proofs.YtdnghibkagcbcaaGreatDoor

namespace Go.Proofs.YtdnghibkagcbcaaGreatDoor
open Go.RowKit Go.Wd Go.Box
set_option linter.unusedVariables false
set_option maxRecDepth 3000
def bq (g : Bool) : Int := if g then 1 else 0
end Go.Proofs.YtdnghibkagcbcaaGreatDoor

namespace Go.Proofs.YtdnghibkagcbcaaGreatDoor
open Go.RowKit Go.Wd Go.Box
set_option linter.unusedVariables false
set_option maxRecDepth 3000
theorem qf_shift (x : Int) (t : Nat) (i : Int) : qf (x * 2 ^ t) 1 i = qf x 1 (i + t) ∧ qg (x * 2 ^ t) 1 i = qg x 1 (i + t) := by
  obtain ⟨c, h1, h2⟩ : ∃ c : Nat, t + i.toNat = (i + t).toNat + c ∧ (-i).toNat = (-(i + t)).toNat + c := ⟨t + i.toNat - (i + t).toNat, by omega, by omega⟩
  have hp := p2pos c
  unfold qf qg
  rw [Int.one_mul, Int.one_mul, Int.mul_assoc, ← Int.pow_add, h1, h2, Int.pow_add, Int.pow_add, ← Int.mul_assoc]
  refine ⟨Int.mul_ediv_mul_of_pos_left _ _ hp, ?_⟩
  rw [Int.mul_comm (x * 2 ^ (i + t).toNat), Int.mul_comm (2 ^ (-(i + t)).toNat), Int.mul_emod_mul_of_pos _ _ hp]
  generalize x * 2 ^ (i + t).toNat % 2 ^ (-(i + t)).toNat = u
  by_cases h : u = 0
  · subst h; simp
  · rw [decide_eq_true h, decide_eq_true (Int.mul_ne_zero (by omega) h)]
end Go.Proofs.YtdnghibkagcbcaaGreatDoor

namespace Go.Proofs.YtdnghibkagcbcaaGreatDoor
open Go.RowKit Go.Wd Go.Box
set_option linter.unusedVariables false
set_option maxRecDepth 3000
/-- A word's parts are the word. -/
theorem word_parts (b : Bool) {x : Int} (h : Ok b x) : x = sd b ((ue b x - lo b) * fr b + un b x) (ng b x) := by
  have h0 := h.1
  have h1 := h.2
  cases b
  · by_cases c1 : (2147483648 : Int) ≤ x
    · by_cases c2 : x % 2147483648 / 8388608 = 0
      · simp only [sd, ue, un, ng, fd, fn, sg, fr, lo, c1, c2, decide_true, if_true] at h1 ⊢; omega
      · simp only [sd, ue, un, ng, fd, fn, sg, fr, lo, c1, c2, decide_true, if_true, if_false] at h1 ⊢; omega
    · by_cases c2 : x % 2147483648 / 8388608 = 0
      · simp only [sd, ue, un, ng, fd, fn, sg, fr, lo, c1, c2, decide_false, if_true, Bool.false_eq_true, if_false] at h1 ⊢; omega
      · simp only [sd, ue, un, ng, fd, fn, sg, fr, lo, c1, c2, decide_false, Bool.false_eq_true, if_false] at h1 ⊢; omega
  · by_cases c1 : (9223372036854775808 : Int) ≤ x
    · by_cases c2 : x % 9223372036854775808 / 4503599627370496 = 0
      · simp only [sd, ue, un, ng, fd, fn, sg, fr, lo, c1, c2, decide_true, if_true] at h1 ⊢; omega
      · simp only [sd, ue, un, ng, fd, fn, sg, fr, lo, c1, c2, decide_true, if_true, if_false] at h1 ⊢; omega
    · by_cases c2 : x % 9223372036854775808 / 4503599627370496 = 0
      · simp only [sd, ue, un, ng, fd, fn, sg, fr, lo, c1, c2, decide_false, if_true, Bool.false_eq_true, if_false] at h1 ⊢; omega
      · simp only [sd, ue, un, ng, fd, fn, sg, fr, lo, c1, c2, decide_false, Bool.false_eq_true, if_false] at h1 ⊢; omega
theorem fm_word (b : Bool) {x : Int} {n : Bool} {z : List Int} {ex : Int} (N : DN n z ex (wv b x)) : Fm (sv (ng b x) (un b x)) (ue b x) n z ex := by
  have hK := KK_int
  have F := N.fm
  unfold wv pK at F
  have hE : -1100 ≤ ue b x := by
    unfold ue
    have := lo_bd b
    omega
  have := F.unscale
  rw [show -(KK : Int) + ((ue b x + KK).toNat : Nat) = ue b x by omega] at this
  exact this
theorem un_bits (b : Bool) {x : Int} (h : Ok b x) (hf : sz b x < inf b) : 0 ≤ un b x ∧ un b x < 2 ^ pr b ∧ (ue b x ≠ lo b → 2 ^ (pr b - 1) ≤ un b x) ∧ lo b ≤ ue b x ∧ ue b x + pr b ≤ hi b := by
  have h0 := h.1
  have h1 := h.2
  cases b <;> simp only [ue, un, fd, fn, sz, sg, fr, lo, inf, pr, hi] at * <;> (refine ⟨?_, ?_, ?_, ?_, ?_⟩ <;> (try split) <;> omega)
/-- A number that a word has as its value is rounded to the word. -/
theorem rd_word (b : Bool) (m : Int) {x : Int} (h : Ok b x) (hf : sz b x < inf b) (hz : sz b x ≠ 0) {n : Bool} {z : List Int} {ex : Int} (N : DN n z ex (wv b x)) {B : Nat} (hB : BitLen (Nt.val z) B) :
    n = ng b x ∧ rdW b m n (B + ex) (qf (Nt.val z) 1 (ex + 1 - ulp b (B + ex))) (qg (Nt.val z) 1 (ex + 1 - ulp b (B + ex))) = x ∧ ∀ I J, rdX b m n (B + ex) (qf (Nt.val z) 1 (ex + 1 - ulp b (B + ex))) (qg (Nt.val z) 1 (ex + 1 - ulp b (B + ex))) I J = 0 := by
  have F := fm_word b N
  have up := un_pos hz
  obtain ⟨u0, u1, u2, u3, u4⟩ := un_bits b h hf
  have hab := natAbs_sv (ng b x) u0
  have hne : sv (ng b x) (un b x) ≠ 0 := fun q => by rw [q] at hab; simp at hab; omega
  obtain ⟨L, hL⟩ := bitLen_ex u0
  obtain ⟨t, rfl, ht, hc, hzz, hn, hv, hd, _⟩ := F.data hne (L := L) (by rw [hab]; exact hL)
  rw [sv_neg (ng b x) up] at hn
  subst hn
  have hval : Nt.val z * 2 ^ t = un b x := by
    have h8 := hab
    rw [← hv, natAbs_sv (ng b x) (Int.mul_nonneg (Nt.val_bd hc.1).1 (Int.le_of_lt (p2pos t)))] at h8
    exact h8
  obtain rfl := hB.unique hd
  have hpb := pr_bd b
  have hLp := bl_le hL u1
  have hT : ((L - t : Nat) : Int) + (ue b x + t) = L + ue b x := by omega
  have hul : ulp b ((L - t : Nat) + (ue b x + t)) = ue b x := by
    rw [hT]
    unfold ulp
    by_cases c : ue b x = lo b
    · omega
    · have := bl_ge hL (u2 c)
      omega
  obtain ⟨s1, s2⟩ := qf_shift (Nt.val z) t 1
  have hi1 : ue b x + t + 1 - ue b x = 1 + (t : Int) := by omega
  rw [hul, hi1, ← s1, ← s2, hval]
  have q1 : qf (un b x) 1 1 = 2 * un b x := by
    unfold qf
    rw [show (1 : Int).toNat = 1 from rfl, show (-(1 : Int)).toNat = 0 from rfl, Int.pow_zero, Int.mul_one, Int.ediv_one]
    omega
  have q2 : qg (un b x) 1 1 = false := by
    unfold qg
    rw [show (-(1 : Int)).toNat = 0 from rfl, Int.pow_zero, Int.mul_one, Int.emod_one]
    rfl
  rw [q1, q2]
  have hp0 : plc (2 * un b x) false = 0 := by unfold plc; simp
  have htk : tk m (ng b x) (2 * un b x) false = un b x := by unfold tk; rw [if_pos hp0]; omega
  have hov : ¬ 2 ^ (hi b - ue b x).toNat ≤ un b x := by
    have := p2le (show pr b ≤ (hi b - ue b x).toNat by omega)
    omega
  refine ⟨rfl, ?_, fun I J => ?_⟩
  · unfold rdW
    rw [hul, htk, if_neg hov]
    exact (word_parts b h).symm
  · unfold rdX
    rw [hul, htk, if_neg hov, if_pos hp0]
def swp (m : Int) : Int := if m = 4 then 5 else if m = 5 then 4 else m
theorem swp_mode {m : Int} (h : Mode m) : Mode (swp m) := by
  unfold Mode swp at *
  rcases h with rfl | rfl | rfl | rfl | rfl <;> simp
theorem outw_swp (m : Int) (hm : Mode m) (n odd : Bool) (p : Int) : outw (swp m) (!n) odd p = outw m n odd p := by
  rcases hm with rfl | rfl | rfl | rfl | rfl <;> simp [outw, swp]
theorem tk_swp (m : Int) (hm : Mode m) (n : Bool) (h : Int) (g : Bool) : tk (swp m) (!n) h g = tk m n h g := by
  unfold tk; rw [outw_swp m hm]
theorem rdX_swp (b : Bool) (m : Int) (hm : Mode m) (n : Bool) (T h : Int) (g : Bool) (i : Int) (j : Bool) : rdX b (swp m) (!n) T h g i j = rdX b m n T h g i j := by
  unfold rdX; rw [tk_swp m hm, tk_swp m hm]
/-- The word of a number is a size with its sign. -/
theorem rdW_size (b : Bool) (m : Int) (hm : Mode m) (n : Bool) (T h : Int) (g : Bool) (h0 : 0 ≤ h) (h1 : h < 2 ^ (pr b + 1)) (h2 : ulp b T ≠ lo b → 2 ^ pr b ≤ h) :
    ∃ s, 0 ≤ s ∧ s < sg b ∧ rdW b m n T h g = sd b s n ∧ rdW b (swp m) (!n) T h g = sd b s (!n) := by
  obtain ⟨t1, t2, t3⟩ := fitsH b T h0 h1 h2 m n g
  have hub := ulp_ge b T
  unfold rdW
  rw [tk_swp m hm]
  generalize tk m n h g = u at *
  by_cases c : 2 ^ (hi b - ulp b T).toNat ≤ u
  · rw [if_pos c, if_pos c]
    unfold ovw
    rw [outw_swp m hm]
    refine ⟨_, ?_, ?_, rfl, rfl⟩ <;> (split <;> cases b <;> simp [inf, sg])
  · rw [if_neg c, if_neg c]
    obtain ⟨L, hL⟩ := bitLen_ex t1
    have hlo := lo_bd b
    have hi1 : 128 ≤ hi b ∧ hi b ≤ 1024 := by cases b <;> simp [hi]
    have hpp := p2pos (pr b - 1)
    have ko := bl_lt_iff hL (hi b - ulp b T) (by
      by_cases q : ulp b T = lo b
      · exact .inl (by omega)
      · exact .inr (by have := t3 q; omega))
    have := mt ko.1 c
    obtain ⟨w1, w2⟩ := word_bd b hL t1 t2 t3 hub.2.1 (by omega)
    exact ⟨_, w1, w2, rfl, rfl⟩
end Go.Proofs.YtdnghibkagcbcaaGreatDoor

namespace Go.Proofs.YtdnghibkagcbcaaGreatDoor
open Go.RowKit Go.Wd Go.Box
set_option linter.unusedVariables false
set_option maxRecDepth 3000
set_option maxHeartbeats 4000000 in
theorem rm_long (n : Bool) (a : Option Addr) (c : Nat) (z : List Int) (ex x : Int) (f m : Int) (hl : (300 : Int) < (z.length : Int)) (w : World) (u : DLie w a z) (hT : Tab w) :
    Calls Tryz.prog 9 #[.int .u8 f, .int .u8 m, dV n a z.length c ex, .int .u64 x] w fun e w' => e = .returned (.bool true) ∧ Below w.heap.size w w' := by
  have BX := (Bx.nil w).push (DO n a z.length c ex)
  obtain ⟨⟨q0, q1, q2⟩, _⟩ := cells3 BX w.heap.size _ _ _ _ (show (w.heap.size, DO n a z.length c ex) ∈ _ by simp)
  go_enter Tryz.func9, Tryz.ntmps9
  go_wp2_with fail
  refine (lLong4 n a z.length c ex _ true (decide_eq_true hl)).mono ?_
  rintro e v1 ⟨rfl, hk⟩
  replace BX := BX.keep hk
  clear hk q0 q1 q2
  obtain ⟨⟨q0, q1, q2⟩, _⟩ := cells3 BX w.heap.size _ _ _ _ (show (w.heap.size, DO n a z.length c ex) ∈ _ by simp)
  go_wp2_with fail
  refine (lKnown4 _ (hT.below BX.bel (Nat.le_refl _))).mono ?_
  rintro e v2 ⟨rfl, hk⟩
  replace BX := BX.keep hk
  clear hk q0 q1 q2
  obtain ⟨⟨q0, q1, q2⟩, _⟩ := cells3 BX w.heap.size _ _ _ _ (show (w.heap.size, DO n a z.length c ex) ∈ _ by simp)
  go_wp2
  go_ret
  exact ⟨rfl, BX.bel⟩
set_option maxHeartbeats 4000000 in
theorem rm_open (n : Bool) (a : Option Addr) (c : Nat) (z : List Int) (ex x : Int) (f m code : Int) (hc : (code == 0) = false) (KO : ∀ W g, DLie W a z → At3 W g 0 n a z.length c ex → Calls Tryz.prog 16 #[.int .u8 f, .int .u8 m, .slice (some ⟨g, 0, none⟩) 1 1] W fun e w' => e = .returned (.int .i64 code) ∧ Below W.heap.size W w') (hl : (z.length : Int) ≤ 300) (w : World) (u : DLie w a z) (hT : Tab w) :
    Calls Tryz.prog 9 #[.int .u8 f, .int .u8 m, dV n a z.length c ex, .int .u64 x] w fun e w' => e = .returned (.bool true) ∧ Below w.heap.size w w' := by
  have HO := fun W g h1 h2 => Hide.mk (KO W g h1 h2)
  clear KO
  have hc2 : (code != 0) = true := by simp only [bne, hc, Bool.not_false]
  have BX := (Bx.nil w).push (DO n a z.length c ex)
  obtain ⟨⟨q0, q1, q2⟩, _⟩ := cells3 BX w.heap.size _ _ _ _ (show (w.heap.size, DO n a z.length c ex) ∈ _ by simp)
  go_enter Tryz.func9, Tryz.ntmps9
  go_wp2_with fail
  refine (lLong4 n a z.length c ex _ false (decide_eq_false (by omega))).mono ?_
  rintro e v3 ⟨rfl, hk⟩
  replace BX := BX.keep hk
  clear hk q0 q1 q2
  obtain ⟨⟨q0, q1, q2⟩, _⟩ := cells3 BX w.heap.size _ _ _ _ (show (w.heap.size, DO n a z.length c ex) ∈ _ by simp)
  go_wp2_with fail
  replace BX := BX.push (DO n a z.length c ex)
  clear q0 q1 q2
  obtain ⟨⟨q0, q1, q2⟩, _⟩ := cells3 BX w.heap.size _ _ _ _ (show (w.heap.size, DO n a z.length c ex) ∈ _ by simp)
  refine ((HO _ _ (u.below BX.bel) (at3_of BX (.head _))).out).mono ?_
  rintro e v4 ⟨rfl, hk⟩
  replace BX := BX.keep hk
  clear hk q0 q1 q2
  obtain ⟨⟨q0, q1, q2⟩, _⟩ := cells3 BX w.heap.size _ _ _ _ (show (w.heap.size, DO n a z.length c ex) ∈ _ by simp)
  go_wp2_with fail
  refine (lKnown4 _ (hT.below BX.bel (Nat.le_refl _))).mono ?_
  rintro e v5 ⟨rfl, hk⟩
  replace BX := BX.keep hk
  clear hk q0 q1 q2
  obtain ⟨⟨q0, q1, q2⟩, _⟩ := cells3 BX w.heap.size _ _ _ _ (show (w.heap.size, DO n a z.length c ex) ∈ _ by simp)
  go_wp2
  go_ret
  exact ⟨rfl, BX.bel⟩
set_option maxHeartbeats 4000000 in
theorem rm_word (n : Bool) (a : Option Addr) (c : Nat) (z : List Int) (ex x : Int) (b : Bool) (hq : dmayB n z ex = true) (m : Int) (hm : Mode m) (cc : Int) (hcc : (cc == 0) = false) (hg : GE (fm b) x cc) (hx : x < 18446744073709551616) (hl : (z.length : Int) ≤ 300) (w : World) (u : DLie w a z) (hT : Tab w) :
    Calls Tryz.prog 9 #[.int .u8 (fm b), .int .u8 m, dV n a z.length c ex, .int .u64 x] w fun e w' => e = .returned (.bool true) ∧ Below w.heap.size w w' := by
  have hc2 : (cc != 0) = true := by simp only [bne, hcc, Bool.not_false]
  have BX := (Bx.nil w).push (DO n a z.length c ex)
  obtain ⟨⟨q0, q1, q2⟩, _⟩ := cells3 BX w.heap.size _ _ _ _ (show (w.heap.size, DO n a z.length c ex) ∈ _ by simp)
  go_enter Tryz.func9, Tryz.ntmps9
  go_wp2_with fail
  refine (lLong4 n a z.length c ex _ false (decide_eq_false (by omega))).mono ?_
  rintro e v6 ⟨rfl, hk⟩
  replace BX := BX.keep hk
  clear hk q0 q1 q2
  obtain ⟨⟨q0, q1, q2⟩, _⟩ := cells3 BX w.heap.size _ _ _ _ (show (w.heap.size, DO n a z.length c ex) ∈ _ by simp)
  go_wp2_with fail
  replace BX := BX.push (DO n a z.length c ex)
  clear q0 q1 q2
  obtain ⟨⟨q0, q1, q2⟩, _⟩ := cells3 BX w.heap.size _ _ _ _ (show (w.heap.size, DO n a z.length c ex) ∈ _ by simp)
  refine (lOpens1 b m hm _ n a c z ex _ (u.below BX.bel) hq (at3_of BX (.head _))).mono ?_
  rintro e v7 ⟨rfl, hk⟩
  replace BX := BX.keep hk
  clear hk q0 q1 q2
  obtain ⟨⟨q0, q1, q2⟩, _⟩ := cells3 BX w.heap.size _ _ _ _ (show (w.heap.size, DO n a z.length c ex) ∈ _ by simp)
  go_wp2_with fail
  refine (rGood_err (fm b) x cc hg hx _).mono ?_
  rintro e v8 ⟨rfl, hk⟩
  replace BX := BX.keep hk
  clear hk q0 q1 q2
  obtain ⟨⟨q0, q1, q2⟩, _⟩ := cells3 BX w.heap.size _ _ _ _ (show (w.heap.size, DO n a z.length c ex) ∈ _ by simp)
  go_wp2_with fail
  refine (lKnown4 _ (hT.below BX.bel (Nat.le_refl _))).mono ?_
  rintro e v9 ⟨rfl, hk⟩
  replace BX := BX.keep hk
  clear hk q0 q1 q2
  obtain ⟨⟨q0, q1, q2⟩, _⟩ := cells3 BX w.heap.size _ _ _ _ (show (w.heap.size, DO n a z.length c ex) ∈ _ by simp)
  go_wp2
  go_ret
  exact ⟨rfl, BX.bel⟩
end Go.Proofs.YtdnghibkagcbcaaGreatDoor

namespace Go.Proofs.YtdnghibkagcbcaaGreatDoor
open Go.RowKit Go.Wd Go.Box
set_option linter.unusedVariables false
set_option maxRecDepth 3000
set_option maxHeartbeats 4000000 in
theorem rm_azi (n : Bool) (a : Option Addr) (c : Nat) (z : List Int) (ex x : Int) (b : Bool) (hq : dmayB n z ex = true) (m : Int) (hm : Mode m) (h4 : (m == 4) = false) (h5 : (m == 5) = false) (hx : Ok b x) (KP1 : ∀ W, Lie W a z → Tab W → Calls Tryz.prog 14 #[.int .u8 (fm b), .int .u8 m, dV n a z.length c ex] W fun e w' => e = .returned (.tuple #[.int .u64 0, .int .u8 0, .int .i64 0]) ∧ Below W.heap.size W w') (KP2 : ∀ W, Lie W a z → Tab W → Calls Tryz.prog 14 #[.int .u8 (fm b), .int .u8 m, dV (rn n z) a z.length c ex] W fun e w' => e = .returned (.tuple #[.int .u64 0, .int .u8 0, .int .i64 0]) ∧ Below W.heap.size W w') (KS : ∀ W, Calls Tryz.prog 23 #[dV n a z.length c ex] W fun e w' => e = .returned (.int .i64 0) ∧ Below W.heap.size W w') (hf : inf b ≤ sz b x) (hl : (z.length : Int) ≤ 300) (w : World) (u : DLie w a z) (hT : Tab w) :
    Calls Tryz.prog 9 #[.int .u8 (fm b), .int .u8 m, dV n a z.length c ex, .int .u64 x] w fun e w' => e = .returned (.bool true) ∧ Below w.heap.size w w' := by
  have H1 := fun W h1 h2 => Hide.mk (KP1 W h1 h2)
  have H2 := fun W h1 h2 => Hide.mk (KP2 W h1 h2)
  have HS := fun W => Hide.mk (KS W)
  clear KP1 KP2 KS
  have hxx : (0 == 0) = true := by simp
  have BX := (Bx.nil w).push (DO n a z.length c ex)
  obtain ⟨⟨q0, q1, q2⟩, _⟩ := cells3 BX w.heap.size _ _ _ _ (show (w.heap.size, DO n a z.length c ex) ∈ _ by simp)
  go_enter Tryz.func9, Tryz.ntmps9
  go_wp2_with fail
  refine (lLong4 n a z.length c ex _ false (decide_eq_false (by omega))).mono ?_
  rintro e v10 ⟨rfl, hk⟩
  replace BX := BX.keep hk
  clear hk q0 q1 q2
  obtain ⟨⟨q0, q1, q2⟩, _⟩ := cells3 BX w.heap.size _ _ _ _ (show (w.heap.size, DO n a z.length c ex) ∈ _ by simp)
  go_wp2_with fail
  replace BX := BX.push (DO n a z.length c ex)
  clear q0 q1 q2
  obtain ⟨⟨q0, q1, q2⟩, _⟩ := cells3 BX w.heap.size _ _ _ _ (show (w.heap.size, DO n a z.length c ex) ∈ _ by simp)
  refine (lOpens1 b m hm _ n a c z ex _ (u.below BX.bel) hq (at3_of BX (.head _))).mono ?_
  rintro e v11 ⟨rfl, hk⟩
  replace BX := BX.keep hk
  clear hk q0 q1 q2
  obtain ⟨⟨q0, q1, q2⟩, _⟩ := cells3 BX w.heap.size _ _ _ _ (show (w.heap.size, DO n a z.length c ex) ∈ _ by simp)
  go_wp2_with fail
  refine (rGood b x hx _).mono ?_
  rintro e v12 ⟨rfl, hk⟩
  replace BX := BX.keep hk
  clear hk q0 q1 q2
  obtain ⟨⟨q0, q1, q2⟩, _⟩ := cells3 BX w.heap.size _ _ _ _ (show (w.heap.size, DO n a z.length c ex) ∈ _ by simp)
  go_wp2_with fail
  refine ((H1 _ (u.below BX.bel).lie (hT.below BX.bel (Nat.le_refl _))).out).mono ?_
  rintro e v13 ⟨rfl, hk⟩
  replace BX := BX.keep hk
  clear hk q0 q1 q2
  obtain ⟨⟨q0, q1, q2⟩, _⟩ := cells3 BX w.heap.size _ _ _ _ (show (w.heap.size, DO n a z.length c ex) ∈ _ by simp)
  go_wp2_with fail
  refine (rNegD n a c z ex _).mono ?_
  rintro e v14 ⟨rfl, hk⟩
  replace BX := BX.keep hk
  clear hk q0 q1 q2
  obtain ⟨⟨q0, q1, q2⟩, _⟩ := cells3 BX w.heap.size _ _ _ _ (show (w.heap.size, DO n a z.length c ex) ∈ _ by simp)
  go_wp2_with fail
  refine ((H2 _ (u.below BX.bel).lie (hT.below BX.bel (Nat.le_refl _))).out).mono ?_
  rintro e v15 ⟨rfl, hk⟩
  replace BX := BX.keep hk
  clear hk q0 q1 q2
  obtain ⟨⟨q0, q1, q2⟩, _⟩ := cells3 BX w.heap.size _ _ _ _ (show (w.heap.size, DO n a z.length c ex) ∈ _ by simp)
  go_wp2_with fail
  refine ((HS _).out).mono ?_
  rintro e v16 ⟨rfl, hk⟩
  replace BX := BX.keep hk
  clear hk q0 q1 q2
  obtain ⟨⟨q0, q1, q2⟩, _⟩ := cells3 BX w.heap.size _ _ _ _ (show (w.heap.size, DO n a z.length c ex) ∈ _ by simp)
  go_wp2_with fail
  refine (rFinite_no b x hx hf _).mono ?_
  rintro e v17 ⟨rfl, hk⟩
  replace BX := BX.keep hk
  clear hk q0 q1 q2
  obtain ⟨⟨q0, q1, q2⟩, _⟩ := cells3 BX w.heap.size _ _ _ _ (show (w.heap.size, DO n a z.length c ex) ∈ _ by simp)
  go_wp2_with fail
  refine (lKnown4 _ (hT.below BX.bel (Nat.le_refl _))).mono ?_
  rintro e v18 ⟨rfl, hk⟩
  replace BX := BX.keep hk
  clear hk q0 q1 q2
  obtain ⟨⟨q0, q1, q2⟩, _⟩ := cells3 BX w.heap.size _ _ _ _ (show (w.heap.size, DO n a z.length c ex) ∈ _ by simp)
  go_wp2
  go_ret
  exact ⟨rfl, BX.bel⟩
set_option maxHeartbeats 4000000 in
theorem rm_azf (n : Bool) (a : Option Addr) (c : Nat) (z : List Int) (ex x : Int) (b : Bool) (hq : dmayB n z ex = true) (m : Int) (hm : Mode m) (h4 : (m == 4) = false) (h5 : (m == 5) = false) (hx : Ok b x) (KP1 : ∀ W, Lie W a z → Tab W → Calls Tryz.prog 14 #[.int .u8 (fm b), .int .u8 m, dV n a z.length c ex] W fun e w' => e = .returned (.tuple #[.int .u64 0, .int .u8 0, .int .i64 0]) ∧ Below W.heap.size W w') (KP2 : ∀ W, Lie W a z → Tab W → Calls Tryz.prog 14 #[.int .u8 (fm b), .int .u8 m, dV (rn n z) a z.length c ex] W fun e w' => e = .returned (.tuple #[.int .u64 0, .int .u8 0, .int .i64 0]) ∧ Below W.heap.size W w') (KS : ∀ W, Calls Tryz.prog 23 #[dV n a z.length c ex] W fun e w' => e = .returned (.int .i64 0) ∧ Below W.heap.size W w') (hf : sz b x < inf b) (V : Int) (hV : Hide ((x = sg b ∧ V = 0) ∨ (x ≠ sg b ∧ V = x))) (KP3 : ∀ n' zs ex' a' c' W, DN n' zs ex' (wv b x) → Lie W a' zs → Tab W → Calls Tryz.prog 14 #[.int .u8 (fm b), .int .u8 m, dV n' a' (List.length zs) c' ex'] W fun e w' => e = .returned (.tuple #[.int .u64 V, .int .u8 0, .int .i64 0]) ∧ Below W.heap.size W w') (hl : (z.length : Int) ≤ 300) (w : World) (u : DLie w a z) (hT : Tab w) :
    Calls Tryz.prog 9 #[.int .u8 (fm b), .int .u8 m, dV n a z.length c ex, .int .u64 x] w fun e w' => e = .returned (.bool true) ∧ Below w.heap.size w w' := by
  have H1 := fun W h1 h2 => Hide.mk (KP1 W h1 h2)
  have H2 := fun W h1 h2 => Hide.mk (KP2 W h1 h2)
  have HS := fun W => Hide.mk (KS W)
  clear KP1 KP2 KS
  have H3 := fun n' zs ex' a' c' W h1 h2 h3 => Hide.mk (KP3 n' zs ex' a' c' W h1 h2 h3)
  clear KP3
  have hxx : (0 == 0) = true := by simp
  have BX := (Bx.nil w).push (DO n a z.length c ex)
  obtain ⟨⟨q0, q1, q2⟩, _⟩ := cells3 BX w.heap.size _ _ _ _ (show (w.heap.size, DO n a z.length c ex) ∈ _ by simp)
  go_enter Tryz.func9, Tryz.ntmps9
  go_wp2_with fail
  refine (lLong4 n a z.length c ex _ false (decide_eq_false (by omega))).mono ?_
  rintro e v19 ⟨rfl, hk⟩
  replace BX := BX.keep hk
  clear hk q0 q1 q2
  obtain ⟨⟨q0, q1, q2⟩, _⟩ := cells3 BX w.heap.size _ _ _ _ (show (w.heap.size, DO n a z.length c ex) ∈ _ by simp)
  go_wp2_with fail
  replace BX := BX.push (DO n a z.length c ex)
  clear q0 q1 q2
  obtain ⟨⟨q0, q1, q2⟩, _⟩ := cells3 BX w.heap.size _ _ _ _ (show (w.heap.size, DO n a z.length c ex) ∈ _ by simp)
  refine (lOpens1 b m hm _ n a c z ex _ (u.below BX.bel) hq (at3_of BX (.head _))).mono ?_
  rintro e v20 ⟨rfl, hk⟩
  replace BX := BX.keep hk
  clear hk q0 q1 q2
  obtain ⟨⟨q0, q1, q2⟩, _⟩ := cells3 BX w.heap.size _ _ _ _ (show (w.heap.size, DO n a z.length c ex) ∈ _ by simp)
  go_wp2_with fail
  refine (rGood b x hx _).mono ?_
  rintro e v21 ⟨rfl, hk⟩
  replace BX := BX.keep hk
  clear hk q0 q1 q2
  obtain ⟨⟨q0, q1, q2⟩, _⟩ := cells3 BX w.heap.size _ _ _ _ (show (w.heap.size, DO n a z.length c ex) ∈ _ by simp)
  go_wp2_with fail
  refine ((H1 _ (u.below BX.bel).lie (hT.below BX.bel (Nat.le_refl _))).out).mono ?_
  rintro e v22 ⟨rfl, hk⟩
  replace BX := BX.keep hk
  clear hk q0 q1 q2
  obtain ⟨⟨q0, q1, q2⟩, _⟩ := cells3 BX w.heap.size _ _ _ _ (show (w.heap.size, DO n a z.length c ex) ∈ _ by simp)
  go_wp2_with fail
  refine (rNegD n a c z ex _).mono ?_
  rintro e v23 ⟨rfl, hk⟩
  replace BX := BX.keep hk
  clear hk q0 q1 q2
  obtain ⟨⟨q0, q1, q2⟩, _⟩ := cells3 BX w.heap.size _ _ _ _ (show (w.heap.size, DO n a z.length c ex) ∈ _ by simp)
  go_wp2_with fail
  refine ((H2 _ (u.below BX.bel).lie (hT.below BX.bel (Nat.le_refl _))).out).mono ?_
  rintro e v24 ⟨rfl, hk⟩
  replace BX := BX.keep hk
  clear hk q0 q1 q2
  obtain ⟨⟨q0, q1, q2⟩, _⟩ := cells3 BX w.heap.size _ _ _ _ (show (w.heap.size, DO n a z.length c ex) ∈ _ by simp)
  go_wp2_with fail
  refine ((HS _).out).mono ?_
  rintro e v25 ⟨rfl, hk⟩
  replace BX := BX.keep hk
  clear hk q0 q1 q2
  obtain ⟨⟨q0, q1, q2⟩, _⟩ := cells3 BX w.heap.size _ _ _ _ (show (w.heap.size, DO n a z.length c ex) ∈ _ by simp)
  go_wp2_with fail
  refine (rFinite b x hx hf _).mono ?_
  rintro e v26 ⟨rfl, hk⟩
  replace BX := BX.keep hk
  clear hk q0 q1 q2
  obtain ⟨⟨q0, q1, q2⟩, _⟩ := cells3 BX w.heap.size _ _ _ _ (show (w.heap.size, DO n a z.length c ex) ∈ _ by simp)
  go_wp2_with fail
  refine (rValue b x hx _).mono ?_
  rintro e v28 ⟨nv, zv, xv, av, cv, rfl, Nv, lv, hk⟩
  replace BX := BX.keep hk
  have HN := Hide.mk Nv
  clear hk Nv q0 q1 q2
  obtain ⟨⟨q0, q1, q2⟩, _⟩ := cells3 BX w.heap.size _ _ _ _ (show (w.heap.size, DO n a z.length c ex) ∈ _ by simp)
  go_wp2_with fail
  refine ((H3 _ _ _ _ _ _ HN.out lv (hT.below BX.bel (Nat.le_refl _))).out).mono ?_
  rintro e v29 ⟨rfl, hk⟩
  replace BX := BX.keep hk
  clear hk q0 q1 q2
  obtain ⟨⟨q0, q1, q2⟩, _⟩ := cells3 BX w.heap.size _ _ _ _ (show (w.heap.size, DO n a z.length c ex) ∈ _ by simp)
  go_wp2_with fail
  clear lv HN
  refine (rSign b _).mono ?_
  rintro e v30 ⟨rfl, hk⟩
  replace BX := BX.keep hk
  clear hk q0 q1 q2
  obtain ⟨⟨q0, q1, q2⟩, _⟩ := cells3 BX w.heap.size _ _ _ _ (show (w.heap.size, DO n a z.length c ex) ∈ _ by simp)
  rcases hV.out with ⟨rfl, rfl⟩ | ⟨hx1, rfl⟩
  · have e1 : (sg b == sg b) = true := by simp
    go_wp2_with fail
    refine (lKnown4 _ (hT.below BX.bel (Nat.le_refl _))).mono ?_
    rintro e v31 ⟨rfl, hk⟩
    replace BX := BX.keep hk
    clear hk q0 q1 q2
    obtain ⟨⟨q0, q1, q2⟩, _⟩ := cells3 BX w.heap.size _ _ _ _ (show (w.heap.size, DO n a z.length c ex) ∈ _ by simp)
    go_wp2
    go_ret
    exact ⟨rfl, BX.bel⟩
  · have e1 : (V == sg b) = false := beq_eq_false_iff_ne.2 hx1
    have e2 : (V == V) = true := by simp
    go_wp2_with fail
    refine (lKnown4 _ (hT.below BX.bel (Nat.le_refl _))).mono ?_
    rintro e v32 ⟨rfl, hk⟩
    replace BX := BX.keep hk
    clear hk q0 q1 q2
    obtain ⟨⟨q0, q1, q2⟩, _⟩ := cells3 BX w.heap.size _ _ _ _ (show (w.heap.size, DO n a z.length c ex) ∈ _ by simp)
    go_wp2
    go_ret
    exact ⟨rfl, BX.bel⟩
set_option maxHeartbeats 4000000 in
theorem rm_ani (n : Bool) (a : Option Addr) (c : Nat) (z : List Int) (ex x : Int) (b : Bool) (hq : dmayB n z ex = true) (m : Int) (hm : Mode m) (h4 : (m == 4) = false) (h5 : (m == 5) = false) (hx : Ok b x) (W1 W2 X1 s R : Int) (hs : (s == 0) = false) (hR1 : W1.tmod (sg b) = R) (hR2 : W2.tmod (sg b) = R) (hne : (W1 == W2) = false) (KP1 : ∀ W, Lie W a z → Tab W → Calls Tryz.prog 14 #[.int .u8 (fm b), .int .u8 m, dV n a z.length c ex] W fun e w' => e = .returned (.tuple #[.int .u64 W1, .int .u8 X1, .int .i64 0]) ∧ Below W.heap.size W w') (KP2 : ∀ W, Lie W a z → Tab W → Calls Tryz.prog 14 #[.int .u8 (fm b), .int .u8 m, dV (rn n z) a z.length c ex] W fun e w' => e = .returned (.tuple #[.int .u64 W2, .int .u8 X1, .int .i64 0]) ∧ Below W.heap.size W w') (KS : ∀ W, Calls Tryz.prog 23 #[dV n a z.length c ex] W fun e w' => e = .returned (.int .i64 s) ∧ Below W.heap.size W w') (hf : inf b ≤ sz b x) (hl : (z.length : Int) ≤ 300) (w : World) (u : DLie w a z) (hT : Tab w) :
    Calls Tryz.prog 9 #[.int .u8 (fm b), .int .u8 m, dV n a z.length c ex, .int .u64 x] w fun e w' => e = .returned (.bool true) ∧ Below w.heap.size w w' := by
  have H1 := fun W h1 h2 => Hide.mk (KP1 W h1 h2)
  have H2 := fun W h1 h2 => Hide.mk (KP2 W h1 h2)
  have HS := fun W => Hide.mk (KS W)
  clear KP1 KP2 KS
  have HR1 := Hide.mk hR1
  have HR2 := Hide.mk hR2
  clear hR1 hR2
  have hsg : 0 < sg b := sg_pos b
  have hsg0 : (sg b == 0) = false := beq_eq_false_iff_ne.2 (by omega)
  have hrr : (R == R) = true := by simp
  have hxx : (X1 == X1) = true := by simp
  have BX := (Bx.nil w).push (DO n a z.length c ex)
  obtain ⟨⟨q0, q1, q2⟩, _⟩ := cells3 BX w.heap.size _ _ _ _ (show (w.heap.size, DO n a z.length c ex) ∈ _ by simp)
  go_enter Tryz.func9, Tryz.ntmps9
  go_wp2_with fail
  refine (lLong4 n a z.length c ex _ false (decide_eq_false (by omega))).mono ?_
  rintro e v33 ⟨rfl, hk⟩
  replace BX := BX.keep hk
  clear hk q0 q1 q2
  obtain ⟨⟨q0, q1, q2⟩, _⟩ := cells3 BX w.heap.size _ _ _ _ (show (w.heap.size, DO n a z.length c ex) ∈ _ by simp)
  go_wp2_with fail
  replace BX := BX.push (DO n a z.length c ex)
  clear q0 q1 q2
  obtain ⟨⟨q0, q1, q2⟩, _⟩ := cells3 BX w.heap.size _ _ _ _ (show (w.heap.size, DO n a z.length c ex) ∈ _ by simp)
  refine (lOpens1 b m hm _ n a c z ex _ (u.below BX.bel) hq (at3_of BX (.head _))).mono ?_
  rintro e v34 ⟨rfl, hk⟩
  replace BX := BX.keep hk
  clear hk q0 q1 q2
  obtain ⟨⟨q0, q1, q2⟩, _⟩ := cells3 BX w.heap.size _ _ _ _ (show (w.heap.size, DO n a z.length c ex) ∈ _ by simp)
  go_wp2_with fail
  refine (rGood b x hx _).mono ?_
  rintro e v35 ⟨rfl, hk⟩
  replace BX := BX.keep hk
  clear hk q0 q1 q2
  obtain ⟨⟨q0, q1, q2⟩, _⟩ := cells3 BX w.heap.size _ _ _ _ (show (w.heap.size, DO n a z.length c ex) ∈ _ by simp)
  go_wp2_with fail
  refine ((H1 _ (u.below BX.bel).lie (hT.below BX.bel (Nat.le_refl _))).out).mono ?_
  rintro e v36 ⟨rfl, hk⟩
  replace BX := BX.keep hk
  clear hk q0 q1 q2
  obtain ⟨⟨q0, q1, q2⟩, _⟩ := cells3 BX w.heap.size _ _ _ _ (show (w.heap.size, DO n a z.length c ex) ∈ _ by simp)
  go_wp2_with fail
  refine (rNegD n a c z ex _).mono ?_
  rintro e v37 ⟨rfl, hk⟩
  replace BX := BX.keep hk
  clear hk q0 q1 q2
  obtain ⟨⟨q0, q1, q2⟩, _⟩ := cells3 BX w.heap.size _ _ _ _ (show (w.heap.size, DO n a z.length c ex) ∈ _ by simp)
  go_wp2_with fail
  refine ((H2 _ (u.below BX.bel).lie (hT.below BX.bel (Nat.le_refl _))).out).mono ?_
  rintro e v38 ⟨rfl, hk⟩
  replace BX := BX.keep hk
  clear hk q0 q1 q2
  obtain ⟨⟨q0, q1, q2⟩, _⟩ := cells3 BX w.heap.size _ _ _ _ (show (w.heap.size, DO n a z.length c ex) ∈ _ by simp)
  go_wp2_with fail
  refine ((HS _).out).mono ?_
  rintro e v39 ⟨rfl, hk⟩
  replace BX := BX.keep hk
  clear hk q0 q1 q2
  obtain ⟨⟨q0, q1, q2⟩, _⟩ := cells3 BX w.heap.size _ _ _ _ (show (w.heap.size, DO n a z.length c ex) ∈ _ by simp)
  go_wp2_with fail
  clear q0 q1 q2
  have HI := BX.tail.drew
  clear BX
  have sh := fun W (hW : Bx w [(w.heap.size, DO n a z.length c ex)] W) => (cells3 hW w.heap.size _ _ _ _ (.head _)).1
  refine Drawn.enter (Bx w [(w.heap.size, DO n a z.length c ex)]) (by kernel_rfl) ?_
  refine Drawn.tk (i := 0) (v := ?v552) rfl (fun W hW => ?_) HI ?_
  rotate_left
  · have ⟨q0, q1, q2⟩ := sh W hW
    go_simp <;> exact rfl
  refine Drawn.tk (i := 1) (v := ?v553) rfl (fun W hW => ?_) HI ?_
  rotate_left
  · have ⟨q0, q1, q2⟩ := sh W hW
    go_simp <;> exact rfl
  refine Drawn.tk (i := 4) (v := ?v554) rfl (fun W hW => ?_) HI ?_
  rotate_left
  · have ⟨q0, q1, q2⟩ := sh W hW
    go_simp <;> exact rfl
  refine Drawn.tk (i := 5) (v := ?v555) rfl (fun W hW => ?_) HI ?_
  rotate_left
  · have ⟨q0, q1, q2⟩ := sh W hW
    go_simp <;> exact rfl
  refine Drawn.one (j := 2) (by kernel_rfl) rfl (fun K hK => ?_)
  go_simp
  refine (rSign b _).mono ?_
  rintro e wn ⟨rfl, hn⟩
  refine hK _ _ (HI.keep hn) ?_
  clear hK K
  replace HI := HI.keep hn
  clear hn
  refine Drawn.tk (i := 3) (v := .int .u64 R) rfl (fun W hW => ?_) HI ?_
  · have ⟨q0, q1, q2⟩ := sh W hW
    go_simp <;> (rw [if_neg (Int.ne_of_gt hsg), HR1.out])
  refine Drawn.one (j := 6) (by kernel_rfl) rfl (fun K hK => ?_)
  go_simp
  refine (rSign b _).mono ?_
  rintro e wn ⟨rfl, hn⟩
  refine hK _ _ (HI.keep hn) ?_
  clear hK K
  replace HI := HI.keep hn
  clear hn
  refine Drawn.tk (i := 7) (v := .int .u64 R) rfl (fun W hW => ?_) HI ?_
  · have ⟨q0, q1, q2⟩ := sh W hW
    go_simp <;> (rw [if_neg (Int.ne_of_gt hsg), HR2.out])
  refine Drawn.tk (i := 8) (v := ?v556) rfl (fun W hW => ?_) HI ?_
  rotate_left
  · have ⟨q0, q1, q2⟩ := sh W hW
    go_simp <;> exact rfl
  refine Drawn.tk (i := 9) (v := ?v557) rfl (fun W hW => ?_) HI ?_
  rotate_left
  · have ⟨q0, q1, q2⟩ := sh W hW
    go_simp <;> exact rfl
  refine Drawn.tk (i := 10) (v := ?v558) rfl (fun W hW => ?_) HI ?_
  rotate_left
  · have ⟨q0, q1, q2⟩ := sh W hW
    go_simp <;> exact rfl
  refine Drawn.tk (i := 11) (v := ?v559) rfl (fun W hW => ?_) HI ?_
  rotate_left
  · have ⟨q0, q1, q2⟩ := sh W hW
    go_simp <;> exact rfl
  refine Drawn.tk (i := 12) (v := ?v560) rfl (fun W hW => ?_) HI ?_
  rotate_left
  · have ⟨q0, q1, q2⟩ := sh W hW
    go_simp <;> exact rfl
  refine Drawn.tk (i := 13) (v := ?v561) rfl (fun W hW => ?_) HI ?_
  rotate_left
  · have ⟨q0, q1, q2⟩ := sh W hW
    go_simp <;> exact rfl
  refine Drawn.done (by kernel_rfl) ?_
  try go_simp
  have BX := HI
  clear HI sh
  obtain ⟨⟨q0, q1, q2⟩, _⟩ := cells3 BX w.heap.size _ _ _ _ (show (w.heap.size, DO n a z.length c ex) ∈ _ by simp)
  go_wp2_with fail
  refine (rFinite_no b x hx hf _).mono ?_
  rintro e v40 ⟨rfl, hk⟩
  replace BX := BX.keep hk
  clear hk q0 q1 q2
  obtain ⟨⟨q0, q1, q2⟩, _⟩ := cells3 BX w.heap.size _ _ _ _ (show (w.heap.size, DO n a z.length c ex) ∈ _ by simp)
  go_wp2_with fail
  refine (lKnown4 _ (hT.below BX.bel (Nat.le_refl _))).mono ?_
  rintro e v41 ⟨rfl, hk⟩
  replace BX := BX.keep hk
  clear hk q0 q1 q2
  obtain ⟨⟨q0, q1, q2⟩, _⟩ := cells3 BX w.heap.size _ _ _ _ (show (w.heap.size, DO n a z.length c ex) ∈ _ by simp)
  go_wp2
  go_ret
  exact ⟨rfl, BX.bel⟩
set_option maxHeartbeats 4000000 in
theorem rm_anf (n : Bool) (a : Option Addr) (c : Nat) (z : List Int) (ex x : Int) (b : Bool) (hq : dmayB n z ex = true) (m : Int) (hm : Mode m) (h4 : (m == 4) = false) (h5 : (m == 5) = false) (hx : Ok b x) (W1 W2 X1 s R : Int) (hs : (s == 0) = false) (hR1 : W1.tmod (sg b) = R) (hR2 : W2.tmod (sg b) = R) (hne : (W1 == W2) = false) (KP1 : ∀ W, Lie W a z → Tab W → Calls Tryz.prog 14 #[.int .u8 (fm b), .int .u8 m, dV n a z.length c ex] W fun e w' => e = .returned (.tuple #[.int .u64 W1, .int .u8 X1, .int .i64 0]) ∧ Below W.heap.size W w') (KP2 : ∀ W, Lie W a z → Tab W → Calls Tryz.prog 14 #[.int .u8 (fm b), .int .u8 m, dV (rn n z) a z.length c ex] W fun e w' => e = .returned (.tuple #[.int .u64 W2, .int .u8 X1, .int .i64 0]) ∧ Below W.heap.size W w') (KS : ∀ W, Calls Tryz.prog 23 #[dV n a z.length c ex] W fun e w' => e = .returned (.int .i64 s) ∧ Below W.heap.size W w') (hf : sz b x < inf b) (V : Int) (hV : Hide ((x = sg b ∧ V = 0) ∨ (x ≠ sg b ∧ V = x))) (KP3 : ∀ n' zs ex' a' c' W, DN n' zs ex' (wv b x) → Lie W a' zs → Tab W → Calls Tryz.prog 14 #[.int .u8 (fm b), .int .u8 m, dV n' a' (List.length zs) c' ex'] W fun e w' => e = .returned (.tuple #[.int .u64 V, .int .u8 0, .int .i64 0]) ∧ Below W.heap.size W w') (hl : (z.length : Int) ≤ 300) (w : World) (u : DLie w a z) (hT : Tab w) :
    Calls Tryz.prog 9 #[.int .u8 (fm b), .int .u8 m, dV n a z.length c ex, .int .u64 x] w fun e w' => e = .returned (.bool true) ∧ Below w.heap.size w w' := by
  have H1 := fun W h1 h2 => Hide.mk (KP1 W h1 h2)
  have H2 := fun W h1 h2 => Hide.mk (KP2 W h1 h2)
  have HS := fun W => Hide.mk (KS W)
  clear KP1 KP2 KS
  have HR1 := Hide.mk hR1
  have HR2 := Hide.mk hR2
  clear hR1 hR2
  have hsg : 0 < sg b := sg_pos b
  have hsg0 : (sg b == 0) = false := beq_eq_false_iff_ne.2 (by omega)
  have hrr : (R == R) = true := by simp
  have H3 := fun n' zs ex' a' c' W h1 h2 h3 => Hide.mk (KP3 n' zs ex' a' c' W h1 h2 h3)
  clear KP3
  have hxx : (X1 == X1) = true := by simp
  have BX := (Bx.nil w).push (DO n a z.length c ex)
  obtain ⟨⟨q0, q1, q2⟩, _⟩ := cells3 BX w.heap.size _ _ _ _ (show (w.heap.size, DO n a z.length c ex) ∈ _ by simp)
  go_enter Tryz.func9, Tryz.ntmps9
  go_wp2_with fail
  refine (lLong4 n a z.length c ex _ false (decide_eq_false (by omega))).mono ?_
  rintro e v42 ⟨rfl, hk⟩
  replace BX := BX.keep hk
  clear hk q0 q1 q2
  obtain ⟨⟨q0, q1, q2⟩, _⟩ := cells3 BX w.heap.size _ _ _ _ (show (w.heap.size, DO n a z.length c ex) ∈ _ by simp)
  go_wp2_with fail
  replace BX := BX.push (DO n a z.length c ex)
  clear q0 q1 q2
  obtain ⟨⟨q0, q1, q2⟩, _⟩ := cells3 BX w.heap.size _ _ _ _ (show (w.heap.size, DO n a z.length c ex) ∈ _ by simp)
  refine (lOpens1 b m hm _ n a c z ex _ (u.below BX.bel) hq (at3_of BX (.head _))).mono ?_
  rintro e v43 ⟨rfl, hk⟩
  replace BX := BX.keep hk
  clear hk q0 q1 q2
  obtain ⟨⟨q0, q1, q2⟩, _⟩ := cells3 BX w.heap.size _ _ _ _ (show (w.heap.size, DO n a z.length c ex) ∈ _ by simp)
  go_wp2_with fail
  refine (rGood b x hx _).mono ?_
  rintro e v44 ⟨rfl, hk⟩
  replace BX := BX.keep hk
  clear hk q0 q1 q2
  obtain ⟨⟨q0, q1, q2⟩, _⟩ := cells3 BX w.heap.size _ _ _ _ (show (w.heap.size, DO n a z.length c ex) ∈ _ by simp)
  go_wp2_with fail
  refine ((H1 _ (u.below BX.bel).lie (hT.below BX.bel (Nat.le_refl _))).out).mono ?_
  rintro e v45 ⟨rfl, hk⟩
  replace BX := BX.keep hk
  clear hk q0 q1 q2
  obtain ⟨⟨q0, q1, q2⟩, _⟩ := cells3 BX w.heap.size _ _ _ _ (show (w.heap.size, DO n a z.length c ex) ∈ _ by simp)
  go_wp2_with fail
  refine (rNegD n a c z ex _).mono ?_
  rintro e v46 ⟨rfl, hk⟩
  replace BX := BX.keep hk
  clear hk q0 q1 q2
  obtain ⟨⟨q0, q1, q2⟩, _⟩ := cells3 BX w.heap.size _ _ _ _ (show (w.heap.size, DO n a z.length c ex) ∈ _ by simp)
  go_wp2_with fail
  refine ((H2 _ (u.below BX.bel).lie (hT.below BX.bel (Nat.le_refl _))).out).mono ?_
  rintro e v47 ⟨rfl, hk⟩
  replace BX := BX.keep hk
  clear hk q0 q1 q2
  obtain ⟨⟨q0, q1, q2⟩, _⟩ := cells3 BX w.heap.size _ _ _ _ (show (w.heap.size, DO n a z.length c ex) ∈ _ by simp)
  go_wp2_with fail
  refine ((HS _).out).mono ?_
  rintro e v48 ⟨rfl, hk⟩
  replace BX := BX.keep hk
  clear hk q0 q1 q2
  obtain ⟨⟨q0, q1, q2⟩, _⟩ := cells3 BX w.heap.size _ _ _ _ (show (w.heap.size, DO n a z.length c ex) ∈ _ by simp)
  go_wp2_with fail
  clear q0 q1 q2
  have HI := BX.tail.drew
  clear BX
  have sh := fun W (hW : Bx w [(w.heap.size, DO n a z.length c ex)] W) => (cells3 hW w.heap.size _ _ _ _ (.head _)).1
  refine Drawn.enter (Bx w [(w.heap.size, DO n a z.length c ex)]) (by kernel_rfl) ?_
  refine Drawn.tk (i := 0) (v := ?v562) rfl (fun W hW => ?_) HI ?_
  rotate_left
  · have ⟨q0, q1, q2⟩ := sh W hW
    go_simp <;> exact rfl
  refine Drawn.tk (i := 1) (v := ?v563) rfl (fun W hW => ?_) HI ?_
  rotate_left
  · have ⟨q0, q1, q2⟩ := sh W hW
    go_simp <;> exact rfl
  refine Drawn.tk (i := 4) (v := ?v564) rfl (fun W hW => ?_) HI ?_
  rotate_left
  · have ⟨q0, q1, q2⟩ := sh W hW
    go_simp <;> exact rfl
  refine Drawn.tk (i := 5) (v := ?v565) rfl (fun W hW => ?_) HI ?_
  rotate_left
  · have ⟨q0, q1, q2⟩ := sh W hW
    go_simp <;> exact rfl
  refine Drawn.one (j := 2) (by kernel_rfl) rfl (fun K hK => ?_)
  go_simp
  refine (rSign b _).mono ?_
  rintro e wn ⟨rfl, hn⟩
  refine hK _ _ (HI.keep hn) ?_
  clear hK K
  replace HI := HI.keep hn
  clear hn
  refine Drawn.tk (i := 3) (v := .int .u64 R) rfl (fun W hW => ?_) HI ?_
  · have ⟨q0, q1, q2⟩ := sh W hW
    go_simp <;> (rw [if_neg (Int.ne_of_gt hsg), HR1.out])
  refine Drawn.one (j := 6) (by kernel_rfl) rfl (fun K hK => ?_)
  go_simp
  refine (rSign b _).mono ?_
  rintro e wn ⟨rfl, hn⟩
  refine hK _ _ (HI.keep hn) ?_
  clear hK K
  replace HI := HI.keep hn
  clear hn
  refine Drawn.tk (i := 7) (v := .int .u64 R) rfl (fun W hW => ?_) HI ?_
  · have ⟨q0, q1, q2⟩ := sh W hW
    go_simp <;> (rw [if_neg (Int.ne_of_gt hsg), HR2.out])
  refine Drawn.tk (i := 8) (v := ?v566) rfl (fun W hW => ?_) HI ?_
  rotate_left
  · have ⟨q0, q1, q2⟩ := sh W hW
    go_simp <;> exact rfl
  refine Drawn.tk (i := 9) (v := ?v567) rfl (fun W hW => ?_) HI ?_
  rotate_left
  · have ⟨q0, q1, q2⟩ := sh W hW
    go_simp <;> exact rfl
  refine Drawn.tk (i := 10) (v := ?v568) rfl (fun W hW => ?_) HI ?_
  rotate_left
  · have ⟨q0, q1, q2⟩ := sh W hW
    go_simp <;> exact rfl
  refine Drawn.tk (i := 11) (v := ?v569) rfl (fun W hW => ?_) HI ?_
  rotate_left
  · have ⟨q0, q1, q2⟩ := sh W hW
    go_simp <;> exact rfl
  refine Drawn.tk (i := 12) (v := ?v570) rfl (fun W hW => ?_) HI ?_
  rotate_left
  · have ⟨q0, q1, q2⟩ := sh W hW
    go_simp <;> exact rfl
  refine Drawn.tk (i := 13) (v := ?v571) rfl (fun W hW => ?_) HI ?_
  rotate_left
  · have ⟨q0, q1, q2⟩ := sh W hW
    go_simp <;> exact rfl
  refine Drawn.done (by kernel_rfl) ?_
  try go_simp
  have BX := HI
  clear HI sh
  obtain ⟨⟨q0, q1, q2⟩, _⟩ := cells3 BX w.heap.size _ _ _ _ (show (w.heap.size, DO n a z.length c ex) ∈ _ by simp)
  go_wp2_with fail
  refine (rFinite b x hx hf _).mono ?_
  rintro e v49 ⟨rfl, hk⟩
  replace BX := BX.keep hk
  clear hk q0 q1 q2
  obtain ⟨⟨q0, q1, q2⟩, _⟩ := cells3 BX w.heap.size _ _ _ _ (show (w.heap.size, DO n a z.length c ex) ∈ _ by simp)
  go_wp2_with fail
  refine (rValue b x hx _).mono ?_
  rintro e v51 ⟨nv, zv, xv, av, cv, rfl, Nv, lv, hk⟩
  replace BX := BX.keep hk
  have HN := Hide.mk Nv
  clear hk Nv q0 q1 q2
  obtain ⟨⟨q0, q1, q2⟩, _⟩ := cells3 BX w.heap.size _ _ _ _ (show (w.heap.size, DO n a z.length c ex) ∈ _ by simp)
  go_wp2_with fail
  refine ((H3 _ _ _ _ _ _ HN.out lv (hT.below BX.bel (Nat.le_refl _))).out).mono ?_
  rintro e v52 ⟨rfl, hk⟩
  replace BX := BX.keep hk
  clear hk q0 q1 q2
  obtain ⟨⟨q0, q1, q2⟩, _⟩ := cells3 BX w.heap.size _ _ _ _ (show (w.heap.size, DO n a z.length c ex) ∈ _ by simp)
  go_wp2_with fail
  clear lv HN
  refine (rSign b _).mono ?_
  rintro e v53 ⟨rfl, hk⟩
  replace BX := BX.keep hk
  clear hk q0 q1 q2
  obtain ⟨⟨q0, q1, q2⟩, _⟩ := cells3 BX w.heap.size _ _ _ _ (show (w.heap.size, DO n a z.length c ex) ∈ _ by simp)
  rcases hV.out with ⟨rfl, rfl⟩ | ⟨hx1, rfl⟩
  · have e1 : (sg b == sg b) = true := by simp
    go_wp2_with fail
    refine (lKnown4 _ (hT.below BX.bel (Nat.le_refl _))).mono ?_
    rintro e v54 ⟨rfl, hk⟩
    replace BX := BX.keep hk
    clear hk q0 q1 q2
    obtain ⟨⟨q0, q1, q2⟩, _⟩ := cells3 BX w.heap.size _ _ _ _ (show (w.heap.size, DO n a z.length c ex) ∈ _ by simp)
    go_wp2
    go_ret
    exact ⟨rfl, BX.bel⟩
  · have e1 : (V == sg b) = false := beq_eq_false_iff_ne.2 hx1
    have e2 : (V == V) = true := by simp
    go_wp2_with fail
    refine (lKnown4 _ (hT.below BX.bel (Nat.le_refl _))).mono ?_
    rintro e v55 ⟨rfl, hk⟩
    replace BX := BX.keep hk
    clear hk q0 q1 q2
    obtain ⟨⟨q0, q1, q2⟩, _⟩ := cells3 BX w.heap.size _ _ _ _ (show (w.heap.size, DO n a z.length c ex) ∈ _ by simp)
    go_wp2
    go_ret
    exact ⟨rfl, BX.bel⟩
end Go.Proofs.YtdnghibkagcbcaaGreatDoor
