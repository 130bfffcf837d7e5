import Derived.Test.YtdnghibkagcbcaaGreatDoorRoundBetweenPart10
import Derived.Test.YtdnghibkagcbcaaGreatDoorRoundBetweenPart7
namespace Go.Proofs.YtdnghibkagcbcaaGreatDoor
open Go.RowKit Go.Wd Go.Box
set_option linter.unusedVariables false
set_option maxRecDepth 3000
/-- A number that is too long, however it is written. -/
def Big (s : Int) : Prop := s ≠ 0 ∧ ∀ t : Nat, LowBit (s.natAbs : Int) t → 4294967296 ^ 4096 ≤ (s.natAbs : Int) / 2 ^ t
theorem Fm.scale {s E : Int} {k : Nat} {n : Bool} {zs : List Int} {ex : Int} (h : Fm s (E + k) n zs ex) : Fm (s * 2 ^ k) E n zs ex := by
  have hp := p2pos k
  rcases h with ⟨rfl, he⟩ | ⟨hs, t, ht, rfl, rfl, hc, hv⟩
  · exact .inl ⟨by simp, he⟩
  · refine .inr ⟨fun c => by rcases Int.mul_eq_zero.1 c with c | c <;> omega, t + k, by rw [natAbs_mul_pow]; exact ht.up k, ?_, by omega, hc, ?_⟩
    · by_cases c : s < 0
      · have : s * 2 ^ k < 0 := Int.mul_neg_of_neg_of_pos c hp
        simp [c, this]
      · have : ¬ s * 2 ^ k < 0 := by have := Int.mul_nonneg (show 0 ≤ s by omega) (Int.le_of_lt hp); omega
        simp [c, this]
    · rw [hv, natAbs_mul_pow, Int.pow_add, Int.mul_ediv_mul_of_pos_left _ _ hp]
theorem Fm.toK {s E : Int} {n : Bool} {zs : List Int} {ex : Int} (h : Fm s E n zs ex) (hE : -(KK : Int) ≤ E) : Fm (s * pK E) (-(KK : Int)) n zs ex := by
  have e : E = -(KK : Int) + ((E + KK).toNat : Nat) := by omega
  rw [e] at h
  exact h.scale
theorem DN.fm {n : Bool} {zs : List Int} {ex u : Int} (N : DN n zs ex u) : Fm u (-(KK : Int)) n zs ex := by
  have hK := KK_int
  have hx := N.dg.ex_bd
  by_cases hz : 0 < zs.length
  · have hp := N.dg.pos hz
    have h0 : Fm (sv n (Nt.val zs)) ex n zs ex := by
      refine .inr ⟨fun c => by rw [sv_zero] at c; omega, 0, ?_, ?_, by omega, N.dg.can, ?_⟩
      · rw [sv_abs _ (by omega)]; exact odd_low (N.dg.odd hz)
      · rw [sv_neg _ hp]
      · rw [sv_abs _ (by omega)]; simp
    have h1 := h0.toK (by omega)
    rw [show sv n (Nt.val zs) * pK ex = u from N.val] at h1
    exact h1
  · obtain ⟨rfl, rfl, rfl, rfl⟩ := N.zero (by omega)
    exact .inl ⟨rfl, rfl, rfl, rfl⟩
/-- The reference's Neg, Abs, Sign, Top of any number. -/
def rn (n : Bool) (z : List Int) : Bool := if z.length = 0 then n else !n
end Go.Proofs.YtdnghibkagcbcaaGreatDoor

namespace Go.Proofs.YtdnghibkagcbcaaGreatDoor
open Go.RowKit Go.Wd Go.Box
set_option linter.unusedVariables false
set_option maxRecDepth 3000
/-- What is cut to so many bits, and whether something is lost. -/
def DCut (w w' : World) (s E : Int) (q : Bool) (e : Ending) : Prop := ∃ n a k c ex code lost, e = .returned (.tuple #[dV n a k c ex, .bool lost, .int .i64 code]) ∧ DV w w' s E n a k c ex code ∧ (code = 0 → lost = q) ∧ (code ≠ 0 → lost = false)
theorem DV.bad {w w' : World} {s E : Int} {n : Bool} {a : Option Addr} {k c : Nat} {ex code : Int} (h : DV w w' s E n a k c ex code) (hc : code ≠ 0) : n = false ∧ a = none ∧ k = 0 ∧ c = 0 ∧ ex = 0 := by
  rcases h.all with ⟨_, _, _, _, _, _, h0⟩ | ⟨_, t, _, ⟨_, _, _, _, h0, _⟩ | ⟨_, h1, h2, h3, h4, h5, _⟩ | ⟨_, _, h1, h2, h3, h4, h5, _⟩⟩
  · exact absurd h0 hc
  · exact absurd h0 hc
  · exact ⟨h1, h2, h3, h4, h5⟩
  · exact ⟨h1, h2, h3, h4, h5⟩
theorem cutC (ng : Bool) (a : Option Addr) (ca : Nat) (za : List Int) (ex bits : Int) (more : Bool) (w : World) {x : Int} (ha : Lie w a za) (ga : Good za x) (hT : Tab w) (hb1 : 1 ≤ bits) (hb2 : bits ≤ 8192) (hx1 : -100000000 ≤ ex) (hx2 : ex ≤ 100000000) {B : Nat} (hB : BitLen x B) (hB2 : B ≤ 131072) (d : Nat) (hd : max ((B : Int) - bits) 0 = (d : Int)) :
    Calls Tryz.prog 114 #[.bool ng, .slice a za.length ca, .int .i64 ex, .int .i64 bits, .bool more] w fun e w' => DCut w w' (sv ng (x / 2 ^ d)) (ex + d) (decide (x % 2 ^ d ≠ 0) || more) e := by
  have hd3 : (d : Int) ≤ 131072 := by omega
  obtain ⟨q, hq⟩ : ∃ q, decide (x % 2 ^ d ≠ 0) = q := ⟨_, rfl⟩
  have HQ := Hide.mk hq
  have HD := Hide.mk hd
  have HB := Hide.mk hB
  have B1 := (Bx.nil w).push (DO false none 0 0 0)
  have HL := fun W (h : Below w.heap.size w W) => Hide.mk (lenN a ca za W (ha.below h (Nat.le_refl _)) ga)
  have HS := fun W (h : Below w.heap.size w W) M hM => Hide.mk (shiftDi a ca za W (ha.below h (Nat.le_refl _)) ga M d hM (by omega) (hT.below h (Nat.le_refl _)) q hq)
  clear hd hB ha hq
  go_enter Tryz.func114, Tryz.ntmps114
  go_wp2_with fail
  refine (HL _ B1.bel).out.mono ?_
  rintro e w2 ⟨rfl, B2, rfl, hB2', h3⟩
  obtain rfl := hB2'.unique HB.out
  clear hB2' h3
  go_wp2_with fail
  rw [HD.out]
  refine (HS _ B1.bel _ rfl).out.mono ?_
  rintro e w3 ⟨z3, a3, c3, rfl, h3, _⟩
  have B3 := B1.keep h3.bel
  have HF := Hide.mk (formedR ng a3 c3 z3 (ex + d) w3 h3.lie h3.good (hT.below B3.bel (Nat.le_refl _)) (by omega) (by omega))
  clear h3 HS HL B1
  go_wp2_with fail
  refine HF.out.mono ?_
  rintro e w4 ⟨n4, a4, k4, c4, x4, code, rfl, h4⟩
  have B4 := B3.keep h4.bel
  have hlt : w.heap.size < w3.heap.size := B3.lt (.head _)
  have hlt4 : w.heap.size < w4.heap.size := B4.lt (.head _)
  have hne : w.heap.size ≠ w4.heap.size := by omega
  have V := Hide.mk h4
  have HE := Hide.mk (DV.bad h4)
  clear HF h4
  obtain ⟨⟨t0, t1, t2⟩, u0, u1, u2⟩ := cells3 B4 w.heap.size _ _ _ _ (.head _)
  by_cases hc : code = 0
  · subst hc
    cases q <;> go_wp2
    · refine bodyPost_ret (results_D3 rfl _ _ w.heap.size _ rfl ⟨((B4.fill3 (Nat.le_refl _) (by simp) _ _ _).push _).tail.head, rfl⟩) rfl ?_
      exact ⟨n4, a4, k4, c4, x4, 0, more, rfl, (V.out.back B3.bel (Nat.le_refl _) hlt _ _ _).after ((Below.refl _ _).alloc (Nat.le_refl _) _), fun _ => by rw [HQ.out]; rfl, fun h => absurd rfl h⟩
    · refine bodyPost_ret (results_D3 rfl _ _ w.heap.size _ rfl ⟨((B4.fill3 (Nat.le_refl _) (by simp) _ _ _).push _).tail.head, rfl⟩) rfl ?_
      exact ⟨n4, a4, k4, c4, x4, 0, true, rfl, (V.out.back B3.bel (Nat.le_refl _) hlt _ _ _).after ((Below.refl _ _).alloc (Nat.le_refl _) _), fun _ => by rw [HQ.out]; rfl, fun h => absurd rfl h⟩
  · obtain ⟨rfl, rfl, rfl, rfl, rfl⟩ := HE.out hc
    have hc2 : (code == 0) = false := by simpa using hc
    have hc3 : (code != 0) = true := by simpa using hc
    go_wp2
    refine bodyPost_ret (results_D3 rfl _ _ w.heap.size _ rfl ⟨((B4.fill3 (Nat.le_refl _) (by simp) _ _ _).push _).tail.head, rfl⟩) rfl ?_
    exact ⟨false, none, 0, 0, 0, code, false, rfl, (V.out.back B3.bel (Nat.le_refl _) hlt _ _ _).after ((Below.refl _ _).alloc (Nat.le_refl _) _), fun h => absurd h hc, fun _ => rfl⟩
/-- Which number of bits may be asked. -/
def askB (bits : Int) (m : Bool) : Int := if bits < 1 ∨ m = false then 2 else if 8192 < bits then 3 else 0
theorem ask1 (bits : Int) (b : Nat) (m : Bool) (w : World) (HM : ∀ W, Below w.heap.size w W → Calls Tryz.prog 129 #[.slice (some ⟨b, 0, none⟩) 1 1] W fun e w' => e = .returned (.bool m) ∧ Below W.heap.size W w') :
    Calls Tryz.prog 113 #[.int .i64 bits, .slice (some ⟨b, 0, none⟩) 1 1] w fun e w' => e = .returned (.int .i64 (askB bits m)) ∧ Below w.heap.size w w' := by
  have H := Hide.mk (HM w (Below.refl _ _))
  clear HM
  by_cases h1 : bits < 1
  · rw [show askB bits m = 2 by unfold askB; rw [if_pos (.inl h1)]]
    go_enter Tryz.func113, Tryz.ntmps113
    go_wp2
    go_ret
    exact ⟨rfl, Below.refl _ _⟩
  · cases m
    · rw [show askB bits false = 2 by unfold askB; rw [if_pos (.inr rfl)]]
      go_enter Tryz.func113, Tryz.ntmps113
      go_wp2_with fail
      refine H.out.mono ?_
      rintro e w2 ⟨rfl, h2⟩
      clear H
      go_wp2
      go_ret
      exact ⟨rfl, h2⟩
    · by_cases h3 : 8192 < bits
      · rw [show askB bits true = 3 by unfold askB; rw [if_neg (by simp; omega), if_pos h3]]
        go_enter Tryz.func113, Tryz.ntmps113
        go_wp2_with fail
        refine H.out.mono ?_
        rintro e w2 ⟨rfl, h2⟩
        clear H
        go_wp2
        go_ret
        exact ⟨rfl, h2⟩
      · rw [show askB bits true = 0 by unfold askB; rw [if_neg (by simp; omega), if_neg h3]]
        go_enter Tryz.func113, Tryz.ntmps113
        go_wp2_with fail
        refine H.out.mono ?_
        rintro e w2 ⟨rfl, h2⟩
        clear H
        go_wp2
        go_ret
        exact ⟨rfl, h2⟩
end Go.Proofs.YtdnghibkagcbcaaGreatDoor

namespace Go.Proofs.YtdnghibkagcbcaaGreatDoor
open Go.RowKit Go.Wd Go.Box
set_option linter.unusedVariables false
set_option maxRecDepth 20000
theorem part_hi (x up : Int) (o m : Nat) (hm : (o : Int) - up = (m : Int)) : x * 2 ^ up.toNat / 2 ^ (-up).toNat / 2 ^ o = x / 2 ^ m := by
  rw [← cut_div (p2pos _), ← Int.pow_add, show (-up).toNat + o = m + up.toNat by omega, Int.pow_add, Int.mul_ediv_mul_of_pos_left _ _ (p2pos _)]
theorem part_hi2 (x up : Int) (o m : Nat) (hm : up - (o : Int) = (m : Int)) : x * 2 ^ up.toNat / 2 ^ (-up).toNat / 2 ^ o = x * 2 ^ m := by
  rw [show (-up).toNat = 0 by omega, show up.toNat = m + o by omega, Int.pow_add, Int.pow_zero, Int.ediv_one, ← Int.mul_assoc, Int.mul_ediv_cancel _ (by have := p2pos o; omega)]
theorem part_lo2 (x up : Int) (o m : Nat) (hm : up - (o : Int) = (m : Int)) : x * 2 ^ up.toNat / 2 ^ (-up).toNat % 2 ^ o = 0 := by
  rw [show (-up).toNat = 0 by omega, show up.toNat = m + o by omega, Int.pow_add, Int.pow_zero, Int.ediv_one, ← Int.mul_assoc, Int.mul_emod_left]
theorem part_fl (x up : Int) : decide (x * 2 ^ up.toNat % 2 ^ (-up).toNat ≠ 0) = decide (x % 2 ^ (-up).toNat ≠ 0) := by
  by_cases h : 0 ≤ up
  · rw [show (-up).toNat = 0 by omega, Int.pow_zero, Int.emod_one, Int.emod_one]
  · rw [show up.toNat = 0 by omega, Int.pow_zero, Int.mul_one]
theorem part_lo (x up : Int) (o m k : Nat) (hm : (o : Int) - up = (m : Int)) (hm0 : 0 < m) (hk : o = k + up.toNat) : x * 2 ^ up.toNat / 2 ^ (-up).toNat % 2 ^ o = (x / 2 ^ (-up).toNat - x / 2 ^ m * 2 ^ k) * 2 ^ up.toNat := by
  have e1 : x / 2 ^ m = x / 2 ^ (-up).toNat / 2 ^ k := by
    rw [← cut_div (p2pos _), ← Int.pow_add]; congr 2; omega
  have e2 := Int.mul_ediv_add_emod (x / 2 ^ (-up).toNat) (2 ^ k)
  have e3 : x / 2 ^ (-up).toNat - x / 2 ^ m * 2 ^ k = x / 2 ^ (-up).toNat % 2 ^ k := by rw [e1, Int.mul_comm (x / 2 ^ (-up).toNat / 2 ^ k)]; omega
  rw [e3]
  by_cases h : 0 ≤ up
  · rw [show (-up).toNat = 0 by omega, Int.pow_zero, Int.ediv_one, Int.ediv_one, hk, Int.pow_add, Int.mul_comm x, Int.mul_comm ((2 : Int) ^ k), Int.mul_emod_mul_of_pos _ _ (p2pos _), Int.mul_comm]
  · rw [show up.toNat = 0 by omega] at hk ⊢
    rw [Int.pow_zero, Int.mul_one, Int.mul_one, hk, Nat.add_zero]
theorem lim_le {x y M : Int} (h : x < M) (k : y ≤ x) : y < M := Int.lt_of_le_of_lt k h
theorem div_le {x : Int} (h : 0 ≤ x) (n : Nat) : x / 2 ^ n ≤ x := Int.ediv_le_self _ h
/-- What parted answers. -/
def Parts (w w' : World) (x up : Int) (o : Nat) (e : Ending) : Prop :=
  ∃ zh ah ch zl al cl, e = .returned (.tuple #[.slice ah (List.length zh) ch, .slice al (List.length zl) cl, .bool (decide (x * 2 ^ up.toNat % 2 ^ (-up).toNat ≠ 0))]) ∧ Good zh (x * 2 ^ up.toNat / 2 ^ (-up).toNat / 2 ^ o) ∧ Good zl (x * 2 ^ up.toNat / 2 ^ (-up).toNat % 2 ^ o) ∧ Lie w' ah zh ∧ Lie w' al zl ∧ Below w.heap.size w w'
set_option maxHeartbeats 1000000 in
theorem parted_up (a : Option Addr) (ca : Nat) (za : List Int) (w : World) {x : Int} (ha : Lie w a za) (ga : Good za x) (up : Int) (o m : Nat) (hm : up - (o : Int) = (m : Int)) (h0 : (o : Int) ≤ up) (hu : up ≤ 1000000) (hf : x * 2 ^ m < 4294967296 ^ 4096) :
    Calls Tryz.prog 132 #[.slice a za.length ca, .int .i64 up, .int .i64 o] w fun e w' => Parts w w' x up o e := by
  have HS := Hide.mk (shiftedU a ca za w ha ga _ m hm hf)
  have HM := Hide.mk hm
  clear ha hf hm
  go_enter Tryz.func132, Tryz.ntmps132
  go_wp2_with fail
  refine HS.out.mono ?_
  rintro e w' ⟨zs, a', c, rfl, h1, h2⟩
  have H := Hide.mk (And.intro h1 h2)
  clear h1 h2 HS
  go_wp2
  go_ret3
  refine ⟨zs, a', c, [], none, 0, ?_, ?_, ?_, H.out.1.lie, .inl rfl, H.out.1.bel⟩
  · rw [part_fl, show (-up).toNat = 0 by omega, Int.pow_zero, Int.emod_one]; rfl
  · rw [part_hi2 x up o m HM.out]; exact H.out.1.good
  · rw [part_lo2 x up o m HM.out]; exact ⟨Nt.can_nil, by simp, rfl⟩
set_option maxHeartbeats 1000000 in
theorem parted_down (a : Option Addr) (ca : Nat) (za : List Int) (w : World) {x : Int} (ha : Lie w a za) (ga : Good za x) (hT : Tab w) (up : Int) (o : Nat) (h0 : up < (o : Int)) (hu : -1000000 ≤ up) (ho : o ≤ 131072) :
    Calls Tryz.prog 132 #[.slice a za.length ca, .int .i64 up, .int .i64 o] w fun e w' => Parts w w' x up o e := by
  obtain ⟨m, hm⟩ : ∃ m : Nat, (o : Int) - up = (m : Int) := ⟨((o : Int) - up).toNat, by omega⟩
  obtain ⟨k, hk⟩ : ∃ k : Nat, o = k + up.toNat := ⟨o - up.toNat, by omega⟩
  obtain ⟨q, hq⟩ : ∃ q : Bool, decide (x % 2 ^ (-up).toNat ≠ 0) = q := ⟨_, rfl⟩
  have hx := ga.lt
  have v0 := Int.ediv_nonneg hx.1 (Int.le_of_lt (p2pos (-up).toNat))
  have e1 : x / 2 ^ m = x / 2 ^ (-up).toNat / 2 ^ k := by
    rw [← cut_div (p2pos _), ← Int.pow_add]; congr 2; omega
  have e2 := Int.mul_ediv_add_emod (x / 2 ^ (-up).toNat) (2 ^ k)
  have e4 := Int.emod_nonneg (x / 2 ^ (-up).toNat) (show (2 : Int) ^ k ≠ 0 by have := p2pos k; omega)
  have hle : x / 2 ^ m * 2 ^ k ≤ x / 2 ^ (-up).toNat := by rw [e1, Int.mul_comm]; omega
  have H1 := Hide.mk (shiftedD a ca za w ha ga (up - o) m (by omega) (by omega) hT)
  have H2 := fun W (h : Below w.heap.size w W) => Hide.mk (shiftDi a ca za W (ha.below h (Nat.le_refl _)) ga (-((-up).toNat : Int)) (-up).toNat rfl (by omega) (hT.below h (Nat.le_refl _)) q hq)
  have H3 := fun W A C Z (l : Lie W A Z) (g : Good Z (x / 2 ^ m)) => Hide.mk (shiftedU A C Z W l g ((o : Int) - up.toNat) k (by omega) (lim_le hx.2 (Int.le_trans hle (div_le hx.1 _))))
  have H4 := fun W A C Z B D Y (l1 : Lie W A Z) (l2 : Lie W B Y) (g1 : Good Z (x / 2 ^ (-up).toNat)) (g2 : Good Y (x / 2 ^ m * 2 ^ k)) => Hide.mk (less132 A B C D Z Y W l1 l2 g1 g2 hle)
  have hlo := part_lo x up o m k hm (by omega) hk
  have hlim : (x / 2 ^ (-up).toNat - x / 2 ^ m * 2 ^ k) * 2 ^ up.toNat < 4294967296 ^ 4096 := by
    rw [← hlo, pw32]
    have := Int.emod_lt_of_pos (x * 2 ^ up.toNat / 2 ^ (-up).toNat) (p2pos o)
    have := p2le ho
    omega
  have H5 := fun W A C Z (l : Lie W A Z) (g : Good Z (x / 2 ^ (-up).toNat - x / 2 ^ m * 2 ^ k)) => Hide.mk (shiftedU A C Z W l g (up.toNat : Int) up.toNat rfl hlim)
  have hfl := part_fl x up
  rw [hq] at hfl
  have HZ := Hide.mk (And.intro (part_hi x up o m hm) (And.intro hlo hfl))
  have hmin : Hide (min up 0 = -((-up).toNat : Int)) := ⟨by omega⟩
  have hmax : Hide (max up 0 = (up.toNat : Int)) := ⟨by omega⟩
  clear ha hlim hle e1 e2 e4 v0 hlo hfl hq hx hm hk
  go_enter Tryz.func132, Tryz.ntmps132
  go_wp2_with fail
  refine H1.out.mono ?_
  rintro e w1 ⟨z1, a1, c1, rfl, h1, _⟩
  have b1 := h1.bel
  have l1 := h1.lie
  have g1 := h1.good
  clear h1 H1
  go_wp2_with fail
  rw [hmin.out]
  refine (H2 _ b1).out.mono ?_
  rintro e w2 ⟨z2, a2, c2, rfl, h2, _⟩
  have b2 := below_then b1 h2.bel
  have l2 := h2.lie
  have g2 := h2.good
  replace l1 := l1.below h2.bel (Nat.le_refl _)
  clear h2 H2
  go_wp2_with fail
  rw [hmax.out]
  refine (H3 _ _ _ _ l1 g1).out.mono ?_
  rintro e w3 ⟨z3, a3, c3, rfl, h3, _⟩
  have b3 := below_then b2 h3.bel
  have l3 := h3.lie
  have g3 := h3.good
  replace l1 := l1.below h3.bel (Nat.le_refl _)
  replace l2 := l2.below h3.bel (Nat.le_refl _)
  clear h3 H3
  go_wp2_with fail
  refine (H4 _ _ _ _ _ _ _ l2 l3 g2 g3).out.mono ?_
  rintro e w4 ⟨z4, a4, c4, rfl, h4, _⟩
  have b4 := below_then b3 h4.bel
  have l4 := h4.lie
  have g4 := h4.good
  replace l1 := l1.below h4.bel (Nat.le_refl _)
  clear h4 H4 l2 l3 g2 g3
  go_wp2_with fail
  rw [hmax.out]
  refine (H5 _ _ _ _ l4 g4).out.mono ?_
  rintro e w5 ⟨z5, a5, c5, rfl, h5, _⟩
  have b5 := below_then b4 h5.bel
  have l5 := h5.lie
  have g5 := h5.good
  replace l1 := l1.below h5.bel (Nat.le_refl _)
  clear h5 H5 l4 g4
  go_wp2
  go_ret3
  refine ⟨z1, a1, c1, z5, a5, c5, by rw [HZ.out.2.2]; rfl, by rw [HZ.out.1]; exact g1, by rw [HZ.out.2.1]; exact g5, l1, l5, b5⟩
end Go.Proofs.YtdnghibkagcbcaaGreatDoor

namespace Go.Proofs.YtdnghibkagcbcaaGreatDoor
open Go.RowKit Go.Wd Go.Box
set_option linter.unusedVariables false
set_option maxRecDepth 3000
theorem mod_splitG {N D c : Int} (hD : 0 < D) (hc : 0 < c) : N % (D * c) = D * (N / D % c) + N % D := by
  have h1 := Int.emod_nonneg (N / D) (show c ≠ 0 by omega)
  have h2 := Int.emod_lt_of_pos (N / D) hc
  have h3 := Int.emod_nonneg N (show D ≠ 0 by omega)
  have h4 := Int.emod_lt_of_pos N hD
  have e1 := Int.mul_ediv_add_emod N D
  have e2 := Int.mul_ediv_add_emod (N / D) c
  generalize N / D = q at *
  generalize N % D = r at *
  generalize q % c = u at *
  generalize q / c = v at *
  have e3 : N = (D * u + r) + D * c * v := by rw [← e1, ← e2, Int.mul_add, ← Int.mul_assoc]; omega
  rw [e3, Int.add_mul_emod_self_left]
  refine Int.emod_eq_of_lt (by have := Int.mul_nonneg (show 0 ≤ D by omega) h1; omega) ?_
  have : D * u + D ≤ D * c := by
    have := Int.mul_le_mul_of_nonneg_left (show u + 1 ≤ c by omega) (show 0 ≤ D by omega)
    rw [Int.mul_add, Int.mul_one] at this; exact this
  omega
theorem qf_two (x y up : Int) : qf x y up = x * 2 ^ up.toNat / 2 ^ (-up).toNat / y := by
  unfold qf
  rw [Int.mul_comm y, Int.ediv_ediv_of_nonneg (Int.le_of_lt (p2pos _))]
theorem qg_two (x y up : Int) (hy : 0 < y) : qg x y up = (decide (x * 2 ^ up.toNat / 2 ^ (-up).toNat % y ≠ 0) || decide (x * 2 ^ up.toNat % 2 ^ (-up).toNat ≠ 0)) := by
  unfold qg
  rw [Int.mul_comm y, mod_splitG (p2pos _) hy]
  exact dec_or (p2pos _) (Int.emod_nonneg _ (by omega)) (Int.emod_nonneg _ (by have := p2pos (-up).toNat; omega))
theorem xtop {x up : Int} {La : Nat} (hx : Bits x La) (k : Nat) (h : (La : Int) + up ≤ k) : x * 2 ^ up.toNat / 2 ^ (-up).toNat < 2 ^ k := by
  refine Int.ediv_lt_of_lt_mul (p2pos _) ?_
  have h2 := (hx.up up.toNat).lt
  rw [← Int.pow_add]
  have := p2le (show La + up.toNat ≤ k + (-up).toNat by omega)
  omega
/-- What is taken away is less than the divisor. -/
theorem took_lt {X y T P q S YL K : Int} (hK : T * P = K) (hT : 0 < T) (hP : 1 ≤ P) (h1 : K * 4294967296 ≤ 2 * y) (h2 : X < P * (K * 4294967296)) (h3 : S + YL = y) (h4 : 0 ≤ YL) (h5 : YL < T) (h6 : q * S ≤ X) (h7 : 0 ≤ q) : q * YL < y := by
  have hTK : T ≤ K := by
    have := Int.mul_le_mul_of_nonneg_left hP (show 0 ≤ T by omega)
    omega
  have hKp : 0 < K * 4294967296 := by omega
  have a1 : K * 4294967296 ≤ 4 * S := by omega
  have a2 := Int.mul_le_mul_of_nonneg_left a1 h7
  have a3 : q * (4 * S) = 4 * (q * S) := by grind
  have a4 : 4 * P * (K * 4294967296) = 4 * (P * (K * 4294967296)) := by grind
  have a5 : q * (K * 4294967296) < 4 * P * (K * 4294967296) := by omega
  have a6 : q < 4 * P := Int.lt_of_mul_lt_mul_right a5 (by omega)
  have a7 := Int.mul_le_mul_of_nonneg_left (Int.le_of_lt h5) h7
  have a8 := Int.mul_le_mul_of_nonneg_right (Int.le_of_lt a6) (show 0 ≤ T by omega)
  have a9 : 4 * P * T = 4 * K := by rw [← hK]; grind
  omega
/-- Dividing by the high part, and mending it. -/
theorem whole_math {X y T q r XH XL YH YL : Int} (hy : 0 < y) (e1 : T * XH + XL = X) (e2 : T * YH + YL = y) (hq : XH = q * YH + r) (hr : r < YH) (hr0 : 0 ≤ r) (hXL : 0 ≤ XL) (hXT : XL < T) (hYL : 0 ≤ YL) (hq0 : 0 ≤ q) (ht : q * YL < y) :
    r * T + XL < y ∧ (r * T + XL < q * YL → X / y = q - 1 ∧ X % y ≠ 0) ∧ (q * YL ≤ r * T + XL → X / y = q ∧ X % y = r * T + XL - q * YL) := by
  have hT : 0 < T := by omega
  have b1 : (r + 1) * T ≤ YH * T := Int.mul_le_mul_of_nonneg_right (by omega) (by omega)
  have b2 : (r + 1) * T = r * T + T := by grind
  have b3 : YH * T = T * YH := Int.mul_comm _ _
  have b4 : r * T + XL < y := by omega
  have b5 : X = q * y + (r * T + XL - q * YL) := by rw [← e1, ← e2, hq]; grind
  have b6 : 0 ≤ r * T := Int.mul_nonneg hr0 (by omega)
  refine ⟨b4, fun h => ?_, fun h => ?_⟩
  · have e : X = (y + (r * T + XL - q * YL)) + y * (q - 1) := by rw [b5]; grind
    have u1 : 0 < y + (r * T + XL - q * YL) := by omega
    have u2 : y + (r * T + XL - q * YL) < y := by omega
    generalize y + (r * T + XL - q * YL) = u at *
    refine ⟨?_, ?_⟩
    · rw [e, Int.add_mul_ediv_left _ _ (by omega), Int.ediv_eq_zero_of_lt (by omega) u2]; omega
    · rw [e, Int.add_mul_emod_self_left, Int.emod_eq_of_lt (by omega) u2]; omega
  · have e : X = (r * T + XL - q * YL) + y * q := by rw [b5]; grind
    have u1 : 0 ≤ r * T + XL - q * YL := by omega
    have u2 : r * T + XL - q * YL < y := by
      have := Int.mul_nonneg hq0 hYL
      omega
    generalize r * T + XL - q * YL = u at *
    refine ⟨?_, ?_⟩
    · rw [e, Int.add_mul_ediv_left _ _ (by omega), Int.ediv_eq_zero_of_lt u1 u2]; omega
    · rw [e, Int.add_mul_emod_self_left, Int.emod_eq_of_lt u1 u2]
/-- nat.QuoRem, by value. -/
theorem quoG (a b : Option Addr) (ca cb : Nat) (za zb : List Int) (w : World) {x y : Int} (ha : Lie w a za) (hb : Lie w b zb) (ga : Good za x) (gb : Good zb y) (hy : 0 < y) :
    Calls Tryz.prog 133 #[.slice a za.length ca, .slice b zb.length cb] w fun e w' => ∃ zq zr aq cq ar cr, e = .returned (.tuple #[.slice aq (List.length zq) cq, .slice ar (List.length zr) cr, .int .i64 0]) ∧ Good zq (x / y) ∧ Good zr (x % y) ∧ Lie w' aq zq ∧ Lie w' ar zr ∧ Below w.heap.size w w' := by
  refine (quo27 a b ca cb za zb w ha hb ga.can.1 gb.can.1 ga.may gb.may (gb.ne hy)).mono ?_
  rintro e w' ⟨zq, zr, aq, cq, ar, cr, rfl, h1, h2, h3, h4, h5, h6, h7⟩
  rw [ga.val, gb.val] at h5
  rw [gb.val] at h6
  have n1 := (Nt.val_bd h3.1).1
  have n2 := (Nt.val_bd h4.1).1
  have e1 : x / y = Nt.val zq := by
    rw [h5, Int.add_comm, Int.add_mul_ediv_right _ _ (by omega), Int.ediv_eq_zero_of_lt n2 h6]; omega
  have e2 : x % y = Nt.val zr := by
    rw [h5, Int.add_comm, Int.add_mul_emod_self_right, Int.emod_eq_of_lt n2 h6]
  have l1 := ga.lt.2
  have l2 := gb.lt.2
  have k1 : Nt.val zq ≤ x := by rw [← e1]; exact Int.ediv_le_self _ ga.nonneg
  obtain ⟨a1, c1, he, _, _, m1⟩ := h1.lie
  simp only [Value.slice.injEq, true_and] at he
  obtain ⟨rfl, rfl⟩ := he
  obtain ⟨a2, c2, he, _, _, m2⟩ := h2.lie
  simp only [Value.slice.injEq, true_and] at he
  obtain ⟨rfl, rfl⟩ := he
  exact ⟨zq, zr, aq, cq, ar, cr, rfl, ⟨h3, (Nt.can_len h3 4096).1 (lim_le l1 k1), e1.symm⟩, ⟨h4, (Nt.can_len h4 4096).1 (lim_le l2 (Int.le_of_lt h6)), e2.symm⟩, m1, m2, h7⟩
theorem parts_zero (y : Int) : y * 2 ^ (0 : Int).toNat / 2 ^ (-(0 : Int)).toNat = y := by
  rw [show (0 : Int).toNat = 0 from rfl, show (-(0 : Int)).toNat = 0 from rfl, Int.pow_zero, Int.mul_one, Int.ediv_one]
/-- parted, whatever the shift. -/
theorem partedC (a : Option Addr) (ca : Nat) (za : List Int) (w : World) {x : Int} (ha : Lie w a za) (ga : Good za x) (hT : Tab w) (up : Int) (o : Nat) (hu : -1000000 ≤ up) (hu2 : up ≤ 1000000) (ho : o ≤ 131072) (hf : ∀ m : Nat, up - (o : Int) = (m : Int) → x * 2 ^ m < 4294967296 ^ 4096) :
    Calls Tryz.prog 132 #[.slice a za.length ca, .int .i64 up, .int .i64 o] w fun e w' => Parts w w' x up o e := by
  by_cases h : up < (o : Int)
  · exact parted_down a ca za w ha ga hT up o h hu ho
  · have hm : up - (o : Int) = ((up - (o : Int)).toNat : Int) := by omega
    exact parted_up a ca za w ha ga up o _ hm (by omega) hu2 (hf _ hm)
/-- What wholeQuo answers. -/
def WQuo (w w' : World) (Q : Int) (g : Bool) (e : Ending) : Prop :=
  ∃ zq aq cq, e = .returned (.tuple #[.slice aq (List.length zq) cq, .bool g]) ∧ Good zq Q ∧ Lie w' aq zq ∧ Below w.heap.size w w'
set_option maxHeartbeats 1000000 in
theorem wholeQuoC (a b : Option Addr) (ca cb : Nat) (za zb : List Int) (w : World) {x y : Int} (ha : Lie w a za) (hb : Lie w b zb) (ga : Good za x) (gb : Good zb y) (hT : Tab w) (hx : 0 < x) (hy : 0 < y) {La Lb : Nat} (bx : Bits x La) (bY : Bits y Lb) (hLa : La ≤ 131072) (hLb : Lb ≤ 131072) (bits : Int) (hb1 : 1 ≤ bits) (hb2 : bits ≤ 8192) (up : Int) (hup : up = bits + Lb - La) :
    Calls Tryz.prog 120 #[.slice a za.length ca, .slice b zb.length cb, .int .i64 up, .int .i64 bits] w fun e w' => WQuo w w' (qf x y up) (qg x y up) e := by
  obtain ⟨o, ho⟩ : ∃ o : Nat, max ((Lb : Int) - bits - 32) 0 = (o : Int) := ⟨(max ((Lb : Int) - bits - 32) 0).toNat, by omega⟩
  obtain ⟨n, hn⟩ : ∃ n : Nat, bits = (n : Int) := ⟨bits.toNat, by omega⟩
  have hTp := p2pos o
  have ho2 : o ≤ 131072 := by omega
  -- the parts
  have HL := Hide.mk (lenN b cb zb w hb gb)
  have HB := Hide.mk (show BitLen y Lb from .inr ⟨hy, bY⟩)
  have HO := Hide.mk ho
  have H1 := Hide.mk (partedC a ca za w ha ga hT up o (by omega) (by omega) ho2 (fun m hm => by
    rw [pw32]
    have h1 := (bx.up m).lt
    have h2 := p2le (show La + m ≤ 131072 by omega)
    omega))
  have H2 := fun W (h : Below w.heap.size w W) => Hide.mk (partedC b cb zb W (hb.below h (Nat.le_refl _)) gb (hT.below h (Nat.le_refl _)) 0 o (by omega) (by omega) ho2 (fun m hm => by
    rw [pw32]
    have h1 := bY.lt
    have h2 := p2le (show Lb ≤ 131072 by omega)
    rw [show m = 0 by omega, Int.pow_zero, Int.mul_one]
    omega))
  generalize hX : x * 2 ^ up.toNat / 2 ^ (-up).toNat = X at *
  have hX0 : 0 ≤ X := by rw [← hX]; exact Int.ediv_nonneg (Int.mul_nonneg (by omega) (Int.le_of_lt (p2pos _))) (Int.le_of_lt (p2pos _))
  have hYH : 0 < y / 2 ^ o := by
    have h1 : (1 : Int) ≤ y / 2 ^ o := by
      rw [Int.le_ediv_iff_mul_le hTp, Int.one_mul]
      have := bY.le
      by_cases h0 : o = 0
      · rw [h0, Int.pow_zero]; omega
      · have := p2le (show o + 1 ≤ Lb by omega)
        rw [Int.pow_succ] at this
        omega
    omega
  have hXH0 : 0 ≤ X / 2 ^ o := Int.ediv_nonneg hX0 (by omega)
  have f1 := Int.mul_ediv_add_emod X (2 ^ o)
  have f2 := Int.mul_ediv_add_emod y (2 ^ o)
  have f3 := Int.emod_nonneg X (show (2 : Int) ^ o ≠ 0 by omega)
  have f4 := Int.emod_lt_of_pos X hTp
  have f5 := Int.emod_nonneg y (show (2 : Int) ^ o ≠ 0 by omega)
  have f6 := Int.emod_lt_of_pos y hTp
  have f7 := Int.mul_ediv_add_emod (X / 2 ^ o) (y / 2 ^ o)
  have f8 := Int.emod_nonneg (X / 2 ^ o) (show y / 2 ^ o ≠ 0 by omega)
  have f9 := Int.emod_lt_of_pos (X / 2 ^ o) hYH
  have f10 := Int.ediv_nonneg hXH0 (Int.le_of_lt hYH)
  have ht : X / 2 ^ o / (y / 2 ^ o) * (y % 2 ^ o) < y := by
    by_cases h0 : o = 0
    · subst h0
      rw [Int.pow_zero, Int.emod_one, Int.mul_zero]; exact hy
    · have hLo : Lb = o + n + 32 := by omega
      have h1 := bY.le
      have h2 := xtop bx (n + Lb) (show (La : Int) + up ≤ (n + Lb : Nat) by omega)
      rw [hX] at h2
      rw [hLo, show n + (o + n + 32) = n + (o + n + 32) from rfl, Int.pow_add 2 n, Int.pow_add 2 (o + n), Int.pow_add 2 o] at h2
      rw [hLo, Int.pow_add 2 (o + n), Int.pow_add 2 o] at h1
      refine took_lt (S := 2 ^ o * (y / 2 ^ o)) (T := 2 ^ o) (P := 2 ^ n) rfl hTp (by have := p2pos n; omega) h1 h2 f2 f5 f6 ?_ f10
      have g1 : X / 2 ^ o / (y / 2 ^ o) * (2 ^ o * (y / 2 ^ o)) = 2 ^ o * (y / 2 ^ o * (X / 2 ^ o / (y / 2 ^ o))) := by grind
      rw [g1]
      have g2 := Int.mul_le_mul_of_nonneg_left (show y / 2 ^ o * (X / 2 ^ o / (y / 2 ^ o)) ≤ X / 2 ^ o by omega) (show (0 : Int) ≤ 2 ^ o by omega)
      omega
  have WM := whole_math hy f1 f2 (show X / 2 ^ o = X / 2 ^ o / (y / 2 ^ o) * (y / 2 ^ o) + X / 2 ^ o % (y / 2 ^ o) by rw [Int.mul_comm (X / 2 ^ o / (y / 2 ^ o))]; omega) f9 f8 f3 f4 f5 f10 ht
  have e1 := qf_two x y up
  have e2 := qg_two x y up hy
  rw [hX] at e1 e2
  have hlim := gb.lt.2
  generalize hlost : decide (x * 2 ^ up.toNat % 2 ^ (-up).toNat ≠ 0) = lost at *
  generalize hq : X / 2 ^ o / (y / 2 ^ o) = q at *
  generalize hr : X / 2 ^ o % (y / 2 ^ o) = r at *
  have c0 : 0 ≤ r * 2 ^ o := Int.mul_nonneg f8 (by omega)
  have H3 := fun W A C Z B D Y (l1 : Lie W A Z) (l2 : Lie W B Y) (g1 : Good Z (X / 2 ^ o)) (g2 : Good Y (y / 2 ^ o)) => Hide.mk (quoG A B C D Z Y W l1 l2 g1 g2 hYH)
  rw [hq, hr] at H3
  have H4 := fun W A C Z (l : Lie W A Z) (g : Good Z r) => Hide.mk (shiftedU A C Z W l g (o : Int) o rfl (lim_le hlim (by have := WM.1; omega)))
  have H5 := fun W A C Z B D Y (l1 : Lie W A Z) (l2 : Lie W B Y) (g1 : Good Z (r * 2 ^ o)) (g2 : Good Y (X % 2 ^ o)) => Hide.mk (plus110 A B C D Z Y W l1 l2 g1 g2 (lim_le hlim (Int.le_of_lt WM.1)))
  have H6 := fun W A C Z B D Y (l1 : Lie W A Z) (l2 : Lie W B Y) (g1 : Good Z q) (g2 : Good Y (y % 2 ^ o)) => Hide.mk (mul_fit A B C D Z Y W l1 l2 g1 g2 ⟨Int.mul_nonneg f10 f5, lim_le hlim (Int.le_of_lt ht)⟩)
  have H7 := fun s (hs : sgn (r * 2 ^ o + X % 2 ^ o) (q * (y % 2 ^ o)) = s) W A C Z B D Y (l1 : Lie W A Z) (l2 : Lie W B Y) (g1 : Good Z (r * 2 ^ o + X % 2 ^ o)) (g2 : Good Y (q * (y % 2 ^ o))) => Hide.mk (cmpM126 A B C D Z Y W l1 l2 g1 g2 s hs)
  have H8 := fun W => Hide.mk (of16 1 (by decide) (by decide) W)
  have H9 := fun (h : 1 ≤ q) W A C Z B D Y (l1 : Lie W A Z) (l2 : Lie W B Y) (g1 : Good Z q) (g2 : Good Y 1) => Hide.mk (less132 A B C D Z Y W l1 l2 g1 g2 h)
  have hq1 : r * 2 ^ o + X % 2 ^ o < q * (y % 2 ^ o) → 1 ≤ q := fun h => by
    refine Classical.byContradiction fun c => ?_
    rw [show q = 0 by omega, Int.zero_mul] at h
    omega
  have WN := Hide.mk WM.2
  have HE := Hide.mk (And.intro e1 e2)
  have HX := Hide.mk hX
  have HY := parts_zero y
  clear WM e1 e2 hX ht f1 f2 f3 f4 f5 f6 f7 f8 f9 f10 hXH0 hYH hX0 hlim c0 ho hn hup ha bx bY hTp hq hr
  generalize hYL : y % 2 ^ o = YL at *
  generalize hXL : X % 2 ^ o = XL at *
  generalize hYH : y / 2 ^ o = YH at *
  generalize hXH : X / 2 ^ o = XH at *
  go_enter Tryz.func120, Tryz.ntmps120
  go_wp2_with fail
  refine HL.out.mono ?_
  rintro e w1 ⟨rfl, B1, rfl, hB1, hB2⟩
  obtain rfl := hB1.unique HB.out
  clear HL hB1 HB
  go_wp2_with fail
  rw [HO.out]
  refine H1.out.mono ?_
  rintro e w1 ⟨z1, a1, c1, y1, b1, d1, rfl, g1, k1, l1, m1, h1⟩
  rw [HX.out] at g1 k1
  rw [hXH] at g1
  rw [hXL] at k1
  rw [hlost]
  clear H1
  go_wp2_with fail
  try rw [HO.out]
  refine (H2 _ h1).out.mono ?_
  rintro e w2 ⟨z2, a2, c2, y2, b2, d2, rfl, g2, k2, l2, m2, h2⟩
  rw [HY] at g2 k2
  rw [hYH] at g2
  rw [hYL] at k2
  replace l1 := l1.below h2 (Nat.le_refl _)
  replace m1 := m1.below h2 (Nat.le_refl _)
  replace h1 := below_then h1 h2
  clear H2 h2
  go_wp2_with fail
  refine (H3 _ _ _ _ _ _ _ l1 l2 g1 g2).out.mono ?_
  rintro e w3 ⟨z3, y3, a3, c3, b3, d3, rfl, g3, k3, l3, m3, h3⟩
  replace m1 := m1.below h3 (Nat.le_refl _)
  replace m2 := m2.below h3 (Nat.le_refl _)
  replace h1 := below_then h1 h3
  clear H3 h3 l1 l2 g1 g2
  go_wp2_with fail
  try rw [HO.out]
  refine (H4 _ _ _ _ m3 k3).out.mono ?_
  rintro e w4 ⟨z4, a4, c4, rfl, h4, _⟩
  have g4 := h4.good
  have l4 := h4.lie
  replace m1 := m1.below h4.bel (Nat.le_refl _)
  replace m2 := m2.below h4.bel (Nat.le_refl _)
  replace l3 := l3.below h4.bel (Nat.le_refl _)
  replace h1 := below_then h1 h4.bel
  clear H4 h4 m3 k3
  go_wp2_with fail
  refine (H5 _ _ _ _ _ _ _ l4 m1 g4 k1).out.mono ?_
  rintro e w5 ⟨z5, a5, c5, rfl, h5, _⟩
  have g5 := h5.good
  have l5 := h5.lie
  replace m2 := m2.below h5.bel (Nat.le_refl _)
  replace l3 := l3.below h5.bel (Nat.le_refl _)
  replace h1 := below_then h1 h5.bel
  clear H5 h5 l4 g4 m1 k1
  go_wp2_with fail
  refine (H6 _ _ _ _ _ _ _ l3 m2 g3 k2).out.mono ?_
  rintro e w6 ⟨z6, a6, c6, rfl, h6, _⟩
  have g6 := h6.good
  have l6 := h6.lie
  replace l5 := l5.below h6.bel (Nat.le_refl _)
  replace l3 := l3.below h6.bel (Nat.le_refl _)
  replace h1 := below_then h1 h6.bel
  clear H6 h6 m2 k2
  go_wp2_with fail
  by_cases hlt : r * 2 ^ o + XL < q * YL
  · have hq1' := hq1 hlt
    have E := WN.out.1 hlt
    refine (H7 (-1) (sgn_lt hlt) _ _ _ _ _ _ _ l5 l6 g5 g6).out.mono ?_
    rintro e w7 ⟨rfl, h7⟩
    replace l3 := l3.below h7 (Nat.le_refl _)
    replace h1 := below_then h1 h7
    clear H7 h7 hlt
    go_wp2_with fail
    refine (H8 _).out.mono ?_
    rintro e w8 ⟨z8, a8, c8, rfl, h8, _⟩
    have g8 := h8.good
    have l8 := h8.lie
    replace l3 := l3.below h8.bel (Nat.le_refl _)
    replace h1 := below_then h1 h8.bel
    clear h8 H8
    go_wp2_with fail
    refine (H9 hq1' _ _ _ _ _ _ _ l3 l8 g3 g8).out.mono ?_
    rintro e w9 ⟨z9, a9, c9, rfl, h9, _⟩
    have g9 := h9.good
    have l9 := h9.lie
    replace h1 := below_then h1 h9.bel
    clear h9 H9
    go_wp2
    go_ret2
    refine ⟨z9, a9, c9, ?_, by rw [HE.out.1, E.1]; exact g9, l9, h1⟩
    rw [HE.out.2, decide_eq_true E.2]; rfl
  · have E := WN.out.2 (Int.not_lt.1 hlt)
    by_cases heq : r * 2 ^ o + XL = q * YL
    · have hz : X % y = 0 := by rw [E.2]; omega
      have eg : qg x y up = lost := by rw [HE.out.2, hz]; simp
      have HG := Hide.mk (And.intro (HE.out.1.trans E.1) eg)
      refine (H7 0 (sgn_eq heq) _ _ _ _ _ _ _ l5 l6 g5 g6).out.mono ?_
      rintro e w7 ⟨rfl, h7⟩
      replace l3 := l3.below h7 (Nat.le_refl _)
      replace l5 := l5.below h7 (Nat.le_refl _)
      replace l6 := l6.below h7 (Nat.le_refl _)
      replace h1 := below_then h1 h7
      have H := (H7 0 (sgn_eq heq) _ _ c5 _ _ c6 _ l5 l6 g5 g6)
      clear H7 h7 hlt heq E hz eg
      cases lost
      · go_wp2_with fail
        refine H.out.mono ?_
        rintro e w8 ⟨rfl, h8⟩
        replace l3 := l3.below h8 (Nat.le_refl _)
        replace h1 := below_then h1 h8
        go_wp2
        go_ret2
        exact ⟨z3, a3, c3, by rw [HG.out.2]; rfl, by rw [HG.out.1]; exact g3, l3, h1⟩
      · go_wp2
        go_ret2
        exact ⟨z3, a3, c3, by rw [HG.out.2]; rfl, by rw [HG.out.1]; exact g3, l3, h1⟩
    · have hz : X % y ≠ 0 := by rw [E.2]; omega
      have eg : qg x y up = true := by rw [HE.out.2, decide_eq_true hz]; rfl
      have HG := Hide.mk (And.intro (HE.out.1.trans E.1) eg)
      have hgt : q * YL < r * 2 ^ o + XL := by omega
      refine (H7 1 (sgn_gt2 hgt) _ _ _ _ _ _ _ l5 l6 g5 g6).out.mono ?_
      rintro e w7 ⟨rfl, h7⟩
      replace l3 := l3.below h7 (Nat.le_refl _)
      replace l5 := l5.below h7 (Nat.le_refl _)
      replace l6 := l6.below h7 (Nat.le_refl _)
      replace h1 := below_then h1 h7
      have H := (H7 1 (sgn_gt2 hgt) _ _ c5 _ _ c6 _ l5 l6 g5 g6)
      clear H7 h7 hlt heq E hz eg hgt
      cases lost
      · go_wp2_with fail
        refine H.out.mono ?_
        rintro e w8 ⟨rfl, h8⟩
        replace l3 := l3.below h8 (Nat.le_refl _)
        replace h1 := below_then h1 h8
        go_wp2
        go_ret2
        exact ⟨z3, a3, c3, by rw [HG.out.2]; rfl, by rw [HG.out.1]; exact g3, l3, h1⟩
      · go_wp2
        go_ret2
        exact ⟨z3, a3, c3, by rw [HG.out.2]; rfl, by rw [HG.out.1]; exact g3, l3, h1⟩
end Go.Proofs.YtdnghibkagcbcaaGreatDoor

namespace Go.Proofs.YtdnghibkagcbcaaGreatDoor
open Go.RowKit Go.Wd Go.Box
set_option linter.unusedVariables false
set_option maxRecDepth 3000
end Go.Proofs.YtdnghibkagcbcaaGreatDoor

namespace Go.Proofs.YtdnghibkagcbcaaGreatDoor
open Go.RowKit Go.Wd Go.Box
set_option linter.unusedVariables false
set_option maxRecDepth 3000
theorem cut_ask (n : Bool) (a : Option Addr) (c : Nat) (zs : List Int) (ex bits code : Int) (w W : World) {L : List (Nat × Obj)} {g : Nat} (u : DLie w a zs) (B : Bx w ((g, DO n a zs.length c ex) :: L) W) (hc : askB bits (dmayB n zs ex) = code) :
    Calls Tryz.prog 113 #[.int .i64 bits, .slice (some ⟨g, 0, none⟩) 1 1] W fun e w' => e = .returned (.int .i64 code) ∧ Below W.heap.size W w' := by
  subst hc
  refine ask1 bits g _ W (fun W2 h2 => ?_)
  have B2 := B.keep h2
  obtain ⟨⟨s0, s1, s2⟩, _⟩ := cells3 B2 g _ _ _ _ (.head _)
  exact dallMay1 g n a c zs ex W2 (u.below B2.bel) _ rfl s0 s1 s2
theorem cut_good (n : Bool) (a : Option Addr) (c : Nat) (zs : List Int) (ex bits : Int) (w : World) (hl : Lie w a zs) (g : DG n zs ex) (hT : Tab w) (hb1 : 1 ≤ bits) (hb2 : bits ≤ 8192) {B : Nat} (hB : BitLen (Nt.val zs) B) (hB2 : B ≤ 131072) (d : Nat) (hd : max ((B : Int) - bits) 0 = (d : Int)) :
    Calls Tryz.prog 80 #[dV n a zs.length c ex, .int .i64 bits] w fun e w' => DCut w w' (sv n (Nt.val zs / 2 ^ d)) (ex + d) (decide (Nt.val zs % 2 ^ d ≠ 0) || false) e := by
  have B1 := (((Bx.nil w).push (DO n a zs.length c ex)).push (DO false none 0 0 0)).push (DO n a zs.length c ex)
  rw [show ((w.alloc (DO n a zs.length c ex)).alloc (DO false none 0 0 0)).heap.size = w.heap.size + 1 + 1 by simp, show (w.alloc (DO n a zs.length c ex)).heap.size = w.heap.size + 1 by simp] at B1
  have H := Hide.mk (cut_ask n a c zs ex bits 0 w _ (g.lie hl) B1 (by rw [g.may]; unfold askB; rw [if_neg (by simp; omega), if_neg (by omega)]))
  have HC := fun W (h : Below w.heap.size w W) => Hide.mk (cutC n a c zs ex bits false W (hl.below h (Nat.le_refl _)) g.good (hT.below h (Nat.le_refl _)) hb1 hb2 (by have := g.ex_bd; omega) (by have := g.ex_bd; omega) hB hB2 d hd)
  clear hd hB hl hT
  go_enter Tryz.func80, Tryz.ntmps80
  go_wp2_with fail
  refine H.out.mono ?_
  rintro e w2 ⟨rfl, h2⟩
  have B2 := B1.keep h2
  clear h2 B1 H
  obtain ⟨⟨s0, s1, s2⟩, _⟩ := cells3 B2 w.heap.size _ _ _ _ (.tail _ (.tail _ (.head _)))
  go_wp2_with fail
  refine (HC _ B2.bel).out.mono ?_
  rintro e w4 ⟨n4, a4, k4, c4, x4, code, lost, rfl, h4, h5, h6⟩
  have B4 := (B2.keep h4.bel).sub (L' := [(w.heap.size + 1, DO false none 0 0 0)]) (by simp)
  have hlt : w.heap.size + 1 < w2.heap.size := B2.lt (.tail _ (.head _))
  have V := Hide.mk (And.intro h4 (And.intro h5 h6))
  clear h4 h5 h6 s0 s1 s2 HC
  obtain ⟨⟨t0, t1, t2⟩, u0, u1, u2⟩ := cells3 B4 (w.heap.size + 1) _ _ _ _ (.head _)
  go_wp2
  refine bodyPost_ret (results_D3 rfl _ _ (w.heap.size + 1) _ rfl ⟨(B4.fill3 (by omega) (by simp) _ _ _).head, rfl⟩) rfl ?_
  exact ⟨n4, a4, k4, c4, x4, code, lost, rfl, V.out.1.back B2.bel (by omega) hlt _ _ _, V.out.2.1, V.out.2.2⟩
end Go.Proofs.YtdnghibkagcbcaaGreatDoor

namespace Go.Proofs.YtdnghibkagcbcaaGreatDoor
open Go.RowKit Go.Wd Go.Box
set_option linter.unusedVariables false
set_option maxRecDepth 20000
/-- Two numbers in one row. -/
abbrev DO2 (n1 : Bool) (a1 : Option Addr) (k1 c1 : Nat) (e1 : Int) (n2 : Bool) (a2 : Option Addr) (k2 c2 : Nat) (e2 : Int) : Obj := .cells #[.bool n1, .slice a1 k1 c1, .int .i64 e1, .bool n2, .slice a2 k2 c2, .int .i64 e2] 26 (0, 0)
theorem lenK (a : Option Addr) (ca : Nat) (za : List Int) (w : World) {x : Int} (ha : Lie w a za) (ga : Good za x) {B : Nat} (hB : BitLen x B) :
    Calls Tryz.prog 119 #[.slice a za.length ca] w fun e w' => e = .returned (.int .i64 B) ∧ Below w.heap.size w w' := by
  refine (lenN a ca za w ha ga).mono ?_
  rintro e w' ⟨rfl, B2, rfl, h, _⟩
  obtain rfl := h.unique hB
  exact ⟨rfl, Below.refl _ _⟩
theorem ask2 (bits : Int) (b : Nat) (m : Bool) (w : World) (HM : ∀ W, Below w.heap.size w W → Calls Tryz.prog 129 #[.slice (some ⟨b, 0, none⟩) 2 2] W fun e w' => e = .returned (.bool m) ∧ Below W.heap.size W w') :
    Calls Tryz.prog 113 #[.int .i64 bits, .slice (some ⟨b, 0, none⟩) 2 2] w fun e w' => e = .returned (.int .i64 (askB bits m)) ∧ Below w.heap.size w w' := by
  have H := Hide.mk (HM w (Below.refl _ _))
  clear HM
  by_cases h1 : bits < 1
  · rw [show askB bits m = 2 by unfold askB; rw [if_pos (.inl h1)]]
    go_enter Tryz.func113, Tryz.ntmps113
    go_wp2
    go_ret
    exact ⟨rfl, Below.refl _ _⟩
  · cases m
    · rw [show askB bits false = 2 by unfold askB; rw [if_pos (.inr rfl)]]
      go_enter Tryz.func113, Tryz.ntmps113
      go_wp2_with fail
      refine H.out.mono ?_
      rintro e w2 ⟨rfl, h2⟩
      clear H
      go_wp2
      go_ret
      exact ⟨rfl, h2⟩
    · by_cases h3 : 8192 < bits
      · rw [show askB bits true = 3 by unfold askB; rw [if_neg (by simp; omega), if_pos h3]]
        go_enter Tryz.func113, Tryz.ntmps113
        go_wp2_with fail
        refine H.out.mono ?_
        rintro e w2 ⟨rfl, h2⟩
        clear H
        go_wp2
        go_ret
        exact ⟨rfl, h2⟩
      · rw [show askB bits true = 0 by unfold askB; rw [if_neg (by simp; omega), if_neg h3]]
        go_enter Tryz.func113, Tryz.ntmps113
        go_wp2_with fail
        refine H.out.mono ?_
        rintro e w2 ⟨rfl, h2⟩
        clear H
        go_wp2
        go_ret
        exact ⟨rfl, h2⟩
theorem ask_ok {bits : Int} (h1 : 1 ≤ bits) (h2 : bits ≤ 8192) : askB bits true = 0 := by unfold askB; rw [if_neg (by simp; omega), if_neg (by omega)]
theorem quo_ask (n1 n2 : Bool) (a1 a2 : Option Addr) (c1 c2 : Nat) (z1 z2 : List Int) (e1 e2 bits code : Int) (w W : World) {L : List (Nat × Obj)} {g : Nat} (u1 : DLie w a1 z1) (u2 : DLie w a2 z2) (B : Bx w ((g, DO2 n1 a1 z1.length c1 e1 n2 a2 z2.length c2 e2) :: L) W) (hc : askB bits (dmayB n1 z1 e1 && dmayB n2 z2 e2) = code) :
    Calls Tryz.prog 113 #[.int .i64 bits, .slice (some ⟨g, 0, none⟩) 2 2] W fun e w' => e = .returned (.int .i64 code) ∧ Below W.heap.size W w' := by
  subst hc
  refine ask2 bits g _ W (fun W2 h2 => ?_)
  have B2 := B.keep h2
  exact dallMay2 g n1 a1 c1 z1 e1 n2 a2 c2 z2 e2 W2 (u1.below B2.bel) (u2.below B2.bel) _ _ rfl rfl (B2.cell g _ _ (.head _) 0) (B2.cell g _ _ (.head _) 1) (B2.cell g _ _ (.head _) 2) (B2.cell g _ _ (.head _) 3) (B2.cell g _ _ (.head _) 4) (B2.cell g _ _ (.head _) 5)
theorem quo_boxes (n1 n2 : Bool) (a1 a2 : Option Addr) (c1 c2 k1 k2 : Nat) (e1 e2 : Int) (w : World) :
    Bx w [(w.heap.size + 1 + 1 + 1, DO2 n1 a1 k1 c1 e1 n2 a2 k2 c2 e2), (w.heap.size + 1 + 1, DO false none 0 0 0), (w.heap.size + 1, DO n2 a2 k2 c2 e2), (w.heap.size, DO n1 a1 k1 c1 e1)] ((((w.alloc (DO n1 a1 k1 c1 e1)).alloc (DO n2 a2 k2 c2 e2)).alloc (DO false none 0 0 0)).alloc (DO2 n1 a1 k1 c1 e1 n2 a2 k2 c2 e2)) := by
  have B1 := ((((Bx.nil w).push (DO n1 a1 k1 c1 e1)).push (DO n2 a2 k2 c2 e2)).push (DO false none 0 0 0)).push (DO2 n1 a1 k1 c1 e1 n2 a2 k2 c2 e2)
  rw [show (((w.alloc (DO n1 a1 k1 c1 e1)).alloc (DO n2 a2 k2 c2 e2)).alloc (DO false none 0 0 0)).heap.size = w.heap.size + 1 + 1 + 1 by simp, show ((w.alloc (DO n1 a1 k1 c1 e1)).alloc (DO n2 a2 k2 c2 e2)).heap.size = w.heap.size + 1 + 1 by simp, show (w.alloc (DO n1 a1 k1 c1 e1)).heap.size = w.heap.size + 1 by simp] at B1
  exact B1
theorem g_size {n : Bool} {z : List Int} {ex : Int} (g : DG n z ex) {L : Nat} (b : Bits (Nt.val z) L) : L ≤ 131072 := by
  have := b.fits (n := 0) (by rw [Int.pow_zero, Int.mul_one]; exact g.good.lt.2)
  omega
theorem qf_nn {x y : Int} (hx : 0 ≤ x) (hy : 0 < y) (i : Int) : 0 ≤ qf x y i := Int.ediv_nonneg (Int.mul_nonneg hx (Int.le_of_lt (p2pos _))) (Int.mul_nonneg (by omega) (Int.le_of_lt (p2pos _)))
end Go.Proofs.YtdnghibkagcbcaaGreatDoor

namespace Go.Proofs.YtdnghibkagcbcaaGreatDoor
open Go.RowKit Go.Wd Go.Box
set_option linter.unusedVariables false
set_option maxRecDepth 20000
set_option maxHeartbeats 4000000 in
theorem quo_good (n1 n2 : Bool) (a1 a2 : Option Addr) (c1 c2 : Nat) (z1 z2 : List Int) (e1 e2 bits : Int) (w : World) (l1 : Lie w a1 z1) (l2 : Lie w a2 z2) (g1 : DG n1 z1 e1) (g2 : DG n2 z2 e2) (hT : Tab w) (hb1 : 1 ≤ bits) (hb2 : bits ≤ 8192) (hz1 : 0 < z1.length) (hz2 : 0 < z2.length) {La Lb : Nat} (bx : Bits (Nt.val z1) La) (bY : Bits (Nt.val z2) Lb) (up : Int) (hup : bits + Lb - La = up) {B : Nat} (hB : BitLen (qf (Nt.val z1) (Nt.val z2) up) B) (hB2 : B ≤ 131072) (d : Nat) (hd : max ((B : Int) - bits) 0 = (d : Int)) :
    Calls Tryz.prog 95 #[dV n1 a1 z1.length c1 e1, dV n2 a2 z2.length c2 e2, .int .i64 bits] w fun e w' => DCut w w' (sv (n1 != n2) (qf (Nt.val z1) (Nt.val z2) up / 2 ^ d)) (e1 - e2 - up + d) (decide (qf (Nt.val z1) (Nt.val z2) up % 2 ^ d ≠ 0) || qg (Nt.val z1) (Nt.val z2) up) e := by
  have B1 := quo_boxes n1 n2 a1 a2 c1 c2 z1.length z2.length e1 e2 w
  have H := Hide.mk (quo_ask n1 n2 a1 a2 c1 c2 z1 z2 e1 e2 bits 0 w _ (g1.lie l1) (g2.lie l2) B1 (by rw [g1.may, g2.may]; exact ask_ok hb1 hb2))
  have HN := fun W => Hide.mk (nought_no a2 z2.length c2 W hz2)
  have HM := fun W => Hide.mk (nought_no a1 z1.length c1 W hz1)
  have p1 := g1.pos hz1
  have p2 := g2.pos hz2
  have s1 := g_size g1 bx
  have s2 := g_size g2 bY
  have x1 := g1.ex_bd
  have x2 := g2.ex_bd
  have HLb := fun W (h : Below w.heap.size w W) => lenK a2 c2 z2 W (l2.below h (Nat.le_refl _)) g2.good (B := Lb) (.inr ⟨p2, bY⟩)
  have HLa := fun W (h : Below w.heap.size w W) => lenK a1 c1 z1 W (l1.below h (Nat.le_refl _)) g1.good (B := La) (.inr ⟨p1, bx⟩)
  have HW := fun W (h : Below w.heap.size w W) => Hide.mk (wholeQuoC a1 a2 c1 c2 z1 z2 W (l1.below h (Nat.le_refl _)) (l2.below h (Nat.le_refl _)) g1.good g2.good (hT.below h (Nat.le_refl _)) p1 p2 bx bY s1 s2 bits hb1 hb2 up hup.symm)
  have HC := fun (zq : List Int) (aq : Option Addr) (cq : Nat) W (h : Below w.heap.size w W) (lq : Lie W aq zq) (gq : Good zq (qf (Nt.val z1) (Nt.val z2) up)) => Hide.mk (cutC (n1 != n2) aq cq zq (e1 - e2 - up) bits (qg (Nt.val z1) (Nt.val z2) up) W lq gq (hT.below h (Nat.le_refl _)) hb1 hb2 (by omega) (by omega) hB hB2 d hd)
  have HU := Hide.mk hup
  have u1 : -200000 ≤ up := by omega
  have u2 : up ≤ 200000 := by omega
  have v1 : -200000 ≤ bits + (Lb : Int) := by omega
  have v2 : bits + (Lb : Int) ≤ 200000 := by omega
  have y1 := x1.1
  have y2 := x1.2
  have y3 := x2.1
  have y4 := x2.2
  clear l1 l2 hz1 hz2 hB hd hup x1 x2 hT
  generalize hQ : qf (Nt.val z1) (Nt.val z2) up = Q at *
  generalize hG : qg (Nt.val z1) (Nt.val z2) up = G at *
  go_enter Tryz.func95, Tryz.ntmps95
  go_wp2_with fail
  refine H.out.mono ?_
  rintro e w2 ⟨rfl, h2⟩
  have HF := (B1.keep h2).sub (L' := [(w.heap.size + 1 + 1, DO false none 0 0 0), (w.heap.size + 1, DO n2 a2 z2.length c2 e2), (w.heap.size, DO n1 a1 z1.length c1 e1)]) (by simp)
  clear h2 B1 H
  obtain ⟨⟨s0, s1, s2⟩, _⟩ := cells3 HF (w.heap.size + 1) _ _ _ _ (.tail _ (.head _))
  obtain ⟨⟨q0, q1, q2⟩, _⟩ := cells3 HF (w.heap.size) _ _ _ _ (.tail _ (.tail _ (.head _)))
  go_wp2_with fail
  refine (HN _).out.mono ?_
  rintro e w3 ⟨rfl, rfl⟩
  clear HN s0 s1 s2
  go_wp2_with fail
  refine (HM _).out.mono ?_
  rintro e w3 ⟨rfl, rfl⟩
  clear HM q0 q1 q2
  go_wp2_with fail
  replace HF := HF.drew
  have HI := HF
  have sh := fun W (hW : Bx w [(w.heap.size + 1 + 1, DO false none 0 0 0), (w.heap.size + 1, DO n2 a2 z2.length c2 e2), (w.heap.size, DO n1 a1 z1.length c1 e1)] W) => And.intro (cells3 hW (w.heap.size + 1) _ _ _ _ (.tail _ (.head _))).1 (cells3 hW w.heap.size _ _ _ _ (.tail _ (.tail _ (.head _)))).1
  refine Drawn.enter (Bx w [(w.heap.size + 1 + 1, DO false none 0 0 0), (w.heap.size + 1, DO n2 a2 z2.length c2 e2), (w.heap.size, DO n1 a1 z1.length c1 e1)]) (by kernel_rfl) ?_
  refine Drawn.tk (i := 0) (v := ?v260) rfl (fun W hW => ?_) HI ?_
  rotate_left
  · have ⟨⟨s0, s1, s2⟩, q0, q3, q4⟩ := sh W hW
    go_simp <;> exact rfl
  refine Drawn.tk (i := 1) (v := ?v261) rfl (fun W hW => ?_) HI ?_
  rotate_left
  · have ⟨⟨s0, s1, s2⟩, q0, q3, q4⟩ := sh W hW
    go_simp <;> exact rfl
  refine Drawn.tk (i := 2) (v := ?v262) rfl (fun W hW => ?_) HI ?_
  rotate_left
  · have ⟨⟨s0, s1, s2⟩, q0, q3, q4⟩ := sh W hW
    go_simp <;> exact rfl
  refine Drawn.tk (i := 5) (v := ?v263) rfl (fun W hW => ?_) HI ?_
  rotate_left
  · have ⟨⟨s0, s1, s2⟩, q0, q3, q4⟩ := sh W hW
    go_simp <;> exact rfl
  refine Drawn.tk (i := 6) (v := ?v264) rfl (fun W hW => ?_) HI ?_
  rotate_left
  · have ⟨⟨s0, s1, s2⟩, q0, q3, q4⟩ := sh W hW
    go_simp <;> exact rfl
  refine Drawn.one (j := 3) (by kernel_rfl) rfl (fun K hK => ?_)
  go_simp
  refine (HLb _ HI.bel).mono ?_
  rintro e wn ⟨rfl, hn⟩
  refine hK _ _ (HI.keep hn) ?_
  clear hK K
  replace HI := HI.keep hn
  replace HF := HF.keep hn
  clear hn
  refine Drawn.tk (i := 4) (v := ?v265) rfl (fun W hW => ?_) HI ?_
  rotate_left
  · have ⟨⟨s0, s1, s2⟩, q0, q3, q4⟩ := sh W hW
    go_simp <;> exact rfl
  refine Drawn.one (j := 7) (by kernel_rfl) rfl (fun K hK => ?_)
  go_simp
  refine (HLa _ HI.bel).mono ?_
  rintro e wn ⟨rfl, hn⟩
  refine hK _ _ (HI.keep hn) ?_
  clear hK K
  replace HI := HI.keep hn
  replace HF := HF.keep hn
  clear hn
  refine Drawn.tk (i := 8) (v := ?v266) rfl (fun W hW => ?_) HI ?_
  rotate_left
  · have ⟨⟨s0, s1, s2⟩, q0, q3, q4⟩ := sh W hW
    go_simp <;> exact rfl
  refine Drawn.tk (i := 9) (v := ?v267) rfl (fun W hW => ?_) HI ?_
  rotate_left
  · have ⟨⟨s0, s1, s2⟩, q0, q3, q4⟩ := sh W hW
    go_simp <;> exact rfl
  refine Drawn.done (by kernel_rfl) ?_
  try go_simp
  obtain ⟨⟨s0, s1, s2⟩, _⟩ := cells3 HF (w.heap.size + 1) _ _ _ _ (.tail _ (.head _))
  obtain ⟨⟨q0, q1, q2⟩, _⟩ := cells3 HF (w.heap.size) _ _ _ _ (.tail _ (.tail _ (.head _)))
  go_wp2_with fail
  rw [HU.out]
  refine (HW _ HF.bel).out.mono ?_
  rintro e w5 ⟨zq, aq, cq, rfl, gq, lq, h5⟩
  replace HF := HF.keep h5
  have HC2 := HC zq aq cq _ HF.bel lq gq
  clear HC HW h5 s0 s1 s2 q0 q1 q2
  obtain ⟨⟨s0, s1, s2⟩, _⟩ := cells3 HF (w.heap.size + 1) _ _ _ _ (.tail _ (.head _))
  obtain ⟨⟨q0, q1, q2⟩, _⟩ := cells3 HF (w.heap.size) _ _ _ _ (.tail _ (.tail _ (.head _)))
  go_wp2_with fail
  rw [HU.out, show (!n1 == n2) = (n1 != n2) from rfl]
  refine HC2.out.mono ?_
  rintro e w4 ⟨n4, a4, k4, c4, x4, code, lost, rfl, h4, h5, h6⟩
  have hlt : w.heap.size + 1 + 1 < w5.heap.size := HF.lt (p := (w.heap.size + 1 + 1, DO false none 0 0 0)) (.head _)
  have HFb := HF.bel
  have B4 := (HF.keep h4.bel).sub (L' := [(w.heap.size + 1 + 1, DO false none 0 0 0)]) (by simp)
  have V := Hide.mk (And.intro h4 (And.intro h5 h6))
  clear h4 h5 h6 s0 s1 s2 q0 q1 q2 HC2 HF
  obtain ⟨⟨t0, t1, t2⟩, u0, u1, u2⟩ := cells3 B4 (w.heap.size + 1 + 1) _ _ _ _ (.head _)
  go_wp2
  refine bodyPost_ret (results_D3 rfl _ _ (w.heap.size + 1 + 1) _ rfl ⟨(B4.fill3 (by omega) (by simp) _ _ _).head, rfl⟩) rfl ?_
  exact ⟨n4, a4, k4, c4, x4, code, lost, rfl, V.out.1.back HFb (by omega) hlt _ _ _, V.out.2.1, V.out.2.2⟩
end Go.Proofs.YtdnghibkagcbcaaGreatDoor

namespace Go.Proofs.YtdnghibkagcbcaaGreatDoor
open Go.RowKit Go.Wd Go.Box
set_option linter.unusedVariables false
set_option maxRecDepth 3000
/-- The reference's Cut. -/
def RCut (w w' : World) (s E : Int) (q : Bool) (e : Ending) : Prop :=
  ∃ n zs ex a c, e = .returned (.tuple #[dV n a zs.length c ex, .bool q]) ∧ Fm s E n zs ex ∧ Lie w' a zs ∧ Below w.heap.size w w'
end Go.Proofs.YtdnghibkagcbcaaGreatDoor

namespace Go.Proofs.YtdnghibkagcbcaaGreatDoor
open Go.RowKit Go.Wd Go.Box
set_option linter.unusedVariables false
set_option maxRecDepth 3000
/-- An answer that is a number, with its memory. -/
theorem DV.num {w w' : World} {s E : Int} {n : Bool} {a : Option Addr} {k c : Nat} {ex code : Int} (h : DV w w' s E n a k c ex code) (hs : (s.natAbs : Int) < 4294967296 ^ 4096) (hr : s = 0 ∨ ∃ t : Nat, LowBit (s.natAbs : Int) t ∧ -16777216 ≤ E + t ∧ E + t ≤ 16777216) :
    code = 0 ∧ ∃ zs : List Int, k = zs.length ∧ zs.length ≤ 4096 ∧ Fm s E n zs ex ∧ Lie w' a zs ∧ WrA w.heap.size w' a zs.length := by
  rcases h.all with ⟨h0, rfl, rfl, rfl, rfl, rfl, rfl⟩ | ⟨h0, t, ht, hh⟩
  · exact ⟨rfl, [], rfl, by simp, .inl ⟨h0, rfl, rfl, rfl⟩, .inl rfl, .inl rfl⟩
  · rcases hr with hr | ⟨r, hr, r1, r2⟩
    · exact absurd hr h0
    · obtain rfl := ht.unique hr
      rcases hh with ⟨j1, j2, rfl, rfl, rfl, zs, rfl, j6, j7⟩ | ⟨j1, _⟩ | ⟨_, j1, _⟩
      · obtain ⟨a2, c2, he, _, _, hl2⟩ := j7.lie
        simp only [Value.slice.injEq, true_and] at he
        obtain ⟨rfl, rfl⟩ := he
        exact ⟨rfl, zs, rfl, j6.len, .inr ⟨h0, t, ht, rfl, rfl, j6.can, j6.val⟩, hl2, j7.wrA⟩
      · have : (s.natAbs : Int) / 2 ^ t ≤ (s.natAbs : Int) := Int.ediv_le_self _ (by omega)
        exact absurd (Int.lt_of_le_of_lt this hs) (Int.not_lt.2 j1)
      · omega
theorem DV.out {w w' : World} {s E : Int} {n : Bool} {a : Option Addr} {k c : Nat} {ex code : Int} (h : DV w w' s E n a k c ex code) (hs : (s.natAbs : Int) < 4294967296 ^ 4096) (h0 : s ≠ 0) {t : Nat} (ht : LowBit (s.natAbs : Int) t) (hr : E + t < -16777216 ∨ 16777216 < E + t) :
    n = false ∧ a = none ∧ k = 0 ∧ c = 0 ∧ ex = 0 ∧ code = 20 := by
  rcases h.all with ⟨q, _⟩ | ⟨_, r, hr2, hh⟩
  · exact absurd q h0
  · obtain rfl := ht.unique hr2
    rcases hh with ⟨j1, j2, _⟩ | ⟨j1, _⟩ | ⟨_, _, j⟩
    · omega
    · have : (s.natAbs : Int) / 2 ^ t ≤ (s.natAbs : Int) := Int.ediv_le_self _ (by omega)
      exact absurd (Int.lt_of_le_of_lt this hs) (Int.not_lt.2 j1)
    · exact j
theorem sv_lt {n : Bool} {zs : List Int} {ex : Int} (g : DG n zs ex) (d : Nat) : ((sv n (Nt.val zs / 2 ^ d)).natAbs : Int) < 4294967296 ^ 4096 := by
  have h1 := g.good.lt
  have h2 : Nt.val zs / 2 ^ d ≤ Nt.val zs := Int.ediv_le_self _ h1.1
  have h3 := Int.ediv_nonneg h1.1 (Int.le_of_lt (p2pos d))
  rw [sv_abs _ h3]
  exact Int.lt_of_le_of_lt h2 h1.2
/-- The exponent of what is shifted. -/
def shx (zs : List Int) (ex cnt : Int) : Int := if zs.length = 0 then 0 else ex + cnt
theorem cut_near (n : Bool) (a : Option Addr) (c : Nat) (zs : List Int) (ex bits : Int) (w : World) (hl : Lie w a zs) (g : DG n zs ex) (hT : Tab w) (hb1 : 1 ≤ bits) (hb2 : bits ≤ 8192) {B : Nat} (hB : BitLen (Nt.val zs) B) (hB2 : B ≤ 131072) (d : Nat) (hd : max ((B : Int) - bits) 0 = (d : Int)) (q : Bool) (hq : decide (Nt.val zs % 2 ^ d ≠ 0) = q) {s : Int} (hs : sv n (Nt.val zs / 2 ^ d) = s) (hr : s = 0 ∨ ∃ t : Nat, LowBit (s.natAbs : Int) t ∧ ex + d + t ≤ 16777216) :
    Calls Tryz.prog 80 #[dV n a zs.length c ex, .int .i64 bits] w fun e w' => ∃ n' z' x' a' c', e = .returned (.tuple #[dV n' a' z'.length c' x', .bool q, .int .i64 0]) ∧ Fm s (ex + d) n' z' x' ∧ z'.length ≤ 4096 ∧ Lie w' a' z' ∧ WrA w.heap.size w' a' z'.length ∧ Below w.heap.size w w' := by
  refine (cut_good n a c zs ex bits w hl g hT hb1 hb2 hB hB2 d hd).mono ?_
  rintro e w' ⟨n4, a4, k4, c4, x4, code, lost, rfl, h4, h5, h6⟩
  rw [hs] at h4
  have hx := g.ex_bd
  obtain ⟨rfl, z2, rfl, h7, F, l2, w2⟩ := h4.num (by rw [← hs]; exact sv_lt g d) (by
    rcases hr with hr | ⟨t, ht, hr⟩
    · exact .inl hr
    · exact .inr ⟨t, ht, by omega, hr⟩)
  obtain rfl := h5 rfl
  rw [hq, Bool.or_false]
  exact ⟨n4, z2, x4, a4, c4, rfl, F, h7, l2, w2, h4.bel⟩
theorem Fm.rng {s E : Int} {n : Bool} {zs : List Int} {ex : Int} (F : Fm s E n zs ex) : Nt.Rng zs := by
  rcases F with ⟨_, _, rfl, _⟩ | ⟨_, _, _, _, _, hc, _⟩
  · exact Nt.can_nil.1
  · exact hc.1
end Go.Proofs.YtdnghibkagcbcaaGreatDoor

namespace Go.Proofs.YtdnghibkagcbcaaGreatDoor
open Go.RowKit Go.Wd Go.Box
set_option linter.unusedVariables false
set_option maxRecDepth 20000
end Go.Proofs.YtdnghibkagcbcaaGreatDoor

namespace Go.Proofs.YtdnghibkagcbcaaGreatDoor
open Go.RowKit Go.Wd Go.Box
set_option linter.unusedVariables false
set_option maxRecDepth 20000
end Go.Proofs.YtdnghibkagcbcaaGreatDoor

namespace Go.Proofs.YtdnghibkagcbcaaGreatDoor
open Go.RowKit Go.Wd Go.Box
set_option linter.unusedVariables false
set_option maxRecDepth 20000
end Go.Proofs.YtdnghibkagcbcaaGreatDoor

namespace Go.Proofs.YtdnghibkagcbcaaGreatDoor
open Go.RowKit Go.Wd Go.Box
set_option linter.unusedVariables false
set_option maxRecDepth 20000
end Go.Proofs.YtdnghibkagcbcaaGreatDoor

namespace Go.Proofs.YtdnghibkagcbcaaGreatDoor
open Go.RowKit Go.Wd Go.Box
set_option linter.unusedVariables false
set_option maxRecDepth 20000
end Go.Proofs.YtdnghibkagcbcaaGreatDoor

namespace Go.Proofs.YtdnghibkagcbcaaGreatDoor
open Go.RowKit Go.Wd Go.Box
set_option linter.unusedVariables false
set_option maxRecDepth 20000
end Go.Proofs.YtdnghibkagcbcaaGreatDoor

namespace Go.Proofs.YtdnghibkagcbcaaGreatDoor
open Go.RowKit Go.Wd Go.Box
set_option linter.unusedVariables false
set_option maxRecDepth 20000
end Go.Proofs.YtdnghibkagcbcaaGreatDoor

namespace Go.Proofs.YtdnghibkagcbcaaGreatDoor
open Go.RowKit Go.Wd Go.Box
set_option linter.unusedVariables false
set_option maxRecDepth 20000
end Go.Proofs.YtdnghibkagcbcaaGreatDoor

namespace Go.Proofs.YtdnghibkagcbcaaGreatDoor
open Go.RowKit Go.Wd Go.Box
set_option linter.unusedVariables false
set_option maxRecDepth 20000
end Go.Proofs.YtdnghibkagcbcaaGreatDoor

namespace Go.Proofs.YtdnghibkagcbcaaGreatDoor
open Go.RowKit Go.Wd Go.Box
set_option linter.unusedVariables false
set_option maxRecDepth 20000
/-- The quotient of two numbers, cut to b bits. -/
structure QAt (x y : Int) (b : Nat) (i : Int) : Prop where
  bits : BitLen (qf x y i) b
theorem q_prog {x y : Int} {La Lb : Nat} (bx : Bits x La) (bY : Bits y Lb) (hx : 0 < x) (hy : 0 < y) (b : Nat) (hb : 1 ≤ b) (i : Int) (hi : (b : Int) + Lb - La ≤ i) {B : Nat} (hB : BitLen (qf x y i) B) : b ≤ B := by
  obtain ⟨k, rfl⟩ : ∃ k, b = k + 1 := ⟨b - 1, by omega⟩
  exact bl_ge hB (qf_ge bx bY hy k i (by omega))
theorem q_idx {x y i j : Int} (hy : 0 < y) {b : Nat} (hb : 0 < b) (h : BitLen (qf x y i) b) (k : BitLen (qf x y j) b) : i = j := (qFam x y hy).idx (⟨rfl, rfl⟩ : _ ∧ _) (⟨rfl, rfl⟩ : _ ∧ _) h k hb
theorem quoT (n1 n2 : Bool) (a1 a2 : Option Addr) (c1 c2 : Nat) (z1 z2 : List Int) (e1 e2 : Int) (w : World) (l1 : Lie w a1 z1) (l2 : Lie w a2 z2) (g1 : DG n1 z1 e1) (g2 : DG n2 z2 e2) (hT : Tab w) (bits : Int) (b : Nat) (hbb : bits = (b : Int)) (hb1 : 1 ≤ bits) (hb2 : bits ≤ 8192) (hz1 : 0 < z1.length) (hz2 : 0 < z2.length) {i : Int} (hi : BitLen (qf (Nt.val z1) (Nt.val z2) i) b) :
    Calls Tryz.prog 95 #[dV n1 a1 z1.length c1 e1, dV n2 a2 z2.length c2 e2, .int .i64 bits] w fun e w' => DCut w w' (sv (n1 != n2) (qf (Nt.val z1) (Nt.val z2) i)) (e1 - e2 - i) (qg (Nt.val z1) (Nt.val z2) i) e := by
  have p1 := g1.pos hz1
  have p2 := g2.pos hz2
  obtain ⟨La, hLa⟩ := bitLen_ex (Int.le_of_lt p1)
  obtain ⟨Lb, hLb⟩ := bitLen_ex (Int.le_of_lt p2)
  have bx : Bits (Nt.val z1) La := by rcases hLa with ⟨h, _⟩ | ⟨_, h⟩; omega; exact h
  have bY : Bits (Nt.val z2) Lb := by rcases hLb with ⟨h, _⟩ | ⟨_, h⟩; omega; exact h
  have s1 := g_size g1 bx
  have s2 := g_size g2 bY
  obtain ⟨B, hB⟩ := bitLen_ex (qf_nn (Int.le_of_lt p1) p2 (bits + Lb - La))
  have h1 := q_prog bx bY p1 p2 b (by omega) _ (by omega) hB
  have h2 : B ≤ b + 1 := bl_le hB (qf_lt bx bY p2 (b + 1) _ (by omega))
  have hd := hB.down (B - b)
  rw [← qf_down _ _ p2, show B - (B - b) = b by omega] at hd
  have e := q_idx p2 (by omega) hd hi
  have := quo_good n1 n2 a1 a2 c1 c2 z1 z2 e1 e2 bits w l1 l2 g1 g2 hT hb1 hb2 hz1 hz2 bx bY _ rfl hB (by omega) (B - b) (by omega)
  rw [← qf_down _ _ p2, ← qg_down _ _ p2, e, show e1 - e2 - (bits + Lb - La) + ((B - b : Nat) : Int) = e1 - e2 - i by omega] at this
  exact this
/-- The root of a number, cut to b bits. -/
structure RAt (x e : Int) (b : Nat) (i r : Int) (g : Bool) : Prop where
  rt : RtAt x e i r g
  bits : BitLen r b
/-- An answer that is cut: a number, or out of range. -/
theorem dcut_num {w w' : World} {s E : Int} {q : Bool} {e : Ending} (h : DCut w w' s E q e) (hs : (s.natAbs : Int) < 4294967296 ^ 4096) (hr : s = 0 ∨ ∃ t : Nat, LowBit (s.natAbs : Int) t ∧ -16777216 ≤ E + t ∧ E + t ≤ 16777216) :
    ∃ n' z' x' a' c', e = .returned (.tuple #[dV n' a' (List.length z') c' x', .bool q, .int .i64 0]) ∧ Fm s E n' z' x' ∧ z'.length ≤ 4096 ∧ Lie w' a' z' ∧ WrA w.heap.size w' a' z'.length ∧ Below w.heap.size w w' := by
  obtain ⟨n4, a4, k4, c4, x4, code, lost, rfl, h4, h5, h6⟩ := h
  obtain ⟨rfl, z2, rfl, h7, F, l2, w2⟩ := h4.num hs hr
  obtain rfl := h5 rfl
  exact ⟨n4, z2, x4, a4, c4, rfl, F, h7, l2, w2, h4.bel⟩
end Go.Proofs.YtdnghibkagcbcaaGreatDoor

namespace Go.Proofs.YtdnghibkagcbcaaGreatDoor
set_option linter.unusedVariables false
/-- A number between two multiples of a unit: h counts half units, g tells whether there is more. -/
structure Place (h : Int) (g : Bool) : Prop where
  nn : 0 ≤ h
theorem half_split (x : Int) (out : Nat) (h1 : 1 ≤ out) : x / 2 ^ out = x / 2 ^ (out - 1) / 2 ∧ x % 2 ^ out = 2 ^ (out - 1) * (x / 2 ^ (out - 1) % 2) + x % 2 ^ (out - 1) := by
  have e : (2 : Int) ^ out = 2 ^ (out - 1) * 2 ^ 1 := by rw [← Int.pow_add]; congr 1; omega
  refine ⟨?_, ?_⟩
  · rw [e, cut_div (p2pos _), Int.pow_succ, Int.pow_zero, Int.one_mul]
  · rw [e, mod_split (p2pos _), Int.pow_succ, Int.pow_zero, Int.one_mul]
/-- What goes out at the lower end, moved to the upper end. -/
theorem out_math (x : Int) (h0 : 0 ≤ x) (out : Nat) (h1 : 1 ≤ out) (h2 : out ≤ 64) {h r : Int} (hh : x / 2 ^ (out - 1) = h) (hr : x % 2 ^ (out - 1) = r) :
    x / 2 ^ out = h / 2 ∧ x * 2 ^ (64 - out) % 2 ^ 64 = (2 ^ (out - 1) * (h % 2) + r) * 2 ^ (64 - out) ∧ (x * 2 ^ (64 - out) % 2 ^ 64 = 0 ↔ h % 2 = 0 ∧ r = 0) ∧ (x * 2 ^ (64 - out) % 2 ^ 64 < 2 ^ 63 ↔ h % 2 = 0) ∧ (x * 2 ^ (64 - out) % 2 ^ 64 = 2 ^ 63 ↔ h % 2 = 1 ∧ r = 0) := by
  obtain ⟨s1, s2⟩ := half_split x out h1
  rw [hh] at s1
  rw [hh, hr] at s2
  have hp := p2pos (out - 1)
  have hq := p2pos (64 - out)
  have r0 := Int.emod_nonneg x (show (2 : Int) ^ (out - 1) ≠ 0 by omega)
  have r1 := Int.emod_lt_of_pos x hp
  rw [hr] at r0 r1
  have e64 : (2 : Int) ^ 64 = 2 ^ out * 2 ^ (64 - out) := by rw [← Int.pow_add]; congr 1; omega
  have e63 : (2 : Int) ^ 63 = 2 ^ (out - 1) * 2 ^ (64 - out) := by rw [← Int.pow_add]; congr 1; omega
  have key : x * 2 ^ (64 - out) % 2 ^ 64 = (2 ^ (out - 1) * (h % 2) + r) * 2 ^ (64 - out) := by
    rw [e64, Int.mul_comm x, Int.mul_comm (2 ^ out), Int.mul_emod_mul_of_pos _ _ hq, s2, Int.mul_comm]
  have hm : h % 2 = 0 ∨ h % 2 = 1 := by omega
  refine ⟨s1, key, ?_, ?_, ?_⟩
  · rw [key]
    rcases hm with hm | hm
    · rw [hm, Int.mul_zero, Int.zero_add]
      refine ⟨fun c => ⟨rfl, ?_⟩, fun c => by rw [c.2, Int.zero_mul]⟩
      rcases Int.mul_eq_zero.1 c with c | c <;> omega
    · rw [hm, Int.mul_one]
      refine ⟨fun c => ?_, fun c => absurd c.1 (by decide)⟩
      rcases Int.mul_eq_zero.1 c with c | c <;> omega
  · rw [key, e63]
    rcases hm with hm | hm
    · rw [hm, Int.mul_zero, Int.zero_add]
      exact ⟨fun _ => rfl, fun _ => Int.mul_lt_mul_of_pos_right r1 hq⟩
    · rw [hm, Int.mul_one]
      refine ⟨fun c => ?_, fun c => absurd c (by decide)⟩
      have := Int.lt_of_mul_lt_mul_right c (by omega)
      omega
  · rw [key, e63]
    rcases hm with hm | hm
    · rw [hm, Int.mul_zero, Int.zero_add]
      refine ⟨fun c => ?_, fun c => absurd c.1 (by decide)⟩
      have := Int.eq_of_mul_eq_mul_right (show (2 : Int) ^ (64 - out) ≠ 0 by omega) c
      omega
    · rw [hm, Int.mul_one]
      refine ⟨fun c => ⟨rfl, ?_⟩, fun c => by rw [c.2, Int.add_zero]⟩
      have := Int.eq_of_mul_eq_mul_right (show (2 : Int) ^ (64 - out) ≠ 0 by omega) c
      omega
/-- A number as rounding sees it: its highest 64 bits, and whether there is more. -/
structure SeenAt (P : Int → Int → Bool → Prop) (E top high : Int) (more : Bool) : Prop where
  at64 : P (E - (top - 64)) high more
  ge : 2 ^ 63 ≤ high
  lt : high < 2 ^ 64
end Go.Proofs.YtdnghibkagcbcaaGreatDoor
