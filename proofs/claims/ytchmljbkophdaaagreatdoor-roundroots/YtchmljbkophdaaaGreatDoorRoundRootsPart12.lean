import Derived.Test.YtchmljbkophdaaaGreatDoorRoundRootsPart11
namespace Go.Proofs.YtchmljbkophdaaaGreatDoor
open Go.RowKit Go.Wd Go.Box
set_option linter.unusedVariables false
set_option maxRecDepth 3000
theorem fmG {n : Bool} {zs : List Int} {ex : Int} (g : DG n zs ex) : Fm (sv n (Nt.val zs)) ex n zs ex := by
  by_cases hz : 0 < zs.length
  · have hp := g.pos hz
    refine .inr ⟨fun c => by rw [sv_zero] at c; omega, 0, ?_, ?_, by omega, g.can, ?_⟩
    · rw [sv_abs _ (by omega)]; exact odd_low (g.odd hz)
    · rw [sv_neg _ hp]
    · rw [sv_abs _ (by omega)]; simp
  · obtain ⟨rfl, rfl, rfl⟩ := g.nil (by omega)
    exact .inl ⟨rfl, rfl, rfl, rfl⟩
/-- The reference's Cut. -/
def RCut (w w' : World) (s E : Int) (q : Bool) (e : Ending) : Prop :=
  ∃ n zs ex a c, e = .returned (.tuple #[dV n a zs.length c ex, .bool q]) ∧ Fm s E n zs ex ∧ Lie w' a zs ∧ Below w.heap.size w w'
/-- The reference's Floor. -/
theorem rFloor0 (n : Bool) (a : Option Addr) (c : Nat) (zs : List Int) (ex : Int) (w : World) (hl : Lie w a zs) (g : DG n zs ex) (h0 : 0 ≤ ex) :
    Calls Tryz.prog 91 #[dV n a zs.length c ex] w fun e w' => RF w w' (dv n zs ex / 2 ^ KK * 2 ^ KK) (-(KK : Int)) e := by
  have B1 := ((Bx.nil w).push (DO n a zs.length c ex)).push (DO n a zs.length c ex)
  go_enter Tryz.func91, Tryz.ntmps91
  go_wp2
  refine bodyPost_ret (results_D1 rfl _ _ (w.heap.size + 1) _ rfl ⟨by simpa using B1.head, rfl⟩) rfl ?_
  exact ⟨n, zs, ex, a, c, rfl, by rw [floor_whole h0]; exact (⟨g, rfl⟩ : DN n zs ex (dv n zs ex)).fm, hl.below B1.bel (Nat.le_refl _), B1.bel⟩
set_option maxHeartbeats 2000000 in
theorem rFloorP (a : Option Addr) (c : Nat) (zs : List Int) (ex : Int) (w : World) (hl : Lie w a zs) (g : DG false zs ex) (k : Nat) (hk : -ex = (k : Int)) (hk1 : 1 ≤ k) (hx : ex < 0) (hx1 : -16777216 ≤ ex) (hq : decide (Nt.val zs % 2 ^ k ≠ 0) = true) :
    Calls Tryz.prog 91 #[dV false a zs.length c ex] w fun e w' => RF w w' (sv false (Nt.val zs / 2 ^ k)) 0 e := by
  have B1 := ((Bx.nil w).push (DO false a zs.length c ex)).push (DO false none 0 0 0)
  rw [show (w.alloc (DO false a zs.length c ex)).heap.size = w.heap.size + 1 by simp] at B1
  have HD := Hide.mk (refDownAny a c zs _ (hl.below B1.bel (Nat.le_refl _)) g.good (-ex) k hk (by omega) true hq)
  clear hq hk hl
  go_enter Tryz.func91, Tryz.ntmps91
  go_wp2_with fail
  refine HD.out.mono ?_
  rintro e w3 ⟨z3, a3, c3, rfl, h3⟩
  have B3 := B1.keep h3.bel
  have hlt : w.heap.size + 1 < w3.heap.size := B3.lt (.head _)
  have HF := Hide.mk (formX false a3 c3 z3 0 w3 h3.lie h3.can (by have := h3.len; omega) (by decide) (by decide))
  have hv := h3.val
  clear h3 B1 HD
  obtain ⟨⟨s0, s1, s2⟩, _⟩ := cells3 B3 w.heap.size _ _ _ _ (.tail _ (.head _))
  go_wp2_with fail
  refine HF.out.mono ?_
  rintro e w4 ⟨n4, z4, x4, a4, c4, rfl, F4, l4, h4⟩
  have B4 := B3.keep h4
  rw [hv] at F4
  have H := Hide.mk (And.intro F4 l4)
  clear HF h4 s0 s1 s2 F4 l4
  obtain ⟨⟨t0, t1, t2⟩, u0, u1, u2⟩ := cells3 B4 (w.heap.size + 1) _ _ _ _ (.head _)
  go_wp2
  refine bodyPost_ret (results_D1 rfl _ _ (w.heap.size + 1) _ rfl ⟨(B4.fill3 (by omega) (by simp) _ _ _).head, rfl⟩) rfl ?_
  have L := Live.set3 (g := w.heap.size + 1) ⟨B4.head, rfl⟩ (.bool n4) (.slice a4 z4.length c4) (.int .i64 x4) (Live.one H.out.2)
  exact ⟨n4, z4, x4, a4, c4, rfl, H.out.1, L.all (a4, z4) (.head _), (B4.fill3 (by omega) (by simp) _ _ _).bel⟩
set_option maxHeartbeats 2000000 in
theorem rFloorN (a : Option Addr) (c : Nat) (zs : List Int) (ex : Int) (w : World) (hl : Lie w a zs) (g : DG true zs ex) (k : Nat) (hk : -ex = (k : Int)) (hk1 : 1 ≤ k) (hx : ex < 0) (hx1 : -16777216 ≤ ex) (hq : decide (Nt.val zs % 2 ^ k ≠ 0) = true) :
    Calls Tryz.prog 91 #[dV true a zs.length c ex] w fun e w' => RF w w' (sv true (Nt.val zs / 2 ^ k + 1)) 0 e := by
  have B1 := ((Bx.nil w).push (DO true a zs.length c ex)).push (DO false none 0 0 0)
  rw [show (w.alloc (DO true a zs.length c ex)).heap.size = w.heap.size + 1 by simp] at B1
  have HD := Hide.mk (refDownAny a c zs _ (hl.below B1.bel (Nat.le_refl _)) g.good (-ex) k hk (by omega) true hq)
  clear hq hk hl
  go_enter Tryz.func91, Tryz.ntmps91
  go_wp2_with fail
  refine HD.out.mono ?_
  rintro e w3 ⟨z3, a3, c3, rfl, h3⟩
  have B3 := B1.keep h3.bel
  have hv := h3.val
  have hc3 := h3.can
  have hl3 := h3.len
  have ba := below_alloc w3 (.cells #[.int .u32 1] 108 (0, 0))
  have HA := Hide.mk (refAdd23 a3 (some ⟨w3.heap.size, 0, none⟩) c3 1 z3 [1] _ (h3.lie.below ba (Nat.le_refl _)) (by have := lie_new w3 [1]; simpa using this) hc3.1 (can_cons (by decide) (by decide) Nt.can_nil (by intro _; decide)).1 (by omega) (by simp))
  clear h3 B1 HD
  obtain ⟨⟨s0, s1, s2⟩, _⟩ := cells3 B3 w.heap.size _ _ _ _ (.tail _ (.head _))
  go_wp2_with fail
  refine HA.out.mono ?_
  rintro e w5 ⟨z5, a5, c5, rfl, h5, h6, h7, h8⟩
  have B5 := B3.keep (below_then ba h8)
  have hlt : w.heap.size + 1 < w5.heap.size := B5.lt (.head _)
  obtain ⟨a6, c6, he, _, _, l5⟩ := h5.lie
  simp only [Value.slice.injEq, true_and] at he
  obtain ⟨rfl, rfl⟩ := he
  rw [hv, val_one] at h7
  have hlen : z5.length ≤ 10000 := by
    have : z5.length ≤ 4097 := (Nt.can_len h6 4097).1 (by
      have e1 := (Nt.can_len hc3 4096).2 hl3
      rw [hv] at e1
      rw [h7, Nt.pw_succ 4096]
      have := Nt.pw_pos 4096
      omega)
    omega
  have HF := Hide.mk (formX true a5 c5 z5 0 w5 l5 h6 hlen (by decide) (by decide))
  clear h5 h8 HA s0 s1 s2 B3 ba l5
  obtain ⟨⟨s0, s1, s2⟩, _⟩ := cells3 B5 w.heap.size _ _ _ _ (.tail _ (.head _))
  go_wp2_with fail
  refine HF.out.mono ?_
  rintro e w4 ⟨n4, z4, x4, a4, c4, rfl, F4, l4, h4⟩
  have B4 := B5.keep h4
  rw [h7] at F4
  have H := Hide.mk (And.intro F4 l4)
  clear HF h4 s0 s1 s2 F4 l4
  obtain ⟨⟨t0, t1, t2⟩, u0, u1, u2⟩ := cells3 B4 (w.heap.size + 1) _ _ _ _ (.head _)
  go_wp2
  refine bodyPost_ret (results_D1 rfl _ _ (w.heap.size + 1) _ rfl ⟨(B4.fill3 (by omega) (by simp) _ _ _).head, rfl⟩) rfl ?_
  have L := Live.set3 (g := w.heap.size + 1) ⟨B4.head, rfl⟩ (.bool n4) (.slice a4 z4.length c4) (.int .i64 x4) (Live.one H.out.2)
  exact ⟨n4, z4, x4, a4, c4, rfl, H.out.1, L.all (a4, z4) (.head _), (B4.fill3 (by omega) (by simp) _ _ _).bel⟩
theorem rFloorD (n : Bool) (a : Option Addr) (c : Nat) (zs : List Int) (ex : Int) (w : World) (hl : Lie w a zs) (g : DG n zs ex) :
    Calls Tryz.prog 91 #[dV n a zs.length c ex] w fun e w' => RF w w' (dv n zs ex / 2 ^ KK * 2 ^ KK) (-(KK : Int)) e := by
  by_cases h0 : 0 ≤ ex
  · exact rFloor0 n a c zs ex w hl g h0
  · have hz : 0 < zs.length := by
      by_cases q : 0 < zs.length
      · exact q
      · have := (g.nil (by omega)).2.2; omega
    have hx := g.ex_bd
    obtain ⟨k, hk⟩ : ∃ k : Nat, -ex = (k : Int) := ⟨(-ex).toNat, by omega⟩
    have hq : decide (Nt.val zs % 2 ^ k ≠ 0) = true := by rw [← low_lost (odd_low (g.odd hz))]; exact decide_eq_true (by omega)
    have hK := KK_int
    have hp := floor_part (ng := n) (zs := zs) (ex := ex) (k := k) (by omega) (by omega) (by omega) (g.odd hz) _ rfl
    cases n
    · refine (rFloorP a c zs ex w hl g k hk (by omega) (by omega) hx.1 hq).mono ?_
      rintro e w' ⟨n4, z4, x4, a4, c4, rfl, F4, l4, h4⟩
      have F5 := F4.toK (by omega)
      simp only [Bool.false_eq_true, if_false] at hp
      rw [hp] at F5
      exact ⟨n4, z4, x4, a4, c4, rfl, F5, l4, h4⟩
    · refine (rFloorN a c zs ex w hl g k hk (by omega) (by omega) hx.1 hq).mono ?_
      rintro e w' ⟨n4, z4, x4, a4, c4, rfl, F4, l4, h4⟩
      have F5 := F4.toK (by omega)
      simp only [if_true] at hp
      rw [hp] at F5
      exact ⟨n4, z4, x4, a4, c4, rfl, F5, l4, h4⟩
end Go.Proofs.YtchmljbkophdaaaGreatDoor

namespace Go.Proofs.YtchmljbkophdaaaGreatDoor
open Go.RowKit Go.Wd Go.Box
set_option linter.unusedVariables false
set_option maxRecDepth 3000
/-- An answer that is a number, with its memory. -/
theorem DV.num {w w' : World} {s E : Int} {n : Bool} {a : Option Addr} {k c : Nat} {ex code : Int} (h : DV w w' s E n a k c ex code) (hs : (s.natAbs : Int) < 4294967296 ^ 4096) (hr : s = 0 ∨ ∃ t : Nat, LowBit (s.natAbs : Int) t ∧ -16777216 ≤ E + t ∧ E + t ≤ 16777216) :
    code = 0 ∧ ∃ zs : List Int, k = zs.length ∧ zs.length ≤ 4096 ∧ Fm s E n zs ex ∧ Lie w' a zs ∧ WrA w.heap.size w' a zs.length := by
  rcases h.all with ⟨h0, rfl, rfl, rfl, rfl, rfl, rfl⟩ | ⟨h0, t, ht, hh⟩
  · exact ⟨rfl, [], rfl, by simp, .inl ⟨h0, rfl, rfl, rfl⟩, .inl rfl, .inl rfl⟩
  · rcases hr with hr | ⟨r, hr, r1, r2⟩
    · exact absurd hr h0
    · obtain rfl := ht.unique hr
      rcases hh with ⟨j1, j2, rfl, rfl, rfl, zs, rfl, j6, j7⟩ | ⟨j1, _⟩ | ⟨_, j1, _⟩
      · obtain ⟨a2, c2, he, _, _, hl2⟩ := j7.lie
        simp only [Value.slice.injEq, true_and] at he
        obtain ⟨rfl, rfl⟩ := he
        exact ⟨rfl, zs, rfl, j6.len, .inr ⟨h0, t, ht, rfl, rfl, j6.can, j6.val⟩, hl2, j7.wrA⟩
      · have : (s.natAbs : Int) / 2 ^ t ≤ (s.natAbs : Int) := Int.ediv_le_self _ (by omega)
        exact absurd (Int.lt_of_le_of_lt this hs) (Int.not_lt.2 j1)
      · omega
theorem DV.out {w w' : World} {s E : Int} {n : Bool} {a : Option Addr} {k c : Nat} {ex code : Int} (h : DV w w' s E n a k c ex code) (hs : (s.natAbs : Int) < 4294967296 ^ 4096) (h0 : s ≠ 0) {t : Nat} (ht : LowBit (s.natAbs : Int) t) (hr : E + t < -16777216 ∨ 16777216 < E + t) :
    n = false ∧ a = none ∧ k = 0 ∧ c = 0 ∧ ex = 0 ∧ code = 20 := by
  rcases h.all with ⟨q, _⟩ | ⟨_, r, hr2, hh⟩
  · exact absurd q h0
  · obtain rfl := ht.unique hr2
    rcases hh with ⟨j1, j2, _⟩ | ⟨j1, _⟩ | ⟨_, _, j⟩
    · omega
    · have : (s.natAbs : Int) / 2 ^ t ≤ (s.natAbs : Int) := Int.ediv_le_self _ (by omega)
      exact absurd (Int.lt_of_le_of_lt this hs) (Int.not_lt.2 j1)
    · exact j
theorem sv_lt {n : Bool} {zs : List Int} {ex : Int} (g : DG n zs ex) (d : Nat) : ((sv n (Nt.val zs / 2 ^ d)).natAbs : Int) < 4294967296 ^ 4096 := by
  have h1 := g.good.lt
  have h2 : Nt.val zs / 2 ^ d ≤ Nt.val zs := Int.ediv_le_self _ h1.1
  have h3 := Int.ediv_nonneg h1.1 (Int.le_of_lt (p2pos d))
  rw [sv_abs _ h3]
  exact Int.lt_of_le_of_lt h2 h1.2
/-- The exponent of what is shifted. -/
def shx (zs : List Int) (ex cnt : Int) : Int := if zs.length = 0 then 0 else ex + cnt
theorem cut_near (n : Bool) (a : Option Addr) (c : Nat) (zs : List Int) (ex bits : Int) (w : World) (hl : Lie w a zs) (g : DG n zs ex) (hT : Tab w) (hb1 : 1 ≤ bits) (hb2 : bits ≤ 8192) {B : Nat} (hB : BitLen (Nt.val zs) B) (hB2 : B ≤ 131072) (d : Nat) (hd : max ((B : Int) - bits) 0 = (d : Int)) (q : Bool) (hq : decide (Nt.val zs % 2 ^ d ≠ 0) = q) {s : Int} (hs : sv n (Nt.val zs / 2 ^ d) = s) (hr : s = 0 ∨ ∃ t : Nat, LowBit (s.natAbs : Int) t ∧ ex + d + t ≤ 16777216) :
    Calls Tryz.prog 80 #[dV n a zs.length c ex, .int .i64 bits] w fun e w' => ∃ n' z' x' a' c', e = .returned (.tuple #[dV n' a' z'.length c' x', .bool q, .int .i64 0]) ∧ Fm s (ex + d) n' z' x' ∧ z'.length ≤ 4096 ∧ Lie w' a' z' ∧ WrA w.heap.size w' a' z'.length ∧ Below w.heap.size w w' := by
  refine (cut_good n a c zs ex bits w hl g hT hb1 hb2 hB hB2 d hd).mono ?_
  rintro e w' ⟨n4, a4, k4, c4, x4, code, lost, rfl, h4, h5, h6⟩
  rw [hs] at h4
  have hx := g.ex_bd
  obtain ⟨rfl, z2, rfl, h7, F, l2, w2⟩ := h4.num (by rw [← hs]; exact sv_lt g d) (by
    rcases hr with hr | ⟨t, ht, hr⟩
    · exact .inl hr
    · exact .inr ⟨t, ht, by omega, hr⟩)
  obtain rfl := h5 rfl
  rw [hq, Bool.or_false]
  exact ⟨n4, z2, x4, a4, c4, rfl, F, h7, l2, w2, h4.bel⟩
theorem Fm.rng {s E : Int} {n : Bool} {zs : List Int} {ex : Int} (F : Fm s E n zs ex) : Nt.Rng zs := by
  rcases F with ⟨_, _, rfl, _⟩ | ⟨_, _, _, _, _, hc, _⟩
  · exact Nt.can_nil.1
  · exact hc.1
end Go.Proofs.YtchmljbkophdaaaGreatDoor

namespace Go.Proofs.YtchmljbkophdaaaGreatDoor
open Go.RowKit Go.Wd Go.Box
set_option linter.unusedVariables false
set_option maxRecDepth 20000
theorem refLenK (a : Option Addr) (ca : Nat) (za : List Int) (w : World) {x : Int} (ha : Lie w a za) (ga : Good za x) {B : Nat} (hB : BitLen x B) :
    Calls Tryz.prog 89 #[.slice a za.length ca] w fun e w' => e = .returned (.int .i64 B) ∧ Below w.heap.size w w' := by
  refine (refLenN a ca za w ha ga).mono ?_
  rintro e w' ⟨rfl, B2, rfl, h, _⟩
  obtain rfl := h.unique hB
  exact ⟨rfl, Below.refl _ _⟩
/-- The reference's Cut of a number in its form, whatever its exponent. -/
theorem rCut0X (n : Bool) (a : Option Addr) (c : Nat) (zs : List Int) (ex bits : Int) (w : World) {x : Int} (hl : Lie w a zs) (ga : Good zs x) (hb1 : 1 ≤ bits) (hb2 : bits ≤ 8192) {B : Nat} (hB : BitLen x B) (hd : (B : Int) - bits ≤ 0) :
    Calls Tryz.prog 97 #[dV n a zs.length c ex, .int .i64 bits] w fun e w' => e = .returned (.tuple #[dV n a zs.length c ex, .bool false]) ∧ Below w.heap.size w w' := by
  have B1 := ((Bx.nil w).push (DO n a zs.length c ex)).push (DO n a zs.length c ex)
  have b0 := ((Bx.nil w).push (DO n a zs.length c ex)).push (DO false none 0 0 0)
  have HL := fun W (h : Below w.heap.size w W) => Hide.mk (refLenK a c zs W (hl.below h (Nat.le_refl _)) ga hB)
  clear hB hl
  go_enter Tryz.func97, Tryz.ntmps97
  go_wp2_with fail
  refine (HL _ b0.bel).out.mono ?_
  rintro e w2 ⟨rfl, h2⟩
  have b2 := b0.keep h2
  rw [show (w.alloc (DO n a zs.length c ex)).heap.size = w.heap.size + 1 by simp] at b2
  obtain ⟨⟨s0, s1, s2⟩, _⟩ := cells3 b2 w.heap.size _ _ _ _ (.tail _ (.head _))
  obtain ⟨⟨t0, t1, t2⟩, u0, u1, u2⟩ := cells3 b2 (w.heap.size + 1) _ _ _ _ (.head _)
  clear HL b0 h2
  go_wp2
  refine bodyPost_ret (results_D2 rfl _ _ (w.heap.size + 1) _ rfl ⟨(b2.fill3 (by omega) (by simp) _ _ _).head, rfl⟩) rfl ?_
  exact ⟨rfl, (b2.fill3 (by omega) (by simp) _ _ _).bel⟩
theorem rCut1X (n : Bool) (a : Option Addr) (c : Nat) (zs : List Int) (ex bits : Int) (w : World) {x : Int} (hl : Lie w a zs) (ga : Good zs x) (hx1 : -100000000 ≤ ex) (hx2 : ex ≤ 100000000) (hb1 : 1 ≤ bits) (hb2 : bits ≤ 8192) {B : Nat} (hB : BitLen x B) (hB3 : B ≤ 131072) (d : Nat) (hd : (B : Int) - bits = (d : Int)) (hd0 : 0 < (d : Int)) (q : Bool) (hq : decide (x % 2 ^ d ≠ 0) = q) :
    Calls Tryz.prog 97 #[dV n a zs.length c ex, .int .i64 bits] w fun e w' => RCut w w' (sv n (x / 2 ^ d)) (ex + d) q e := by
  have B1 := ((Bx.nil w).push (DO n a zs.length c ex)).push (DO false none 0 0 0)
  rw [show (w.alloc (DO n a zs.length c ex)).heap.size = w.heap.size + 1 by simp] at B1
  have HL := fun W (h : Below w.heap.size w W) => Hide.mk (refLenK a c zs W (hl.below h (Nat.le_refl _)) ga hB)
  have hd3 : (d : Int) ≤ 131072 := by omega
  have h0 : 0 < (B : Int) - bits := by omega
  have h9 : (B : Int) - bits ≤ 131072 := by omega
  have HR := fun W (h : Below w.heap.size w W) => Hide.mk (refDownAny a c zs W (hl.below h (Nat.le_refl _)) ga _ d hd (by omega) q hq)
  have HD := Hide.mk hd
  clear hB hd hl
  go_enter Tryz.func97, Tryz.ntmps97
  go_wp2_with fail
  refine (HL _ B1.bel).out.mono ?_
  rintro e w2 ⟨rfl, h2⟩
  replace B1 := B1.keep h2
  clear HL h2
  obtain ⟨⟨s0, s1, s2⟩, _⟩ := cells3 B1 w.heap.size _ _ _ _ (.tail _ (.head _))
  go_wp2_with fail
  refine (HR _ B1.bel).out.mono ?_
  rintro e w3 ⟨z3, a3, c3, rfl, h3⟩
  have B3 := B1.keep h3.bel
  have hlt : w.heap.size + 1 < w3.heap.size := B3.lt (.head _)
  have HF := Hide.mk (formX n a3 c3 z3 (ex + ((B : Int) - bits)) w3 h3.lie h3.can (by have := h3.len; omega) (by omega) (by omega))
  have hv := h3.val
  clear h3 B1 HR s0 s1 s2
  obtain ⟨⟨s0, s1, s2⟩, _⟩ := cells3 B3 w.heap.size _ _ _ _ (.tail _ (.head _))
  go_wp2_with fail
  refine HF.out.mono ?_
  rintro e w4 ⟨n4, z4, x4, a4, c4, rfl, F4, l4, h4⟩
  have B4 := B3.keep h4
  rw [hv, HD.out] at F4
  have H := Hide.mk (And.intro F4 l4)
  clear HF h4 s0 s1 s2 F4 l4
  obtain ⟨⟨t0, t1, t2⟩, u0, u1, u2⟩ := cells3 B4 (w.heap.size + 1) _ _ _ _ (.head _)
  go_wp2
  refine bodyPost_ret (results_D2 rfl _ _ (w.heap.size + 1) _ rfl ⟨(B4.fill3 (by omega) (by simp) _ _ _).head, rfl⟩) rfl ?_
  have L := Live.set3 (g := w.heap.size + 1) ⟨B4.head, rfl⟩ (.bool n4) (.slice a4 z4.length c4) (.int .i64 x4) (Live.one H.out.2)
  exact ⟨n4, z4, x4, a4, c4, rfl, H.out.1, L.all (a4, z4) (.head _), (B4.fill3 (by omega) (by simp) _ _ _).bel⟩
theorem low_split {q : Int} {t : Nat} (h : LowBit q t) (d : Nat) : decide (q % 2 ^ (t + d) ≠ 0) = decide (q / 2 ^ t % 2 ^ d ≠ 0) := by
  rw [Int.pow_add, mod_split (p2pos t), h.zero, Int.add_zero]
  have := p2pos t
  by_cases c : q / 2 ^ t % 2 ^ d = 0
  · rw [c]; simp
  · have e1 : decide (2 ^ t * (q / 2 ^ t % 2 ^ d) ≠ 0) = true := decide_eq_true (Int.mul_ne_zero (by omega) c)
    have e2 : decide (q / 2 ^ t % 2 ^ d ≠ 0) = true := decide_eq_true c
    rw [e1, e2]
theorem low_le {q : Int} {t d : Nat} (h : LowBit q t) (hd : d ≤ t) : q % 2 ^ d = 0 ∧ LowBit (q / 2 ^ d) (t - d) ∧ q / 2 ^ d / 2 ^ (t - d) = q / 2 ^ t := by
  have e : q / 2 ^ d / 2 ^ (t - d) = q / 2 ^ t := by rw [← cut_div (p2pos d), ← Int.pow_add, show d + (t - d) = t by omega]
  have z := h.zero
  have k : (2 : Int) ^ t = 2 ^ d * 2 ^ (t - d) := by rw [← Int.pow_add, show d + (t - d) = t by omega]
  rw [k] at z
  have m := mod_split (N := q) (p2pos d) (t - d)
  rw [z] at m
  have a := Int.emod_nonneg (q / 2 ^ d) (show (2 : Int) ^ (t - d) ≠ 0 by have := p2pos (t - d); omega)
  have b := Int.emod_nonneg q (show (2 : Int) ^ d ≠ 0 by have := p2pos d; omega)
  have c := Int.mul_nonneg (Int.le_of_lt (p2pos d)) a
  have z1 : q % 2 ^ d = 0 := by omega
  have z2 : 2 ^ d * (q / 2 ^ d % 2 ^ (t - d)) = 0 := by omega
  have z3 : q / 2 ^ d % 2 ^ (t - d) = 0 := by
    rcases Int.mul_eq_zero.1 z2 with h | h
    · have := p2pos d; omega
    · exact h
  exact ⟨z1, ⟨z3, by rw [e]; exact h.one⟩, e⟩
theorem sv_abs2 (n : Bool) {x : Int} (h : 0 ≤ x) : ((sv n x).natAbs : Int) = x := by
  cases n
  · rw [sv_f]; omega
  · rw [sv_t]; omega
theorem sv_dec (n : Bool) {x : Int} (h : 0 < x) : decide (sv n x < 0) = n := by
  cases n
  · rw [sv_f]; exact decide_eq_false (by omega)
  · rw [sv_t]; exact decide_eq_true (by omega)
theorem sv_ne (n : Bool) {x : Int} (h : 0 < x) : sv n x ≠ 0 := by
  cases n
  · rw [sv_f]; omega
  · rw [sv_t]; omega
theorem rCutW (n0 n : Bool) (a : Option Addr) (c : Nat) (zs : List Int) (ex bits E : Int) (w : World) {q : Int} (hq0 : 0 < q) (hl : Lie w a zs) (F : Fm (sv n0 q) E n zs ex) (hx1 : -90000000 ≤ E) (hx2 : E ≤ 90000000) (hb1 : 1 ≤ bits) (hb2 : bits ≤ 8192) {C : Nat} (hC : BitLen q C) (hC3 : C ≤ 131072) (d : Nat) (hd : max ((C : Int) - bits) 0 = (d : Int)) (g : Bool) (hg : decide (q % 2 ^ d ≠ 0) = g) :
    Calls Tryz.prog 97 #[dV n a zs.length c ex, .int .i64 bits] w fun e w' => RCut w w' (sv n0 (q / 2 ^ d)) (E + d) g e := by
  rcases F with ⟨h, _⟩ | ⟨_, t, ht, rfl, rfl, hc, hv⟩
  · exact absurd h (sv_ne n0 hq0)
  · rw [sv_abs2 n0 (by omega)] at ht hv
    rw [sv_dec n0 hq0]
    have bz := hC.down t
    rw [← hv] at bz
    have ht3 : t < C := by
      refine Classical.byContradiction fun k => ?_
      have h1 := (hC.down t)
      rw [show C - t = 0 by omega] at h1
      have o := ht.one
      rcases h1 with ⟨h1, _⟩ | ⟨h1, h2⟩
      · rw [h1] at o; omega
      · have := h2.lt; rw [Int.pow_zero] at this; omega
    have hlim : Nt.val zs < 4294967296 ^ 4096 := by
      rw [pw32]
      rcases bz with ⟨h, _⟩ | ⟨_, h⟩
      · rw [h]; exact p2pos _
      · have := h.lt
        have := p2le (show C - t ≤ 131072 by omega)
        omega
    have gz : Good zs (Nt.val zs) := ⟨hc, (Nt.can_len hc 4096).1 hlim, rfl⟩
    by_cases h : ((C - t : Nat) : Int) - bits ≤ 0
    · have hdt : d ≤ t := by omega
      obtain ⟨y1, y2, y3⟩ := low_le ht hdt
      have hp : 0 < q / 2 ^ d := by
        have o := y2.one
        have := p2pos (t - d)
        have n1 := Int.ediv_nonneg (show 0 ≤ q by omega) (Int.le_of_lt (p2pos d))
        refine Classical.byContradiction fun k => ?_
        rw [show q / 2 ^ d = 0 by omega, Int.zero_ediv] at o
        omega
      refine (rCut0X n0 a c zs (E + t) bits w hl gz hb1 hb2 bz h).mono ?_
      rintro e w' ⟨rfl, hb⟩
      refine ⟨n0, zs, E + t, a, c, ?_, .inr ⟨sv_ne n0 hp, t - d, ?_, (sv_dec n0 hp).symm, by omega, hc, ?_⟩, hl.below hb (Nat.le_refl _), hb⟩
      · rw [← hg, y1]; rfl
      · rw [sv_abs2 n0 (by omega)]; exact y2
      · rw [sv_abs2 n0 (by omega), y3]; exact hv
    · obtain ⟨d2, hd2⟩ : ∃ d2 : Nat, ((C - t : Nat) : Int) - bits = (d2 : Int) := ⟨(((C - t : Nat) : Int) - bits).toNat, by omega⟩
      have e1 : d = t + d2 := by omega
      have := rCut1X n0 a c zs (E + t) bits w hl gz (by omega) (by omega) hb1 hb2 bz (by omega) d2 hd2 (by omega) _ rfl
      rw [hv, ← low_split ht, ← e1, hg, ← cut_div (p2pos t), ← Int.pow_add, ← e1, show E + (t : Int) + (d2 : Int) = E + (d : Int) by omega] at this
      exact this
end Go.Proofs.YtchmljbkophdaaaGreatDoor

namespace Go.Proofs.YtchmljbkophdaaaGreatDoor
open Go.RowKit Go.Wd Go.Box
set_option linter.unusedVariables false
set_option maxRecDepth 20000
theorem shiftAny (a : Option Addr) (ca : Nat) (za : List Int) (w : World) {x : Int} (ha : Lie w a za) (ga : Good za x) (hT : Tab w) (up : Int) (h1 : -1000000 ≤ up) (hf : ∀ n : Nat, up = (n : Int) → x * 2 ^ n < 4294967296 ^ 4096) :
    Calls Tryz.prog 123 #[.slice a za.length ca, .int .i64 up] w fun e w' => ∃ zs a' c, e = .returned (.tuple #[.slice a' (List.length zs) c, .bool (decide (x % 2 ^ (-up).toNat ≠ 0)), .int .i64 0]) ∧ Good zs (x * 2 ^ up.toNat / 2 ^ (-up).toNat) ∧ Lie w' a' zs ∧ Below w.heap.size w w' := by
  by_cases h : 0 ≤ up
  · refine (shiftUi a ca za w ha ga up up.toNat (by omega) (hf _ (by omega))).mono ?_
    rintro e w' ⟨zs, a', c, rfl, h2, _⟩
    refine ⟨zs, a', c, ?_, ?_, h2.lie, h2.bel⟩
    · rw [show (-up).toNat = 0 by omega, Int.pow_zero, Int.emod_one]; rfl
    · rw [show (-up).toNat = 0 by omega, Int.pow_zero, Int.ediv_one]; exact h2.good
  · refine (shiftDi a ca za w ha ga up (-up).toNat (by omega) (by omega) hT _ rfl).mono ?_
    rintro e w' ⟨zs, a', c, rfl, h2, _⟩
    refine ⟨zs, a', c, rfl, ?_, h2.lie, h2.bel⟩
    rw [show up.toNat = 0 by omega, Int.pow_zero, Int.mul_one]; exact h2.good
theorem rt_of {x e i up r : Int} (hu : up = e + 2 * i) (r0 : 0 ≤ r) (h1 : r * r ≤ x * 2 ^ up.toNat / 2 ^ (-up).toNat) (h2 : x * 2 ^ up.toNat / 2 ^ (-up).toNat < (r + 1) * (r + 1)) :
    RtAt x e i r (decide (x % 2 ^ (-up).toNat ≠ 0) || !decide (r * r = x * 2 ^ up.toNat / 2 ^ (-up).toNat)) := by
  subst hu
  have hp := p2pos (-(e + 2 * i)).toNat
  refine ⟨r0, (Int.le_ediv_iff_mul_le hp).1 h1, (Int.ediv_lt_iff_lt_mul hp).1 h2, ?_⟩
  rw [← part_fl]
  generalize x * 2 ^ (e + 2 * i).toNat = X at *
  generalize (2 : Int) ^ (-(e + 2 * i)).toNat = D at *
  have e1 := Int.mul_ediv_add_emod X D
  generalize X / D = m at *
  generalize hs : X % D = s at *
  by_cases hz : s = 0
  · subst hz
    rw [Int.add_zero] at e1
    by_cases hr : r * r = m
    · rw [← hr] at e1
      rw [show r * r * D = D * (r * r) from Int.mul_comm _ _, e1]; simp [hr]
    · have e2 : decide (r * r * D ≠ X) = true := decide_eq_true (fun c => hr (Int.eq_of_mul_eq_mul_right (show D ≠ 0 by omega) (by rw [c, ← e1, Int.mul_comm])))
      rw [e2]; simp [hr]
  · have e2 : decide (r * r * D ≠ X) = true := decide_eq_true (fun c => hz (by rw [← hs, ← c, Int.mul_emod_left]))
    rw [e2, decide_eq_true hz]; rfl
theorem root_boxes (n : Bool) (a : Option Addr) (c k : Nat) (ex : Int) (w : World) :
    Bx w [(w.heap.size + 1 + 1, DO n a k c ex), (w.heap.size + 1, DO false none 0 0 0), (w.heap.size, DO n a k c ex)] (((w.alloc (DO n a k c ex)).alloc (DO false none 0 0 0)).alloc (DO n a k c ex)) := by
  have B1 := (((Bx.nil w).push (DO n a k c ex)).push (DO false none 0 0 0)).push (DO n a k c ex)
  rw [show ((w.alloc (DO n a k c ex)).alloc (DO false none 0 0 0)).heap.size = w.heap.size + 1 + 1 by simp, show (w.alloc (DO n a k c ex)).heap.size = w.heap.size + 1 by simp] at B1
  exact B1
theorem nneg_of (z : List Int) (h : Nt.Can z) : 0 ≤ Nt.val z := (Nt.val_bd h.1).1
theorem good_of {z : List Int} (h : Nt.Can z) {m : Int} (h1 : Nt.val z * Nt.val z ≤ m) (h2 : m < 4294967296 ^ 4096) : Good z (Nt.val z) := by
  refine ⟨h, (Nt.can_len h 4096).1 ?_, rfl⟩
  have n := nneg_of z h
  by_cases hz : Nt.val z = 0
  · rw [hz, pw32]; exact p2pos _
  · have := Int.mul_le_mul_of_nonneg_left (show 1 ≤ Nt.val z by omega) n
    omega
set_option maxHeartbeats 4000000 in
theorem root_even (a : Option Addr) (c : Nat) (zs : List Int) (ex bits : Int) (w : World) (l : Lie w a zs) (g : DG false zs ex) (hT : Tab w) (hb1 : 1 ≤ bits) (hb2 : bits ≤ 8192) (hz : 0 < zs.length) {La : Nat} (bx : Bits (Nt.val zs) La) (hpar : (ex - (2 * bits - (La : Int))).tmod 2 = 0) (up i r : Int) (more : Bool) (hup : 2 * bits - (La : Int) = up) (hi : up = ex + 2 * i) (hR : RtAt (Nt.val zs) ex i r more) {B : Nat} (hB : BitLen r B) (hB2 : B ≤ 131072) (d : Nat) (hd : max ((B : Int) - bits) 0 = (d : Int)) :
    Calls Tryz.prog 98 #[dV false a zs.length c ex, .int .i64 bits] w fun e w' => DCut w w' (sv false (r / 2 ^ d)) (-i + d) (decide (r % 2 ^ d ≠ 0) || more) e := by
  have B1 := root_boxes false a c zs.length ex w
  have H := Hide.mk (cut_ask false a c zs ex bits 0 w _ (g.lie l) B1 (by rw [g.may]; exact ask_ok hb1 hb2))
  have HM := fun W => Hide.mk (nought_no a zs.length c W hz)
  have p1 := g.pos hz
  have s1 := g_size g bx
  have x1 := g.ex_bd
  have HL := fun W (h : Below w.heap.size w W) => Hide.mk (lenK a c zs W (l.below h (Nat.le_refl _)) g.good (B := La) (.inr ⟨p1, bx⟩))
  have HS := fun W (h : Below w.heap.size w W) => Hide.mk (shiftAny a c zs W (l.below h (Nat.le_refl _)) g.good (hT.below h (Nat.le_refl _)) up (by omega) (fun n hn => by
    rw [pw32]
    have h1 := (bx.up n).lt
    have h2 := p2le (show La + n ≤ 131072 by omega)
    omega))
  have HR := fun (zr : List Int) (h0 : Nt.Can zr) (h1 : Nt.val zr * Nt.val zr ≤ Nt.val zs * 2 ^ up.toNat / 2 ^ (-up).toNat) (h2 : Nt.val zs * 2 ^ up.toNat / 2 ^ (-up).toNat < (Nt.val zr + 1) * (Nt.val zr + 1)) => Hide.mk ((rtFam (Nt.val zs) ex).uniq _ _ _ _ _ (rt_of hi (nneg_of zr h0) h1 h2) hR)
  have HC := fun (m : Bool) (hm : m = more) (zr : List Int) (ar : Option Addr) (cr : Nat) W (h : Below w.heap.size w W) (lr : Lie W ar zr) (gr : Good zr r) => Hide.mk (cutC false ar cr zr (-i) bits m W lr gr (hT.below h (Nat.le_refl _)) hb1 hb2 (by omega) (by omega) hB hB2 d hd)
  have HU := Hide.mk hup
  have HD : Hide ((ex - up).tdiv 2 = -i) := ⟨by rw [hi, show ex - (ex + 2 * i) = 2 * (-i) by omega, Int.mul_tdiv_cancel_left _ (by decide)]⟩
  have v1 : -300000 ≤ up := by omega
  have v2 : up ≤ 300000 := by omega
  have y1 := x1.1
  have y2 := x1.2
  clear l hz hB hd hup x1 hT hi hR bx g p1
  generalize Nt.val zs = X at *
  go_enter Tryz.func98, Tryz.ntmps98
  go_wp2_with fail
  refine H.out.mono ?_
  rintro e w2 ⟨rfl, h2⟩
  have HF := (B1.keep h2).sub (L' := [(w.heap.size + 1, DO false none 0 0 0), (w.heap.size, DO false a zs.length c ex)]) (by simp)
  clear h2 B1 H
  obtain ⟨⟨s0, s1, s2⟩, _⟩ := cells3 HF w.heap.size _ _ _ _ (.tail _ (.head _))
  go_wp2_with fail
  refine (HM _).out.mono ?_
  rintro e w3 ⟨rfl, rfl⟩
  clear HM
  go_wp2_with fail
  refine (HL _ HF.bel).out.mono ?_
  rintro e w3 ⟨rfl, h3⟩
  replace HF := HF.keep h3
  clear h3 HL s0 s1 s2
  obtain ⟨⟨s0, s1, s2⟩, _⟩ := cells3 HF w.heap.size _ _ _ _ (.tail _ (.head _))
  go_wp2_with fail
  rw [HU.out]
  refine (HS _ HF.bel).out.mono ?_
  rintro e w4 ⟨z4, a4, c4, rfl, g4, l4, h4⟩
  replace HF := HF.keep h4
  have HQ := Hide.mk (root_any a4 c4 z4 w4 l4 g4.can.1 g4.may)
  have hv4 := g4.val
  have hlt4 := g4.lt.2
  clear h4 HS s0 s1 s2 l4 g4
  obtain ⟨⟨s0, s1, s2⟩, _⟩ := cells3 HF w.heap.size _ _ _ _ (.tail _ (.head _))
  generalize hlost : decide (X % 2 ^ (-up).toNat ≠ 0) = lost at *
  go_wp2_with fail
  refine HQ.out.mono ?_
  rintro e w5 ⟨z5, a5, c5, rfl, o5, k5, i5, j5, h5⟩
  rw [hv4] at i5 j5
  rw [hv4]
  have hb5 := h5
  replace HF := HF.keep h5
  obtain ⟨e1, e2⟩ := (HR z5 k5 i5 j5).out
  have g5 := good_of k5 i5 hlt4
  rw [e1] at g5 e2
  rw [e1]
  obtain ⟨a5', c5', he5, _, _, l5⟩ := o5.lie
  simp only [Value.slice.injEq, true_and] at he5
  obtain ⟨rfl, rfl⟩ := he5
  have HC2 := fun m hm => HC m hm z5 a5 c5 w5 HF.bel l5 g5
  have HFb := HF.bel
  have hlt : w.heap.size + 1 < w5.heap.size := HF.lt (.head _)
  generalize hwh : decide (r * r = X * 2 ^ up.toNat / 2 ^ (-up).toNat) = whole at *
  have HE := Hide.mk e2
  clear h5 HQ s0 s1 s2 k5 o5 i5 j5 l5 g5 e1 e2 hlost hwh hv4 hlt4 HR HC
  obtain ⟨⟨s0, s1, s2⟩, _⟩ := cells3 HF w.heap.size _ _ _ _ (.tail _ (.head _))
  cases lost
  · go_wp2_with fail
    rw [HD.out]
    refine (HC2 (!whole) HE.out).out.mono ?_
    rintro e w6 ⟨n4, a4, k4, c4, x4, code, lost, rfl, h4, h5, h6⟩
    have B4 := (HF.keep h4.bel).sub (L' := [(w.heap.size + 1, DO false none 0 0 0)]) (by simp)
    have V := Hide.mk (And.intro h4 (And.intro h5 h6))
    clear h4 h5 h6 s0 s1 s2 HC2 HF
    obtain ⟨⟨t0, t1, t2⟩, u0, u1, u2⟩ := cells3 B4 (w.heap.size + 1) _ _ _ _ (.head _)
    go_wp2
    refine bodyPost_ret (results_D3 rfl _ _ (w.heap.size + 1) _ rfl ⟨(B4.fill3 (by omega) (by simp) _ _ _).head, rfl⟩) rfl ?_
    have W2 := V.out.2
    rw [show (!whole) = more from HE.out] at W2
    exact ⟨n4, a4, k4, c4, x4, code, lost, rfl, V.out.1.back HFb (by omega) hlt _ _ _, W2.1, W2.2⟩
  · go_wp2_with fail
    rw [HD.out]
    refine (HC2 true HE.out).out.mono ?_
    rintro e w6 ⟨n4, a4, k4, c4, x4, code, lost, rfl, h4, h5, h6⟩
    have B4 := (HF.keep h4.bel).sub (L' := [(w.heap.size + 1, DO false none 0 0 0)]) (by simp)
    have V := Hide.mk (And.intro h4 (And.intro h5 h6))
    clear h4 h5 h6 s0 s1 s2 HC2 HF
    obtain ⟨⟨t0, t1, t2⟩, u0, u1, u2⟩ := cells3 B4 (w.heap.size + 1) _ _ _ _ (.head _)
    go_wp2
    refine bodyPost_ret (results_D3 rfl _ _ (w.heap.size + 1) _ rfl ⟨(B4.fill3 (by omega) (by simp) _ _ _).head, rfl⟩) rfl ?_
    have W2 := V.out.2
    rw [show true = more from HE.out] at W2
    exact ⟨n4, a4, k4, c4, x4, code, lost, rfl, V.out.1.back HFb (by omega) hlt _ _ _, W2.1, W2.2⟩
set_option maxHeartbeats 4000000 in
theorem root_odd (a : Option Addr) (c : Nat) (zs : List Int) (ex bits : Int) (w : World) (l : Lie w a zs) (g : DG false zs ex) (hT : Tab w) (hb1 : 1 ≤ bits) (hb2 : bits ≤ 8192) (hz : 0 < zs.length) {La : Nat} (bx : Bits (Nt.val zs) La) (hpar : ¬ (ex - (2 * bits - (La : Int))).tmod 2 = 0) (up i r : Int) (more : Bool) (hup : 2 * bits - (La : Int) - 1 = up) (hi : up = ex + 2 * i) (hR : RtAt (Nt.val zs) ex i r more) {B : Nat} (hB : BitLen r B) (hB2 : B ≤ 131072) (d : Nat) (hd : max ((B : Int) - bits) 0 = (d : Int)) :
    Calls Tryz.prog 98 #[dV false a zs.length c ex, .int .i64 bits] w fun e w' => DCut w w' (sv false (r / 2 ^ d)) (-i + d) (decide (r % 2 ^ d ≠ 0) || more) e := by
  have B1 := root_boxes false a c zs.length ex w
  have H := Hide.mk (cut_ask false a c zs ex bits 0 w _ (g.lie l) B1 (by rw [g.may]; exact ask_ok hb1 hb2))
  have HM := fun W => Hide.mk (nought_no a zs.length c W hz)
  have p1 := g.pos hz
  have s1 := g_size g bx
  have x1 := g.ex_bd
  have HL := fun W (h : Below w.heap.size w W) => Hide.mk (lenK a c zs W (l.below h (Nat.le_refl _)) g.good (B := La) (.inr ⟨p1, bx⟩))
  have HS := fun W (h : Below w.heap.size w W) => Hide.mk (shiftAny a c zs W (l.below h (Nat.le_refl _)) g.good (hT.below h (Nat.le_refl _)) up (by omega) (fun n hn => by
    rw [pw32]
    have h1 := (bx.up n).lt
    have h2 := p2le (show La + n ≤ 131072 by omega)
    omega))
  have HR := fun (zr : List Int) (h0 : Nt.Can zr) (h1 : Nt.val zr * Nt.val zr ≤ Nt.val zs * 2 ^ up.toNat / 2 ^ (-up).toNat) (h2 : Nt.val zs * 2 ^ up.toNat / 2 ^ (-up).toNat < (Nt.val zr + 1) * (Nt.val zr + 1)) => Hide.mk ((rtFam (Nt.val zs) ex).uniq _ _ _ _ _ (rt_of hi (nneg_of zr h0) h1 h2) hR)
  have HC := fun (m : Bool) (hm : m = more) (zr : List Int) (ar : Option Addr) (cr : Nat) W (h : Below w.heap.size w W) (lr : Lie W ar zr) (gr : Good zr r) => Hide.mk (cutC false ar cr zr (-i) bits m W lr gr (hT.below h (Nat.le_refl _)) hb1 hb2 (by omega) (by omega) hB hB2 d hd)
  have HU := Hide.mk hup
  have HD : Hide ((ex - up).tdiv 2 = -i) := ⟨by rw [hi, show ex - (ex + 2 * i) = 2 * (-i) by omega, Int.mul_tdiv_cancel_left _ (by decide)]⟩
  have v1 : -300000 ≤ up := by omega
  have v2 : up ≤ 300000 := by omega
  have y1 := x1.1
  have y2 := x1.2
  clear l hz hB hd hup x1 hT hi hR bx g p1
  generalize Nt.val zs = X at *
  go_enter Tryz.func98, Tryz.ntmps98
  go_wp2_with fail
  refine H.out.mono ?_
  rintro e w2 ⟨rfl, h2⟩
  have HF := (B1.keep h2).sub (L' := [(w.heap.size + 1, DO false none 0 0 0), (w.heap.size, DO false a zs.length c ex)]) (by simp)
  clear h2 B1 H
  obtain ⟨⟨s0, s1, s2⟩, _⟩ := cells3 HF w.heap.size _ _ _ _ (.tail _ (.head _))
  go_wp2_with fail
  refine (HM _).out.mono ?_
  rintro e w3 ⟨rfl, rfl⟩
  clear HM
  go_wp2_with fail
  refine (HL _ HF.bel).out.mono ?_
  rintro e w3 ⟨rfl, h3⟩
  replace HF := HF.keep h3
  clear h3 HL s0 s1 s2
  obtain ⟨⟨s0, s1, s2⟩, _⟩ := cells3 HF w.heap.size _ _ _ _ (.tail _ (.head _))
  go_wp2_with fail
  rw [HU.out]
  refine (HS _ HF.bel).out.mono ?_
  rintro e w4 ⟨z4, a4, c4, rfl, g4, l4, h4⟩
  replace HF := HF.keep h4
  have HQ := Hide.mk (root_any a4 c4 z4 w4 l4 g4.can.1 g4.may)
  have hv4 := g4.val
  have hlt4 := g4.lt.2
  clear h4 HS s0 s1 s2 l4 g4
  obtain ⟨⟨s0, s1, s2⟩, _⟩ := cells3 HF w.heap.size _ _ _ _ (.tail _ (.head _))
  generalize hlost : decide (X % 2 ^ (-up).toNat ≠ 0) = lost at *
  go_wp2_with fail
  refine HQ.out.mono ?_
  rintro e w5 ⟨z5, a5, c5, rfl, o5, k5, i5, j5, h5⟩
  rw [hv4] at i5 j5
  rw [hv4]
  have hb5 := h5
  replace HF := HF.keep h5
  obtain ⟨e1, e2⟩ := (HR z5 k5 i5 j5).out
  have g5 := good_of k5 i5 hlt4
  rw [e1] at g5 e2
  rw [e1]
  obtain ⟨a5', c5', he5, _, _, l5⟩ := o5.lie
  simp only [Value.slice.injEq, true_and] at he5
  obtain ⟨rfl, rfl⟩ := he5
  have HC2 := fun m hm => HC m hm z5 a5 c5 w5 HF.bel l5 g5
  have HFb := HF.bel
  have hlt : w.heap.size + 1 < w5.heap.size := HF.lt (.head _)
  generalize hwh : decide (r * r = X * 2 ^ up.toNat / 2 ^ (-up).toNat) = whole at *
  have HE := Hide.mk e2
  clear h5 HQ s0 s1 s2 k5 o5 i5 j5 l5 g5 e1 e2 hlost hwh hv4 hlt4 HR HC
  obtain ⟨⟨s0, s1, s2⟩, _⟩ := cells3 HF w.heap.size _ _ _ _ (.tail _ (.head _))
  cases lost
  · go_wp2_with fail
    rw [HD.out]
    refine (HC2 (!whole) HE.out).out.mono ?_
    rintro e w6 ⟨n4, a4, k4, c4, x4, code, lost, rfl, h4, h5, h6⟩
    have B4 := (HF.keep h4.bel).sub (L' := [(w.heap.size + 1, DO false none 0 0 0)]) (by simp)
    have V := Hide.mk (And.intro h4 (And.intro h5 h6))
    clear h4 h5 h6 s0 s1 s2 HC2 HF
    obtain ⟨⟨t0, t1, t2⟩, u0, u1, u2⟩ := cells3 B4 (w.heap.size + 1) _ _ _ _ (.head _)
    go_wp2
    refine bodyPost_ret (results_D3 rfl _ _ (w.heap.size + 1) _ rfl ⟨(B4.fill3 (by omega) (by simp) _ _ _).head, rfl⟩) rfl ?_
    have W2 := V.out.2
    rw [show (!whole) = more from HE.out] at W2
    exact ⟨n4, a4, k4, c4, x4, code, lost, rfl, V.out.1.back HFb (by omega) hlt _ _ _, W2.1, W2.2⟩
  · go_wp2_with fail
    rw [HD.out]
    refine (HC2 true HE.out).out.mono ?_
    rintro e w6 ⟨n4, a4, k4, c4, x4, code, lost, rfl, h4, h5, h6⟩
    have B4 := (HF.keep h4.bel).sub (L' := [(w.heap.size + 1, DO false none 0 0 0)]) (by simp)
    have V := Hide.mk (And.intro h4 (And.intro h5 h6))
    clear h4 h5 h6 s0 s1 s2 HC2 HF
    obtain ⟨⟨t0, t1, t2⟩, u0, u1, u2⟩ := cells3 B4 (w.heap.size + 1) _ _ _ _ (.head _)
    go_wp2
    refine bodyPost_ret (results_D3 rfl _ _ (w.heap.size + 1) _ rfl ⟨(B4.fill3 (by omega) (by simp) _ _ _).head, rfl⟩) rfl ?_
    have W2 := V.out.2
    rw [show true = more from HE.out] at W2
    exact ⟨n4, a4, k4, c4, x4, code, lost, rfl, V.out.1.back HFb (by omega) hlt _ _ _, W2.1, W2.2⟩
end Go.Proofs.YtchmljbkophdaaaGreatDoor

namespace Go.Proofs.YtchmljbkophdaaaGreatDoor
open Go.RowKit Go.Wd Go.Box
set_option linter.unusedVariables false
set_option maxRecDepth 20000
theorem rt_of2 {x e i r s : Int} {n : Nat} (hu : (n : Int) = e + 2 * i) (r0 : 0 ≤ r) (I : RtInv (x * 2 ^ n) r s) : RtAt x e i r (!decide (s = 0)) := by
  have h1 := I.s0
  have h2 := I.eq
  have h3 := I.le
  have e4 : (r + 1) * (r + 1) = r * r + 2 * r + 1 := by grind
  refine ⟨r0, ?_, ?_, ?_⟩
  · rw [← hu, show (-(n : Int)).toNat = 0 by omega, Int.pow_zero, Int.mul_one, Int.toNat_natCast]; omega
  · rw [← hu, show (-(n : Int)).toNat = 0 by omega, Int.pow_zero, Int.mul_one, Int.toNat_natCast]; omega
  · rw [← hu, show (-(n : Int)).toNat = 0 by omega, Int.pow_zero, Int.mul_one, Int.toNat_natCast, h2]
    by_cases hs : s = 0
    · subst hs; simp
    · rw [decide_eq_false hs, decide_eq_true (show r * r ≠ r * r + s by omega)]; rfl
end Go.Proofs.YtchmljbkophdaaaGreatDoor

namespace Go.Proofs.YtchmljbkophdaaaGreatDoor
open Go.RowKit Go.Wd Go.Box
set_option linter.unusedVariables false
set_option maxRecDepth 20000
set_option maxHeartbeats 4000000 in
theorem rRoot_upe (a : Option Addr) (c : Nat) (zs : List Int) (ex bits : Int) (w : World) (l : Lie w a zs) (g : DG false zs ex) (hb1 : 1 ≤ bits) (hb2 : bits ≤ 8192) (hz : 0 < zs.length) {La : Nat} (bx : Bits (Nt.val zs) La) (n : Nat) (hn : 2 * bits + 2 - (La : Int) = (n : Int)) (hpar : (ex - (2 * bits + 2 - (La : Int))).tmod 2 = 0) (hneg : 0 ≤ 2 * bits + 2 - (La : Int)) (hn3 : (n : Int) ≤ 17000) (i r : Int) (more : Bool) (hi : (n : Int) = ex + 2 * i) (hR : RtAt (Nt.val zs) ex i r more) (hr0 : 0 < r) {C : Nat} (hC : BitLen r C) (hC2 : C ≤ 131072) (d : Nat) (hd : max ((C : Int) - bits) 0 = (d : Int)) :
    Calls Tryz.prog 65 #[dV false a zs.length c ex, .int .i64 bits] w fun e w' => RCut w w' (sv false (r / 2 ^ d)) (-i + d) (decide (r % 2 ^ d ≠ 0) || more) e := by
  have B1 := ((Bx.nil w).push (DO false a zs.length c ex)).push (DO false none 0 0 0)
  rw [show (w.alloc (DO false a zs.length c ex)).heap.size = w.heap.size + 1 by simp] at B1
  have p1 := g.pos hz
  have s1 := g_size g bx
  have x1 := g.ex_bd
  have HL := fun W (h : Below w.heap.size w W) => Hide.mk (refLenK a c zs W (l.below h (Nat.le_refl _)) g.good (B := La) (.inr ⟨p1, bx⟩))
  have HU := fun W (h : Below w.heap.size w W) => Hide.mk (refUp_any a c zs W n (by omega) (l.below h (Nat.le_refl _)) g.can.1 (by have := g.len; omega))
  have HQ := fun (A : Option Addr) (cA : Nat) (Z : List Int) W (lA : Lie W A Z) (cZ : Nt.Can Z) (vZ : Nt.val Z = Nt.val zs * 2 ^ n) => Hide.mk (refRoot31 A cA Z W lA cZ (by
    refine Classical.byContradiction fun k => ?_
    obtain rfl : Z = [] := List.length_eq_zero_iff.1 (by omega)
    rw [Nt.val_nil] at vZ
    have := Int.mul_pos p1 (p2pos n)
    omega) (by
    refine (Nt.can_len cZ 5000).1 ?_
    rw [vZ, show (4294967296 : Int) ^ 5000 = 2 ^ 160000 by rw [show (4294967296 : Int) = 2 ^ 32 by decide, ← Int.pow_mul]]
    have := (bx.up n).lt
    have := p2le (show La + n ≤ 160000 by omega)
    omega))
  have HR := fun (zr : List Int) (s : Int) (h0 : Nt.Can zr) (I : RtInv (Nt.val zs * 2 ^ n) (Nt.val zr) s) => Hide.mk ((rtFam (Nt.val zs) ex).uniq _ _ _ _ _ (rt_of2 hi (nneg_of zr h0) I) hR)
  have HX := fun (A : Option Addr) (cA : Nat) (Z : List Int) W (lA : Lie W A Z) (cZ : Nt.Can Z) (vZ : Nt.val Z = r) => Hide.mk (formX false A cA Z (-i) W lA cZ (by
    have := (Nt.can_len cZ 4096).1 (by
      rw [vZ, pw32]
      rcases hC with ⟨h, _⟩ | ⟨_, h⟩
      · rw [h]; exact p2pos _
      · have := h.lt
        have := p2le hC2
        omega)
    omega) (by omega) (by omega))
  have HC := fun (m : Bool) (A : Option Addr) (cA : Nat) (Z : List Int) (x : Int) W (lA : Lie W A Z) (F : Fm (sv false r) (-i) m Z x) => Hide.mk (rCutW false m A cA Z x bits (-i) W hr0 lA F (by omega) (by omega) hb1 hb2 hC hC2 d hd _ rfl)
  have y1 := x1.1
  have y2 := x1.2
  have HN := Hide.mk hn
  have HD : Hide ((ex - (n : Int)).tdiv 2 = -i) := ⟨by rw [hi, show ex - (ex + 2 * i) = 2 * (-i) by omega, Int.mul_tdiv_cancel_left _ (by decide)]⟩
  generalize hX : Nt.val zs = X at *
  clear l hz hC hd x1 hX bx g p1 hR hi hr0 hn
  go_enter Tryz.func65, Tryz.ntmps65
  go_wp2_with fail
  refine (HL _ B1.bel).out.mono ?_
  rintro e w3 ⟨rfl, h3⟩
  have HF := B1.keep h3
  clear h3 HL B1
  obtain ⟨⟨s0, s1, s2⟩, _⟩ := cells3 HF w.heap.size _ _ _ _ (.tail _ (.head _))
  go_wp2_with fail
  rw [HN.out]
  refine (HU _ HF.bel).out.mono ?_
  rintro e w6 ⟨z6, a6, c6, rfl, o6, n6, v6, h6⟩
  obtain ⟨a6', c6', he6, _, _, l6⟩ := o6.lie
  simp only [Value.slice.injEq, true_and] at he6
  obtain ⟨rfl, rfl⟩ := he6
  replace HF := HF.keep h6
  have HQ2 := HQ a6 c6 z6 w6 l6 n6 v6
  clear h6 o6 HQ HU l6 n6 s0 s1 s2
  go_wp2_with fail
  refine HQ2.out.mono ?_
  rintro e w7 ⟨zr, ar, cr, s, rfl, lr, nr, I, h7⟩
  rw [v6] at I
  replace HF := HF.keep h7
  obtain ⟨e1, e2⟩ := (HR zr s nr I).out
  have HX2 := HX ar cr zr w7 lr nr e1
  have HE := Hide.mk e2
  generalize hex : decide (s = 0) = exact at *
  clear h7 HQ2 v6 I HR HX lr nr e2 hex
  obtain ⟨⟨s0, s1, s2⟩, _⟩ := cells3 HF w.heap.size _ _ _ _ (.tail _ (.head _))
  go_wp2_with fail
  try rw [HN.out]
  rw [HD.out]
  refine HX2.out.mono ?_
  rintro e w8 ⟨n8, z8, x8, a8, c8, rfl, F8, l8, h8⟩
  rw [e1] at F8
  have HK := HC n8 a8 c8 z8 x8 w8 l8 F8
  replace HF := HF.keep h8
  clear h8 HX2 l8 F8 HC s0 s1 s2
  go_wp2_with fail
  refine HK.out.mono ?_
  rintro e w9 ⟨n9, z9, x9, a9, c9, rfl, F9, l9, h9⟩
  replace HF := HF.keep h9
  have HR := Hide.mk (And.intro F9 l9)
  clear HK h9 F9 l9
  generalize hL : decide (r % 2 ^ d ≠ 0) = lost at *
  have HFr := HF.sub (L' := [(w.heap.size + 1, DO false none 0 0 0)]) (by simp)
  have hlt9 : w.heap.size + 1 < w9.heap.size := HF.lt (p := (w.heap.size + 1, DO false none 0 0 0)) (by simp)
  obtain ⟨⟨t0, t1, t2⟩, u0, u1, u2⟩ := cells3 HFr (w.heap.size + 1) _ _ _ _ (.head _)
  have L := Hide.mk (Live.set3 (g := w.heap.size + 1) ⟨HFr.head, rfl⟩ (.bool n9) (.slice a9 z9.length c9) (.int .i64 x9) (Live.one HR.out.2))
  cases lost
  · go_wp2
    refine bodyPost_ret (results_D2 rfl _ _ (w.heap.size + 1) _ rfl ⟨((HFr.fill3 (by omega) (by simp) _ _ _).push _).tail.head, rfl⟩) rfl ?_
    exact ⟨n9, z9, x9, a9, c9, by rw [hL, ← HE.out]; rfl, HR.out.1, (L.out.all (a9, z9) (.head _)).below (below_alloc _ _) (Nat.le_refl _), ((HFr.fill3 (by omega) (by simp) _ _ _).push _).bel⟩
  · go_wp2
    refine bodyPost_ret (results_D2 rfl _ _ (w.heap.size + 1) _ rfl ⟨((HFr.fill3 (by omega) (by simp) _ _ _).push _).tail.head, rfl⟩) rfl ?_
    exact ⟨n9, z9, x9, a9, c9, by rw [hL]; rfl, HR.out.1, (L.out.all (a9, z9) (.head _)).below (below_alloc _ _) (Nat.le_refl _), ((HFr.fill3 (by omega) (by simp) _ _ _).push _).bel⟩
end Go.Proofs.YtchmljbkophdaaaGreatDoor

namespace Go.Proofs.YtchmljbkophdaaaGreatDoor
open Go.RowKit Go.Wd Go.Box
set_option linter.unusedVariables false
set_option maxRecDepth 20000
set_option maxHeartbeats 4000000 in
theorem rRoot_upo (a : Option Addr) (c : Nat) (zs : List Int) (ex bits : Int) (w : World) (l : Lie w a zs) (g : DG false zs ex) (hb1 : 1 ≤ bits) (hb2 : bits ≤ 8192) (hz : 0 < zs.length) {La : Nat} (bx : Bits (Nt.val zs) La) (n : Nat) (hn : 2 * bits + 2 - (La : Int) + 1 = (n : Int)) (hpar : ¬ (ex - (2 * bits + 2 - (La : Int))).tmod 2 = 0) (hneg : 0 ≤ 2 * bits + 2 - (La : Int)) (hn3 : (n : Int) ≤ 17000) (i r : Int) (more : Bool) (hi : (n : Int) = ex + 2 * i) (hR : RtAt (Nt.val zs) ex i r more) (hr0 : 0 < r) {C : Nat} (hC : BitLen r C) (hC2 : C ≤ 131072) (d : Nat) (hd : max ((C : Int) - bits) 0 = (d : Int)) :
    Calls Tryz.prog 65 #[dV false a zs.length c ex, .int .i64 bits] w fun e w' => RCut w w' (sv false (r / 2 ^ d)) (-i + d) (decide (r % 2 ^ d ≠ 0) || more) e := by
  have B1 := ((Bx.nil w).push (DO false a zs.length c ex)).push (DO false none 0 0 0)
  rw [show (w.alloc (DO false a zs.length c ex)).heap.size = w.heap.size + 1 by simp] at B1
  have p1 := g.pos hz
  have s1 := g_size g bx
  have x1 := g.ex_bd
  have HL := fun W (h : Below w.heap.size w W) => Hide.mk (refLenK a c zs W (l.below h (Nat.le_refl _)) g.good (B := La) (.inr ⟨p1, bx⟩))
  have HU := fun W (h : Below w.heap.size w W) => Hide.mk (refUp_any a c zs W n (by omega) (l.below h (Nat.le_refl _)) g.can.1 (by have := g.len; omega))
  have HQ := fun (A : Option Addr) (cA : Nat) (Z : List Int) W (lA : Lie W A Z) (cZ : Nt.Can Z) (vZ : Nt.val Z = Nt.val zs * 2 ^ n) => Hide.mk (refRoot31 A cA Z W lA cZ (by
    refine Classical.byContradiction fun k => ?_
    obtain rfl : Z = [] := List.length_eq_zero_iff.1 (by omega)
    rw [Nt.val_nil] at vZ
    have := Int.mul_pos p1 (p2pos n)
    omega) (by
    refine (Nt.can_len cZ 5000).1 ?_
    rw [vZ, show (4294967296 : Int) ^ 5000 = 2 ^ 160000 by rw [show (4294967296 : Int) = 2 ^ 32 by decide, ← Int.pow_mul]]
    have := (bx.up n).lt
    have := p2le (show La + n ≤ 160000 by omega)
    omega))
  have HR := fun (zr : List Int) (s : Int) (h0 : Nt.Can zr) (I : RtInv (Nt.val zs * 2 ^ n) (Nt.val zr) s) => Hide.mk ((rtFam (Nt.val zs) ex).uniq _ _ _ _ _ (rt_of2 hi (nneg_of zr h0) I) hR)
  have HX := fun (A : Option Addr) (cA : Nat) (Z : List Int) W (lA : Lie W A Z) (cZ : Nt.Can Z) (vZ : Nt.val Z = r) => Hide.mk (formX false A cA Z (-i) W lA cZ (by
    have := (Nt.can_len cZ 4096).1 (by
      rw [vZ, pw32]
      rcases hC with ⟨h, _⟩ | ⟨_, h⟩
      · rw [h]; exact p2pos _
      · have := h.lt
        have := p2le hC2
        omega)
    omega) (by omega) (by omega))
  have HC := fun (m : Bool) (A : Option Addr) (cA : Nat) (Z : List Int) (x : Int) W (lA : Lie W A Z) (F : Fm (sv false r) (-i) m Z x) => Hide.mk (rCutW false m A cA Z x bits (-i) W hr0 lA F (by omega) (by omega) hb1 hb2 hC hC2 d hd _ rfl)
  have y1 := x1.1
  have y2 := x1.2
  have HN := Hide.mk hn
  have HD : Hide ((ex - (n : Int)).tdiv 2 = -i) := ⟨by rw [hi, show ex - (ex + 2 * i) = 2 * (-i) by omega, Int.mul_tdiv_cancel_left _ (by decide)]⟩
  generalize hX : Nt.val zs = X at *
  clear l hz hC hd x1 hX bx g p1 hR hi hr0 hn
  go_enter Tryz.func65, Tryz.ntmps65
  go_wp2_with fail
  refine (HL _ B1.bel).out.mono ?_
  rintro e w3 ⟨rfl, h3⟩
  have HF := B1.keep h3
  clear h3 HL B1
  obtain ⟨⟨s0, s1, s2⟩, _⟩ := cells3 HF w.heap.size _ _ _ _ (.tail _ (.head _))
  go_wp2_with fail
  rw [HN.out]
  refine (HU _ HF.bel).out.mono ?_
  rintro e w6 ⟨z6, a6, c6, rfl, o6, n6, v6, h6⟩
  obtain ⟨a6', c6', he6, _, _, l6⟩ := o6.lie
  simp only [Value.slice.injEq, true_and] at he6
  obtain ⟨rfl, rfl⟩ := he6
  replace HF := HF.keep h6
  have HQ2 := HQ a6 c6 z6 w6 l6 n6 v6
  clear h6 o6 HQ HU l6 n6 s0 s1 s2
  go_wp2_with fail
  refine HQ2.out.mono ?_
  rintro e w7 ⟨zr, ar, cr, s, rfl, lr, nr, I, h7⟩
  rw [v6] at I
  replace HF := HF.keep h7
  obtain ⟨e1, e2⟩ := (HR zr s nr I).out
  have HX2 := HX ar cr zr w7 lr nr e1
  have HE := Hide.mk e2
  generalize hex : decide (s = 0) = exact at *
  clear h7 HQ2 v6 I HR HX lr nr e2 hex
  obtain ⟨⟨s0, s1, s2⟩, _⟩ := cells3 HF w.heap.size _ _ _ _ (.tail _ (.head _))
  go_wp2_with fail
  try rw [HN.out]
  rw [HD.out]
  refine HX2.out.mono ?_
  rintro e w8 ⟨n8, z8, x8, a8, c8, rfl, F8, l8, h8⟩
  rw [e1] at F8
  have HK := HC n8 a8 c8 z8 x8 w8 l8 F8
  replace HF := HF.keep h8
  clear h8 HX2 l8 F8 HC s0 s1 s2
  go_wp2_with fail
  refine HK.out.mono ?_
  rintro e w9 ⟨n9, z9, x9, a9, c9, rfl, F9, l9, h9⟩
  replace HF := HF.keep h9
  have HR := Hide.mk (And.intro F9 l9)
  clear HK h9 F9 l9
  generalize hL : decide (r % 2 ^ d ≠ 0) = lost at *
  have HFr := HF.sub (L' := [(w.heap.size + 1, DO false none 0 0 0)]) (by simp)
  have hlt9 : w.heap.size + 1 < w9.heap.size := HF.lt (p := (w.heap.size + 1, DO false none 0 0 0)) (by simp)
  obtain ⟨⟨t0, t1, t2⟩, u0, u1, u2⟩ := cells3 HFr (w.heap.size + 1) _ _ _ _ (.head _)
  have L := Hide.mk (Live.set3 (g := w.heap.size + 1) ⟨HFr.head, rfl⟩ (.bool n9) (.slice a9 z9.length c9) (.int .i64 x9) (Live.one HR.out.2))
  cases lost
  · go_wp2
    refine bodyPost_ret (results_D2 rfl _ _ (w.heap.size + 1) _ rfl ⟨((HFr.fill3 (by omega) (by simp) _ _ _).push _).tail.head, rfl⟩) rfl ?_
    exact ⟨n9, z9, x9, a9, c9, by rw [hL, ← HE.out]; rfl, HR.out.1, (L.out.all (a9, z9) (.head _)).below (below_alloc _ _) (Nat.le_refl _), ((HFr.fill3 (by omega) (by simp) _ _ _).push _).bel⟩
  · go_wp2
    refine bodyPost_ret (results_D2 rfl _ _ (w.heap.size + 1) _ rfl ⟨((HFr.fill3 (by omega) (by simp) _ _ _).push _).tail.head, rfl⟩) rfl ?_
    exact ⟨n9, z9, x9, a9, c9, by rw [hL]; rfl, HR.out.1, (L.out.all (a9, z9) (.head _)).below (below_alloc _ _) (Nat.le_refl _), ((HFr.fill3 (by omega) (by simp) _ _ _).push _).bel⟩
end Go.Proofs.YtchmljbkophdaaaGreatDoor

namespace Go.Proofs.YtchmljbkophdaaaGreatDoor
open Go.RowKit Go.Wd Go.Box
set_option linter.unusedVariables false
set_option maxRecDepth 20000
set_option maxHeartbeats 4000000 in
theorem rRoot_lowe (a : Option Addr) (c : Nat) (zs : List Int) (ex bits : Int) (w : World) (l : Lie w a zs) (g : DG false zs ex) (hb1 : 1 ≤ bits) (hb2 : bits ≤ 8192) (hz : 0 < zs.length) {La : Nat} (bx : Bits (Nt.val zs) La) (n : Nat) (hn : (0 : Int) = (n : Int)) (hpar : ex.tmod 2 = 0) (hneg : 2 * bits + 2 - (La : Int) < 0) (hn3 : (n : Int) ≤ 17000) (i r : Int) (more : Bool) (hi : (n : Int) = ex + 2 * i) (hR : RtAt (Nt.val zs) ex i r more) (hr0 : 0 < r) {C : Nat} (hC : BitLen r C) (hC2 : C ≤ 131072) (d : Nat) (hd : max ((C : Int) - bits) 0 = (d : Int)) :
    Calls Tryz.prog 65 #[dV false a zs.length c ex, .int .i64 bits] w fun e w' => RCut w w' (sv false (r / 2 ^ d)) (-i + d) (decide (r % 2 ^ d ≠ 0) || more) e := by
  have B1 := ((Bx.nil w).push (DO false a zs.length c ex)).push (DO false none 0 0 0)
  rw [show (w.alloc (DO false a zs.length c ex)).heap.size = w.heap.size + 1 by simp] at B1
  have p1 := g.pos hz
  have s1 := g_size g bx
  have x1 := g.ex_bd
  have HL := fun W (h : Below w.heap.size w W) => Hide.mk (refLenK a c zs W (l.below h (Nat.le_refl _)) g.good (B := La) (.inr ⟨p1, bx⟩))
  have HU := fun W (h : Below w.heap.size w W) => Hide.mk (refUp_any a c zs W n (by omega) (l.below h (Nat.le_refl _)) g.can.1 (by have := g.len; omega))
  have HQ := fun (A : Option Addr) (cA : Nat) (Z : List Int) W (lA : Lie W A Z) (cZ : Nt.Can Z) (vZ : Nt.val Z = Nt.val zs * 2 ^ n) => Hide.mk (refRoot31 A cA Z W lA cZ (by
    refine Classical.byContradiction fun k => ?_
    obtain rfl : Z = [] := List.length_eq_zero_iff.1 (by omega)
    rw [Nt.val_nil] at vZ
    have := Int.mul_pos p1 (p2pos n)
    omega) (by
    refine (Nt.can_len cZ 5000).1 ?_
    rw [vZ, show (4294967296 : Int) ^ 5000 = 2 ^ 160000 by rw [show (4294967296 : Int) = 2 ^ 32 by decide, ← Int.pow_mul]]
    have := (bx.up n).lt
    have := p2le (show La + n ≤ 160000 by omega)
    omega))
  have HR := fun (zr : List Int) (s : Int) (h0 : Nt.Can zr) (I : RtInv (Nt.val zs * 2 ^ n) (Nt.val zr) s) => Hide.mk ((rtFam (Nt.val zs) ex).uniq _ _ _ _ _ (rt_of2 hi (nneg_of zr h0) I) hR)
  have HX := fun (A : Option Addr) (cA : Nat) (Z : List Int) W (lA : Lie W A Z) (cZ : Nt.Can Z) (vZ : Nt.val Z = r) => Hide.mk (formX false A cA Z (-i) W lA cZ (by
    have := (Nt.can_len cZ 4096).1 (by
      rw [vZ, pw32]
      rcases hC with ⟨h, _⟩ | ⟨_, h⟩
      · rw [h]; exact p2pos _
      · have := h.lt
        have := p2le hC2
        omega)
    omega) (by omega) (by omega))
  have HC := fun (m : Bool) (A : Option Addr) (cA : Nat) (Z : List Int) (x : Int) W (lA : Lie W A Z) (F : Fm (sv false r) (-i) m Z x) => Hide.mk (rCutW false m A cA Z x bits (-i) W hr0 lA F (by omega) (by omega) hb1 hb2 hC hC2 d hd _ rfl)
  have y1 := x1.1
  have y2 := x1.2
  have HN := Hide.mk hn
  have hn1 : (n : Int) = 0 := by omega
  rw [hn1] at HU
  have HD0 : ((ex - (n : Int)).tdiv 2 = -i) := by rw [hi, show ex - (ex + 2 * i) = 2 * (-i) by omega, Int.mul_tdiv_cancel_left _ (by decide)]
  rw [hn1, Int.sub_zero] at HD0
  have HD := Hide.mk HD0
  clear HD0
  generalize hX : Nt.val zs = X at *
  clear l hz hC hd x1 hX bx g p1 hR hi hr0 hn
  go_enter Tryz.func65, Tryz.ntmps65
  go_wp2_with fail
  refine (HL _ B1.bel).out.mono ?_
  rintro e w3 ⟨rfl, h3⟩
  have HF := B1.keep h3
  clear h3 HL B1
  obtain ⟨⟨s0, s1, s2⟩, _⟩ := cells3 HF w.heap.size _ _ _ _ (.tail _ (.head _))
  go_wp2_with fail
  refine (HU _ HF.bel).out.mono ?_
  rintro e w6 ⟨z6, a6, c6, rfl, o6, n6, v6, h6⟩
  obtain ⟨a6', c6', he6, _, _, l6⟩ := o6.lie
  simp only [Value.slice.injEq, true_and] at he6
  obtain ⟨rfl, rfl⟩ := he6
  replace HF := HF.keep h6
  have HQ2 := HQ a6 c6 z6 w6 l6 n6 v6
  clear h6 o6 HQ HU l6 n6 s0 s1 s2
  go_wp2_with fail
  refine HQ2.out.mono ?_
  rintro e w7 ⟨zr, ar, cr, s, rfl, lr, nr, I, h7⟩
  rw [v6] at I
  replace HF := HF.keep h7
  obtain ⟨e1, e2⟩ := (HR zr s nr I).out
  have HX2 := HX ar cr zr w7 lr nr e1
  have HE := Hide.mk e2
  generalize hex : decide (s = 0) = exact at *
  clear h7 HQ2 v6 I HR HX lr nr e2 hex
  obtain ⟨⟨s0, s1, s2⟩, _⟩ := cells3 HF w.heap.size _ _ _ _ (.tail _ (.head _))
  go_wp2_with fail
  rw [HD.out]
  refine HX2.out.mono ?_
  rintro e w8 ⟨n8, z8, x8, a8, c8, rfl, F8, l8, h8⟩
  rw [e1] at F8
  have HK := HC n8 a8 c8 z8 x8 w8 l8 F8
  replace HF := HF.keep h8
  clear h8 HX2 l8 F8 HC s0 s1 s2
  go_wp2_with fail
  refine HK.out.mono ?_
  rintro e w9 ⟨n9, z9, x9, a9, c9, rfl, F9, l9, h9⟩
  replace HF := HF.keep h9
  have HR := Hide.mk (And.intro F9 l9)
  clear HK h9 F9 l9
  generalize hL : decide (r % 2 ^ d ≠ 0) = lost at *
  have HFr := HF.sub (L' := [(w.heap.size + 1, DO false none 0 0 0)]) (by simp)
  have hlt9 : w.heap.size + 1 < w9.heap.size := HF.lt (p := (w.heap.size + 1, DO false none 0 0 0)) (by simp)
  obtain ⟨⟨t0, t1, t2⟩, u0, u1, u2⟩ := cells3 HFr (w.heap.size + 1) _ _ _ _ (.head _)
  have L := Hide.mk (Live.set3 (g := w.heap.size + 1) ⟨HFr.head, rfl⟩ (.bool n9) (.slice a9 z9.length c9) (.int .i64 x9) (Live.one HR.out.2))
  cases lost
  · go_wp2
    refine bodyPost_ret (results_D2 rfl _ _ (w.heap.size + 1) _ rfl ⟨((HFr.fill3 (by omega) (by simp) _ _ _).push _).tail.head, rfl⟩) rfl ?_
    exact ⟨n9, z9, x9, a9, c9, by rw [hL, ← HE.out]; rfl, HR.out.1, (L.out.all (a9, z9) (.head _)).below (below_alloc _ _) (Nat.le_refl _), ((HFr.fill3 (by omega) (by simp) _ _ _).push _).bel⟩
  · go_wp2
    refine bodyPost_ret (results_D2 rfl _ _ (w.heap.size + 1) _ rfl ⟨((HFr.fill3 (by omega) (by simp) _ _ _).push _).tail.head, rfl⟩) rfl ?_
    exact ⟨n9, z9, x9, a9, c9, by rw [hL]; rfl, HR.out.1, (L.out.all (a9, z9) (.head _)).below (below_alloc _ _) (Nat.le_refl _), ((HFr.fill3 (by omega) (by simp) _ _ _).push _).bel⟩
end Go.Proofs.YtchmljbkophdaaaGreatDoor

namespace Go.Proofs.YtchmljbkophdaaaGreatDoor
open Go.RowKit Go.Wd Go.Box
set_option linter.unusedVariables false
set_option maxRecDepth 20000
set_option maxHeartbeats 4000000 in
theorem rRoot_lowo (a : Option Addr) (c : Nat) (zs : List Int) (ex bits : Int) (w : World) (l : Lie w a zs) (g : DG false zs ex) (hb1 : 1 ≤ bits) (hb2 : bits ≤ 8192) (hz : 0 < zs.length) {La : Nat} (bx : Bits (Nt.val zs) La) (n : Nat) (hn : (0 : Int) + 1 = (n : Int)) (hpar : ¬ ex.tmod 2 = 0) (hneg : 2 * bits + 2 - (La : Int) < 0) (hn3 : (n : Int) ≤ 17000) (i r : Int) (more : Bool) (hi : (n : Int) = ex + 2 * i) (hR : RtAt (Nt.val zs) ex i r more) (hr0 : 0 < r) {C : Nat} (hC : BitLen r C) (hC2 : C ≤ 131072) (d : Nat) (hd : max ((C : Int) - bits) 0 = (d : Int)) :
    Calls Tryz.prog 65 #[dV false a zs.length c ex, .int .i64 bits] w fun e w' => RCut w w' (sv false (r / 2 ^ d)) (-i + d) (decide (r % 2 ^ d ≠ 0) || more) e := by
  have B1 := ((Bx.nil w).push (DO false a zs.length c ex)).push (DO false none 0 0 0)
  rw [show (w.alloc (DO false a zs.length c ex)).heap.size = w.heap.size + 1 by simp] at B1
  have p1 := g.pos hz
  have s1 := g_size g bx
  have x1 := g.ex_bd
  have HL := fun W (h : Below w.heap.size w W) => Hide.mk (refLenK a c zs W (l.below h (Nat.le_refl _)) g.good (B := La) (.inr ⟨p1, bx⟩))
  have HU := fun W (h : Below w.heap.size w W) => Hide.mk (refUp_any a c zs W n (by omega) (l.below h (Nat.le_refl _)) g.can.1 (by have := g.len; omega))
  have HQ := fun (A : Option Addr) (cA : Nat) (Z : List Int) W (lA : Lie W A Z) (cZ : Nt.Can Z) (vZ : Nt.val Z = Nt.val zs * 2 ^ n) => Hide.mk (refRoot31 A cA Z W lA cZ (by
    refine Classical.byContradiction fun k => ?_
    obtain rfl : Z = [] := List.length_eq_zero_iff.1 (by omega)
    rw [Nt.val_nil] at vZ
    have := Int.mul_pos p1 (p2pos n)
    omega) (by
    refine (Nt.can_len cZ 5000).1 ?_
    rw [vZ, show (4294967296 : Int) ^ 5000 = 2 ^ 160000 by rw [show (4294967296 : Int) = 2 ^ 32 by decide, ← Int.pow_mul]]
    have := (bx.up n).lt
    have := p2le (show La + n ≤ 160000 by omega)
    omega))
  have HR := fun (zr : List Int) (s : Int) (h0 : Nt.Can zr) (I : RtInv (Nt.val zs * 2 ^ n) (Nt.val zr) s) => Hide.mk ((rtFam (Nt.val zs) ex).uniq _ _ _ _ _ (rt_of2 hi (nneg_of zr h0) I) hR)
  have HX := fun (A : Option Addr) (cA : Nat) (Z : List Int) W (lA : Lie W A Z) (cZ : Nt.Can Z) (vZ : Nt.val Z = r) => Hide.mk (formX false A cA Z (-i) W lA cZ (by
    have := (Nt.can_len cZ 4096).1 (by
      rw [vZ, pw32]
      rcases hC with ⟨h, _⟩ | ⟨_, h⟩
      · rw [h]; exact p2pos _
      · have := h.lt
        have := p2le hC2
        omega)
    omega) (by omega) (by omega))
  have HC := fun (m : Bool) (A : Option Addr) (cA : Nat) (Z : List Int) (x : Int) W (lA : Lie W A Z) (F : Fm (sv false r) (-i) m Z x) => Hide.mk (rCutW false m A cA Z x bits (-i) W hr0 lA F (by omega) (by omega) hb1 hb2 hC hC2 d hd _ rfl)
  have y1 := x1.1
  have y2 := x1.2
  have HN := Hide.mk hn
  have hn1 : (n : Int) = 1 := by omega
  rw [hn1] at HU
  have HD0 : ((ex - (n : Int)).tdiv 2 = -i) := by rw [hi, show ex - (ex + 2 * i) = 2 * (-i) by omega, Int.mul_tdiv_cancel_left _ (by decide)]
  rw [hn1] at HD0
  have HD := Hide.mk HD0
  clear HD0
  generalize hX : Nt.val zs = X at *
  clear l hz hC hd x1 hX bx g p1 hR hi hr0 hn
  go_enter Tryz.func65, Tryz.ntmps65
  go_wp2_with fail
  refine (HL _ B1.bel).out.mono ?_
  rintro e w3 ⟨rfl, h3⟩
  have HF := B1.keep h3
  clear h3 HL B1
  obtain ⟨⟨s0, s1, s2⟩, _⟩ := cells3 HF w.heap.size _ _ _ _ (.tail _ (.head _))
  go_wp2_with fail
  refine (HU _ HF.bel).out.mono ?_
  rintro e w6 ⟨z6, a6, c6, rfl, o6, n6, v6, h6⟩
  obtain ⟨a6', c6', he6, _, _, l6⟩ := o6.lie
  simp only [Value.slice.injEq, true_and] at he6
  obtain ⟨rfl, rfl⟩ := he6
  replace HF := HF.keep h6
  have HQ2 := HQ a6 c6 z6 w6 l6 n6 v6
  clear h6 o6 HQ HU l6 n6 s0 s1 s2
  go_wp2_with fail
  refine HQ2.out.mono ?_
  rintro e w7 ⟨zr, ar, cr, s, rfl, lr, nr, I, h7⟩
  rw [v6] at I
  replace HF := HF.keep h7
  obtain ⟨e1, e2⟩ := (HR zr s nr I).out
  have HX2 := HX ar cr zr w7 lr nr e1
  have HE := Hide.mk e2
  generalize hex : decide (s = 0) = exact at *
  clear h7 HQ2 v6 I HR HX lr nr e2 hex
  obtain ⟨⟨s0, s1, s2⟩, _⟩ := cells3 HF w.heap.size _ _ _ _ (.tail _ (.head _))
  go_wp2_with fail
  rw [HD.out]
  refine HX2.out.mono ?_
  rintro e w8 ⟨n8, z8, x8, a8, c8, rfl, F8, l8, h8⟩
  rw [e1] at F8
  have HK := HC n8 a8 c8 z8 x8 w8 l8 F8
  replace HF := HF.keep h8
  clear h8 HX2 l8 F8 HC s0 s1 s2
  go_wp2_with fail
  refine HK.out.mono ?_
  rintro e w9 ⟨n9, z9, x9, a9, c9, rfl, F9, l9, h9⟩
  replace HF := HF.keep h9
  have HR := Hide.mk (And.intro F9 l9)
  clear HK h9 F9 l9
  generalize hL : decide (r % 2 ^ d ≠ 0) = lost at *
  have HFr := HF.sub (L' := [(w.heap.size + 1, DO false none 0 0 0)]) (by simp)
  have hlt9 : w.heap.size + 1 < w9.heap.size := HF.lt (p := (w.heap.size + 1, DO false none 0 0 0)) (by simp)
  obtain ⟨⟨t0, t1, t2⟩, u0, u1, u2⟩ := cells3 HFr (w.heap.size + 1) _ _ _ _ (.head _)
  have L := Hide.mk (Live.set3 (g := w.heap.size + 1) ⟨HFr.head, rfl⟩ (.bool n9) (.slice a9 z9.length c9) (.int .i64 x9) (Live.one HR.out.2))
  cases lost
  · go_wp2
    refine bodyPost_ret (results_D2 rfl _ _ (w.heap.size + 1) _ rfl ⟨((HFr.fill3 (by omega) (by simp) _ _ _).push _).tail.head, rfl⟩) rfl ?_
    exact ⟨n9, z9, x9, a9, c9, by rw [hL, ← HE.out]; rfl, HR.out.1, (L.out.all (a9, z9) (.head _)).below (below_alloc _ _) (Nat.le_refl _), ((HFr.fill3 (by omega) (by simp) _ _ _).push _).bel⟩
  · go_wp2
    refine bodyPost_ret (results_D2 rfl _ _ (w.heap.size + 1) _ rfl ⟨((HFr.fill3 (by omega) (by simp) _ _ _).push _).tail.head, rfl⟩) rfl ?_
    exact ⟨n9, z9, x9, a9, c9, by rw [hL]; rfl, HR.out.1, (L.out.all (a9, z9) (.head _)).below (below_alloc _ _) (Nat.le_refl _), ((HFr.fill3 (by omega) (by simp) _ _ _).push _).bel⟩
end Go.Proofs.YtchmljbkophdaaaGreatDoor

namespace Go.Proofs.YtchmljbkophdaaaGreatDoor
open Go.RowKit Go.Wd Go.Box
set_option linter.unusedVariables false
set_option maxRecDepth 20000
end Go.Proofs.YtchmljbkophdaaaGreatDoor

namespace Go.Proofs.YtchmljbkophdaaaGreatDoor
open Go.RowKit Go.Wd Go.Box
set_option linter.unusedVariables false
set_option maxRecDepth 20000
end Go.Proofs.YtchmljbkophdaaaGreatDoor
