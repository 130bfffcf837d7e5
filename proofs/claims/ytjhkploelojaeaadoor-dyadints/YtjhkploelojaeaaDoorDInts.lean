import Derived.Test.YtjhkploelojaeaaDoorM16
namespace Go.Proofs.YtjhkploelojaeaaDoor
open Go.RowKit
set_option linter.unusedVariables false
set_option maxRecDepth 3000
/-- The number n in its form. -/
def IsI (n : Int) (ng : Bool) (zs : List Int) (ex : Int) : Prop := (n = 0 ∧ ng = false ∧ zs = [] ∧ ex = 0) ∨ (n ≠ 0 ∧ ∃ t : Nat, LowBit (n.natAbs : Int) t ∧ ng = decide (n < 0) ∧ ex = t ∧ Good zs ((n.natAbs : Int) / 2 ^ t))
theorem IsI.same {n : Int} {g1 g2 : Bool} {z1 z2 : List Int} {e1 e2 : Int} (h : IsI n g1 z1 e1) (k : IsI n g2 z2 e2) : g1 = g2 ∧ e1 = e2 ∧ z1 = z2 := by
  rcases h with ⟨h0, rfl, rfl, rfl⟩ | ⟨h0, t, ht, rfl, rfl, hg⟩ <;> rcases k with ⟨k0, rfl, rfl, rfl⟩ | ⟨k0, s, hs, rfl, rfl, kg⟩
  · exact ⟨rfl, rfl, rfl⟩
  · exact absurd h0 k0
  · exact absurd k0 h0
  · obtain rfl := ht.unique hs
    exact ⟨rfl, rfl, hg.same kg rfl⟩
theorem IsI.dlie {n : Int} {g1 : Bool} {z1 : List Int} {e1 : Int} (h : IsI n g1 z1 e1) {w : World} {a : Option Addr} (hl : Lie w a z1) : DLie w a z1 := by
  rcases h with ⟨_, _, rfl, _⟩ | ⟨_, t, _, _, _, hg⟩
  · exact ⟨hl, by unfold maxLen; simp, Nt.rng_nil⟩
  · exact ⟨hl, by have := hg.len; unfold maxLen; omega, hg.can.1⟩
theorem dintI (n : Int) (h0 : -9223372036854775808 ≤ n) (h1 : n ≤ 9223372036854775807) (w : World) (hT : Tab w) :
    Calls Tryd.prog 43 #[.int .i64 n] w fun e w' => ∃ ng zs ex a c, e = .returned (dV ng a zs.length c ex) ∧ IsI n ng zs ex ∧ Lie w' a zs ∧ Below w.heap.size w w' := by
  have key : Calls Tryd.prog 43 #[.int .i64 n] w fun e w' => ∃ ng a k c ex code, e = .returned (dV ng a k c ex) ∧ DV w w' n 0 ng a k c ex code := by
    by_cases c : 0 ≤ n
    · exact dint43_pos n c h1 w hT
    · exact dint43_neg n (by omega) h0 w hT
  refine key.mono ?_
  rintro e w' ⟨ng, a, k, c, ex, code, rfl, hv⟩
  rcases hv.all with ⟨hn, rfl, rfl, rfl, rfl, rfl, rfl⟩ | ⟨hn, t, ht, hh⟩
  · exact ⟨false, [], 0, none, 0, rfl, .inl ⟨hn, rfl, rfl, rfl⟩, .inl rfl, hv.bel⟩
  · have e2 := low_half ht
    have hp := p2pos t
    have h5 : 1 ≤ (n.natAbs : Int) / 2 ^ t := by
      have := Int.ediv_nonneg (show 0 ≤ (n.natAbs : Int) by omega) (Int.le_of_lt hp)
      have := ht.one
      omega
    have h6 : 1 * 2 ^ t ≤ (n.natAbs : Int) / 2 ^ t * 2 ^ t := Int.mul_le_mul_of_nonneg_right h5 (Int.le_of_lt hp)
    have h7 : t < 64 := p2lt (by have : (2 : Int) ^ 64 = 18446744073709551616 := by decide
                                 omega)
    rcases hh with ⟨j1, j2, rfl, rfl, rfl, zs, rfl, j3, j4⟩ | ⟨j1, _⟩ | ⟨_, j1, _⟩
    · obtain ⟨a2, c2, he, _, _, hl⟩ := j4.lie
      simp only [Value.slice.injEq, true_and] at he
      obtain ⟨rfl, rfl⟩ := he
      exact ⟨_, zs, 0 + t, a, c, rfl, .inr ⟨hn, t, ht, rfl, by omega, j3⟩, hl, hv.bel⟩
    · have h8 : (n.natAbs : Int) / 2 ^ t ≤ (n.natAbs : Int) := Int.ediv_le_self _ (by omega)
      have h9 := small_pow (x := (n.natAbs : Int)) (by have : (4294967296 : Int) ^ 2 = 18446744073709551616 := by decide
                                                       omega)
      omega
    · omega
theorem dform_nil (ng : Bool) (a : Option Addr) (ca : Nat) (ex : Int) (w : World) :
    Calls Tryd.prog 41 #[.bool ng, .slice a 0 ca, .int .i64 ex] w fun e w' => e = .returned noD ∧ Below w.heap.size w w' := by
  go_enter Tryd.func41, Tryd.ntmps41
  go_wp2
  refine bodyPost_ret (results_D1 rfl _ _ w.heap.size _ rfl (dcell_new _ _ _ _)) rfl ?_
  exact ⟨rfl, below_alloc _ _⟩
theorem dformI (n : Int) (ng : Bool) (hng : ng = decide (n < 0)) (a : Option Addr) (ca : Nat) (za : List Int) (w : World) (ha : Lie w a za) (ga : Good za (n.natAbs : Int)) :
    Calls Tryd.prog 41 #[.bool ng, .slice a za.length ca, .int .i64 0] w fun e w' => ∃ g zs ex a c, e = .returned (dV g a zs.length c ex) ∧ IsI n g zs ex ∧ Lie w' a zs ∧ Below w.heap.size w w' := by
  by_cases hz : 0 < za.length
  · obtain ⟨t, ht⟩ := low_ex (ga.pos hz)
    have hp := ga.pos hz
    refine (dform41 ng a ca za 0 w ha ga hz ht (by decide) (by decide)).mono ?_
    rintro e w' ⟨zs, a', c, rfl, h⟩
    exact ⟨ng, zs, 0 + t, a', c, rfl, .inr ⟨by omega, t, ht, hng, by omega, h.good⟩, h.lie, h.bel⟩
  · obtain ⟨rfl, h0⟩ := ga.nil (by omega)
    refine (dform_nil ng a ca 0 w).mono ?_
    rintro e w' ⟨rfl, hb⟩
    exact ⟨false, [], 0, none, 0, rfl, .inl ⟨by omega, rfl, rfl, rfl⟩, .inl rfl, hb⟩
set_option maxHeartbeats 2000000 in
theorem drefint_pos (n : Int) (h0 : 0 ≤ n) (h1 : n ≤ 9223372036854775807) (w : World) :
    Calls Tryd.prog 44 #[.int .i64 n] w fun e w' => ∃ g zs ex a c, e = .returned (dV g a zs.length c ex) ∧ IsI n g zs ex ∧ Lie w' a zs ∧ Below w.heap.size w w' := by
  have hb := below_alloc w (.cells #[.bool false, .slice none 0 0, .int .i64 0] 44)
  have hd := dcell_new w (.bool false) (.slice none 0 0) (.int .i64 0)
  have hsz : w.heap.size < (w.alloc (.cells #[.bool false, .slice none 0 0, .int .i64 0] 44)).heap.size := by simp
  go_enter Tryd.func44, Tryd.ntmps44
  go_wp2_with fail
  generalize hw1 : w.alloc (.cells #[.bool false, .slice none 0 0, .int .i64 0] 44) = w1 at *
  clear hw1
  refine (of17 n (by omega) (by omega) _).mono ?_
  rintro e w2 ⟨z2, a2, c2, rfl, h2, _⟩
  have g2 : Good z2 (n.natAbs : Int) := ⟨h2.can, h2.len, by rw [h2.val]; omega⟩
  have l2 := h2.lie
  have hb2 := below_then hb h2.bel
  have hd2 := hd.below h2.bel hsz
  have hsz2 := Nat.lt_of_lt_of_le hsz h2.bel.size
  clear h2 hd hb hsz
  go_wp2_with fail
  refine (dformI n (decide (n < 0)) rfl a2 c2 z2 _ l2 g2).mono ?_
  rintro e w3 ⟨g, zs, ex, a, c, rfl, hI, hl, h3⟩
  have hd3 := hd2.below h3 hsz2
  have hb3 := below_then hb2 h3
  have HI := Hide.mk (And.intro hI (And.intro hl hb3))
  clear hI hl h3 hd2 hb3
  have f0 := hd3.c0
  have f1 := hd3.c1
  have f2 := hd3.c2
  have r0 := hd3.fr 0
  have r1 := hd3.fr 1
  have r2 := hd3.fr 2
  go_wp2
  refine bodyPost_ret (results_D1 rfl _ _ w.heap.size _ rfl (((hd3.set 0 _).set 1 _).set 2 _)) rfl ?_
  have L := Live.set3 hd3 (.bool g) (.slice a zs.length c) (.int .i64 ex) (Live.one HI.out.2.1)
  exact ⟨g, zs, ex, a, c, rfl, HI.out.1, L.all (a, zs) (.head _), ((HI.out.2.2.setCell (p := ⟨w.heap.size, 0, none⟩) (Nat.le_refl _) _).setCell (p := ⟨w.heap.size, 1, none⟩) (Nat.le_refl _) _).setCell (p := ⟨w.heap.size, 2, none⟩) (Nat.le_refl _) _⟩
set_option maxHeartbeats 2000000 in
theorem drefint_neg (n : Int) (h0 : n < 0) (h1 : -9223372036854775808 ≤ n) (w : World) :
    Calls Tryd.prog 44 #[.int .i64 n] w fun e w' => ∃ g zs ex a c, e = .returned (dV g a zs.length c ex) ∧ IsI n g zs ex ∧ Lie w' a zs ∧ Below w.heap.size w w' := by
  have hb := below_alloc w (.cells #[.bool false, .slice none 0 0, .int .i64 0] 44)
  have hd := dcell_new w (.bool false) (.slice none 0 0) (.int .i64 0)
  have hsz : w.heap.size < (w.alloc (.cells #[.bool false, .slice none 0 0, .int .i64 0] 44)).heap.size := by simp
  go_enter Tryd.func44, Tryd.ntmps44
  go_wp2_with fail
  generalize hw1 : w.alloc (.cells #[.bool false, .slice none 0 0, .int .i64 0] 44) = w1 at *
  clear hw1
  have hwr : IntKind.u64.wrap (-IntKind.u64.wrap n) = -n := wrapu_neg h0 h1
  rw [hwr]
  refine (of17 (-n) (by omega) (by omega) _).mono ?_
  rintro e w2 ⟨z2, a2, c2, rfl, h2, _⟩
  have g2 : Good z2 (n.natAbs : Int) := ⟨h2.can, h2.len, by rw [h2.val]; omega⟩
  have l2 := h2.lie
  have hb2 := below_then hb h2.bel
  have hd2 := hd.below h2.bel hsz
  have hsz2 := Nat.lt_of_lt_of_le hsz h2.bel.size
  clear h2 hd hb hsz
  go_wp2_with fail
  refine (dformI n true (decide_eq_true h0).symm a2 c2 z2 _ l2 g2).mono ?_
  rintro e w3 ⟨g, zs, ex, a, c, rfl, hI, hl, h3⟩
  have hd3 := hd2.below h3 hsz2
  have hb3 := below_then hb2 h3
  have HI := Hide.mk (And.intro hI (And.intro hl hb3))
  clear hI hl h3 hd2 hb3
  have f0 := hd3.c0
  have f1 := hd3.c1
  have f2 := hd3.c2
  have r0 := hd3.fr 0
  have r1 := hd3.fr 1
  have r2 := hd3.fr 2
  go_wp2
  refine bodyPost_ret (results_D1 rfl _ _ w.heap.size _ rfl (((hd3.set 0 _).set 1 _).set 2 _)) rfl ?_
  have L := Live.set3 hd3 (.bool g) (.slice a zs.length c) (.int .i64 ex) (Live.one HI.out.2.1)
  exact ⟨g, zs, ex, a, c, rfl, HI.out.1, L.all (a, zs) (.head _), ((HI.out.2.2.setCell (p := ⟨w.heap.size, 0, none⟩) (Nat.le_refl _) _).setCell (p := ⟨w.heap.size, 1, none⟩) (Nat.le_refl _) _).setCell (p := ⟨w.heap.size, 2, none⟩) (Nat.le_refl _) _⟩
theorem drefint44 (n : Int) (h0 : -9223372036854775808 ≤ n) (h1 : n ≤ 9223372036854775807) (w : World) :
    Calls Tryd.prog 44 #[.int .i64 n] w fun e w' => ∃ g zs ex a c, e = .returned (dV g a zs.length c ex) ∧ IsI n g zs ex ∧ Lie w' a zs ∧ Below w.heap.size w w' := by
  by_cases c : 0 ≤ n
  · exact drefint_pos n c h1 w
  · exact drefint_neg n (by omega) h0 w
set_option maxHeartbeats 2000000 in
theorem dints_long (n : Int) (n1 : Bool) (a1 : Option Addr) (c1 : Nat) (z1 : List Int) (e1 : Int) (w : World) (m0 : -9223372036854775808 ≤ n) (m1 : n ≤ 9223372036854775807) (u1 : DLie w a1 z1) (hnil : a1 = none → c1 = 0) (hT : Tab w) (hl : (4100 : Int) < (z1.length : Int)) :
    Calls Tryd.prog 8 #[.int .i64 n, dV n1 a1 z1.length c1 e1] w fun e w' => e = .returned (.bool true) ∧ Below w.heap.size w w' := by
  have hb1 := below_alloc w (.cells #[.bool n1, .slice a1 z1.length c1, .int .i64 e1] 44)
  go_enter Tryd.func8, Tryd.ntmps8
  go_wp2_with fail
  refine (dknown34 _ (hT.below hb1 (Nat.le_refl _))).mono ?_
  rintro e w9 ⟨rfl, h9⟩
  have hb9 := below_then hb1 h9
  clear h9
  go_wp2
  go_ret
  exact ⟨rfl, hb9⟩
set_option maxHeartbeats 4000000 in
theorem dints_bad (n : Int) (n1 : Bool) (a1 : Option Addr) (c1 : Nat) (z1 : List Int) (e1 : Int) (w : World) (m0 : -9223372036854775808 ≤ n) (m1 : n ≤ 9223372036854775807) (u1 : DLie w a1 z1) (hnil : a1 = none → c1 = 0) (hT : Tab w) (hl : (z1.length : Int) ≤ 4100) (hq : dmayB n1 z1 e1 = false) :
    Calls Tryd.prog 8 #[.int .i64 n, dV n1 a1 z1.length c1 e1] w fun e w' => e = .returned (.bool true) ∧ Below w.heap.size w w' := by
  have HU := Hide.mk u1
  have HN := Hide.mk hnil
  have HQ := Hide.mk hq
  have HLm : Hide (z1.length ≤ 1000000) := ⟨by omega⟩
  clear hnil hq
  have hb1 := below_alloc w (.cells #[.bool n1, .slice a1 z1.length c1, .int .i64 e1] 44)
  have BX : Boxes (w.alloc (.cells #[.bool n1, .slice a1 z1.length c1, .int .i64 e1] 44)) [(w.heap.size, #[.bool n1, .slice a1 z1.length c1, .int .i64 e1])] := ⟨by intro p hp; obtain rfl := List.mem_singleton.1 hp; exact dcell_new _ _ _ _⟩
  go_enter Tryd.func8, Tryd.ntmps8
  go_wp2_with fail
  generalize hw1 : w.alloc (.cells #[.bool n1, .slice a1 z1.length c1, .int .i64 e1] 44) = w1 at *
  clear hw1
  have HB : Below w.heap.size w w1 := hb1
  have L : Live w1 [(a1, z1)] := ⟨by simp [u1.lie.below hb1 (Nat.le_refl _)]⟩
  have HT := Hide.mk (hT.below hb1 (Nat.le_refl _))
  clear hb1 u1 hT
  refine (dintI n m0 m1 _ HT.out).mono ?_
  rintro e w2 ⟨n2, z2, e2, a2, c2, rfl, I2, l2, b2⟩
  replace L := L.push l2 b2
  replace BX := BX.keep b2
  replace HT := Hide.mk (HT.out.below b2 (Nat.le_refl _))
  replace HB := below_then HB b2
  clear l2 b2
  go_wp2_with fail
  refine (drefint44 n m0 m1 _).mono ?_
  rintro e w3 ⟨n3, z3, e3, a3, c3, rfl, I3, l3, b3⟩
  replace L := L.push l3 b3
  replace BX := BX.keep b3
  replace HT := Hide.mk (HT.out.below b3 (Nat.le_refl _))
  replace HB := below_then HB b3
  clear l3 b3
  go_wp2_with fail
  refine (dsame40 n2 n3 a2 a3 c2 c3 z2 z3 e2 e3 _ (I2.dlie (L.all (a2, z2) (.tail _ (.head _)))) (I3.dlie (L.all (a3, z3) (.head _))) true (decide_eq_true (I2.same I3))).mono ?_
  rintro e w4 ⟨rfl, h4⟩
  replace L := L.keep h4
  replace BX := BX.keep h4
  replace HT := Hide.mk (HT.out.below h4 (Nat.le_refl _))
  replace HB := below_then HB h4
  clear h4
  have fA0 := (BX.all (w.heap.size, #[.bool n1, .slice a1 z1.length c1, .int .i64 e1]) (.head _)).c0
  have fA1 := (BX.all (w.heap.size, #[.bool n1, .slice a1 z1.length c1, .int .i64 e1]) (.head _)).c1
  have fA2 := (BX.all (w.heap.size, #[.bool n1, .slice a1 z1.length c1, .int .i64 e1]) (.head _)).c2
  go_wp2_with fail
  refine (dlent35 n1 a1 c1 z1 e1 _ (L.all (a1, z1) (.tail _ (.tail _ (.head _)))) HLm.out HN.out).mono ?_
  rintro e w5 ⟨ax, cx, rfl, l5, b5, _⟩
  clear fA0 fA1 fA2
  replace L := L.push l5 b5
  replace BX := BX.keep b5
  replace HT := Hide.mk (HT.out.below b5 (Nat.le_refl _))
  replace HB := below_then HB b5
  clear l5 b5
  go_wp2_with fail
  refine (dint64_bad n1 ax cx z1 e1 _ ⟨(L.all (ax, z1) (.head _)), HU.out.len, HU.out.rng⟩ HQ.out).mono ?_
  rintro e w6 ⟨rfl, h6⟩
  replace L := L.keep h6
  replace BX := BX.keep h6
  replace HT := Hide.mk (HT.out.below h6 (Nat.le_refl _))
  replace HB := below_then HB h6
  clear h6
  have fA0 := (BX.all (w.heap.size, #[.bool n1, .slice a1 z1.length c1, .int .i64 e1]) (.head _)).c0
  have fA1 := (BX.all (w.heap.size, #[.bool n1, .slice a1 z1.length c1, .int .i64 e1]) (.head _)).c1
  have fA2 := (BX.all (w.heap.size, #[.bool n1, .slice a1 z1.length c1, .int .i64 e1]) (.head _)).c2
  go_wp2_with fail
  refine (drefmay37 n1 a1 c1 z1 e1 _ ⟨(L.all (a1, z1) (.tail _ (.tail _ (.tail _ (.head _))))), HU.out.len, HU.out.rng⟩ _ HQ.out).mono ?_
  rintro e w7 ⟨rfl, h7⟩
  clear fA0 fA1 fA2
  replace L := L.keep h7
  replace BX := BX.keep h7
  replace HT := Hide.mk (HT.out.below h7 (Nat.le_refl _))
  replace HB := below_then HB h7
  clear h7
  go_wp2_with fail
  refine (dknown34 _ HT.out).mono ?_
  rintro e w9 ⟨rfl, h9⟩
  have hb9 := below_then HB h9
  clear h9 L BX HT HB
  go_wp2
  go_ret
  exact ⟨rfl, hb9⟩
set_option maxHeartbeats 4000000 in
theorem dints_good (n : Int) (n1 : Bool) (a1 : Option Addr) (c1 : Nat) (z1 : List Int) (e1 : Int) (w : World) (m0 : -9223372036854775808 ≤ n) (m1 : n ≤ 9223372036854775807) (u1 : DLie w a1 z1) (hnil : a1 = none → c1 = 0) (hT : Tab w) (hl : (z1.length : Int) ≤ 4100) (hq : dmayB n1 z1 e1 = true) {B : Nat} (hB : BitLen (Nt.val z1) B) (k : Int) (q : Bool) (hr : i64r n1 (Nt.val z1) e1 B = (k, q)) :
    Calls Tryd.prog 8 #[.int .i64 n, dV n1 a1 z1.length c1 e1] w fun e w' => e = .returned (.bool true) ∧ Below w.heap.size w w' := by
  have HU := Hide.mk u1
  have HN := Hide.mk hnil
  have HQ := Hide.mk hq
  have HLm : Hide (z1.length ≤ 1000000) := ⟨by omega⟩
  have HR := Hide.mk hr
  have HBL := Hide.mk hB
  have HG := Hide.mk (DG.of u1.rng hq)
  clear hr hB
  have hkk : (k == k) = true := by simp
  clear hnil hq
  have hb1 := below_alloc w (.cells #[.bool n1, .slice a1 z1.length c1, .int .i64 e1] 44)
  have BX : Boxes (w.alloc (.cells #[.bool n1, .slice a1 z1.length c1, .int .i64 e1] 44)) [(w.heap.size, #[.bool n1, .slice a1 z1.length c1, .int .i64 e1])] := ⟨by intro p hp; obtain rfl := List.mem_singleton.1 hp; exact dcell_new _ _ _ _⟩
  go_enter Tryd.func8, Tryd.ntmps8
  go_wp2_with fail
  generalize hw1 : w.alloc (.cells #[.bool n1, .slice a1 z1.length c1, .int .i64 e1] 44) = w1 at *
  clear hw1
  have HB : Below w.heap.size w w1 := hb1
  have L : Live w1 [(a1, z1)] := ⟨by simp [u1.lie.below hb1 (Nat.le_refl _)]⟩
  have HT := Hide.mk (hT.below hb1 (Nat.le_refl _))
  clear hb1 u1 hT
  refine (dintI n m0 m1 _ HT.out).mono ?_
  rintro e w2 ⟨n2, z2, e2, a2, c2, rfl, I2, l2, b2⟩
  replace L := L.push l2 b2
  replace BX := BX.keep b2
  replace HT := Hide.mk (HT.out.below b2 (Nat.le_refl _))
  replace HB := below_then HB b2
  clear l2 b2
  go_wp2_with fail
  refine (drefint44 n m0 m1 _).mono ?_
  rintro e w3 ⟨n3, z3, e3, a3, c3, rfl, I3, l3, b3⟩
  replace L := L.push l3 b3
  replace BX := BX.keep b3
  replace HT := Hide.mk (HT.out.below b3 (Nat.le_refl _))
  replace HB := below_then HB b3
  clear l3 b3
  go_wp2_with fail
  refine (dsame40 n2 n3 a2 a3 c2 c3 z2 z3 e2 e3 _ (I2.dlie (L.all (a2, z2) (.tail _ (.head _)))) (I3.dlie (L.all (a3, z3) (.head _))) true (decide_eq_true (I2.same I3))).mono ?_
  rintro e w4 ⟨rfl, h4⟩
  replace L := L.keep h4
  replace BX := BX.keep h4
  replace HT := Hide.mk (HT.out.below h4 (Nat.le_refl _))
  replace HB := below_then HB h4
  clear h4
  have fA0 := (BX.all (w.heap.size, #[.bool n1, .slice a1 z1.length c1, .int .i64 e1]) (.head _)).c0
  have fA1 := (BX.all (w.heap.size, #[.bool n1, .slice a1 z1.length c1, .int .i64 e1]) (.head _)).c1
  have fA2 := (BX.all (w.heap.size, #[.bool n1, .slice a1 z1.length c1, .int .i64 e1]) (.head _)).c2
  go_wp2_with fail
  refine (dlent35 n1 a1 c1 z1 e1 _ (L.all (a1, z1) (.tail _ (.tail _ (.head _)))) HLm.out HN.out).mono ?_
  rintro e w5 ⟨ax, cx, rfl, l5, b5, _⟩
  clear fA0 fA1 fA2
  replace L := L.push l5 b5
  replace BX := BX.keep b5
  replace HT := Hide.mk (HT.out.below b5 (Nat.le_refl _))
  replace HB := below_then HB b5
  clear l5 b5
  go_wp2_with fail
  refine (dint64_45 n1 ax cx z1 e1 _ (L.all (ax, z1) (.head _)) HG.out HT.out HBL.out k q HR.out).mono ?_
  rintro e w6 ⟨rfl, h6⟩
  replace L := L.keep h6
  replace BX := BX.keep h6
  replace HT := Hide.mk (HT.out.below h6 (Nat.le_refl _))
  replace HB := below_then HB h6
  clear h6
  have fA0 := (BX.all (w.heap.size, #[.bool n1, .slice a1 z1.length c1, .int .i64 e1]) (.head _)).c0
  have fA1 := (BX.all (w.heap.size, #[.bool n1, .slice a1 z1.length c1, .int .i64 e1]) (.head _)).c1
  have fA2 := (BX.all (w.heap.size, #[.bool n1, .slice a1 z1.length c1, .int .i64 e1]) (.head _)).c2
  go_wp2_with fail
  refine (drefmay37 n1 a1 c1 z1 e1 _ ⟨(L.all (a1, z1) (.tail _ (.tail _ (.tail _ (.head _))))), HU.out.len, HU.out.rng⟩ _ HQ.out).mono ?_
  rintro e w7 ⟨rfl, h7⟩
  clear fA0 fA1 fA2
  replace L := L.keep h7
  replace BX := BX.keep h7
  replace HT := Hide.mk (HT.out.below h7 (Nat.le_refl _))
  replace HB := below_then HB h7
  clear h7
  have fA0 := (BX.all (w.heap.size, #[.bool n1, .slice a1 z1.length c1, .int .i64 e1]) (.head _)).c0
  have fA1 := (BX.all (w.heap.size, #[.bool n1, .slice a1 z1.length c1, .int .i64 e1]) (.head _)).c1
  have fA2 := (BX.all (w.heap.size, #[.bool n1, .slice a1 z1.length c1, .int .i64 e1]) (.head _)).c2
  go_wp2_with fail
  refine (dint64_46 n1 a1 c1 z1 e1 _ (L.all (a1, z1) (.tail _ (.tail _ (.tail _ (.head _))))) HG.out HBL.out k q HR.out).mono ?_
  rintro e w8 ⟨rfl, h8⟩
  clear fA0 fA1 fA2
  replace L := L.keep h8
  replace BX := BX.keep h8
  replace HT := Hide.mk (HT.out.below h8 (Nat.le_refl _))
  replace HB := below_then HB h8
  clear h8
  have hqq : (q == q) = true := by simp
  go_wp2_with fail
  refine (dknown34 _ HT.out).mono ?_
  rintro e w9 ⟨rfl, h9⟩
  have hb9 := below_then HB h9
  clear h9 L BX HT HB
  go_wp2
  go_ret
  exact ⟨rfl, hb9⟩
theorem dints8 (n : Int) (n1 : Bool) (a1 : Option Addr) (c1 : Nat) (z1 : List Int) (e1 : Int) (w : World) (m0 : -9223372036854775808 ≤ n) (m1 : n ≤ 9223372036854775807) (u1 : DLie w a1 z1) (hnil : a1 = none → c1 = 0) (hT : Tab w) :
    Calls Tryd.prog 8 #[.int .i64 n, dV n1 a1 z1.length c1 e1] w fun e w' => e = .returned (.bool true) ∧ Below w.heap.size w w' := by
  by_cases hl : (z1.length : Int) ≤ 4100
  · cases hq : dmayB n1 z1 e1
    · exact dints_bad n n1 a1 c1 z1 e1 w m0 m1 u1 hnil hT hl hq
    · obtain ⟨B, hB⟩ := bitLen_ex (DG.of u1.rng hq).good.nonneg
      exact dints_good n n1 a1 c1 z1 e1 w m0 m1 u1 hnil hT hl hq hB _ _ rfl
  · exact dints_long n n1 a1 c1 z1 e1 w m0 m1 u1 hnil hT (by omega)
end Go.Proofs.YtjhkploelojaeaaDoor
