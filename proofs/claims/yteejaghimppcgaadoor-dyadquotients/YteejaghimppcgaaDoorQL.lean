import Derived.Test.YteejaghimppcgaaDoorQMa
import Derived.Test.YteejaghimppcgaaDoorQMb
import Derived.Test.YteejaghimppcgaaDoorQMc
namespace Go.Proofs.YteejaghimppcgaaDoor
open Go.RowKit Go.Wd Go.Box
set_option linter.unusedVariables false
set_option maxRecDepth 3000
theorem quots_long1 (n1 n2 : Bool) (a1 a2 : Option Addr) (c1 c2 k1 k2 : Nat) (e1 e2 bits : Int) (w : World) (hl1 : (40 : Int) < (k1 : Int)) (hT : Tab w) :
    Calls Tryd.prog 7 #[dV n1 a1 k1 c1 e1, dV n2 a2 k2 c2 e2, .int .i64 bits] w fun e w' => e = .returned (.bool true) ∧ Below w.heap.size w w' := by
  have BX := ((Bx.nil w).push (DO n1 a1 k1 c1 e1)).push (DO n2 a2 k2 c2 e2)
  go_enter Tryd.func7, Tryd.ntmps7
  go_wp2_with fail
  refine (dknown34 _ (hT.below BX.bel (Nat.le_refl _))).mono ?_
  rintro e w2 ⟨rfl, h2⟩
  replace BX := BX.keep h2
  go_wp2
  go_ret
  exact ⟨rfl, BX.bel⟩
theorem quots_long2 (n1 n2 : Bool) (a1 a2 : Option Addr) (c1 c2 k1 k2 : Nat) (e1 e2 bits : Int) (w : World) (hl1 : (k1 : Int) ≤ 40) (hl2 : (40 : Int) < (k2 : Int)) (hT : Tab w) :
    Calls Tryd.prog 7 #[dV n1 a1 k1 c1 e1, dV n2 a2 k2 c2 e2, .int .i64 bits] w fun e w' => e = .returned (.bool true) ∧ Below w.heap.size w w' := by
  have BX := ((Bx.nil w).push (DO n1 a1 k1 c1 e1)).push (DO n2 a2 k2 c2 e2)
  go_enter Tryd.func7, Tryd.ntmps7
  go_wp2_with fail
  refine (dknown34 _ (hT.below BX.bel (Nat.le_refl _))).mono ?_
  rintro e w2 ⟨rfl, h2⟩
  replace BX := BX.keep h2
  go_wp2
  go_ret
  exact ⟨rfl, BX.bel⟩
theorem quots_long3 (n1 n2 : Bool) (a1 a2 : Option Addr) (c1 c2 k1 k2 : Nat) (e1 e2 bits : Int) (w : World) (hl1 : (k1 : Int) ≤ 40) (hl2 : (k2 : Int) ≤ 40) (hb1 : 1500 < bits) (hb2 : bits ≤ 8192) (hT : Tab w) :
    Calls Tryd.prog 7 #[dV n1 a1 k1 c1 e1, dV n2 a2 k2 c2 e2, .int .i64 bits] w fun e w' => e = .returned (.bool true) ∧ Below w.heap.size w w' := by
  have BX := ((Bx.nil w).push (DO n1 a1 k1 c1 e1)).push (DO n2 a2 k2 c2 e2)
  go_enter Tryd.func7, Tryd.ntmps7
  go_wp2_with fail
  refine (dknown34 _ (hT.below BX.bel (Nat.le_refl _))).mono ?_
  rintro e w2 ⟨rfl, h2⟩
  replace BX := BX.keep h2
  go_wp2
  go_ret
  exact ⟨rfl, BX.bel⟩
theorem sv_lt2 (n : Bool) {x : Int} {b : Nat} (h : BitLen x b) (hb : b ≤ 131072) : ((sv n x).natAbs : Int) < 4294967296 ^ 4096 := by
  have h0 : 0 ≤ x := by rcases h with ⟨h, _⟩ | ⟨h, _⟩ <;> omega
  rw [sv_abs2 n h0, pw32]
  rcases h with ⟨h, _⟩ | ⟨_, h⟩
  · rw [h]; exact p2pos _
  · have := h.lt
    have := p2le hb
    omega
theorem low_bits {x : Int} {b t : Nat} (h : BitLen x b) (ht : LowBit x t) (hx : 0 < x) : t < b := by
  refine Classical.byContradiction fun k => ?_
  have o := ht.one
  rcases h with ⟨h, _⟩ | ⟨_, h⟩
  · omega
  · have h1 := h.lt
    have h2 := p2le (show b ≤ t by omega)
    rw [Int.ediv_eq_zero_of_lt (by omega) (by omega)] at o
    omega
/-- Where the quotient's exponent lies. -/
theorem fm_out {s E : Int} {t : Nat} (h0 : s ≠ 0) (ht : LowBit (s.natAbs : Int) t) : ∀ (n : Bool) (z : List Int) (x : Int), Fm s E n z x → x = E + t := by
  rintro n z x (⟨q, _⟩ | ⟨_, r, hr2, _, rfl, _⟩)
  · exact absurd q h0
  · obtain rfl := ht.unique hr2; rfl
theorem quots_neg (n1 n2 : Bool) (a1 a2 : Option Addr) (c1 c2 : Nat) (z1 z2 : List Int) (e1 e2 bits : Int) (w : World) (u1 : DLie w a1 z1) (u2 : DLie w a2 z2) (hl1 : (z1.length : Int) ≤ 40) (hl2 : (z2.length : Int) ≤ 40) (hm1 : z1.length ≤ 1000000) (hm2 : z2.length ≤ 1000000) (hn1 : a1 = none → c1 = 0) (hn2 : a2 = none → c2 = 0) (hT : Tab w) (g1 : DG n1 z1 e1) (hC1 : 1 ≤ bits) (hC2 : bits ≤ 1500) (hng : Hide (n1 = true)) :
    Calls Tryd.prog 7 #[dV n1 a1 z1.length c1 e1, dV n2 a2 z2.length c2 e2, .int .i64 bits] w fun e w' => e = .returned (.bool true) ∧ Below w.heap.size w w' := by
  have hza : 0 < z1.length := by
    refine Classical.byContradiction fun k => ?_
    have := (g1.nil (by omega)).2.1
    rw [hng.out] at this; exact absurd this (by decide)
  have p1 := g1.pos hza
  by_cases hq2 : dmayB n2 z2 e2 = true
  · have g2 := DG.of u2.rng hq2
    by_cases hzb : 0 < z2.length
    · have p2 := g2.pos hzb
      obtain ⟨b, hbb⟩ : ∃ b : Nat, bits = (b : Int) := ⟨bits.toNat, by omega⟩
      obtain ⟨La, hLa⟩ := bitLen_ex (Int.le_of_lt p1)
      have bx : Bits (Nt.val z1) La := by rcases hLa with ⟨h, _⟩ | ⟨_, h⟩; omega; exact h
      obtain ⟨Lb, hLb⟩ := bitLen_ex (Int.le_of_lt p2)
      have bY : Bits (Nt.val z2) Lb := by rcases hLb with ⟨h, _⟩ | ⟨_, h⟩; omega; exact h
      obtain ⟨i, hi, _, _⟩ := q_at bx bY p1 p2 b (by omega)
      have hqs := sv_lt2 (n1 != n2) hi (by omega)
      have q0 : 0 < qf (Nt.val z1) (Nt.val z2) i := by rcases hi with ⟨_, h⟩ | ⟨h, _⟩; omega; exact h
      obtain ⟨t, ht⟩ := low_ex q0
      rw [← sv_abs2 (n1 != n2) (Int.le_of_lt q0)] at ht
      have hq0 := sv_ne (n1 != n2) q0
      have hX := fm_out (E := e1 - e2 - i) hq0 ht
      by_cases ho : e1 - e2 - i + t < -16777216
      · exact quots_neg_outL n1 n2 a1 a2 c1 c2 z1 z2 e1 e2 bits w u1 u2 hl1 hl2 hm1 hm2 hn1 hn2 hT g1 hC1 hC2 hng g2 b ⟨hbb⟩ ⟨hza⟩ ⟨hzb⟩ ⟨hi⟩ ⟨hqs⟩ ⟨hq0⟩ ⟨ht⟩ ho ⟨fun n z x F => by rw [hX n z x F]; exact ho⟩ 
      · by_cases ho2 : 16777216 < e1 - e2 - i + t
        · exact quots_neg_outH n1 n2 a1 a2 c1 c2 z1 z2 e1 e2 bits w u1 u2 hl1 hl2 hm1 hm2 hn1 hn2 hT g1 hC1 hC2 hng g2 b ⟨hbb⟩ ⟨hza⟩ ⟨hzb⟩ ⟨hi⟩ ⟨hqs⟩ ⟨hq0⟩ ⟨ht⟩ ho2 ⟨fun n z x F => by rw [hX n z x F]; exact ho2⟩ 
        · exact quots_neg_near n1 n2 a1 a2 c1 c2 z1 z2 e1 e2 bits w u1 u2 hl1 hl2 hm1 hm2 hn1 hn2 hT g1 hC1 hC2 hng g2 b ⟨hbb⟩ ⟨hza⟩ ⟨hzb⟩ ⟨hi⟩ ⟨hqs⟩ ⟨.inr ⟨t, ht, by omega, by omega⟩⟩ ⟨fun n z x F => by rw [hX n z x F]; omega⟩ 
    · exact quots_neg_zerob n1 n2 a1 a2 c1 c2 z1 z2 e1 e2 bits w u1 u2 hl1 hl2 hm1 hm2 hn1 hn2 hT g1 hC1 hC2 hng g2 ⟨by omega⟩
  · exact quots_neg_badb n1 n2 a1 a2 c1 c2 z1 z2 e1 e2 bits w u1 u2 hl1 hl2 hm1 hm2 hn1 hn2 hT g1 hC1 hC2 hng (by simpa using hq2)
theorem quots_nil (n1 n2 : Bool) (a1 a2 : Option Addr) (c1 c2 : Nat) (z1 z2 : List Int) (e1 e2 bits : Int) (w : World) (u1 : DLie w a1 z1) (u2 : DLie w a2 z2) (hl1 : (z1.length : Int) ≤ 40) (hl2 : (z2.length : Int) ≤ 40) (hm1 : z1.length ≤ 1000000) (hm2 : z2.length ≤ 1000000) (hn1 : a1 = none → c1 = 0) (hn2 : a2 = none → c2 = 0) (hT : Tab w) (g1 : DG n1 z1 e1) (hC1 : 1 ≤ bits) (hC2 : bits ≤ 1500) (hza : z1.length ≤ 0) :
    Calls Tryd.prog 7 #[dV n1 a1 z1.length c1 e1, dV n2 a2 z2.length c2 e2, .int .i64 bits] w fun e w' => e = .returned (.bool true) ∧ Below w.heap.size w w' := by
  by_cases hq2 : dmayB n2 z2 e2 = true
  · have g2 := DG.of u2.rng hq2
    by_cases hzb : 0 < z2.length
    · exact quots_nil_nila n1 n2 a1 a2 c1 c2 z1 z2 e1 e2 bits w u1 u2 hl1 hl2 hm1 hm2 hn1 hn2 hT g1 hC1 hC2 ⟨hza⟩ g2 ⟨hzb⟩
    · exact quots_nil_zerob n1 n2 a1 a2 c1 c2 z1 z2 e1 e2 bits w u1 u2 hl1 hl2 hm1 hm2 hn1 hn2 hT g1 hC1 hC2 ⟨hza⟩ g2 ⟨by omega⟩
  · exact quots_nil_badb n1 n2 a1 a2 c1 c2 z1 z2 e1 e2 bits w u1 u2 hl1 hl2 hm1 hm2 hn1 hn2 hT g1 hC1 hC2 ⟨hza⟩ (by simpa using hq2)
theorem quots_pos (n1 n2 : Bool) (a1 a2 : Option Addr) (c1 c2 : Nat) (z1 z2 : List Int) (e1 e2 bits : Int) (w : World) (u1 : DLie w a1 z1) (u2 : DLie w a2 z2) (hl1 : (z1.length : Int) ≤ 40) (hl2 : (z2.length : Int) ≤ 40) (hm1 : z1.length ≤ 1000000) (hm2 : z2.length ≤ 1000000) (hn1 : a1 = none → c1 = 0) (hn2 : a2 = none → c2 = 0) (hT : Tab w) (g1 : DG n1 z1 e1) (hC1 : 1 ≤ bits) (hC2 : bits ≤ 1500) (hng : Hide (n1 = false)) (hza : 0 < z1.length) :
    Calls Tryd.prog 7 #[dV n1 a1 z1.length c1 e1, dV n2 a2 z2.length c2 e2, .int .i64 bits] w fun e w' => e = .returned (.bool true) ∧ Below w.heap.size w w' := by
  have p1 := g1.pos hza
  obtain ⟨b, hbb⟩ : ∃ b : Nat, bits = (b : Int) := ⟨bits.toNat, by omega⟩
  obtain ⟨La, hLa⟩ := bitLen_ex (Int.le_of_lt p1)
  have bx : Bits (Nt.val z1) La := by rcases hLa with ⟨h, _⟩ | ⟨_, h⟩; omega; exact h
  have s1 := g_size g1 bx
  obtain ⟨j, r, more, hR, hj1, hj2⟩ := r_at bx p1 e1 b (by omega)
  have r0 : 0 < r := by rcases hR.bits with ⟨_, h⟩ | ⟨h, _⟩; omega; exact h
  have hrs := sv_lt2 false hR.bits (by omega)
  obtain ⟨t, ht⟩ := low_ex r0
  have ht2 := low_bits hR.bits ht r0
  have x1 := g1.ex_bd
  have hrr : sv false r = 0 ∨ ∃ t : Nat, LowBit ((sv false r).natAbs : Int) t ∧ -16777216 ≤ -j + t ∧ -j + t ≤ 16777216 := .inr ⟨t, by rw [sv_abs2 false (by omega)]; exact ht, by omega, by omega⟩
  by_cases hq2 : dmayB n2 z2 e2 = true
  · have g2 := DG.of u2.rng hq2
    by_cases hzb : 0 < z2.length
    · have p2 := g2.pos hzb
      obtain ⟨Lb, hLb⟩ := bitLen_ex (Int.le_of_lt p2)
      have bY : Bits (Nt.val z2) Lb := by rcases hLb with ⟨h, _⟩ | ⟨_, h⟩; omega; exact h
      obtain ⟨i, hi, _, _⟩ := q_at bx bY p1 p2 b (by omega)
      have hqs := sv_lt2 (n1 != n2) hi (by omega)
      have q0 : 0 < qf (Nt.val z1) (Nt.val z2) i := by rcases hi with ⟨_, h⟩ | ⟨h, _⟩; omega; exact h
      obtain ⟨t, ht⟩ := low_ex q0
      rw [← sv_abs2 (n1 != n2) (Int.le_of_lt q0)] at ht
      have hq0 := sv_ne (n1 != n2) q0
      have hX := fm_out (E := e1 - e2 - i) hq0 ht
      by_cases ho : e1 - e2 - i + t < -16777216
      · exact quots_pos_outL n1 n2 a1 a2 c1 c2 z1 z2 e1 e2 bits w u1 u2 hl1 hl2 hm1 hm2 hn1 hn2 hT g1 hC1 hC2 g2 b ⟨hbb⟩ ⟨hza⟩ ⟨hzb⟩ ⟨hi⟩ ⟨hqs⟩ ⟨hq0⟩ ⟨ht⟩ ho ⟨fun n z x F => by rw [hX n z x F]; exact ho⟩ hng ⟨hR⟩ ⟨hrs⟩ ⟨hrr⟩
      · by_cases ho2 : 16777216 < e1 - e2 - i + t
        · exact quots_pos_outH n1 n2 a1 a2 c1 c2 z1 z2 e1 e2 bits w u1 u2 hl1 hl2 hm1 hm2 hn1 hn2 hT g1 hC1 hC2 g2 b ⟨hbb⟩ ⟨hza⟩ ⟨hzb⟩ ⟨hi⟩ ⟨hqs⟩ ⟨hq0⟩ ⟨ht⟩ ho2 ⟨fun n z x F => by rw [hX n z x F]; exact ho2⟩ hng ⟨hR⟩ ⟨hrs⟩ ⟨hrr⟩
        · exact quots_pos_near n1 n2 a1 a2 c1 c2 z1 z2 e1 e2 bits w u1 u2 hl1 hl2 hm1 hm2 hn1 hn2 hT g1 hC1 hC2 g2 b ⟨hbb⟩ ⟨hza⟩ ⟨hzb⟩ ⟨hi⟩ ⟨hqs⟩ ⟨.inr ⟨t, ht, by omega, by omega⟩⟩ ⟨fun n z x F => by rw [hX n z x F]; omega⟩ hng ⟨hR⟩ ⟨hrs⟩ ⟨hrr⟩
    · exact quots_pos_zerob n1 n2 a1 a2 c1 c2 z1 z2 e1 e2 bits w u1 u2 hl1 hl2 hm1 hm2 hn1 hn2 hT g1 hC1 hC2 b ⟨hbb⟩ ⟨hza⟩ hng ⟨hR⟩ ⟨hrs⟩ ⟨hrr⟩ g2 ⟨by omega⟩
  · exact quots_pos_badb n1 n2 a1 a2 c1 c2 z1 z2 e1 e2 bits w u1 u2 hl1 hl2 hm1 hm2 hn1 hn2 hT g1 hC1 hC2 b ⟨hbb⟩ ⟨hza⟩ hng ⟨hR⟩ ⟨hrs⟩ ⟨hrr⟩ (by simpa using hq2)
theorem quots_any (n1 n2 : Bool) (a1 a2 : Option Addr) (c1 c2 : Nat) (z1 z2 : List Int) (e1 e2 bits : Int) (w : World) (u1 : DLie w a1 z1) (u2 : DLie w a2 z2) (hn1 : a1 = none → c1 = 0) (hn2 : a2 = none → c2 = 0) (hT : Tab w) :
    Calls Tryd.prog 7 #[dV n1 a1 z1.length c1 e1, dV n2 a2 z2.length c2 e2, .int .i64 bits] w fun e w' => e = .returned (.bool true) ∧ Below w.heap.size w w' := by
  by_cases h1 : (z1.length : Int) ≤ 40
  · by_cases h2 : (z2.length : Int) ≤ 40
    · by_cases h3 : 1500 < bits ∧ bits ≤ 8192
      · exact quots_long3 n1 n2 a1 a2 c1 c2 z1.length z2.length e1 e2 bits w h1 h2 h3.1 h3.2 hT
      · have hm1 : z1.length ≤ 1000000 := by omega
        have hm2 : z2.length ≤ 1000000 := by omega
        by_cases hq1 : dmayB n1 z1 e1 = true
        · have g1 := DG.of u1.rng hq1
          by_cases hC : bits < 1
          · exact quots_low n1 n2 a1 a2 c1 c2 z1 z2 e1 e2 bits w u1 u2 h1 h2 hm1 hm2 hn1 hn2 hT g1 hC
          · by_cases hC2 : 8192 < bits
            · by_cases hq2 : dmayB n2 z2 e2 = true
              · exact quots_high n1 n2 a1 a2 c1 c2 z1 z2 e1 e2 bits w u1 u2 h1 h2 hm1 hm2 hn1 hn2 hT g1 (DG.of u2.rng hq2) hC2
              · exact quots_highb n1 n2 a1 a2 c1 c2 z1 z2 e1 e2 bits w u1 u2 h1 h2 hm1 hm2 hn1 hn2 hT g1 hC2 (by simpa using hq2)
            · by_cases hz : 0 < z1.length
              · cases hng : n1
                · subst hng
                  exact quots_pos false n2 a1 a2 c1 c2 z1 z2 e1 e2 bits w u1 u2 h1 h2 hm1 hm2 hn1 hn2 hT g1 (by omega) (by omega) ⟨rfl⟩ hz
                · subst hng
                  exact quots_neg true n2 a1 a2 c1 c2 z1 z2 e1 e2 bits w u1 u2 h1 h2 hm1 hm2 hn1 hn2 hT g1 (by omega) (by omega) ⟨rfl⟩
              · exact quots_nil n1 n2 a1 a2 c1 c2 z1 z2 e1 e2 bits w u1 u2 h1 h2 hm1 hm2 hn1 hn2 hT g1 (by omega) (by omega) (by omega)
        · have hq1' : dmayB n1 z1 e1 = false := by simpa using hq1
          have hq : (dmayB n1 z1 e1 && dmayB n2 z2 e2) = false := by rw [hq1', Bool.false_and]
          by_cases hC : bits ≤ 1500
          · exact quots_bad1 n1 n2 a1 a2 c1 c2 z1 z2 e1 e2 bits w u1 u2 h1 h2 hm1 hm2 hn1 hn2 hT hq1' hq hC
          · exact quots_bad1h n1 n2 a1 a2 c1 c2 z1 z2 e1 e2 bits w u1 u2 h1 h2 hm1 hm2 hn1 hn2 hT hq1' hq (by omega)
    · exact quots_long2 n1 n2 a1 a2 c1 c2 z1.length z2.length e1 e2 bits w h1 (by omega) hT
  · exact quots_long1 n1 n2 a1 a2 c1 c2 z1.length z2.length e1 e2 bits w (by omega) hT
end Go.Proofs.YteejaghimppcgaaDoor
