import Derived.Test.YteejaghimppcgaaDoorYJ
import Derived.Test.YteejaghimppcgaaDoorYK
import Derived.Test.YteejaghimppcgaaDoorYL
import Derived.Test.YteejaghimppcgaaDoorYM
namespace Go.Proofs.YteejaghimppcgaaDoor
open Go.RowKit Go.Wd Go.Box
set_option linter.unusedVariables false
set_option maxRecDepth 3000
theorem cuts_farL (n1 : Bool) (a1 : Option Addr) (c1 : Nat) (z1 : List Int) (e1 cnt bits : Int) (w : World) (u1 : DLie w a1 z1) (hl1 : (z1.length : Int) ≤ 4100) (hm1 : z1.length ≤ 1000000) (hn1 : a1 = none → c1 = 0) (hT : Tab w) {v1 : Int} (N1 : DN n1 z1 e1 v1) (hS : 0 < (z1.length : Int)) (hS1 : cnt < -16777216 - e1) :
    Calls Tryd.prog 6 #[dV n1 a1 z1.length c1 e1, .int .i64 cnt, .int .i64 bits] w fun e w' => e = .returned (.bool true) ∧ Below w.heap.size w w' := by
  by_cases hC : bits < 1
  · exact cuts_farL_low n1 a1 c1 z1 e1 cnt bits w u1 hl1 hm1 hn1 hT N1 hS hS1 hC
  · by_cases hC2 : 8192 < bits
    · exact cuts_farL_high n1 a1 c1 z1 e1 cnt bits w u1 hl1 hm1 hn1 hT N1 hS hS1 (by omega) hC2
    · have g1 := N1.dg
      obtain ⟨B, hB⟩ := bitLen_ex g1.good.lt.1
      have hB2 : B ≤ 131072 := by
        rcases hB with ⟨_, rfl⟩ | ⟨_, hB⟩
        · decide
        · have := hB.fits (n := 0) (by rw [Int.pow_zero, Int.mul_one]; exact g1.good.lt.2)
          omega
      obtain ⟨d, hd⟩ : ∃ d : Nat, max ((B : Int) - bits) 0 = (d : Int) := ⟨(max ((B : Int) - bits) 0).toNat, by omega⟩
      rcases cut_cases (s := sv n1 (Nt.val z1 / 2 ^ d)) (E := e1 + d) trivial with hr | ⟨h0, t, ht, hr⟩
      · exact cuts_farL_near n1 a1 c1 z1 e1 cnt bits w u1 hl1 hm1 hn1 hT N1 hS hS1 (by omega) (by omega) hB hB2 d hd _ rfl rfl hr
      · exact cuts_farL_far n1 a1 c1 z1 e1 cnt bits w u1 hl1 hm1 hn1 hT N1 hS hS1 (by omega) (by omega) hB hB2 d hd rfl h0 ht hr
theorem cuts_farR (n1 : Bool) (a1 : Option Addr) (c1 : Nat) (z1 : List Int) (e1 cnt bits : Int) (w : World) (u1 : DLie w a1 z1) (hl1 : (z1.length : Int) ≤ 4100) (hm1 : z1.length ≤ 1000000) (hn1 : a1 = none → c1 = 0) (hT : Tab w) {v1 : Int} (N1 : DN n1 z1 e1 v1) (hS : 0 < (z1.length : Int)) (hS1 : -16777216 - e1 ≤ cnt) (hS2 : 16777216 - e1 < cnt) :
    Calls Tryd.prog 6 #[dV n1 a1 z1.length c1 e1, .int .i64 cnt, .int .i64 bits] w fun e w' => e = .returned (.bool true) ∧ Below w.heap.size w w' := by
  by_cases hC : bits < 1
  · exact cuts_farR_low n1 a1 c1 z1 e1 cnt bits w u1 hl1 hm1 hn1 hT N1 hS hS1 hS2 hC
  · by_cases hC2 : 8192 < bits
    · exact cuts_farR_high n1 a1 c1 z1 e1 cnt bits w u1 hl1 hm1 hn1 hT N1 hS hS1 hS2 (by omega) hC2
    · have g1 := N1.dg
      obtain ⟨B, hB⟩ := bitLen_ex g1.good.lt.1
      have hB2 : B ≤ 131072 := by
        rcases hB with ⟨_, rfl⟩ | ⟨_, hB⟩
        · decide
        · have := hB.fits (n := 0) (by rw [Int.pow_zero, Int.mul_one]; exact g1.good.lt.2)
          omega
      obtain ⟨d, hd⟩ : ∃ d : Nat, max ((B : Int) - bits) 0 = (d : Int) := ⟨(max ((B : Int) - bits) 0).toNat, by omega⟩
      rcases cut_cases (s := sv n1 (Nt.val z1 / 2 ^ d)) (E := e1 + d) trivial with hr | ⟨h0, t, ht, hr⟩
      · exact cuts_farR_near n1 a1 c1 z1 e1 cnt bits w u1 hl1 hm1 hn1 hT N1 hS hS1 hS2 (by omega) (by omega) hB hB2 d hd _ rfl rfl hr
      · exact cuts_farR_far n1 a1 c1 z1 e1 cnt bits w u1 hl1 hm1 hn1 hT N1 hS hS1 hS2 (by omega) (by omega) hB hB2 d hd rfl h0 ht hr
theorem cuts_nearZ (n1 : Bool) (a1 : Option Addr) (c1 : Nat) (z1 : List Int) (e1 cnt bits : Int) (w : World) (u1 : DLie w a1 z1) (hl1 : (z1.length : Int) ≤ 4100) (hm1 : z1.length ≤ 1000000) (hn1 : a1 = none → c1 = 0) (hT : Tab w) {v1 : Int} (N1 : DN n1 z1 e1 v1) (hS : (z1.length : Int) = 0) :
    Calls Tryd.prog 6 #[dV n1 a1 z1.length c1 e1, .int .i64 cnt, .int .i64 bits] w fun e w' => e = .returned (.bool true) ∧ Below w.heap.size w w' := by
  by_cases hC : bits < 1
  · exact cuts_nearZ_low n1 a1 c1 z1 e1 cnt bits w u1 hl1 hm1 hn1 hT N1 hS hC
  · by_cases hC2 : 8192 < bits
    · exact cuts_nearZ_high n1 a1 c1 z1 e1 cnt bits w u1 hl1 hm1 hn1 hT N1 hS (by omega) hC2
    · have g1 := N1.dg
      obtain ⟨B, hB⟩ := bitLen_ex g1.good.lt.1
      have hB2 : B ≤ 131072 := by
        rcases hB with ⟨_, rfl⟩ | ⟨_, hB⟩
        · decide
        · have := hB.fits (n := 0) (by rw [Int.pow_zero, Int.mul_one]; exact g1.good.lt.2)
          omega
      obtain ⟨d, hd⟩ : ∃ d : Nat, max ((B : Int) - bits) 0 = (d : Int) := ⟨(max ((B : Int) - bits) 0).toNat, by omega⟩
      rcases cut_cases (s := sv n1 (Nt.val z1 / 2 ^ d)) (E := e1 + d) trivial with hr | ⟨h0, t, ht, hr⟩
      · exact cuts_nearZ_near n1 a1 c1 z1 e1 cnt bits w u1 hl1 hm1 hn1 hT N1 hS (by omega) (by omega) hB hB2 d hd _ rfl rfl hr
      · exact cuts_nearZ_far n1 a1 c1 z1 e1 cnt bits w u1 hl1 hm1 hn1 hT N1 hS (by omega) (by omega) hB hB2 d hd rfl h0 ht hr
theorem cuts_nearN (n1 : Bool) (a1 : Option Addr) (c1 : Nat) (z1 : List Int) (e1 cnt bits : Int) (w : World) (u1 : DLie w a1 z1) (hl1 : (z1.length : Int) ≤ 4100) (hm1 : z1.length ≤ 1000000) (hn1 : a1 = none → c1 = 0) (hT : Tab w) {v1 : Int} (N1 : DN n1 z1 e1 v1) (hS : 0 < (z1.length : Int)) (hS1 : -16777216 - e1 ≤ cnt) (hS2 : cnt ≤ 16777216 - e1) :
    Calls Tryd.prog 6 #[dV n1 a1 z1.length c1 e1, .int .i64 cnt, .int .i64 bits] w fun e w' => e = .returned (.bool true) ∧ Below w.heap.size w w' := by
  by_cases hC : bits < 1
  · exact cuts_nearN_low n1 a1 c1 z1 e1 cnt bits w u1 hl1 hm1 hn1 hT N1 hS hS1 hS2 hC
  · by_cases hC2 : 8192 < bits
    · exact cuts_nearN_high n1 a1 c1 z1 e1 cnt bits w u1 hl1 hm1 hn1 hT N1 hS hS1 hS2 (by omega) hC2
    · have g1 := N1.dg
      obtain ⟨B, hB⟩ := bitLen_ex g1.good.lt.1
      have hB2 : B ≤ 131072 := by
        rcases hB with ⟨_, rfl⟩ | ⟨_, hB⟩
        · decide
        · have := hB.fits (n := 0) (by rw [Int.pow_zero, Int.mul_one]; exact g1.good.lt.2)
          omega
      obtain ⟨d, hd⟩ : ∃ d : Nat, max ((B : Int) - bits) 0 = (d : Int) := ⟨(max ((B : Int) - bits) 0).toNat, by omega⟩
      rcases cut_cases (s := sv n1 (Nt.val z1 / 2 ^ d)) (E := e1 + d) trivial with hr | ⟨h0, t, ht, hr⟩
      · exact cuts_nearN_near n1 a1 c1 z1 e1 cnt bits w u1 hl1 hm1 hn1 hT N1 hS hS1 hS2 (by omega) (by omega) hB hB2 d hd _ rfl rfl hr
      · exact cuts_nearN_far n1 a1 c1 z1 e1 cnt bits w u1 hl1 hm1 hn1 hT N1 hS hS1 hS2 (by omega) (by omega) hB hB2 d hd rfl h0 ht hr
theorem cuts_any (n1 : Bool) (a1 : Option Addr) (c1 : Nat) (z1 : List Int) (e1 cnt bits : Int) (w : World) (u1 : DLie w a1 z1) (hn1 : a1 = none → c1 = 0) (hT : Tab w) :
    Calls Tryd.prog 6 #[dV n1 a1 z1.length c1 e1, .int .i64 cnt, .int .i64 bits] w fun e w' => e = .returned (.bool true) ∧ Below w.heap.size w w' := by
  by_cases h1 : (z1.length : Int) ≤ 4100
  · have hm1 : z1.length ≤ 1000000 := by omega
    cases hq : dmayB n1 z1 e1
    · exact cuts_bad n1 a1 c1 z1 e1 cnt bits w u1 h1 hm1 hn1 hT hq
    · have N1 : DN n1 z1 e1 (dv n1 z1 e1) := ⟨DG.of u1.rng hq, rfl⟩
      by_cases hS : (z1.length : Int) = 0
      · exact cuts_nearZ n1 a1 c1 z1 e1 cnt bits w u1 h1 hm1 hn1 hT N1 hS
      · by_cases hS1 : cnt < -16777216 - e1
        · exact cuts_farL n1 a1 c1 z1 e1 cnt bits w u1 h1 hm1 hn1 hT N1 (by omega) hS1
        · by_cases hS2 : 16777216 - e1 < cnt
          · exact cuts_farR n1 a1 c1 z1 e1 cnt bits w u1 h1 hm1 hn1 hT N1 (by omega) (by omega) hS2
          · exact cuts_nearN n1 a1 c1 z1 e1 cnt bits w u1 h1 hm1 hn1 hT N1 (by omega) (by omega) (by omega)
  · exact cuts_long n1 a1 c1 z1.length e1 cnt bits w (by omega) hT
end Go.Proofs.YteejaghimppcgaaDoor
