import Derived.Test.YtcjmamlffbhnlaaW29
namespace Go.Proofs.Ytcjmamlffbhnlaa
open Go.RowKit
set_option linter.unusedVariables false
/-- a is a root, one too great at most, of as much of n as d bits of its root say. -/
structure RootInv (n : Int) (c d : Nat) (a : Int) : Prop where
  one : 1 ≤ a
  lo : (a - 1) * (a - 1) < n / 2 ^ (2 * (c - d))
  hi : n / 2 ^ (2 * (c - d)) < (a + 1) * (a + 1)
theorem p2pos (k : Nat) : (0 : Int) < 2 ^ k := Int.pow_pos (by decide)
theorem p2mono {i j : Nat} (h : i ≤ j) : (2 : Int) ^ i ≤ 2 ^ j := by
  obtain ⟨k, rfl⟩ : ∃ k, j = i + k := ⟨j - i, by omega⟩
  rw [Int.pow_add]
  have := p2pos k
  have : 2 ^ i * 1 ≤ (2 : Int) ^ i * 2 ^ k := Int.mul_le_mul_of_nonneg_left (by omega) (Int.le_of_lt (p2pos i))
  omega
theorem sq_lt {x y : Int} (hy : 0 ≤ y) (h : x * x < y * y) : x < y := by
  by_cases c : x < y
  · exact c
  · have : y * y ≤ x * x := Int.mul_le_mul (by omega) (by omega) hy (by omega)
    omega
theorem RootInv.step {n a : Int} {c e d : Nat} (h : RootInv n c e a) (hed : e < d) (hdc : d ≤ c) (hd2 : d ≤ 2 * e + 1) (hn : (2 : Int) ^ (2 * c) ≤ n) :
    RootInv n c d (a * 2 ^ (d - e - 1) + n / 2 ^ (2 * c - e - d + 1) / a) := by
  obtain ⟨h1, h2, h3⟩ := h
  obtain ⟨k, rfl⟩ : ∃ k, d = e + 1 + k := ⟨d - e - 1, by omega⟩
  have hn0 : 0 ≤ n := by have := p2pos (2 * c); omega
  have eM : n / 2 ^ (2 * (c - e)) = n / 2 ^ (2 * (c - (e + 1 + k))) / (2 ^ (k + 1) * 2 ^ (k + 1)) := by
    rw [Int.ediv_ediv_of_nonneg (Int.le_of_lt (p2pos _)), ← Int.pow_add, ← Int.pow_add, show 2 * (c - (e + 1 + k)) + (k + 1 + (k + 1)) = 2 * (c - e) by omega]
  have eP : n / 2 ^ (2 * c - e - (e + 1 + k) + 1) / a = n / 2 ^ (2 * (c - (e + 1 + k))) / (4 * (a * 2 ^ k)) := by
    rw [Int.ediv_ediv_of_nonneg (Int.le_of_lt (p2pos _)), Int.ediv_ediv_of_nonneg (Int.le_of_lt (p2pos _))]
    congr 1
    rw [show 2 * c - e - (e + 1 + k) + 1 = 2 * (c - (e + 1 + k)) + (k + 2) by omega, Int.pow_add, Int.pow_add 2 k 2]
    have : (2 : Int) ^ 2 = 4 := by decide
    rw [this]
    generalize (2 : Int) ^ (2 * (c - (e + 1 + k))) = X
    generalize (2 : Int) ^ k = Y
    grind
  have hM : (2 : Int) ^ (2 * e) ≤ n / 2 ^ (2 * (c - e)) := by
    refine Int.le_ediv_of_mul_le (p2pos _) ?_
    rw [← Int.pow_add, show 2 * e + 2 * (c - e) = 2 * c by omega]; exact hn
  have hae : (2 : Int) ^ e < a + 1 := by
    refine sq_lt (by omega) ?_
    rw [← Int.pow_add, show e + e = 2 * e by omega]
    omega
  have hT : (2 : Int) ^ (k + 1) ≤ 2 * a := by
    have := p2mono (show k + 1 ≤ e + 1 by omega)
    rw [Int.pow_succ 2 e] at this
    omega
  rw [eP, show e + 1 + k - e - 1 = k by omega]
  rw [eM] at h2 h3
  suffices hs : ∀ b, b = a * 2 ^ k + n / 2 ^ (2 * (c - (e + 1 + k))) / (4 * (a * 2 ^ k)) → 1 ≤ b ∧ (b - 1) * (b - 1) < n / 2 ^ (2 * (c - (e + 1 + k))) ∧ n / 2 ^ (2 * (c - (e + 1 + k))) < (b + 1) * (b + 1) from
    ⟨(hs _ rfl).1, (hs _ rfl).2.1, (hs _ rfl).2.2⟩
  intro b hb
  have hm0 : 0 ≤ n / 2 ^ (2 * (c - (e + 1 + k))) := Int.ediv_nonneg hn0 (Int.le_of_lt (p2pos _))
  generalize n / 2 ^ (2 * (c - (e + 1 + k))) = m at *
  have hT1 : (1 : Int) ≤ 2 ^ (k + 1) := by have := p2pos (k + 1); omega
  have hy : 2 * (a * 2 ^ k) = 2 ^ (k + 1) * a := by rw [Int.pow_succ]; grind
  generalize (2 : Int) ^ (k + 1) = T at *
  have hyp : 1 ≤ a * 2 ^ k := by
    have : 1 * 1 ≤ a * 2 ^ k := Int.mul_le_mul h1 (by have := p2pos k; omega) (by decide) (by omega)
    omega
  generalize a * 2 ^ k = y at *
  have hTT : 0 < T * T := Int.mul_pos (by omega) (by omega)
  have q1 := Int.emod_add_mul_ediv m (T * T)
  have q2 := Int.emod_nonneg m (show T * T ≠ 0 by omega)
  have q3 := Int.emod_lt_of_pos m hTT
  have r1 := Int.emod_add_mul_ediv m (4 * y)
  have r2 := Int.emod_nonneg m (show 4 * y ≠ 0 by omega)
  have r3 := Int.emod_lt_of_pos m (show 0 < 4 * y by omega)
  have r4 : 0 ≤ m / (4 * y) := Int.ediv_nonneg hm0 (by omega)
  generalize m / (T * T) = M at *
  have hl : T * T * ((a - 1) * (a - 1)) < m := by
    have : T * T * ((a - 1) * (a - 1) + 1) ≤ T * T * M := Int.mul_le_mul_of_nonneg_left (by omega) (by omega)
    rw [Int.mul_add] at this
    omega
  have hh : m < T * T * ((a + 1) * (a + 1)) := by
    have : T * T * (M + 1) ≤ T * T * ((a + 1) * (a + 1)) := Int.mul_le_mul_of_nonneg_left (by omega) (by omega)
    rw [Int.mul_add] at this
    omega
  generalize m / (4 * y) = f at *
  generalize m % (4 * y) = g at *
  have := newton h1 hT1 hy hT hl hh (show m = 4 * y * f + g by omega) r2 r3 r4
  subst hb
  exact ⟨by omega, this.1, this.2⟩
end Go.Proofs.Ytcjmamlffbhnlaa
