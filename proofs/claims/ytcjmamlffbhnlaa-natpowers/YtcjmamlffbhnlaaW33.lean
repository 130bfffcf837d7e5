import Derived.Test.YtcjmamlffbhnlaaW32
namespace Go.Proofs.Ytcjmamlffbhnlaa
open Go.RowKit
set_option linter.unusedVariables false
/-- The first i products of column k. -/
def colp (a b : List Int) (k : Nat) : Nat → Int
  | 0 => 0
  | i + 1 => colp a b k i + a.getD i 0 * b.getD (k - i) 0
/-- The first n columns. -/
def cols (a b : List Int) : Nat → Int
  | 0 => 0
  | k + 1 => cols a b k + colp a b k (k + 1) * 4294967296 ^ k
/-- Row by row: digit i of a by as much of b as lies below column n. -/
def rows (a b : List Int) (n : Nat) : Nat → Int
  | 0 => 0
  | i + 1 => rows a b n i + a.getD i 0 * 4294967296 ^ i * Nt.vp b (n - i)
theorem rows_succ (a b : List Int) (n i : Nat) (hi : i ≤ n + 1) : rows a b (n + 1) i = rows a b n i + colp a b n i * 4294967296 ^ n := by
  induction i with
  | zero => simp [rows, colp]
  | succ i ih =>
    rw [rows, rows, colp, ih (by omega), show n + 1 - i = (n - i) + 1 by omega, Nt.vp_step]
    have e : (4294967296 : Int) ^ n = 4294967296 ^ i * 4294967296 ^ (n - i) := by rw [← Nt.pw_add, show i + (n - i) = n by omega]
    rw [e]
    generalize (4294967296 : Int) ^ i = X
    generalize (4294967296 : Int) ^ (n - i) = Y
    grind
theorem cols_rows (a b : List Int) (n : Nat) : cols a b n = rows a b n n := by
  induction n with
  | zero => rfl
  | succ n ih =>
    rw [cols, ih, rows_succ a b n (n + 1) (by omega), rows]
    rw [Nat.sub_self, show Nt.vp b 0 = 0 from rfl]
    omega
theorem rows_full (a b : List Int) (n i : Nat) (hn : a.length + b.length ≤ n) : rows a b n i = Nt.vp a i * Nt.val b := by
  induction i with
  | zero => simp [rows, Nt.vp]
  | succ i ih =>
    rw [rows, ih, Nt.vp_step]
    by_cases c : i < a.length
    · rw [← Nt.val_vp (s := b) (k := n - i) (by omega)]
      grind
    · rw [getD_past (by omega)]; grind
theorem cols_full (a b : List Int) (n : Nat) (hn : a.length + b.length ≤ n) : cols a b n = Nt.val a * Nt.val b := by
  rw [cols_rows, rows_full a b n n hn, ← Nt.val_vp (s := a) (by omega)]
theorem colp_stop (a b : List Int) (k i j : Nat) (h : a.length ≤ i) (hij : i ≤ j) : colp a b k j = colp a b k i := by
  induction j with
  | zero => have : i = 0 := by omega
            subst this; rfl
  | succ j ih =>
    by_cases e : i = j + 1
    · subst e; rfl
    · rw [colp, ih (by omega), getD_past (by omega)]; omega
theorem colp_zero (a b : List Int) (k i : Nat) (h : i + b.length ≤ k + 1) : colp a b k i = 0 := by
  induction i with
  | zero => rfl
  | succ i ih => rw [colp, ih (by omega), getD_past (s := b) (by omega)]; omega
theorem colp_bd {a b : List Int} (ha : Nt.Rng a) (hb : Nt.Rng b) (k i : Nat) : 0 ≤ colp a b k i ∧ colp a b k i ≤ (i : Int) * 18446744065119617025 := by
  induction i with
  | zero => simp [colp]
  | succ i ih =>
    rw [colp]
    have := mul_bd (ha i).1 (ha i).2 (hb (k - i)).1 (hb (k - i)).2
    constructor
    · omega
    · have : ((i + 1 : Nat) : Int) * 18446744065119617025 = (i : Int) * 18446744065119617025 + 18446744065119617025 := by omega
      omega

/-- Columns below k are told: s; l is what goes on. -/
structure MulInv (a b s : List Int) (l : Int) : Prop where
  rng : Nt.Rng s
  eq : Nt.vp s s.length + l * 4294967296 ^ s.length = cols a b s.length
  l0 : 0 ≤ l
theorem MulInv.step {a b s : List Int} {l t : Int} (h : MulInv a b s l) (ht : t = l + colp a b s.length (s.length + 1)) (h0 : 0 ≤ t) : MulInv a b (s ++ [t % 4294967296]) (t / 4294967296) := by
  refine ⟨rng_snoc h.rng (by omega) (by omega), ?_, by omega⟩
  have e := h.eq
  have hn : t % 4294967296 + t / 4294967296 * 4294967296 = t := by omega
  rw [List.length_append, List.length_singleton, vp_snoc, Nt.pw_succ, cols, ← e]
  generalize t % 4294967296 = n at *
  generalize t / 4294967296 = c at *
  generalize (4294967296 : Int) ^ s.length = P at *
  generalize colp a b s.length (s.length + 1) = C at *
  grind
theorem MulInv.done {a b s : List Int} {l : Int} (h : MulInv a b s l) (ha : Nt.Rng a) (hb : Nt.Rng b) (hl : s.length = a.length + b.length) : Nt.val s = Nt.val a * Nt.val b := by
  have e := h.eq
  rw [cols_full a b s.length (by omega)] at e
  have h1 := Nt.val_bd ha
  have h2 := Nt.val_bd hb
  have h3 := Nt.val_bd h.rng
  have hp := Nt.pw_pos s.length
  have hlt : Nt.val a * Nt.val b < 4294967296 ^ s.length := by
    rw [hl, Nt.pw_add]
    have a1 : Nt.val a * Nt.val b ≤ Nt.val a * 4294967296 ^ b.length := Int.mul_le_mul_of_nonneg_left (by omega) h1.1
    have a2 : Nt.val a * 4294967296 ^ b.length < 4294967296 ^ a.length * 4294967296 ^ b.length := Int.mul_lt_mul_of_pos_right h1.2 (Nt.pw_pos _)
    omega
  have hl0 : l = 0 := by
    by_cases c : l = 0
    · exact c
    · exfalso
      have : 1 * 4294967296 ^ s.length ≤ l * 4294967296 ^ s.length := Int.mul_le_mul_of_nonneg_right (by have := h.l0; omega) (by omega)
      have h4 : 0 ≤ Nt.vp s s.length := h3.1
      omega
  subst hl0
  show Nt.vp s s.length = _
  omega
end Go.Proofs.Ytcjmamlffbhnlaa
