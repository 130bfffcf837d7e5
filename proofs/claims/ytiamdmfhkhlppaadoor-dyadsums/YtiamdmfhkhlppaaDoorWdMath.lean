import Derived.Laws.BitsAllLaws
set_option linter.unusedVariables false
namespace Go.Wd
open Go
/-- The numbers of a format (true: F64): the sign's bit, 2 to the F, F, E, L, the infinite word. -/
def sg (b : Bool) : Int := match b with | true => 9223372036854775808 | false => 2147483648
def fr (b : Bool) : Int := match b with | true => 4503599627370496 | false => 8388608
def fc (b : Bool) : Int := match b with | true => 52 | false => 23
def bt (b : Bool) : Int := match b with | true => 64 | false => 32
def tp (b : Bool) : Int := match b with | true => 2047 | false => 255
def lo (b : Bool) : Int := match b with | true => -1074 | false => -149
def fm (b : Bool) : Int := match b with | true => 2 | false => 1
def inf (b : Bool) : Int := match b with | true => 9218868437227405312 | false => 2139095040
def nan (b : Bool) : Int := match b with | true => 9221120237041090560 | false => 2143289344
/-- A word's sign, field, fraction, class. -/
def ng (b : Bool) (x : Int) : Bool := decide (sg b ≤ x)
def sz (b : Bool) (x : Int) : Int := x % sg b
def fd (b : Bool) (x : Int) : Int := x % sg b / fr b
def fn (b : Bool) (x : Int) : Int := x % fr b
def cl (b : Bool) (x : Int) : Int := if sz b x = 0 then 1 else if sz b x < fr b then 2 else if sz b x < inf b then 3 else if sz b x = inf b then 4 else 5
/-- A size with a sign. -/
def sd (b : Bool) (s : Int) (n : Bool) : Int := if n then s + sg b else s
/-- One step up of what is no NaN and not +infinite. -/
def up (b : Bool) (x : Int) : Int := if sz b x = 0 then 1 else if sg b ≤ x then x - 1 else x + 1
def Ok (b : Bool) (x : Int) : Prop := 0 ≤ x ∧ x < 2 * sg b
/-- The low bits. -/
theorem mask (k : Nat) {x M : Int} (hM : M = 2 ^ k - 1) (hk : k ≤ 63) (h0 : 0 ≤ x) (h1 : x < 18446744073709551616) : bits .and .u64 x M = x % 2 ^ k := by
  have e : (2 : Int) ^ k = ((2 ^ k : Nat) : Int) := by simp
  have hp : 0 < 2 ^ k := Nat.two_pow_pos k
  have hq : 2 ^ k ≤ 2 ^ 63 := Nat.pow_le_pow_right (by decide) hk
  have hr : (2 : Nat) ^ 63 = 9223372036854775808 := by decide
  subst hM
  rw [e]
  obtain ⟨n, rfl⟩ : ∃ n : Nat, x = n := ⟨x.toNat, by omega⟩
  rw [show ((2 ^ k : Nat) : Int) - 1 = ((2 ^ k - 1 : Nat) : Int) by omega, u64_and_nat n _ (by omega) (by omega), Nat.and_two_pow_sub_one_eq_mod]
  omega
/-- The bit at the place k of a number that has none above it. -/
theorem topBit (k : Nat) {x S : Int} (hS : S = 2 ^ k) (hk : k ≤ 63) (h0 : 0 ≤ x) (h1 : x < 2 * S) : bits .and .u64 x S = if S ≤ x then S else 0 := by
  have e : (2 : Int) ^ k = ((2 ^ k : Nat) : Int) := by simp
  have hp : 0 < 2 ^ k := Nat.two_pow_pos k
  have hq : 2 ^ k ≤ 2 ^ 63 := Nat.pow_le_pow_right (by decide) hk
  have hr : (2 : Nat) ^ 63 = 9223372036854775808 := by decide
  subst hS
  rw [e] at *
  obtain ⟨n, rfl⟩ : ∃ n : Nat, x = n := ⟨x.toNat, by omega⟩
  rw [u64_and_nat n _ (by omega) (by omega), nat_bit]
  generalize 2 ^ k = P at *
  by_cases c : P ≤ n
  · rw [if_pos (by omega)]
    have : n / P = 1 := by
      refine Nat.div_eq_of_lt_le (by omega) (by omega)
    rw [this]; simp
  · rw [if_neg (by omega), Nat.div_eq_of_lt (by omega)]; simp
/-- Without that bit. -/
theorem clearBit (k : Nat) {x S : Int} (hS : S = 2 ^ k) (hk : k ≤ 63) (h0 : 0 ≤ x) (h1 : x < 2 * S) : bits .andNot .u64 x S = x % S := by
  have e : (2 : Int) ^ k = ((2 ^ k : Nat) : Int) := by simp
  have hp : 0 < 2 ^ k := Nat.two_pow_pos k
  have hq : 2 ^ k ≤ 2 ^ 63 := Nat.pow_le_pow_right (by decide) hk
  have hr : (2 : Nat) ^ 63 = 9223372036854775808 := by decide
  subst hS
  rw [e] at *
  obtain ⟨n, rfl⟩ : ∃ n : Nat, x = n := ⟨x.toNat, by omega⟩
  rw [u64_andNot_nat n _ (by omega) (by omega)]
  have : n &&& (18446744073709551615 - 2 ^ k) = n % 2 ^ k := by
    have hn : n < 2 ^ (k + 1) := by rw [Nat.pow_succ]; omega
    apply Nat.eq_of_testBit_eq
    intro i
    rw [Nat.testBit_and, Nat.testBit_mod_two_pow]
    have h64 : 18446744073709551615 - 2 ^ k = 2 ^ 64 - (2 ^ k + 1) := by
      rw [show (2 : Nat) ^ 64 = 18446744073709551616 by decide]; omega
    rw [h64, Nat.testBit_two_pow_sub_succ (by rw [show (2 : Nat) ^ 64 = 18446744073709551616 by decide]; omega), Nat.testBit_two_pow]
    by_cases hi : i < k
    · simp [hi, show k ≠ i by omega, show i < 64 by omega]
    · by_cases he : k = i
      · subst he; simp
      · have : n.testBit i = false := Nat.testBit_lt_two_pow (Nat.lt_of_lt_of_le hn (Nat.pow_le_pow_right (by decide) (by omega)))
        simp [this]
  rw [this]
  omega
/-- A number and one below its lowest bit. -/
theorem join (k : Nat) {x y P : Int} (hP : P = 2 ^ k) (h0 : 0 ≤ x) (hx : x % P = 0) (h2 : 0 ≤ y) (h3 : y < P) (h1 : x + y < 18446744073709551616) : bits .or .u64 x y = x + y := by
  have e : (2 : Int) ^ k = ((2 ^ k : Nat) : Int) := by simp
  have hp : 0 < 2 ^ k := Nat.two_pow_pos k
  subst hP
  rw [e] at *
  obtain ⟨n, rfl⟩ : ∃ n : Nat, x = n := ⟨x.toNat, by omega⟩
  obtain ⟨m, rfl⟩ : ∃ m : Nat, y = m := ⟨y.toNat, by omega⟩
  rw [u64_or_nat n m (by omega) (by omega), nat_join k n m (by omega) (by omega)]
  omega
/-- The other way about. -/
theorem join' (k : Nat) {x y P : Int} (hP : P = 2 ^ k) (h0 : 0 ≤ x) (hx : x % P = 0) (h2 : 0 ≤ y) (h3 : y < P) (h1 : x + y < 18446744073709551616) : bits .or .u64 y x = x + y := by
  have e : (2 : Int) ^ k = ((2 ^ k : Nat) : Int) := by simp
  have hp : 0 < 2 ^ k := Nat.two_pow_pos k
  subst hP
  rw [e] at *
  obtain ⟨n, rfl⟩ : ∃ n : Nat, x = n := ⟨x.toNat, by omega⟩
  obtain ⟨m, rfl⟩ : ∃ m : Nat, y = m := ⟨y.toNat, by omega⟩
  rw [u64_or_nat m n (by omega) (by omega), Nat.or_comm, nat_join k n m (by omega) (by omega)]
  omega
/-- The other bit at the place k. -/
theorem flip (k : Nat) {x S : Int} (hS : S = 2 ^ k) (hk : k ≤ 63) (h0 : 0 ≤ x) (h1 : x < 2 * S) : bits .xor .u64 x S = if S ≤ x then x - S else x + S := by
  have e : (2 : Int) ^ k = ((2 ^ k : Nat) : Int) := by simp
  have hp : 0 < 2 ^ k := Nat.two_pow_pos k
  have hq : 2 ^ k ≤ 2 ^ 63 := Nat.pow_le_pow_right (by decide) hk
  have hr : (2 : Nat) ^ 63 = 9223372036854775808 := by decide
  subst hS
  rw [e] at *
  obtain ⟨n, rfl⟩ : ∃ n : Nat, x = n := ⟨x.toNat, by omega⟩
  rw [u64_xor_nat n _ (by omega) (by omega)]
  have key : ∀ m : Nat, m < 2 ^ k → m ^^^ 2 ^ k = m + 2 ^ k := by
    intro m hm
    have h5 : m ||| 2 ^ k = m + 2 ^ k := by rw [Nat.or_comm, nat_join k _ m (by simp) hm]; omega
    rw [← h5]
    apply Nat.eq_of_testBit_eq
    intro i
    rw [Nat.testBit_xor, Nat.testBit_or, Nat.testBit_two_pow]
    by_cases he : k = i
    · subst he
      rw [Nat.testBit_lt_two_pow hm]; simp
    · simp [he]
  by_cases c : 2 ^ k ≤ n
  · rw [if_pos (by omega)]
    have h6 := key (n - 2 ^ k) (by omega)
    rw [show n - 2 ^ k + 2 ^ k = n by omega] at h6
    have : n ^^^ 2 ^ k = n - 2 ^ k := by rw [← h6, Nat.xor_assoc, Nat.xor_self, Nat.xor_zero]
                                         rw [h6]
    omega
  · rw [if_neg (by omega), key n (by omega)]
    omega
end Go.Wd
