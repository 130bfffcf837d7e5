import Derived.Test.YtgfpbmjknknflaaRankWalkPart1
import Derived.RegionTactic
import Derived.WalkKit
import Derived.WalkSpells
import Derived.Below
import Derived.Laws.ResultCell
import Derived.Laws.Rows
import Derived.Laws.BitsAllLaws
namespace Go.Proofs.Ytgfpbmjknknflaa
open Go.RowKit
set_option linter.unusedVariables false
set_option maxRecDepth 3000
theorem DV.after {w w' w2 : World} {s E : Int} {ng : Bool} {a : Option Addr} {n c : Nat} {ex code : Int} (h : DV w w' s E ng a n c ex code) (hb : Below w'.heap.size w' w2) : DV w w2 s E ng a n c ex code := by
  refine ⟨below_then h.bel hb, ?_⟩
  rcases h.all with h1 | ⟨h1, t, h2, h3⟩
  · exact .inl h1
  · refine .inr ⟨h1, t, h2, ?_⟩
    rcases h3 with ⟨k1, k2, k3, k4, k5, zs, k6, k7, k8⟩ | h3
    · exact .inl ⟨k1, k2, k3, k4, k5, zs, k6, k7, k8.below hb (Nat.le_refl _)⟩
    · exact .inr h3
theorem DN.low {ng : Bool} {zs : List Int} {ex v : Int} (h : DN ng zs ex v) (hz : 0 < zs.length) : LowBit (v.natAbs : Int) (ex + KK).toNat ∧ v ≠ 0 := by
  have hp := pK_pos ex
  have hx := h.dg.pos hz
  have e : (v.natAbs : Int) = Nt.val zs * 2 ^ (ex + KK).toNat := by
    rw [← h.val]; unfold dv pK
    rw [natAbs_mul_pow, sv_abs _ (by omega)]
  have hl := (odd_low (h.dg.odd hz)).up (ex + KK).toNat
  rw [Nat.zero_add] at hl
  refine ⟨by rw [e]; exact hl, fun c => ?_⟩
  have : Nt.val zs * 2 ^ (ex + KK).toNat ≠ 0 := fun c2 => by rcases Int.mul_eq_zero.1 c2 with c3 | c3 <;> have := p2pos (ex + KK).toNat <;> omega
  omega
theorem set_cell {w : World} {g b j i : Nat} (h : b ≠ g) (u : Value) : (w.setCell ⟨g, j, none⟩ u).cell? ⟨b, i, none⟩ = w.cell? ⟨b, i, none⟩ :=
  World.cell?_setCell_other _ _ _ _ (by intro c; cases c; exact h rfl)
theorem set3_cell {w : World} {g b i : Nat} (h : b ≠ g) (u0 u1 u2 : Value) : (((w.setCell ⟨g, 0, none⟩ u0).setCell ⟨g, 1, none⟩ u1).setCell ⟨g, 2, none⟩ u2).cell? ⟨b, i, none⟩ = w.cell? ⟨b, i, none⟩ := by
  rw [set_cell h, set_cell h, set_cell h]
/-- A fresh box holds no digit. -/
theorem no_digit {w : World} {g i : Nat} {k : IntKind} {x : Int} (hd : DCell w g #[.bool false, .slice none 0 0, .int .i64 0]) (hk : k ≠ .i64) : w.cell? ⟨g, i, none⟩ ≠ some (.int k x) := by
  rw [cell_of_row w g i _ 67 (0, 0) hd.1]
  match i with
  | 0 => intro h; cases h
  | 1 => intro h; cases h
  | 2 => intro h; injection h with h; injection h with h1 h2; exact hk h1.symm
  | n + 3 => intro h; simp at h
theorem Live.set3 {w : World} {g : Nat} (hd : DCell w g #[.bool false, .slice none 0 0, .int .i64 0]) (u0 u1 u2 : Value) {l : List (Option Addr × List Int)} (h : Live w l) : Live (((w.setCell ⟨g, 0, none⟩ u0).setCell ⟨g, 1, none⟩ u1).setCell ⟨g, 2, none⟩ u2) l := by
  refine ⟨fun p hp => ?_⟩
  rcases h.all p hp with h1 | ⟨b, o, h1, h2⟩
  · exact .inl h1
  · refine .inr ⟨b, o, h1, fun i hi => ?_⟩
    have k := h2 i hi
    rw [set3_cell (fun c => no_digit (k := .u32) hd (by decide) (by rw [← c]; exact k))]
    exact k
theorem Tab.set3 {w : World} {g : Nat} (hd : DCell w g #[.bool false, .slice none 0 0, .int .i64 0]) (u0 u1 u2 : Value) (h : Tab w) : Tab (((w.setCell ⟨g, 0, none⟩ u0).setCell ⟨g, 1, none⟩ u1).setCell ⟨g, 2, none⟩ u2) := by
  intro j hj
  have k := h j hj
  rw [set3_cell (fun c => no_digit (k := .u8) hd (by decide) (by rw [← c]; exact k))]
  exact k
theorem Boxes.set3 {w : World} {g : Nat} (hd : DCell w g #[.bool false, .slice none 0 0, .int .i64 0]) (u0 u1 u2 : Value) {l : List (Nat × Array Value)} (h : Boxes w l) (hl : ∀ p ∈ l, p.1 ≠ g) : Boxes (((w.setCell ⟨g, 0, none⟩ u0).setCell ⟨g, 1, none⟩ u1).setCell ⟨g, 2, none⟩ u2) ((g, #[u0, u1, u2]) :: l) := by
  refine ⟨fun p hp => ?_⟩
  rcases List.mem_cons.1 hp with rfl | hp
  · exact ((hd.set 0 u0).set 1 u1).set 2 u2
  · have k := h.all p hp
    refine ⟨?_, k.2⟩
    rw [heap_setCell_other _ _ _ _ (hl p hp), heap_setCell_other _ _ _ _ (hl p hp), heap_setCell_other _ _ _ _ (hl p hp)]
    exact k.1
end Go.Proofs.Ytgfpbmjknknflaa

namespace Go.Proofs.Ytgfpbmjknknflaa
open Go.RowKit
set_option linter.unusedVariables false
set_option maxRecDepth 3000
theorem DCell.off {w : World} {g g' j : Nat} {cs : Array Value} (h : DCell w g cs) (hne : g ≠ g') (x : Value) : DCell (w.setCell ⟨g', j, none⟩ x) g cs := ⟨by rw [heap_setCell_other _ _ _ _ hne]; exact h.1, h.2⟩
/-- Digits that may be written over: a row of their own, from block B on. -/
def WrA (B : Nat) (w : World) (a : Option Addr) (n : Nat) : Prop := n = 0 ∨ ∃ g cur, a = some ⟨g, 0, none⟩ ∧ B ≤ g ∧ w.heap[g]? = some (.cells cur 112 (0, 0)) ∧ n ≤ cur.size
theorem WrA.below {B C : Nat} {w w' : World} {a : Option Addr} {n : Nat} (h : WrA B w a n) (hb : Below w.heap.size w w') : WrA B w' a n := by
  rcases h with h | ⟨g, cur, h1, h2, h3, h4⟩
  · exact .inl h
  · exact .inr ⟨g, cur, h1, h2, (hb.block g (Array.getElem?_eq_some_iff.1 h3).1).trans h3, h4⟩
theorem WrA.set {B g k : Nat} {w : World} {a : Option Addr} {n : Nat} {cur : Array Value} (h : WrA B w a n) (hg : w.heap[g]? = some (.cells cur 112 (0, 0))) (u : Value) : WrA B (w.setCell ⟨g, k, none⟩ u) a n := by
  rcases h with h | ⟨g', cur', h1, h2, h3, h4⟩
  · exact .inl h
  · by_cases e : g' = g
    · subst e
      rw [hg] at h3
      cases h3
      exact .inr ⟨g', _, h1, h2, heap_setCell_same w g' k cur 112 u hg, by simpa using h4⟩
    · exact .inr ⟨g', cur', h1, h2, by rw [heap_setCell_other _ _ _ _ e]; exact h3, h4⟩
/-- What stays while the digits are written over. -/
structure MInv (B : Nat) (w : World) (b : Nat) (rc : Array Value) (l : List Arg) (wr : World) : Prop where
  bel : Below B w wr
  row : wr.heap[b]? = some (.cells rc 67 (0, 0))
  wr : ∀ (i : Nat) (x : Arg), l[i]? = some x → WrA B wr x.a x.zs.length
theorem MInv.set {B b g k : Nat} {w wr : World} {rc cur : Array Value} {l : List Arg} (h : MInv B w b rc l wr) (hB : B ≤ g) (hg : wr.heap[g]? = some (.cells cur 112 (0, 0))) (u : Value) : MInv B w b rc l (wr.setCell ⟨g, k, none⟩ u) := by
  have hne : b ≠ g := by
    intro e
    subst e
    have := h.row
    rw [hg] at this
    cases this
  exact ⟨h.bel.setCell (p := ⟨g, k, none⟩) hB u, by rw [heap_setCell_other _ _ _ _ hne]; exact h.row, fun i x hx => (h.wr i x hx).set hg u⟩
end Go.Proofs.Ytgfpbmjknknflaa

namespace Go.Proofs.Ytgfpbmjknknflaa
open Go.RowKit
set_option linter.unusedVariables false
set_option maxRecDepth 3000
/-- The value as an int64, where it is one. -/
def i64r (ng : Bool) (x ex : Int) (B : Nat) : Int × Bool :=
  if ex < 0 ∨ 64 < B + ex then (0, false) else if ng then (if x * 2 ^ ex.toNat ≤ 9223372036854775808 then (-(x * 2 ^ ex.toNat), true) else (0, false)) else (if x * 2 ^ ex.toNat < 9223372036854775808 then (x * 2 ^ ex.toNat, true) else (0, false))
end Go.Proofs.Ytgfpbmjknknflaa

/-
  Boxes: blocks of cells that a call has made, which stay as they are while others are called.
-/
set_option linter.unusedVariables false
namespace Go.Box
open Go Go.RowKit
/-- From w to W nothing of w's has turned, and the blocks of L lie there. -/
structure Bx (w : World) (L : List (Nat × Obj)) (W : World) : Prop where
  bel : Below w.heap.size w W
  box : ∀ p ∈ L, W.heap[p.1]? = some p.2
variable {w W W' : World} {L L' : List (Nat × Obj)}
theorem Bx.nil (w : World) : Bx w [] w := ⟨Below.refl _ _, fun _ h => by cases h⟩
theorem Bx.lt (h : Bx w L W) {p : Nat × Obj} (hp : p ∈ L) : p.1 < W.heap.size := (Array.getElem?_eq_some_iff.1 (h.box p hp)).1
theorem Bx.head {g : Nat} {o : Obj} (h : Bx w ((g, o) :: L) W) : W.heap[g]? = some o := h.box _ (.head _)
theorem Bx.tail {q : Nat × Obj} (h : Bx w (q :: L) W) : Bx w L W := ⟨h.bel, fun p hp => h.box p (.tail _ hp)⟩
theorem Bx.sub (h : Bx w L W) (hs : ∀ p ∈ L', p ∈ L) : Bx w L' W := ⟨h.bel, fun p hp => h.box p (hs p hp)⟩
theorem Bx.push (h : Bx w L W) (o : Obj) : Bx w ((W.heap.size, o) :: L) (W.alloc o) := by
  refine ⟨h.bel.alloc h.bel.size o, fun p hp => ?_⟩
  rcases List.mem_cons.1 hp with rfl | hp
  · exact heap_alloc_new W o
  · rw [Below.heap_alloc _ _ _ (h.lt hp)]; exact h.box p hp
theorem Bx.keep (h : Bx w L W) (hb : Below W.heap.size W W') : Bx w L W' :=
  ⟨h.bel.trans (hb.mono h.bel.size), fun p hp => (hb.block _ (h.lt hp)).trans (h.box p hp)⟩
theorem Bx.drew (h : Bx w L W) : Bx w L W.drew := ⟨h.bel.drew, h.box⟩
theorem Bx.cell (h : Bx w L W) (g : Nat) (cs : Array Value) (t : TypeId) (hm : (g, Obj.cells cs t (0, 0)) ∈ L) (j : Nat) : W.cell? ⟨g, j, none⟩ = cs[j]? := cell_of_row W g j cs t (0, 0) (h.box _ hm)
theorem Bx.frozen (h : Bx w L W) (g : Nat) (cs : Array Value) (t : TypeId) (hm : (g, Obj.cells cs t (0, 0)) ∈ L) (j : Nat) : W.frozen? ⟨g, j, none⟩ = false := frozen_of_row W g j cs t (h.box _ hm)
theorem Bx.set {g : Nat} {cs : Array Value} {t : TypeId} (h : Bx w ((g, Obj.cells cs t (0, 0)) :: L) W) (hg : w.heap.size ≤ g) (hne : ∀ p ∈ L, p.1 ≠ g) (j : Nat) (x : Value) :
    Bx w ((g, Obj.cells (cs.setIfInBounds j x) t (0, 0)) :: L) (W.setCell ⟨g, j, none⟩ x) := by
  refine ⟨h.bel.setCell hg x, fun p hp => ?_⟩
  rcases List.mem_cons.1 hp with rfl | hp
  · exact heap_setCell_same W g j cs t x (h.box _ (.head _))
  · rw [Below.heap_setCell _ _ _ _ (hne p hp)]; exact h.box p (.tail _ hp)
theorem Bx.apart (h : Bx w L W) : ∀ p ∈ L, p.1 ≠ W.heap.size := fun p hp e => by have := h.lt hp; omega
theorem Bx.fill3 {g : Nat} {z0 z1 z2 : Value} {t : TypeId} (h : Bx w ((g, Obj.cells #[z0, z1, z2] t (0, 0)) :: L) W) (hg : w.heap.size ≤ g) (hne : ∀ p ∈ L, p.1 ≠ g) (a b c : Value) :
    Bx w ((g, Obj.cells #[a, b, c] t (0, 0)) :: L) (((W.setCell ⟨g, 0, none⟩ a).setCell ⟨g, 1, none⟩ b).setCell ⟨g, 2, none⟩ c) := by
  have := ((h.set hg hne 0 a).set hg hne 1 b).set hg hne 2 c
  simpa using this
theorem Bx.fill4 {g : Nat} {z0 z1 z2 z3 : Value} {t : TypeId} (h : Bx w ((g, Obj.cells #[z0, z1, z2, z3] t (0, 0)) :: L) W) (hg : w.heap.size ≤ g) (hne : ∀ p ∈ L, p.1 ≠ g) (a b c d : Value) :
    Bx w ((g, Obj.cells #[a, b, c, d] t (0, 0)) :: L) ((((W.setCell ⟨g, 0, none⟩ a).setCell ⟨g, 1, none⟩ b).setCell ⟨g, 2, none⟩ c).setCell ⟨g, 3, none⟩ d) := by
  have := (((h.set hg hne 0 a).set hg hne 1 b).set hg hne 2 c).set hg hne 3 d
  simpa using this
end Go.Box

set_option linter.unusedVariables false
namespace Go.Wd
open Go
/-- The numbers of a format (true: F64): the sign's bit, 2 to the F, F, E, L, the infinite word. -/
def sg (b : Bool) : Int := match b with | true => 9223372036854775808 | false => 2147483648
def fr (b : Bool) : Int := match b with | true => 4503599627370496 | false => 8388608
def fc (b : Bool) : Int := match b with | true => 52 | false => 23
def bt (b : Bool) : Int := match b with | true => 64 | false => 32
def tp (b : Bool) : Int := match b with | true => 2047 | false => 255
def lo (b : Bool) : Int := match b with | true => -1074 | false => -149
def fm (b : Bool) : Int := match b with | true => 2 | false => 1
def inf (b : Bool) : Int := match b with | true => 9218868437227405312 | false => 2139095040
def nan (b : Bool) : Int := match b with | true => 9221120237041090560 | false => 2143289344
/-- A word's sign, field, fraction, class. -/
def ng (b : Bool) (x : Int) : Bool := decide (sg b ≤ x)
def sz (b : Bool) (x : Int) : Int := x % sg b
def fd (b : Bool) (x : Int) : Int := x % sg b / fr b
def fn (b : Bool) (x : Int) : Int := x % fr b
def cl (b : Bool) (x : Int) : Int := if sz b x = 0 then 1 else if sz b x < fr b then 2 else if sz b x < inf b then 3 else if sz b x = inf b then 4 else 5
/-- A size with a sign. -/
def sd (b : Bool) (s : Int) (n : Bool) : Int := if n then s + sg b else s
/-- One step up of what is no NaN and not +infinite. -/
def up (b : Bool) (x : Int) : Int := if sz b x = 0 then 1 else if sg b ≤ x then x - 1 else x + 1
def Ok (b : Bool) (x : Int) : Prop := 0 ≤ x ∧ x < 2 * sg b
/-- The low bits. -/
theorem mask (k : Nat) {x M : Int} (hM : M = 2 ^ k - 1) (hk : k ≤ 63) (h0 : 0 ≤ x) (h1 : x < 18446744073709551616) : bits .and .u64 x M = x % 2 ^ k := by
  have e : (2 : Int) ^ k = ((2 ^ k : Nat) : Int) := by simp
  have hp : 0 < 2 ^ k := Nat.two_pow_pos k
  have hq : 2 ^ k ≤ 2 ^ 63 := Nat.pow_le_pow_right (by decide) hk
  have hr : (2 : Nat) ^ 63 = 9223372036854775808 := by decide
  subst hM
  rw [e]
  obtain ⟨n, rfl⟩ : ∃ n : Nat, x = n := ⟨x.toNat, by omega⟩
  rw [show ((2 ^ k : Nat) : Int) - 1 = ((2 ^ k - 1 : Nat) : Int) by omega, u64_and_nat n _ (by omega) (by omega), Nat.and_two_pow_sub_one_eq_mod]
  omega
/-- The bit at the place k of a number that has none above it. -/
theorem topBit (k : Nat) {x S : Int} (hS : S = 2 ^ k) (hk : k ≤ 63) (h0 : 0 ≤ x) (h1 : x < 2 * S) : bits .and .u64 x S = if S ≤ x then S else 0 := by
  have e : (2 : Int) ^ k = ((2 ^ k : Nat) : Int) := by simp
  have hp : 0 < 2 ^ k := Nat.two_pow_pos k
  have hq : 2 ^ k ≤ 2 ^ 63 := Nat.pow_le_pow_right (by decide) hk
  have hr : (2 : Nat) ^ 63 = 9223372036854775808 := by decide
  subst hS
  rw [e] at *
  obtain ⟨n, rfl⟩ : ∃ n : Nat, x = n := ⟨x.toNat, by omega⟩
  rw [u64_and_nat n _ (by omega) (by omega), nat_bit]
  generalize 2 ^ k = P at *
  by_cases c : P ≤ n
  · rw [if_pos (by omega)]
    have : n / P = 1 := by
      refine Nat.div_eq_of_lt_le (by omega) (by omega)
    rw [this]; simp
  · rw [if_neg (by omega), Nat.div_eq_of_lt (by omega)]; simp
/-- Without that bit. -/
theorem clearBit (k : Nat) {x S : Int} (hS : S = 2 ^ k) (hk : k ≤ 63) (h0 : 0 ≤ x) (h1 : x < 2 * S) : bits .andNot .u64 x S = x % S := by
  have e : (2 : Int) ^ k = ((2 ^ k : Nat) : Int) := by simp
  have hp : 0 < 2 ^ k := Nat.two_pow_pos k
  have hq : 2 ^ k ≤ 2 ^ 63 := Nat.pow_le_pow_right (by decide) hk
  have hr : (2 : Nat) ^ 63 = 9223372036854775808 := by decide
  subst hS
  rw [e] at *
  obtain ⟨n, rfl⟩ : ∃ n : Nat, x = n := ⟨x.toNat, by omega⟩
  rw [u64_andNot_nat n _ (by omega) (by omega)]
  have : n &&& (18446744073709551615 - 2 ^ k) = n % 2 ^ k := by
    have hn : n < 2 ^ (k + 1) := by rw [Nat.pow_succ]; omega
    apply Nat.eq_of_testBit_eq
    intro i
    rw [Nat.testBit_and, Nat.testBit_mod_two_pow]
    have h64 : 18446744073709551615 - 2 ^ k = 2 ^ 64 - (2 ^ k + 1) := by
      rw [show (2 : Nat) ^ 64 = 18446744073709551616 by decide]; omega
    rw [h64, Nat.testBit_two_pow_sub_succ (by rw [show (2 : Nat) ^ 64 = 18446744073709551616 by decide]; omega), Nat.testBit_two_pow]
    by_cases hi : i < k
    · simp [hi, show k ≠ i by omega, show i < 64 by omega]
    · by_cases he : k = i
      · subst he; simp
      · have : n.testBit i = false := Nat.testBit_lt_two_pow (Nat.lt_of_lt_of_le hn (Nat.pow_le_pow_right (by decide) (by omega)))
        simp [this]
  rw [this]
  omega
/-- The other way about. -/
theorem join' (k : Nat) {x y P : Int} (hP : P = 2 ^ k) (h0 : 0 ≤ x) (hx : x % P = 0) (h2 : 0 ≤ y) (h3 : y < P) (h1 : x + y < 18446744073709551616) : bits .or .u64 y x = x + y := by
  have e : (2 : Int) ^ k = ((2 ^ k : Nat) : Int) := by simp
  have hp : 0 < 2 ^ k := Nat.two_pow_pos k
  subst hP
  rw [e] at *
  obtain ⟨n, rfl⟩ : ∃ n : Nat, x = n := ⟨x.toNat, by omega⟩
  obtain ⟨m, rfl⟩ : ∃ m : Nat, y = m := ⟨y.toNat, by omega⟩
  rw [u64_or_nat m n (by omega) (by omega), Nat.or_comm, nat_join k n m (by omega) (by omega)]
  omega
/-- The other bit at the place k. -/
theorem flip (k : Nat) {x S : Int} (hS : S = 2 ^ k) (hk : k ≤ 63) (h0 : 0 ≤ x) (h1 : x < 2 * S) : bits .xor .u64 x S = if S ≤ x then x - S else x + S := by
  have e : (2 : Int) ^ k = ((2 ^ k : Nat) : Int) := by simp
  have hp : 0 < 2 ^ k := Nat.two_pow_pos k
  have hq : 2 ^ k ≤ 2 ^ 63 := Nat.pow_le_pow_right (by decide) hk
  have hr : (2 : Nat) ^ 63 = 9223372036854775808 := by decide
  subst hS
  rw [e] at *
  obtain ⟨n, rfl⟩ : ∃ n : Nat, x = n := ⟨x.toNat, by omega⟩
  rw [u64_xor_nat n _ (by omega) (by omega)]
  have key : ∀ m : Nat, m < 2 ^ k → m ^^^ 2 ^ k = m + 2 ^ k := by
    intro m hm
    have h5 : m ||| 2 ^ k = m + 2 ^ k := by rw [Nat.or_comm, nat_join k _ m (by simp) hm]; omega
    rw [← h5]
    apply Nat.eq_of_testBit_eq
    intro i
    rw [Nat.testBit_xor, Nat.testBit_or, Nat.testBit_two_pow]
    by_cases he : k = i
    · subst he
      rw [Nat.testBit_lt_two_pow hm]; simp
    · simp [he]
  by_cases c : 2 ^ k ≤ n
  · rw [if_pos (by omega)]
    have h6 := key (n - 2 ^ k) (by omega)
    rw [show n - 2 ^ k + 2 ^ k = n by omega] at h6
    have : n ^^^ 2 ^ k = n - 2 ^ k := by rw [← h6, Nat.xor_assoc, Nat.xor_self, Nat.xor_zero]
                                         rw [h6]
    omega
  · rw [if_neg (by omega), key n (by omega)]
    omega
end Go.Wd

namespace Go.Proofs.Ytgfpbmjknknflaa
open Go.RowKit Go.Wd Go.Box
set_option linter.unusedVariables false
set_option maxRecDepth 3000
/-- A format's shape. -/
abbrev S (b : Bool) : Value := .agg #[.int .i64 (bt b), .int .i64 (fc b), .int .i64 (tp b), .int .i64 (lo b)]
abbrev SO (b : Bool) : Obj := .cells #[.int .i64 (bt b), .int .i64 (fc b), .int .i64 (tp b), .int .i64 (lo b)] 98 (0, 0)
abbrev noS : Value := .agg #[.int .i64 0, .int .i64 0, .int .i64 0, .int .i64 0]
theorem S32 : S false = .agg #[.int .i64 32, .int .i64 23, .int .i64 255, .int .i64 (-149)] := rfl
theorem S64 : S true = .agg #[.int .i64 64, .int .i64 52, .int .i64 2047, .int .i64 (-1074)] := rfl
theorem pow31 : sg false = 2 ^ 31 := by decide
theorem pow63 : sg true = 2 ^ 63 := by decide
theorem shape_cells {w W : World} {L : List (Nat × Obj)} (h : Bx w L W) (g : Nat) (b : Bool) (hm : (g, SO b) ∈ L) :
    W.cell? ⟨g, 0, none⟩ = some (.int .i64 (bt b)) ∧ W.cell? ⟨g, 1, none⟩ = some (.int .i64 (fc b)) ∧ W.cell? ⟨g, 2, none⟩ = some (.int .i64 (tp b)) ∧ W.cell? ⟨g, 3, none⟩ = some (.int .i64 (lo b)) :=
  ⟨h.cell g _ _ hm 0, h.cell g _ _ hm 1, h.cell g _ _ hm 2, h.cell g _ _ hm 3⟩
theorem wSignBit (b : Bool) (w : World) :
    Calls Try.prog 106 #[S b] w fun e w' => e = .returned (.int .u64 (sg b)) ∧ Below w.heap.size w w' := by
  cases b
  · rw [S32]
    go_enter Try.func106, Try.ntmps106
    go_wp2
    go_ret
    exact ⟨rfl, below_alloc _ _⟩
  · rw [S64]
    go_enter Try.func106, Try.ntmps106
    go_wp2
    go_ret
    exact ⟨rfl, below_alloc _ _⟩
theorem wFullWord (b : Bool) (w : World) :
    Calls Try.prog 104 #[S b] w fun e w' => e = .returned (.int .u64 (2 * sg b - 1)) ∧ Below w.heap.size w w' := by
  cases b
  · rw [S32]
    go_enter Try.func104, Try.ntmps104
    go_wp2
    go_ret
    exact ⟨rfl, below_alloc _ _⟩
  · rw [S64]
    go_enter Try.func104, Try.ntmps104
    go_wp2
    go_ret
    exact ⟨rfl, below_alloc _ _⟩
theorem wFracBits (b : Bool) (w : World) :
    Calls Try.prog 83 #[S b] w fun e w' => e = .returned (.int .u64 (fr b - 1)) ∧ Below w.heap.size w w' := by
  cases b
  · rw [S32]
    go_enter Try.func83, Try.ntmps83
    go_wp2
    go_ret
    exact ⟨rfl, below_alloc _ _⟩
  · rw [S64]
    go_enter Try.func83, Try.ntmps83
    go_wp2
    go_ret
    exact ⟨rfl, below_alloc _ _⟩
theorem wInfinite (b : Bool) (w : World) :
    Calls Try.prog 86 #[S b] w fun e w' => e = .returned (.int .u64 (inf b)) ∧ Below w.heap.size w w' := by
  cases b
  · rw [S32]
    go_enter Try.func86, Try.ntmps86
    go_wp2
    go_ret
    exact ⟨rfl, below_alloc _ _⟩
  · rw [S64]
    go_enter Try.func86, Try.ntmps86
    go_wp2
    go_ret
    exact ⟨rfl, below_alloc _ _⟩
theorem andNot_sg (b : Bool) {x : Int} (h : Ok b x) : bits .andNot .u64 x (sg b) = sz b x := by
  cases b
  · exact clearBit 31 pow31 (by decide) h.1 h.2
  · exact clearBit 63 pow63 (by decide) h.1 h.2
theorem and_sg (b : Bool) {x : Int} (h : Ok b x) : bits .and .u64 x (sg b) = if sg b ≤ x then sg b else 0 := by
  cases b
  · exact topBit 31 pow31 (by decide) h.1 h.2
  · exact topBit 63 pow63 (by decide) h.1 h.2
theorem xor_sg (b : Bool) {x : Int} (h : Ok b x) : bits .xor .u64 x (sg b) = if sg b ≤ x then x - sg b else x + sg b := by
  cases b
  · exact flip 31 pow31 (by decide) h.1 h.2
  · exact flip 63 pow63 (by decide) h.1 h.2
theorem and_fr (b : Bool) {x : Int} (h0 : 0 ≤ x) (h1 : x < 18446744073709551616) : bits .and .u64 x (fr b - 1) = fn b x := by
  cases b
  · exact mask 23 (by decide) (by decide) h0 h1
  · exact mask 52 (by decide) (by decide) h0 h1
theorem sg_pos (b : Bool) : 0 < sg b := by cases b <;> decide
theorem sg_le (b : Bool) : sg b ≤ 9223372036854775808 := by cases b <;> decide
theorem fr_pos (b : Bool) : 0 < fr b := by cases b <;> decide
theorem inf_lt (b : Bool) : inf b < sg b := by cases b <;> decide
theorem ok_u64 {b : Bool} {x : Int} (h : Ok b x) : x < 18446744073709551616 := by
  have := h.2
  have := sg_le b
  omega
theorem sz_bd (b : Bool) (x : Int) : 0 ≤ sz b x ∧ sz b x < sg b := ⟨Int.emod_nonneg _ (by have := sg_pos b; omega), Int.emod_lt_of_pos _ (sg_pos b)⟩
theorem wSize (b : Bool) (x : Int) (h : Ok b x) (w : World) :
    Calls Try.prog 105 #[S b, .int .u64 x] w fun e w' => e = .returned (.int .u64 (sz b x)) ∧ Below w.heap.size w w' := by
  have hb := below_alloc w (SO b)
  have HS := Hide.mk (andNot_sg b h)
  go_enter Try.func105, Try.ntmps105
  go_wp2_with fail
  refine (wSignBit b _).mono ?_
  rintro e w' ⟨rfl, h2⟩
  have h3 := below_then hb h2
  clear h2 hb
  go_wp2
  go_ret
  exact ⟨by rw [← HS.out]; rfl, h3⟩
theorem wIsNeg (b : Bool) (x : Int) (h : Ok b x) (w : World) :
    Calls Try.prog 81 #[S b, .int .u64 x] w fun e w' => e = .returned (.bool (ng b x)) ∧ Below w.heap.size w w' := by
  have hb := below_alloc w (SO b)
  have hs : (bits .and .u64 x (sg b) != 0) = ng b x := by
    rw [and_sg b h]
    have := sg_pos b
    unfold ng
    by_cases c : sg b ≤ x
    · simp [c]; omega
    · simp [c]
  have HS := Hide.mk hs
  clear hs
  go_enter Try.func81, Try.ntmps81
  go_wp2_with fail
  refine (wSignBit b _).mono ?_
  rintro e w' ⟨rfl, h2⟩
  have h3 := below_then hb h2
  clear h2 hb
  go_wp2
  go_ret
  exact ⟨by rw [← HS.out]; rfl, h3⟩
theorem wIsNaN (b : Bool) (x : Int) (h : Ok b x) (w : World) :
    Calls Try.prog 88 #[S b, .int .u64 x] w fun e w' => e = .returned (.bool (decide (inf b < sz b x))) ∧ Below w.heap.size w w' := by
  have B1 := (Bx.nil w).push (SO b)
  go_enter Try.func88, Try.ntmps88
  go_wp2_with fail
  generalize hw1 : w.alloc (SO b) = w1 at *
  clear hw1
  have HI := B1.drew
  have sh := fun W (hW : Bx w [(w.heap.size, SO b)] W) => shape_cells hW w.heap.size b (.head _)
  refine Drawn.enter (Bx w [(w.heap.size, SO b)]) (by kernel_rfl) ?_
  refine Drawn.tk (i := 0) (v := ?v0) rfl (fun W hW => ?_) HI ?_
  rotate_left
  · have ⟨e0, e1, e2, e3⟩ := sh W hW
    go_simp <;> exact rfl
  refine Drawn.tk (i := 1) (v := ?v1) rfl (fun W hW => ?_) HI ?_
  rotate_left
  · have ⟨e0, e1, e2, e3⟩ := sh W hW
    go_simp <;> exact rfl
  refine Drawn.tk (i := 3) (v := ?v2) rfl (fun W hW => ?_) HI ?_
  rotate_left
  · have ⟨e0, e1, e2, e3⟩ := sh W hW
    go_simp <;> exact rfl
  refine Drawn.one (j := 2) (by kernel_rfl) rfl (fun K hK => ?_)
  go_simp
  refine (wSize b x h _).mono ?_
  rintro e wn ⟨rfl, hn⟩
  refine hK _ _ (HI.keep hn) ?_
  clear hK K
  replace HI := HI.keep hn
  clear hn
  refine Drawn.one (j := 4) (by kernel_rfl) rfl (fun K hK => ?_)
  go_simp
  refine (wInfinite b _).mono ?_
  rintro e wn ⟨rfl, hn⟩
  refine hK _ _ (HI.keep hn) ?_
  clear hK K
  replace HI := HI.keep hn
  clear hn
  refine Drawn.tk (i := 5) (v := ?v3) rfl (fun W hW => ?_) HI ?_
  rotate_left
  · have ⟨e0, e1, e2, e3⟩ := sh W hW
    go_simp <;> exact rfl
  refine Drawn.tk (i := 6) (v := ?v4) rfl (fun W hW => ?_) HI ?_
  rotate_left
  · have ⟨e0, e1, e2, e3⟩ := sh W hW
    go_simp <;> exact rfl
  refine Drawn.done (by kernel_rfl) ?_
  try go_simp
  go_wp2
  go_ret
  exact ⟨rfl, HI.bel⟩
theorem shr_fc (b : Bool) (y : Int) (W : World) : Sem.run Try.prog (Op.shift .shr .u64 y .i64 (fc b)) W = .ok (.int .u64 (y / fr b)) W := by
  cases b
  · rw [show fc false = 23 from rfl]
    go_simp
    rfl
  · rw [show fc true = 52 from rfl]
    go_simp
    rfl
theorem shl_fc (b : Bool) (y : Int) (W : World) : Sem.run Try.prog (Op.shift .shl .u64 y .i64 (fc b)) W = .ok (.int .u64 (y * fr b % 18446744073709551616)) W := by
  cases b
  · rw [show fc false = 23 from rfl]
    go_simp
    rw [IntKind.wrap_u64]
    rfl
  · rw [show fc true = 52 from rfl]
    go_simp
    rw [IntKind.wrap_u64]
    rfl
theorem shl_half (b : Bool) (W : World) : Sem.run Try.prog (Op.shift .shl .u64 1 .i64 (fc b - 1)) W = .ok (.int .u64 (fr b / 2)) W := by
  cases b
  · rw [show fc false - 1 = 22 from rfl]
    go_simp
    rfl
  · rw [show fc true - 1 = 51 from rfl]
    go_simp
    rfl
theorem or_nan (b : Bool) : bits .or .u64 (inf b) (fr b / 2) = nan b := by cases b <;> rfl
theorem fd_bd (b : Bool) (x : Int) : 0 ≤ fd b x ∧ fd b x ≤ 2047 := by
  have h := sz_bd b x
  unfold sz at h
  cases b <;> simp only [fd, sg, fr] at * <;> omega
theorem wField (b : Bool) (x : Int) (h : Ok b x) (w : World) :
    Calls Try.prog 82 #[S b, .int .u64 x] w fun e w' => e = .returned (.int .i64 (fd b x)) ∧ Below w.heap.size w w' := by
  have B1 := (Bx.nil w).push (SO b)
  go_enter Try.func82, Try.ntmps82
  go_wp2_with fail
  generalize hw1 : w.alloc (SO b) = w1 at *
  clear hw1
  have HI := B1.drew
  have sh := fun W (hW : Bx w [(w.heap.size, SO b)] W) => shape_cells hW w.heap.size b (.head _)
  refine Drawn.enter (Bx w [(w.heap.size, SO b)]) (by kernel_rfl) ?_
  refine Drawn.tk (i := 0) (v := ?v5) rfl (fun W hW => ?_) HI ?_
  rotate_left
  · have ⟨e0, e1, e2, e3⟩ := sh W hW
    go_simp <;> exact rfl
  refine Drawn.tk (i := 1) (v := ?v6) rfl (fun W hW => ?_) HI ?_
  rotate_left
  · have ⟨e0, e1, e2, e3⟩ := sh W hW
    go_simp <;> exact rfl
  refine Drawn.tk (i := 3) (v := ?v7) rfl (fun W hW => ?_) HI ?_
  rotate_left
  · have ⟨e0, e1, e2, e3⟩ := sh W hW
    go_simp <;> exact rfl
  refine Drawn.tk (i := 4) (v := ?v8) rfl (fun W hW => ?_) HI ?_
  rotate_left
  · have ⟨e0, e1, e2, e3⟩ := sh W hW
    go_simp <;> exact rfl
  refine Drawn.one (j := 2) (by kernel_rfl) rfl (fun K hK => ?_)
  go_simp
  refine (wSize b x h _).mono ?_
  rintro e wn ⟨rfl, hn⟩
  refine hK _ _ (HI.keep hn) ?_
  clear hK K
  replace HI := HI.keep hn
  clear hn
  refine Drawn.tk (i := 5) (v := .int .u64 (fd b x)) rfl (fun W hW => ?_) HI ?_
  · have ⟨e0, e1, e2, e3⟩ := sh W hW
    go_simp <;> (rw [shr_fc]; rfl)
  refine Drawn.tk (i := 6) (v := .int .i64 (fd b x)) rfl (fun W hW => ?_) HI ?_
  · have ⟨e0, e1, e2, e3⟩ := sh W hW
    go_simp <;> (have := fd_bd b x; exact wrap_ok (by omega) (by omega))
  refine Drawn.tk (i := 7) (v := ?v9) rfl (fun W hW => ?_) HI ?_
  rotate_left
  · have ⟨e0, e1, e2, e3⟩ := sh W hW
    go_simp <;> exact rfl
  refine Drawn.done (by kernel_rfl) ?_
  try go_simp
  go_wp2
  go_ret
  exact ⟨rfl, HI.bel⟩
theorem wNone (b : Bool) (w : World) :
    Calls Try.prog 68 #[S b] w fun e w' => e = .returned (.int .u64 (nan b)) ∧ Below w.heap.size w w' := by
  have B1 := (Bx.nil w).push (SO b)
  go_enter Try.func68, Try.ntmps68
  go_wp2_with fail
  generalize hw1 : w.alloc (SO b) = w1 at *
  clear hw1
  have HI := B1.drew
  have sh := fun W (hW : Bx w [(w.heap.size, SO b)] W) => shape_cells hW w.heap.size b (.head _)
  refine Drawn.enter (Bx w [(w.heap.size, SO b)]) (by kernel_rfl) ?_
  refine Drawn.tk (i := 0) (v := ?v10) rfl (fun W hW => ?_) HI ?_
  rotate_left
  · have ⟨e0, e1, e2, e3⟩ := sh W hW
    go_simp <;> exact rfl
  refine Drawn.tk (i := 2) (v := ?v11) rfl (fun W hW => ?_) HI ?_
  rotate_left
  · have ⟨e0, e1, e2, e3⟩ := sh W hW
    go_simp <;> exact rfl
  refine Drawn.tk (i := 3) (v := ?v12) rfl (fun W hW => ?_) HI ?_
  rotate_left
  · have ⟨e0, e1, e2, e3⟩ := sh W hW
    go_simp <;> exact rfl
  refine Drawn.tk (i := 4) (v := .int .i64 (fc b - 1)) rfl (fun W hW => ?_) HI ?_
  · have ⟨e0, e1, e2, e3⟩ := sh W hW
    go_simp <;> (cases b <;> rfl)
  refine Drawn.tk (i := 5) (v := .int .u64 (fr b / 2)) rfl (fun W hW => ?_) HI ?_
  · have ⟨e0, e1, e2, e3⟩ := sh W hW
    go_simp <;> (rw [shl_half]; rfl)
  refine Drawn.one (j := 1) (by kernel_rfl) rfl (fun K hK => ?_)
  go_simp
  refine (wInfinite b _).mono ?_
  rintro e wn ⟨rfl, hn⟩
  refine hK _ _ (HI.keep hn) ?_
  clear hK K
  replace HI := HI.keep hn
  clear hn
  refine Drawn.tk (i := 6) (v := .int .u64 (nan b)) rfl (fun W hW => ?_) HI ?_
  · have ⟨e0, e1, e2, e3⟩ := sh W hW
    go_simp <;> (exact or_nan b)
  refine Drawn.tk (i := 7) (v := ?v13) rfl (fun W hW => ?_) HI ?_
  rotate_left
  · have ⟨e0, e1, e2, e3⟩ := sh W hW
    go_simp <;> exact rfl
  refine Drawn.done (by kernel_rfl) ?_
  try go_simp
  go_wp2
  go_ret
  exact ⟨rfl, HI.bel⟩
theorem or_sg (b : Bool) {s : Int} (h0 : 0 ≤ s) (h1 : s < sg b) : bits .or .u64 s (sg b) = s + sg b := by
  have e : sg b + s < 18446744073709551616 := by have := sg_le b; omega
  rw [Int.add_comm]
  cases b
  · exact join' 31 pow31 (by decide) (by decide) h0 h1 e
  · exact join' 63 pow63 (by decide) (by decide) h0 h1 e
theorem wSigned (b : Bool) (s : Int) (n : Bool) (h0 : 0 ≤ s) (h1 : s < sg b) (w : World) :
    Calls Try.prog 85 #[S b, .int .u64 s, .bool n] w fun e w' => e = .returned (.int .u64 (sd b s n)) ∧ Below w.heap.size w w' := by
  have hb := below_alloc w (SO b)
  have HS := Hide.mk (or_sg b h0 h1)
  cases n
  · go_enter Try.func85, Try.ntmps85
    go_wp2
    go_ret
    exact ⟨rfl, hb⟩
  · go_enter Try.func85, Try.ntmps85
    go_wp2_with fail
    refine (wSignBit b _).mono ?_
    rintro e w' ⟨rfl, h2⟩
    have h3 := below_then hb h2
    clear h2 hb
    go_wp2
    go_ret
    exact ⟨by unfold sd; rw [if_pos rfl, ← HS.out]; rfl, h3⟩
theorem Try.sizeShape : (Try.prog.info? 98).map (·.size) = some 4 := by kernel_rfl
theorem results_S2 {fn : Func} {p u : Tmp} (h : fn.results = #[.cell p 98, .tmp u]) (tmps : Array Value) (w : World) (g : Nat) (cs : Array Value) (hp : tmps.getD p undef = .pointer (some ⟨g, 0, none⟩)) (hg : w.heap[g]? = some (.cells cs 98 (0, 0))) (hs : cs.size = 4) :
    (results fn tmps).run Try.prog w = .ok (.tuple #[.agg cs, tmps.getD u undef]) w := by
  rw [results_cell_tmp h, hp]
  simp [asAddr, run_loadVar_row w g 98 98 cs (0, 0) _ hg Try.underlying98 rfl (by rw [Try.sizeShape, hs])]
theorem wShapeOf (b : Bool) (w : World) :
    Calls Try.prog 67 #[.int .u8 (fm b)] w fun e w' => e = .returned (.tuple #[S b, .int .i64 0]) ∧ Below w.heap.size w w' := by
  cases b
  · rw [show fm false = 1 from rfl, S32]
    go_enter Try.func67, Try.ntmps67
    go_wp2
    have B1 := (Bx.nil w).push (.cells #[.int .i64 32, .int .i64 23, .int .i64 255, .int .i64 (-149)] 98 (0, 0))
    refine bodyPost_ret (results_S2 rfl _ _ w.heap.size _ rfl B1.head rfl) rfl ?_
    exact ⟨rfl, B1.bel⟩
  · rw [show fm true = 2 from rfl, S64]
    go_enter Try.func67, Try.ntmps67
    go_wp2
    have B1 := (Bx.nil w).push (.cells #[.int .i64 64, .int .i64 52, .int .i64 2047, .int .i64 (-1074)] 98 (0, 0))
    refine bodyPost_ret (results_S2 rfl _ _ w.heap.size _ rfl B1.head rfl) rfl ?_
    exact ⟨rfl, B1.bel⟩
/-- No format. -/
def Bad (f : Int) : Prop := f ≠ 1 ∧ f ≠ 2
theorem wShapeOf_bad (f : Int) (h : Bad f) (w : World) :
    Calls Try.prog 67 #[.int .u8 f] w fun e w' => e = .returned (.tuple #[noS, .int .i64 4]) ∧ Below w.heap.size w w' := by
  have h1 : (f == 1) = false := beq_eq_false_iff_ne.2 h.1
  have h2 : (f == 2) = false := beq_eq_false_iff_ne.2 h.2
  go_enter Try.func67, Try.ntmps67
  go_wp2
  have B1 := (Bx.nil w).push (.cells #[.int .i64 0, .int .i64 0, .int .i64 0, .int .i64 0] 98 (0, 0))
  refine bodyPost_ret (results_S2 rfl _ _ w.heap.size _ rfl B1.head rfl) rfl ?_
  exact ⟨rfl, B1.bel⟩
end Go.Proofs.Ytgfpbmjknknflaa

namespace Go.Proofs.Ytgfpbmjknknflaa
open Go.RowKit Go.Wd Go.Box
set_option linter.unusedVariables false
set_option maxRecDepth 3000
abbrev ZO : Obj := .cells #[.int .i64 0, .int .i64 0, .int .i64 0, .int .i64 0] 98 (0, 0)
/-- The cells of a block of cells4, and that they may be written. -/
theorem cells4 {w W : World} {L : List (Nat × Obj)} (h : Bx w L W) (g : Nat) (a b c d : Value) (t : TypeId) (hm : (g, Obj.cells #[a, b, c, d] t (0, 0)) ∈ L) :
    (W.cell? ⟨g, 0, none⟩ = some a ∧ W.cell? ⟨g, 1, none⟩ = some b ∧ W.cell? ⟨g, 2, none⟩ = some c ∧ W.cell? ⟨g, 3, none⟩ = some d) ∧ W.frozen? ⟨g, 0, none⟩ = false ∧ W.frozen? ⟨g, 1, none⟩ = false ∧ W.frozen? ⟨g, 2, none⟩ = false ∧ W.frozen? ⟨g, 3, none⟩ = false :=
  ⟨⟨h.cell g _ _ hm 0, h.cell g _ _ hm 1, h.cell g _ _ hm 2, h.cell g _ _ hm 3⟩, h.frozen g _ _ hm 0, h.frozen g _ _ hm 1, h.frozen g _ _ hm 2, h.frozen g _ _ hm 3⟩
theorem cells3 {w W : World} {L : List (Nat × Obj)} (h : Bx w L W) (g : Nat) (a b c : Value) (t : TypeId) (hm : (g, Obj.cells #[a, b, c] t (0, 0)) ∈ L) :
    (W.cell? ⟨g, 0, none⟩ = some a ∧ W.cell? ⟨g, 1, none⟩ = some b ∧ W.cell? ⟨g, 2, none⟩ = some c) ∧ W.frozen? ⟨g, 0, none⟩ = false ∧ W.frozen? ⟨g, 1, none⟩ = false ∧ W.frozen? ⟨g, 2, none⟩ = false :=
  ⟨⟨h.cell g _ _ hm 0, h.cell g _ _ hm 1, h.cell g _ _ hm 2⟩, h.frozen g _ _ hm 0, h.frozen g _ _ hm 1, h.frozen g _ _ hm 2⟩
theorem wGoodShape (b : Bool) (x : Int) (h : Ok b x) (w : World) :
    Calls Try.prog 79 #[.int .u8 (fm b), .int .u64 x] w fun e w' => e = .returned (.tuple #[S b, .int .i64 0]) ∧ Below w.heap.size w w' := by
  have B1 := (Bx.nil w).push ZO
  have hx : x ≤ 2 * sg b - 1 := by have := h.2; omega
  go_enter Try.func79, Try.ntmps79
  go_wp2_with fail
  refine (wShapeOf b _).mono ?_
  rintro e w2 ⟨rfl, h2⟩
  have B2 := (B1.keep h2).push (SO b)
  have hlt : w.heap.size < w2.heap.size := (B1.keep h2).lt (.head _)
  go_wp2_with fail
  refine (wFullWord b _).mono ?_
  rintro e w3 ⟨rfl, h3⟩
  have B3 := B2.keep h3
  obtain ⟨⟨e0, e1, e2, e3⟩, _⟩ := cells4 B3 w2.heap.size _ _ _ _ _ (.head _)
  obtain ⟨⟨f0, f1, f2, f3⟩, r0, r1, r2, r3⟩ := cells4 B3 w.heap.size _ _ _ _ _ (.tail _ (.head _))
  clear h2 h3 B1 B2
  go_wp2
  have B4 := (B3.sub (L' := [(w.heap.size, ZO), (w2.heap.size, SO b)]) (by simp)).fill4 (Nat.le_refl _) (by simp; omega) (.int .i64 (bt b)) (.int .i64 (fc b)) (.int .i64 (tp b)) (.int .i64 (lo b))
  refine bodyPost_ret (results_S2 rfl _ _ w.heap.size _ rfl B4.head rfl) rfl ?_
  exact ⟨rfl, B4.bel⟩
theorem wGoodShape_long (b : Bool) (x : Int) (h : 2 * sg b ≤ x) (w : World) :
    Calls Try.prog 79 #[.int .u8 (fm b), .int .u64 x] w fun e w' => e = .returned (.tuple #[noS, .int .i64 6]) ∧ Below w.heap.size w w' := by
  have B1 := (Bx.nil w).push ZO
  have hx : 2 * sg b - 1 < x := by omega
  go_enter Try.func79, Try.ntmps79
  go_wp2_with fail
  refine (wShapeOf b _).mono ?_
  rintro e w2 ⟨rfl, h2⟩
  have B2 := (B1.keep h2).push (SO b)
  have hlt : w.heap.size < w2.heap.size := (B1.keep h2).lt (.head _)
  go_wp2_with fail
  refine (wFullWord b _).mono ?_
  rintro e w3 ⟨rfl, h3⟩
  have B3 := B2.keep h3
  obtain ⟨⟨f0, f1, f2, f3⟩, r0, r1, r2, r3⟩ := cells4 B3 w.heap.size _ _ _ _ _ (.tail _ (.head _))
  clear h2 h3 B1 B2
  go_wp2
  have B4 := (B3.sub (L' := [(w.heap.size, ZO), (w2.heap.size, SO b)]) (by simp)).fill4 (Nat.le_refl _) (by simp; omega) (.int .i64 0) (.int .i64 0) (.int .i64 0) (.int .i64 0)
  refine bodyPost_ret (results_S2 rfl _ _ w.heap.size _ rfl B4.head rfl) rfl ?_
  exact ⟨rfl, B4.bel⟩
theorem wGoodShape_bad (f x : Int) (h : Bad f) (w : World) :
    Calls Try.prog 79 #[.int .u8 f, .int .u64 x] w fun e w' => e = .returned (.tuple #[noS, .int .i64 4]) ∧ Below w.heap.size w w' := by
  have B1 := (Bx.nil w).push ZO
  go_enter Try.func79, Try.ntmps79
  go_wp2_with fail
  refine (wShapeOf_bad f h _).mono ?_
  rintro e w2 ⟨rfl, h2⟩
  have B2 := B1.keep h2
  have hlt : w.heap.size < w2.heap.size := B2.lt (.head _)
  have B4 := (B2.fill4 (Nat.le_refl _) (by simp) (.int .i64 0) (.int .i64 0) (.int .i64 0) (.int .i64 0)).push ZO
  obtain ⟨⟨f0, f1, f2, f3⟩, r0, r1, r2, r3⟩ := cells4 B2 w.heap.size _ _ _ _ _ (.head _)
  clear h2 B1
  go_wp2
  refine bodyPost_ret (results_S2 rfl _ _ w.heap.size _ rfl B4.tail.head rfl) rfl ?_
  exact ⟨rfl, B4.bel⟩
/-- The word is not good, for the error c. -/
def GE (f x c : Int) : Prop := (Bad f ∧ c = 4) ∨ (∃ b, f = fm b ∧ 2 * sg b ≤ x ∧ c = 6)
theorem GE.call {f x c : Int} (h : GE f x c) (w : World) :
    Calls Try.prog 79 #[.int .u8 f, .int .u64 x] w fun e w' => e = .returned (.tuple #[noS, .int .i64 c]) ∧ Below w.heap.size w w' := by
  rcases h with ⟨h, rfl⟩ | ⟨b, rfl, h, rfl⟩
  · exact wGoodShape_bad f x h w
  · exact wGoodShape_long b x h w
abbrev FV (n : Bool) (e f : Int) : Value := .agg #[.bool n, .int .i64 e, .int .u64 f]
abbrev FO (n : Bool) (e f : Int) : Obj := .cells #[.bool n, .int .i64 e, .int .u64 f] 70 (0, 0)
theorem Try.sizeFields : (Try.prog.info? 70).map (·.size) = some 3 := by kernel_rfl
theorem results_F2 {fn : Func} {p u : Tmp} (h : fn.results = #[.cell p 70, .tmp u]) (tmps : Array Value) (w : World) (g : Nat) (cs : Array Value) (hp : tmps.getD p undef = .pointer (some ⟨g, 0, none⟩)) (hg : w.heap[g]? = some (.cells cs 70 (0, 0))) (hs : cs.size = 3) :
    (results fn tmps).run Try.prog w = .ok (.tuple #[.agg cs, tmps.getD u undef]) w := by
  rw [results_cell_tmp h, hp]
  simp [asAddr, run_loadVar_row w g 70 70 cs (0, 0) _ hg Try.underlying70 rfl (by rw [Try.sizeFields, hs])]
theorem results_F1 {fn : Func} {p : Tmp} (h : fn.results = #[.cell p 70]) (tmps : Array Value) (w : World) (g : Nat) (cs : Array Value) (hp : tmps.getD p undef = .pointer (some ⟨g, 0, none⟩)) (hg : w.heap[g]? = some (.cells cs 70 (0, 0))) (hs : cs.size = 3) :
    (results fn tmps).run Try.prog w = .ok (.agg cs) w := by
  exact results_cell_row h tmps w g 70 cs (0, 0) _ hp hg Try.underlying70 rfl (by rw [Try.sizeFields, hs])
set_option maxHeartbeats 1000000 in
theorem wSplit (b : Bool) (x : Int) (h : Ok b x) (w : World) :
    Calls Try.prog 63 #[.int .u8 (fm b), .int .u64 x] w fun e w' => e = .returned (.tuple #[FV (ng b x) (fd b x) (fn b x), .int .i64 0]) ∧ Below w.heap.size w w' := by
  have B1 := (Bx.nil w).push (FO false 0 0)
  go_enter Try.func63, Try.ntmps63
  go_wp2_with fail
  refine (wGoodShape b x h _).mono ?_
  rintro e w2 ⟨rfl, h2⟩
  have HF := (B1.keep h2).push (SO b)
  have hlt : w.heap.size < w2.heap.size := (B1.keep h2).lt (.head _)
  clear h2 B1
  go_wp2_with fail
  generalize hw3 : w2.alloc (SO b) = w3 at *
  clear hw3
  replace HF := HF.drew
  have HI := HF.sub (L' := [(w2.heap.size, SO b)]) (by simp)
  have sh := fun W (hW : Bx w [(w2.heap.size, SO b)] W) => shape_cells hW w2.heap.size b (.head _)
  refine Drawn.enter (Bx w [(w2.heap.size, SO b)]) (by kernel_rfl) ?_
  refine Drawn.tk (i := 0) (v := ?v14) rfl (fun W hW => ?_) HI ?_
  rotate_left
  · have ⟨e0, e1, e2, e3⟩ := sh W hW
    go_simp <;> exact rfl
  refine Drawn.tk (i := 1) (v := ?v15) rfl (fun W hW => ?_) HI ?_
  rotate_left
  · have ⟨e0, e1, e2, e3⟩ := sh W hW
    go_simp <;> exact rfl
  refine Drawn.tk (i := 3) (v := ?v16) rfl (fun W hW => ?_) HI ?_
  rotate_left
  · have ⟨e0, e1, e2, e3⟩ := sh W hW
    go_simp <;> exact rfl
  refine Drawn.tk (i := 4) (v := ?v17) rfl (fun W hW => ?_) HI ?_
  rotate_left
  · have ⟨e0, e1, e2, e3⟩ := sh W hW
    go_simp <;> exact rfl
  refine Drawn.tk (i := 6) (v := ?v18) rfl (fun W hW => ?_) HI ?_
  rotate_left
  · have ⟨e0, e1, e2, e3⟩ := sh W hW
    go_simp <;> exact rfl
  refine Drawn.tk (i := 7) (v := ?v19) rfl (fun W hW => ?_) HI ?_
  rotate_left
  · have ⟨e0, e1, e2, e3⟩ := sh W hW
    go_simp <;> exact rfl
  refine Drawn.one (j := 2) (by kernel_rfl) rfl (fun K hK => ?_)
  go_simp
  refine (wIsNeg b x h _).mono ?_
  rintro e wn ⟨rfl, hn⟩
  refine hK _ _ (HI.keep hn) ?_
  clear hK K
  replace HI := HI.keep hn
  replace HF := HF.keep hn
  clear hn
  refine Drawn.one (j := 5) (by kernel_rfl) rfl (fun K hK => ?_)
  go_simp
  refine (wField b x h _).mono ?_
  rintro e wn ⟨rfl, hn⟩
  refine hK _ _ (HI.keep hn) ?_
  clear hK K
  replace HI := HI.keep hn
  replace HF := HF.keep hn
  clear hn
  refine Drawn.one (j := 8) (by kernel_rfl) rfl (fun K hK => ?_)
  go_simp
  refine (wFracBits b _).mono ?_
  rintro e wn ⟨rfl, hn⟩
  refine hK _ _ (HI.keep hn) ?_
  clear hK K
  replace HI := HI.keep hn
  replace HF := HF.keep hn
  clear hn
  refine Drawn.tk (i := 9) (v := .int .u64 (fn b x)) rfl (fun W hW => ?_) HI ?_
  · have ⟨e0, e1, e2, e3⟩ := sh W hW
    go_simp <;> (exact and_fr b h.1 (ok_u64 h))
  refine Drawn.tk (i := 10) (v := ?v20) rfl (fun W hW => ?_) HI ?_
  rotate_left
  · have ⟨e0, e1, e2, e3⟩ := sh W hW
    go_simp <;> exact rfl
  obtain ⟨⟨f0, f1, f2⟩, r0, r1, r2⟩ := cells3 HF w.heap.size _ _ _ _ (.tail _ (.head _))
  have HF2 := (HF.sub (L' := [(w.heap.size, FO false 0 0), (w2.heap.size, SO b)]) (by simp)).fill3 (Nat.le_refl _) (by simp; omega) (.bool (ng b x)) (.int .i64 (fd b x)) (.int .u64 (fn b x))
  refine Drawn.one (j := 11) (by kernel_rfl) rfl (fun K hK => ?_)
  go_simp
  replace HI := HF2.sub (L' := [(w2.heap.size, SO b)]) (by simp)
  refine hK _ _ HI ?_
  clear hK K f0 f1 f2 r0 r1 r2
  refine Drawn.tk (i := 12) (v := ?v21) rfl (fun W hW => ?_) HI ?_
  rotate_left
  · have ⟨e0, e1, e2, e3⟩ := sh W hW
    go_simp <;> exact rfl
  refine Drawn.done (by kernel_rfl) ?_
  try go_simp
  go_wp2
  refine bodyPost_ret (results_F2 rfl _ _ w.heap.size _ rfl HF2.head rfl) rfl ?_
  exact ⟨rfl, HF2.bel⟩
end Go.Proofs.Ytgfpbmjknknflaa

namespace Go.Proofs.Ytgfpbmjknknflaa
open Go.RowKit Go.Wd Go.Box
set_option linter.unusedVariables false
set_option maxRecDepth 3000
theorem sg_one (b : Bool) : 1 < sg b := by cases b <;> decide
theorem inf_bd (b : Bool) : 0 < inf b := by cases b <;> decide
theorem wClassM (b : Bool) (x : Int) (h : Ok b x) (w : World) :
    Calls Try.prog 80 #[S b, .int .u64 x] w fun e w' => e = .returned (.int .u8 (cl b x)) ∧ Below w.heap.size w w' := by
  have B1 := (Bx.nil w).push (SO b)
  go_enter Try.func80, Try.ntmps80
  go_wp2_with fail
  refine (wSize b x h _).mono ?_
  rintro e w2 ⟨rfl, h2⟩
  have B2 := B1.keep h2
  obtain ⟨e0, e1, e2, e3⟩ := shape_cells B2 w.heap.size b (.head _)
  clear h2 B1
  by_cases c1 : sz b x = 0
  · have HC : Hide (cl b x = 1) := ⟨by unfold cl; rw [if_pos c1]⟩
    have d1 : (sz b x == 0) = true := by simp [c1]
    clear c1
    go_wp2
    go_ret
    exact ⟨by rw [HC.out]; rfl, B2.bel⟩
  · have d1 : (sz b x == 0) = false := beq_eq_false_iff_ne.2 c1
    go_wp2_with fail
    refine (wFracBits b _).mono ?_
    rintro e w3 ⟨rfl, h3⟩
    have B3 := B2.keep h3
    obtain ⟨e0, e1, e2, e3⟩ := shape_cells B3 w.heap.size b (.head _)
    clear h3 B2
    by_cases c2 : sz b x < fr b
    · have HC : Hide (cl b x = 2) := ⟨by unfold cl; rw [if_neg c1, if_pos c2]⟩
      have d2 : sz b x ≤ fr b - 1 := by omega
      clear c1 c2
      go_wp2
      go_ret
      exact ⟨by rw [HC.out]; rfl, B3.bel⟩
    · have d2 : fr b - 1 < sz b x := by omega
      go_wp2_with fail
      refine (wInfinite b _).mono ?_
      rintro e w4 ⟨rfl, h4⟩
      have B4 := B3.keep h4
      obtain ⟨e0, e1, e2, e3⟩ := shape_cells B4 w.heap.size b (.head _)
      clear h4 B3
      by_cases c3 : sz b x < inf b
      · have HC : Hide (cl b x = 3) := ⟨by unfold cl; rw [if_neg c1, if_neg (show ¬ sz b x < fr b by omega), if_pos c3]⟩
        clear c1 c2
        go_wp2
        go_ret
        exact ⟨by rw [HC.out]; rfl, B4.bel⟩
      · have d3 : inf b ≤ sz b x := by omega
        go_wp2_with fail
        refine (wInfinite b _).mono ?_
        rintro e w5 ⟨rfl, h5⟩
        have B5 := B4.keep h5
        clear h5 B4
        by_cases c4 : sz b x = inf b
        · have HC : Hide (cl b x = 4) := ⟨by unfold cl; rw [if_neg c1, if_neg (show ¬ sz b x < fr b by omega), if_neg (show ¬ sz b x < inf b by omega), if_pos c4]⟩
          have d4 : (sz b x == inf b) = true := by simp [c4]
          clear c1 c2 c3 c4
          go_wp2
          go_ret
          exact ⟨by rw [HC.out]; rfl, B5.bel⟩
        · have HC : Hide (cl b x = 5) := ⟨by unfold cl; rw [if_neg c1, if_neg (show ¬ sz b x < fr b by omega), if_neg (show ¬ sz b x < inf b by omega), if_neg c4]⟩
          have d4 : (sz b x == inf b) = false := beq_eq_false_iff_ne.2 c4
          clear c1 c2 c3 c4
          go_wp2
          go_ret
          exact ⟨by rw [HC.out]; rfl, B5.bel⟩
theorem wClass (b : Bool) (x : Int) (h : Ok b x) (w : World) :
    Calls Try.prog 62 #[.int .u8 (fm b), .int .u64 x] w fun e w' => e = .returned (.tuple #[.int .u8 (cl b x), .int .i64 0]) ∧ Below w.heap.size w w' := by
  go_enter Try.func62, Try.ntmps62
  go_wp2_with fail
  refine (wGoodShape b x h _).mono ?_
  rintro e w2 ⟨rfl, h2⟩
  have B2 := ((Bx.nil w).keep h2).push (SO b)
  clear h2
  go_wp2_with fail
  refine (wClassM b x h _).mono ?_
  rintro e w3 ⟨rfl, h3⟩
  have B3 := B2.keep h3
  clear h3 B2
  go_wp2
  go_ret2
  exact ⟨rfl, B3.bel⟩
theorem wNoneF (b : Bool) (w : World) :
    Calls Try.prog 48 #[.int .u8 (fm b)] w fun e w' => e = .returned (.tuple #[.int .u64 (nan b), .int .i64 0]) ∧ Below w.heap.size w w' := by
  go_enter Try.func48, Try.ntmps48
  go_wp2_with fail
  refine (wShapeOf b _).mono ?_
  rintro e w2 ⟨rfl, h2⟩
  have B2 := ((Bx.nil w).keep h2).push (SO b)
  clear h2
  go_wp2_with fail
  refine (wNone b _).mono ?_
  rintro e w3 ⟨rfl, h3⟩
  have B3 := B2.keep h3
  clear h3 B2
  go_wp2
  go_ret2
  exact ⟨rfl, B3.bel⟩
theorem wInf (b n : Bool) (w : World) :
    Calls Try.prog 65 #[.int .u8 (fm b), .bool n] w fun e w' => e = .returned (.tuple #[.int .u64 (sd b (inf b) n), .int .i64 0]) ∧ Below w.heap.size w w' := by
  go_enter Try.func65, Try.ntmps65
  go_wp2_with fail
  refine (wShapeOf b _).mono ?_
  rintro e w2 ⟨rfl, h2⟩
  have B2 := ((Bx.nil w).keep h2).push (SO b)
  clear h2
  go_wp2_with fail
  generalize hw3 : w2.alloc (SO b) = w3 at *
  clear hw3
  have HI := B2.drew
  have sh := fun W (hW : Bx w [(w2.heap.size, SO b)] W) => shape_cells hW w2.heap.size b (.head _)
  refine Drawn.enter (Bx w [(w2.heap.size, SO b)]) (by kernel_rfl) ?_
  refine Drawn.tk (i := 0) (v := ?v22) rfl (fun W hW => ?_) HI ?_
  rotate_left
  · have ⟨e0, e1, e2, e3⟩ := sh W hW
    go_simp <;> exact rfl
  refine Drawn.tk (i := 1) (v := ?v23) rfl (fun W hW => ?_) HI ?_
  rotate_left
  · have ⟨e0, e1, e2, e3⟩ := sh W hW
    go_simp <;> exact rfl
  refine Drawn.tk (i := 3) (v := ?v24) rfl (fun W hW => ?_) HI ?_
  rotate_left
  · have ⟨e0, e1, e2, e3⟩ := sh W hW
    go_simp <;> exact rfl
  refine Drawn.one (j := 2) (by kernel_rfl) rfl (fun K hK => ?_)
  go_simp
  refine (wInfinite b _).mono ?_
  rintro e wn ⟨rfl, hn⟩
  refine hK _ _ (HI.keep hn) ?_
  clear hK K
  replace HI := HI.keep hn
  clear hn
  refine Drawn.one (j := 4) (by kernel_rfl) rfl (fun K hK => ?_)
  go_simp
  refine (wSigned b (inf b) n (Int.le_of_lt (inf_bd b)) (inf_lt b) _).mono ?_
  rintro e wn ⟨rfl, hn⟩
  refine hK _ _ (HI.keep hn) ?_
  clear hK K
  replace HI := HI.keep hn
  clear hn
  refine Drawn.tk (i := 5) (v := ?v25) rfl (fun W hW => ?_) HI ?_
  rotate_left
  · have ⟨e0, e1, e2, e3⟩ := sh W hW
    go_simp <;> exact rfl
  refine Drawn.tk (i := 6) (v := ?v26) rfl (fun W hW => ?_) HI ?_
  rotate_left
  · have ⟨e0, e1, e2, e3⟩ := sh W hW
    go_simp <;> exact rfl
  refine Drawn.done (by kernel_rfl) ?_
  try go_simp
  clear sh
  go_wp2
  go_ret2
  exact ⟨rfl, HI.bel⟩
end Go.Proofs.Ytgfpbmjknknflaa

namespace Go.Proofs.Ytgfpbmjknknflaa
open Go.RowKit Go.Wd Go.Box
set_option linter.unusedVariables false
set_option maxRecDepth 3000
theorem wChanged_nan (b : Bool) (x : Int) (h : Ok b x) (hn : inf b < sz b x) (v : Value) (w : World) :
    Calls Try.prog 69 #[.int .u8 (fm b), .int .u64 x, v] w fun e w' => e = .returned (.tuple #[.int .u64 (nan b), .int .i64 0]) ∧ Below w.heap.size w w' := by
  go_enter Try.func69, Try.ntmps69
  go_wp2_with fail
  refine (wGoodShape b x h _).mono ?_
  rintro e w2 ⟨rfl, h2⟩
  have B2 := ((Bx.nil w).keep h2).push (SO b)
  clear h2
  go_wp2_with fail
  refine (wIsNaN b x h _).mono ?_
  rintro e w3 ⟨rfl, h3⟩
  have B3 := B2.keep h3
  obtain ⟨e0, e1, e2, e3⟩ := shape_cells B3 w2.heap.size b (.head _)
  clear h3 B2
  rw [decide_eq_true hn]
  clear hn
  go_wp2_with fail
  refine (wNone b _).mono ?_
  rintro e w4 ⟨rfl, h4⟩
  have B4 := B3.keep h4
  clear h4 B3 e0 e1 e2 e3
  go_wp2
  go_ret2
  exact ⟨rfl, B4.bel⟩
theorem wChanged_turned (b : Bool) (x : Int) (h : Ok b x) (hn : sz b x ≤ inf b) (w : World) (y c : Int)
    (H : ∀ W, Below w.heap.size w W → Calls Try.prog 107 #[S b, .int .u64 x] W fun e w' => e = .returned (.tuple #[.int .u64 y, .int .i64 c]) ∧ Below W.heap.size W w') :
    Calls Try.prog 69 #[.int .u8 (fm b), .int .u64 x, .func (Fn.func 107) #[] #[]] w fun e w' => e = .returned (.tuple #[.int .u64 y, .int .i64 c]) ∧ Below w.heap.size w w' := by
  go_enter Try.func69, Try.ntmps69
  go_wp2_with fail
  refine (wGoodShape b x h _).mono ?_
  rintro e w2 ⟨rfl, h2⟩
  have B2 := ((Bx.nil w).keep h2).push (SO b)
  clear h2
  go_wp2_with fail
  refine (wIsNaN b x h _).mono ?_
  rintro e w3 ⟨rfl, h3⟩
  have B3 := B2.keep h3
  obtain ⟨e0, e1, e2, e3⟩ := shape_cells B3 w2.heap.size b (.head _)
  clear h3 B2
  rw [decide_eq_false (by omega)]
  clear hn
  have H3 := Hide.mk (H w3 B3.bel)
  clear H
  go_wp2_with fail
  refine H3.out.mono ?_
  rintro e w4 ⟨rfl, h4⟩
  have B4 := B3.keep h4
  clear h4 B3 e0 e1 e2 e3 H3
  go_wp2
  go_ret2
  exact ⟨rfl, B4.bel⟩
theorem wChanged_unsigned (b : Bool) (x : Int) (h : Ok b x) (hn : sz b x ≤ inf b) (w : World) (y c : Int)
    (H : ∀ W, Below w.heap.size w W → Calls Try.prog 84 #[S b, .int .u64 x] W fun e w' => e = .returned (.tuple #[.int .u64 y, .int .i64 c]) ∧ Below W.heap.size W w') :
    Calls Try.prog 69 #[.int .u8 (fm b), .int .u64 x, .func (Fn.func 84) #[] #[]] w fun e w' => e = .returned (.tuple #[.int .u64 y, .int .i64 c]) ∧ Below w.heap.size w w' := by
  go_enter Try.func69, Try.ntmps69
  go_wp2_with fail
  refine (wGoodShape b x h _).mono ?_
  rintro e w2 ⟨rfl, h2⟩
  have B2 := ((Bx.nil w).keep h2).push (SO b)
  clear h2
  go_wp2_with fail
  refine (wIsNaN b x h _).mono ?_
  rintro e w3 ⟨rfl, h3⟩
  have B3 := B2.keep h3
  obtain ⟨e0, e1, e2, e3⟩ := shape_cells B3 w2.heap.size b (.head _)
  clear h3 B2
  rw [decide_eq_false (by omega)]
  clear hn
  have H3 := Hide.mk (H w3 B3.bel)
  clear H
  go_wp2_with fail
  refine H3.out.mono ?_
  rintro e w4 ⟨rfl, h4⟩
  have B4 := B3.keep h4
  clear h4 B3 e0 e1 e2 e3 H3
  go_wp2
  go_ret2
  exact ⟨rfl, B4.bel⟩
/-- The word with the other sign. -/
def fl (b : Bool) (x : Int) : Int := if sg b ≤ x then x - sg b else x + sg b
/-- One step up of a word that is no NaN, and the error. -/
def upr (b : Bool) (x : Int) : Int × Int := if x = inf b then (0, 7) else (up b x, 0)
end Go.Proofs.Ytgfpbmjknknflaa

namespace Go.Proofs.Ytgfpbmjknknflaa
open Go.RowKit Go.Wd Go.Box
set_option linter.unusedVariables false
set_option maxRecDepth 3000
/-- Up, down: the word and the error. -/
def upx (b : Bool) (x : Int) : Int × Int := if inf b < sz b x then (nan b, 0) else if x = inf b then (0, 7) else (up b x, 0)
def dnx (b : Bool) (x : Int) : Int × Int := if inf b < sz b x then (nan b, 0) else if fl b x = inf b then (0, 7) else (fl b (up b (fl b x)), 0)
def cnx (b : Bool) (x : Int) : Int := if inf b < sz b x then nan b else x
def ngx (b : Bool) (x : Int) : Int := if inf b < sz b x then nan b else fl b x
def abx (b : Bool) (x : Int) : Int := if inf b < sz b x then nan b else sz b x
def csx (b : Bool) (x s : Int) : Int := if inf b < sz b x then nan b else sd b (sz b x) (ng b s)
theorem wTurned (b : Bool) (x : Int) (h : Ok b x) (w : World) :
    Calls Try.prog 107 #[S b, .int .u64 x] w fun e w' => e = .returned (.tuple #[.int .u64 (fl b x), .int .i64 0]) ∧ Below w.heap.size w w' := by
  have B1 := (Bx.nil w).push (SO b)
  have HX := Hide.mk (xor_sg b h)
  go_enter Try.func107, Try.ntmps107
  go_wp2_with fail
  refine (wSignBit b _).mono ?_
  rintro e w3 ⟨rfl, h3⟩
  have B3 := B1.keep h3
  clear h3 B1
  go_wp2
  go_ret2
  exact ⟨by unfold fl; rw [← HX.out]; rfl, B3.bel⟩
theorem wUnsigned (b : Bool) (x : Int) (h : Ok b x) (w : World) :
    Calls Try.prog 84 #[S b, .int .u64 x] w fun e w' => e = .returned (.tuple #[.int .u64 (sz b x), .int .i64 0]) ∧ Below w.heap.size w w' := by
  have B1 := (Bx.nil w).push (SO b)
  go_enter Try.func84, Try.ntmps84
  go_wp2_with fail
  refine (wSize b x h _).mono ?_
  rintro e w3 ⟨rfl, h3⟩
  have B3 := B1.keep h3
  clear h3 B1
  go_wp2
  go_ret2
  exact ⟨rfl, B3.bel⟩
theorem wNeg (b : Bool) (x : Int) (h : Ok b x) (w : World) :
    Calls Try.prog 87 #[.int .u8 (fm b), .int .u64 x] w fun e w' => e = .returned (.tuple #[.int .u64 (ngx b x), .int .i64 0]) ∧ Below w.heap.size w w' := by
  have H : Calls Try.prog 69 #[.int .u8 (fm b), .int .u64 x, .func (Fn.func 107) #[] #[]] w fun e w' => e = .returned (.tuple #[.int .u64 (ngx b x), .int .i64 0]) ∧ Below w.heap.size w w' := by
    unfold ngx
    by_cases c : inf b < sz b x
    · rw [if_pos c]; exact wChanged_nan b x h c _ w
    · rw [if_neg c]
      exact wChanged_turned b x h (by omega) w _ 0 (fun W _ => wTurned b x h W)
  have HH := Hide.mk H
  clear H
  generalize ngx b x = y at *
  go_enter Try.func87, Try.ntmps87
  go_wp2_with fail
  refine HH.out.mono ?_
  rintro e w2 ⟨rfl, h2⟩
  clear HH
  go_wp2
  go_ret2
  exact ⟨rfl, h2⟩
theorem wAbs (b : Bool) (x : Int) (h : Ok b x) (w : World) :
    Calls Try.prog 64 #[.int .u8 (fm b), .int .u64 x] w fun e w' => e = .returned (.tuple #[.int .u64 (abx b x), .int .i64 0]) ∧ Below w.heap.size w w' := by
  have H : Calls Try.prog 69 #[.int .u8 (fm b), .int .u64 x, .func (Fn.func 84) #[] #[]] w fun e w' => e = .returned (.tuple #[.int .u64 (abx b x), .int .i64 0]) ∧ Below w.heap.size w w' := by
    unfold abx
    by_cases c : inf b < sz b x
    · rw [if_pos c]; exact wChanged_nan b x h c _ w
    · rw [if_neg c]
      exact wChanged_unsigned b x h (by omega) w _ 0 (fun W _ => wUnsigned b x h W)
  have HH := Hide.mk H
  clear H
  generalize abx b x = y at *
  go_enter Try.func64, Try.ntmps64
  go_wp2_with fail
  refine HH.out.mono ?_
  rintro e w2 ⟨rfl, h2⟩
  clear HH
  go_wp2
  go_ret2
  exact ⟨rfl, h2⟩
end Go.Proofs.Ytgfpbmjknknflaa

namespace Go.Proofs.Ytgfpbmjknknflaa
open Go.RowKit Go.Wd Go.Box
set_option linter.unusedVariables false
set_option maxRecDepth 3000

theorem fields_cells {w W : World} {L : List (Nat × Obj)} (h : Bx w L W) (g : Nat) (n : Bool) (e f : Int) (hm : (g, FO n e f) ∈ L) :
    W.cell? ⟨g, 0, none⟩ = some (.bool n) ∧ W.cell? ⟨g, 1, none⟩ = some (.int .i64 e) ∧ W.cell? ⟨g, 2, none⟩ = some (.int .u64 f) :=
  ⟨h.cell g _ _ hm 0, h.cell g _ _ hm 1, h.cell g _ _ hm 2⟩
theorem tp_bd (b : Bool) : 0 < tp b ∧ tp b ≤ 2047 := by cases b <;> decide
theorem fields_lt (b : Bool) {E F : Int} (h0 : 0 ≤ E) (h1 : E ≤ tp b) (h2 : 0 ≤ F) (h3 : F < fr b) : 0 ≤ E * fr b + F ∧ E * fr b + F < sg b ∧ E * fr b < 18446744073709551616 ∧ 0 ≤ E * fr b := by
  cases b <;> simp only [tp, fr, sg] at * <;> omega
end Go.Proofs.Ytgfpbmjknknflaa

namespace Go.Proofs.Ytgfpbmjknknflaa
open Go.RowKit Go.Wd Go.Box
set_option linter.unusedVariables false
set_option maxRecDepth 3000
theorem rFrac (b : Bool) (w : World) :
    Calls Try.prog 61 #[.int .u8 (fm b)] w fun e w' => e = .returned (.int .i64 (fc b)) ∧ Below w.heap.size w w' := by
  cases b
  · rw [show fm false = 1 from rfl]
    go_enter Try.func61, Try.ntmps61
    go_wp2
    go_ret
    exact ⟨rfl, Below.refl _ _⟩
  · rw [show fm true = 2 from rfl]
    go_enter Try.func61, Try.ntmps61
    go_wp2
    go_ret
    exact ⟨rfl, Below.refl _ _⟩
theorem rMost (b : Bool) (w : World) :
    Calls Try.prog 45 #[.int .u8 (fm b)] w fun e w' => e = .returned (.int .i64 (tp b)) ∧ Below w.heap.size w w' := by
  cases b
  · rw [show fm false = 1 from rfl]
    go_enter Try.func45, Try.ntmps45
    go_wp2
    go_ret
    exact ⟨rfl, Below.refl _ _⟩
  · rw [show fm true = 2 from rfl]
    go_enter Try.func45, Try.ntmps45
    go_wp2
    go_ret
    exact ⟨rfl, Below.refl _ _⟩
theorem rSign (b : Bool) (w : World) :
    Calls Try.prog 33 #[.int .u8 (fm b)] w fun e w' => e = .returned (.int .u64 (sg b)) ∧ Below w.heap.size w w' := by
  cases b
  · rw [show fm false = 1 from rfl]
    go_enter Try.func33, Try.ntmps33
    go_wp2
    go_ret
    exact ⟨rfl, Below.refl _ _⟩
  · rw [show fm true = 2 from rfl]
    go_enter Try.func33, Try.ntmps33
    go_wp2
    go_ret
    exact ⟨rfl, Below.refl _ _⟩
theorem rIs (b : Bool) (w : World) :
    Calls Try.prog 28 #[.int .u8 (fm b)] w fun e w' => e = .returned (.bool true) ∧ Below w.heap.size w w' := by
  cases b
  · rw [show fm false = 1 from rfl]
    go_enter Try.func28, Try.ntmps28
    go_wp2
    go_ret
    exact ⟨rfl, Below.refl _ _⟩
  · rw [show fm true = 2 from rfl]
    go_enter Try.func28, Try.ntmps28
    go_wp2
    go_ret
    exact ⟨rfl, Below.refl _ _⟩
theorem rIs_bad (f : Int) (h : Bad f) (w : World) :
    Calls Try.prog 28 #[.int .u8 f] w fun e w' => e = .returned (.bool false) ∧ Below w.heap.size w w' := by
  have h1 : (f == 1) = false := beq_eq_false_iff_ne.2 h.1
  have h2 : (f == 2) = false := beq_eq_false_iff_ne.2 h.2
  go_enter Try.func28, Try.ntmps28
  go_wp2
  go_ret
  exact ⟨rfl, Below.refl _ _⟩
theorem rGood (b : Bool) (x : Int) (h : Ok b x) (w : World) :
    Calls Try.prog 37 #[.int .u8 (fm b), .int .u64 x] w fun e w' => e = .returned (.int .i64 0) ∧ Below w.heap.size w w' := by
  have h0 := h.1
  have h1 := h.2
  cases b
  · rw [show fm false = 1 from rfl]
    have h2 : x < 4294967296 := h1
    go_enter Try.func37, Try.ntmps37
    go_wp2
    go_ret
    exact ⟨rfl, Below.refl _ _⟩
  · rw [show fm true = 2 from rfl]
    go_enter Try.func37, Try.ntmps37
    go_wp2
    go_ret
    exact ⟨rfl, Below.refl _ _⟩
theorem u64_long {b : Bool} {x : Int} (h : 2 * sg b ≤ x) (hx : x < 18446744073709551616) : b = false ∧ 4294967296 ≤ x := by
  cases b <;> simp only [sg] at h
  · exact ⟨rfl, by omega⟩
  · omega
theorem rGood_err (f x c : Int) (h : GE f x c) (hx : x < 18446744073709551616) (w : World) :
    Calls Try.prog 37 #[.int .u8 f, .int .u64 x] w fun e w' => e = .returned (.int .i64 c) ∧ Below w.heap.size w w' := by
  rcases h with ⟨h, rfl⟩ | ⟨b, rfl, h, rfl⟩
  · have h1 : (f == 1) = false := beq_eq_false_iff_ne.2 h.1
    have h2 : (f == 2) = false := beq_eq_false_iff_ne.2 h.2
    go_enter Try.func37, Try.ntmps37
    go_wp2
    go_ret
    exact ⟨rfl, Below.refl _ _⟩
  · obtain ⟨rfl, h3⟩ := u64_long h hx
    rw [show fm false = 1 from rfl]
    go_enter Try.func37, Try.ntmps37
    go_wp2
    go_ret
    exact ⟨rfl, Below.refl _ _⟩
theorem rSplit (b : Bool) (x : Int) (h : Ok b x) (w : World) :
    Calls Try.prog 40 #[.int .u8 (fm b), .int .u64 x] w fun e w' => e = .returned (FV (ng b x) (fd b x) (fn b x)) ∧ Below w.heap.size w w' := by
  have h0 := h.1
  have h1 := h.2
  cases b
  · rw [show fm false = 1 from rfl]
    simp only [sg] at h1
    have B2 := ((Bx.nil w).push (FO (decide (2147483648 ≤ x)) (x % 2147483648 / 8388608) (x % 8388608))).push (FO (decide (2147483648 ≤ x)) (x % 2147483648 / 8388608) (x % 8388608))
    go_enter Try.func40, Try.ntmps40
    go_wp2
    refine bodyPost_ret (results_F1 rfl _ _ w.heap.size _ rfl B2.tail.head rfl) rfl ?_
    exact ⟨rfl, B2.bel⟩
  · rw [show fm true = 2 from rfl]
    simp only [sg] at h1
    have B2 := ((Bx.nil w).push (FO (decide (9223372036854775808 ≤ x)) (x % 9223372036854775808 / 4503599627370496) (x % 4503599627370496))).push (FO (decide (9223372036854775808 ≤ x)) (x % 9223372036854775808 / 4503599627370496) (x % 4503599627370496))
    go_enter Try.func40, Try.ntmps40
    go_wp2
    refine bodyPost_ret (results_F1 rfl _ _ w.heap.size _ rfl B2.tail.head rfl) rfl ?_
    exact ⟨rfl, B2.bel⟩
theorem cl_1 (b : Bool) (x : Int) : sz b x = 0 ↔ fd b x = 0 ∧ fn b x = 0 := by
  cases b <;> simp only [sz, fd, fn, sg, fr] <;> omega
theorem cl_2 (b : Bool) (x : Int) : sz b x < fr b ↔ fd b x = 0 := by
  have := sz_bd b x
  cases b <;> simp only [sz, fd, sg, fr] at * <;> omega
theorem cl_3 (b : Bool) (x : Int) : sz b x < inf b ↔ fd b x < tp b := by
  have := sz_bd b x
  cases b <;> simp only [sz, fd, sg, fr, inf, tp] at * <;> omega
theorem cl_4 (b : Bool) (x : Int) (h : ¬ fd b x < tp b) : sz b x = inf b ↔ fn b x = 0 := by
  have := sz_bd b x
  cases b <;> simp only [sz, fd, fn, sg, fr, inf, tp] at * <;> omega
theorem cl_5 (b : Bool) (x : Int) : cl b x = 5 ↔ inf b < sz b x := by
  have h1 := cl_2 b x
  have := sz_bd b x
  have hi : fr b ≤ inf b := by cases b <;> decide
  have hf := fr_pos b
  unfold cl
  by_cases c1 : sz b x = 0
  · rw [if_pos c1]; omega
  · rw [if_neg c1]
    by_cases c2 : sz b x < fr b
    · rw [if_pos c2]; omega
    · rw [if_neg c2]
      by_cases c3 : sz b x < inf b
      · rw [if_pos c3]; omega
      · rw [if_neg c3]
        by_cases c4 : sz b x = inf b
        · rw [if_pos c4]; omega
        · rw [if_neg c4]; omega
set_option maxHeartbeats 1000000 in
theorem rClass (b : Bool) (x : Int) (h : Ok b x) (w : World) :
    Calls Try.prog 23 #[.int .u8 (fm b), .int .u64 x] w fun e w' => e = .returned (.int .u8 (cl b x)) ∧ Below w.heap.size w w' := by
  have k1 := cl_1 b x
  have k2 := cl_2 b x
  have k3 := cl_3 b x
  have k4 := cl_4 b x
  have HF := Hide.mk (fd_bd b x)
  have HC : Hide (cl b x = if fd b x = 0 ∧ fn b x = 0 then 1 else if fd b x = 0 then 2 else if fd b x < tp b then 3 else if fn b x = 0 then 4 else 5) := ⟨by
    unfold cl
    by_cases c1 : sz b x = 0
    · rw [if_pos c1, if_pos (k1.1 c1)]
    · rw [if_neg c1, if_neg (fun hh => c1 (k1.2 hh))]
      by_cases c2 : sz b x < fr b
      · rw [if_pos c2, if_pos (k2.1 c2)]
      · rw [if_neg c2, if_neg (fun hh => c2 (k2.2 hh))]
        by_cases c3 : sz b x < inf b
        · rw [if_pos c3, if_pos (k3.1 c3)]
        · rw [if_neg c3, if_neg (fun hh => c3 (k3.2 hh))]
          have k5 := k4 (fun hh => c3 (k3.2 hh))
          by_cases c4 : sz b x = inf b
          · rw [if_pos c4, if_pos (k5.1 c4)]
          · rw [if_neg c4, if_neg (fun hh => c4 (k5.2 hh))]⟩
  clear k1 k2 k3 k4
  have HS := Hide.mk (rSplit b x h w)
  clear h
  generalize ng b x = n at *
  generalize fd b x = E at *
  generalize fn b x = F at *
  generalize cl b x = C at *
  go_enter Try.func23, Try.ntmps23
  go_wp2_with fail
  refine HS.out.mono ?_
  rintro e w2 ⟨rfl, h2⟩
  have B2 := ((Bx.nil w).keep h2).push (FO n E F)
  clear h2 HS
  by_cases c1 : E = 0
  · have d1 : (E == 0) = true := by simp [c1]
    by_cases c2 : F = 0
    · have d2 : (F == 0) = true := by simp [c2]
      have HD : Hide (C = 1) := ⟨by rw [HC.out, if_pos ⟨c1, c2⟩]⟩
      clear c1 c2 HC HF
      go_wp2
      go_ret
      exact ⟨by rw [HD.out]; rfl, B2.bel⟩
    · have d2 : (F == 0) = false := beq_eq_false_iff_ne.2 c2
      have HD : Hide (C = 2) := ⟨by rw [HC.out, if_neg (fun hh => c2 hh.2), if_pos c1]⟩
      clear c1 c2 HC HF
      go_wp2
      go_ret
      exact ⟨by rw [HD.out]; rfl, B2.bel⟩
  · have d1 : (E == 0) = false := beq_eq_false_iff_ne.2 c1
    go_wp2_with fail
    generalize hw3 : w2.alloc (FO n E F) = w3 at *
    clear hw3
    have HI := B2.drew
    have sh := fun W (hW : Bx w [(w2.heap.size, FO n E F)] W) => fields_cells hW w2.heap.size n E F (.head _)
    refine Drawn.enter (Bx w [(w2.heap.size, FO n E F)]) (by kernel_rfl) ?_
    refine Drawn.tk (i := 0) (v := ?v27) rfl (fun W hW => ?_) HI ?_
    rotate_left
    · have ⟨q0, q1, q2⟩ := sh W hW
      go_simp <;> exact rfl
    refine Drawn.tk (i := 1) (v := ?v28) rfl (fun W hW => ?_) HI ?_
    rotate_left
    · have ⟨q0, q1, q2⟩ := sh W hW
      go_simp <;> exact rfl
    refine Drawn.tk (i := 2) (v := ?v29) rfl (fun W hW => ?_) HI ?_
    rotate_left
    · have ⟨q0, q1, q2⟩ := sh W hW
      go_simp <;> exact rfl
    refine Drawn.one (j := 3) (by kernel_rfl) rfl (fun K hK => ?_)
    go_simp
    refine (rMost b _).mono ?_
    rintro e wn ⟨rfl, hn⟩
    refine hK _ _ (HI.keep hn) ?_
    clear hK K
    replace HI := HI.keep hn
    clear hn
    by_cases c2 : E < tp b
    · have HD : Hide (C = 3) := ⟨by rw [HC.out, if_neg (fun hh => c1 hh.1), if_neg c1, if_pos c2]⟩
      refine Drawn.tk (i := 4) (v := .bool true) rfl (fun W hW => ?_) HI ?_
      · have ⟨q0, q1, q2⟩ := sh W hW
        go_simp <;> (simp [c2])
      refine Drawn.done (by kernel_rfl) ?_
      try go_simp
      clear sh c1 c2 HC HF
      go_wp2
      go_ret
      exact ⟨by rw [HD.out]; rfl, HI.bel⟩
    · refine Drawn.tk (i := 4) (v := .bool false) rfl (fun W hW => ?_) HI ?_
      · have ⟨q0, q1, q2⟩ := sh W hW
        go_simp <;> (first | omega | (simp; omega))
      refine Drawn.done (by kernel_rfl) ?_
      try go_simp
      obtain ⟨q0, q1, q2⟩ := sh _ HI
      clear sh
      by_cases c3 : F = 0
      · have HD : Hide (C = 4) := ⟨by rw [HC.out, if_neg (fun hh => c1 hh.1), if_neg c1, if_neg c2, if_pos c3]⟩
        have d3 : (F == 0) = true := by simp [c3]
        clear c1 c2 c3 HC HF
        go_wp2
        go_ret
        exact ⟨by rw [HD.out]; rfl, HI.bel⟩
      · have HD : Hide (C = 5) := ⟨by rw [HC.out, if_neg (fun hh => c1 hh.1), if_neg c1, if_neg c2, if_neg c3]⟩
        have d3 : (F == 0) = false := beq_eq_false_iff_ne.2 c3
        clear c1 c2 c3 HC HF
        go_wp2
        go_ret
        exact ⟨by rw [HD.out]; rfl, HI.bel⟩
set_option maxHeartbeats 1000000 in
theorem rJoin (b n : Bool) (E F : Int) (hE : 0 ≤ E) (hE1 : E ≤ tp b) (hF0 : 0 ≤ F) (hF : F < fr b) (w : World) :
    Calls Try.prog 53 #[.int .u8 (fm b), FV n E F] w fun e w' => e = .returned (.int .u64 (sd b (E * fr b + F) n)) ∧ Below w.heap.size w w' := by
  have B1 := (Bx.nil w).push (FO n E F)
  obtain ⟨k1, k2, k3, k4⟩ := fields_lt b hE hE1 hF0 hF
  have hsl := sg_le b
  go_enter Try.func53, Try.ntmps53
  go_wp2_with fail
  generalize hw1 : w.alloc (FO n E F) = w1 at *
  clear hw1
  have HI := B1.drew
  have sh := fun W (hW : Bx w [(w.heap.size, FO n E F)] W) => fields_cells hW w.heap.size n E F (.head _)
  refine Drawn.enter (Bx w [(w.heap.size, FO n E F)]) (by kernel_rfl) ?_
  refine Drawn.tk (i := 0) (v := ?v30) rfl (fun W hW => ?_) HI ?_
  rotate_left
  · have ⟨q0, q1, q2⟩ := sh W hW
    go_simp <;> exact rfl
  refine Drawn.tk (i := 1) (v := ?v31) rfl (fun W hW => ?_) HI ?_
  rotate_left
  · have ⟨q0, q1, q2⟩ := sh W hW
    go_simp <;> exact rfl
  refine Drawn.tk (i := 2) (v := .int .u64 E) rfl (fun W hW => ?_) HI ?_
  · have ⟨q0, q1, q2⟩ := sh W hW
    go_simp <;> (rw [IntKind.wrap_u64]; have := tp_bd b; omega)
  refine Drawn.tk (i := 3) (v := ?v32) rfl (fun W hW => ?_) HI ?_
  rotate_left
  · have ⟨q0, q1, q2⟩ := sh W hW
    go_simp <;> exact rfl
  refine Drawn.tk (i := 6) (v := ?v33) rfl (fun W hW => ?_) HI ?_
  rotate_left
  · have ⟨q0, q1, q2⟩ := sh W hW
    go_simp <;> exact rfl
  refine Drawn.tk (i := 7) (v := ?v34) rfl (fun W hW => ?_) HI ?_
  rotate_left
  · have ⟨q0, q1, q2⟩ := sh W hW
    go_simp <;> exact rfl
  refine Drawn.one (j := 4) (by kernel_rfl) rfl (fun K hK => ?_)
  go_simp
  refine (rFrac b _).mono ?_
  rintro e wn ⟨rfl, hn⟩
  refine hK _ _ (HI.keep hn) ?_
  clear hK K
  replace HI := HI.keep hn
  clear hn
  refine Drawn.tk (i := 5) (v := .int .u64 (E * fr b)) rfl (fun W hW => ?_) HI ?_
  · have ⟨q0, q1, q2⟩ := sh W hW
    go_simp <;> (rw [shl_fc, Int.emod_eq_of_lt k4 k3]; rfl)
  refine Drawn.tk (i := 8) (v := .int .u64 (E * fr b + F)) rfl (fun W hW => ?_) HI ?_
  · have ⟨q0, q1, q2⟩ := sh W hW
    go_simp <;> (rw [IntKind.wrap_u64]; omega)
  refine Drawn.tk (i := 9) (v := ?v35) rfl (fun W hW => ?_) HI ?_
  rotate_left
  · have ⟨q0, q1, q2⟩ := sh W hW
    go_simp <;> exact rfl
  refine Drawn.done (by kernel_rfl) ?_
  try go_simp
  obtain ⟨q0, q1, q2⟩ := sh _ HI
  clear sh
  cases n
  · go_wp2
    go_ret
    exact ⟨rfl, HI.bel⟩
  · go_wp2_with fail
    refine (rSign b _).mono ?_
    rintro e w3 ⟨rfl, h3⟩
    have B3 := HI.keep h3
    have hsum : E * fr b + F + sg b < 18446744073709551616 := by omega
    have hsg := sg_pos b
    clear h3 HI q0 q1 q2 hE hE1 hF0 hF
    go_wp2
    go_ret
    refine ⟨?_, B3.bel⟩
    unfold sd
    rw [if_pos rfl]
    first | rfl | (simp; done)
end Go.Proofs.Ytgfpbmjknknflaa

namespace Go.Proofs.Ytgfpbmjknknflaa
open Go.RowKit Go.Wd Go.Box
set_option linter.unusedVariables false
set_option maxRecDepth 3000
/-- How many units a finite word is in size, and the unit's exponent. -/
def un (b : Bool) (x : Int) : Int := if fd b x = 0 then fn b x else fr b + fn b x
def ue (b : Bool) (x : Int) : Int := max (fd b x - 1) 0 + lo b
/-- The word has no value, for the error c. -/
def VE (f x c : Int) : Prop := GE f x c ∨ (∃ b, f = fm b ∧ Ok b x ∧ inf b ≤ sz b x ∧ c = 7)
end Go.Proofs.Ytgfpbmjknknflaa
