import Derived.Test.YtgfpbmjknknflaaRankExtremesPart3
import Derived.Laws.ResultCell
import Derived.Laws.Rows
import Derived.RegionTactic
import Derived.WalkKit
import Derived.WalkSpells
import Derived.Below
import Derived.Laws.BitsAllLaws
namespace Go.Proofs.Ytgfpbmjknknflaa
open Go.RowKit
set_option linter.unusedVariables false
set_option maxRecDepth 3000
theorem Try.size44 : (Try.prog.info? 67).map (·.size) = some 3 := by kernel_rfl
/-- The block g holds a number's three cells. -/
def DCell (w : World) (g : Nat) (cs : Array Value) : Prop := w.heap[g]? = some (.cells cs 67 (0, 0)) ∧ cs.size = 3
theorem results_D1 {fn : Func} {p : Tmp} (h : fn.results = #[.cell p 67]) (tmps : Array Value) (w : World) (g : Nat) (cs : Array Value) (hp : tmps.getD p undef = .pointer (some ⟨g, 0, none⟩)) (hg : DCell w g cs) :
    (results fn tmps).run Try.prog w = .ok (.agg cs) w := by
  exact results_cell_row h tmps w g 67 cs (0, 0) _ hp hg.1 Try.underlying67 rfl (by rw [Try.size44, hg.2])
theorem dcell_new (w : World) (a b c : Value) : DCell (w.alloc (.cells #[a, b, c] 67)) w.heap.size #[a, b, c] := ⟨heap_alloc_new w _, rfl⟩
theorem DCell.below {w w' : World} {g B : Nat} {cs : Array Value} (h : DCell w g cs) (hb : Below B w w') (hg : g < B) : DCell w' g cs := ⟨(hb.block g hg).trans h.1, h.2⟩
theorem Own.setOff {B g j : Nat} {w : World} {v : Value} {zs : List Int} (h : Own B w v zs) (hg : g < B) (x : Value) : Own B (w.setCell ⟨g, j, none⟩ x) v zs := ownsRow_setCell_below h hg x
/-- A number made behind a cell of the call's own, which was then written. -/
theorem made_set {w w' : World} {o : Obj} {a : Option Addr} {c : Nat} {zs : List Int} {x : Int} (h : IsNum (w.alloc o) w' a zs x) (ho : Own (w.alloc o).heap.size w' (.slice a zs.length c) zs) (u0 u1 u2 : Value) :
    IsNum w (((w'.setCell ⟨w.heap.size, 0, none⟩ u0).setCell ⟨w.heap.size, 1, none⟩ u1).setCell ⟨w.heap.size, 2, none⟩ u2) a zs x ∧ Own w.heap.size (((w'.setCell ⟨w.heap.size, 0, none⟩ u0).setCell ⟨w.heap.size, 1, none⟩ u1).setCell ⟨w.heap.size, 2, none⟩ u2) (.slice a zs.length c) zs := by
  have hs : w.heap.size < (w.alloc o).heap.size := by simp
  have h2 := ((ho.setOff (j := 0) hs u0).setOff (j := 1) hs u1).setOff (j := 2) hs u2
  have hb : Below w.heap.size w w' := below_then (below_alloc w o) h.bel
  have hb2 := ((hb.setCell (p := ⟨w.heap.size, 0, none⟩) (Nat.le_refl _) u0).setCell (p := ⟨w.heap.size, 1, none⟩) (Nat.le_refl _) u1).setCell (p := ⟨w.heap.size, 2, none⟩) (Nat.le_refl _) u2
  obtain ⟨a2, c2, he, _, _, hl⟩ := h2.lie
  simp only [Value.slice.injEq, true_and] at he
  obtain ⟨rfl, rfl⟩ := he
  exact ⟨⟨h.can, h.len, h.val, hl, hb2⟩, h2.mono (by simp)⟩
theorem DCell.set {w : World} {g : Nat} {cs : Array Value} (h : DCell w g cs) (j : Nat) (x : Value) : DCell (w.setCell ⟨g, j, none⟩ x) g (cs.setIfInBounds j x) := by
  refine ⟨?_, by simpa using h.2⟩
  exact heap_setCell_same w g j _ 67 _ h.1
/-- No number, in the place of one. -/
abbrev noD : Value := .agg #[.bool false, .slice none 0 0, .int .i64 0]
/-- A dyadic number's value in a call. -/
abbrev dV (ng : Bool) (a : Option Addr) (n c : Nat) (ex : Int) : Value := .agg #[.bool ng, .slice a n c, .int .i64 ex]
/-- May this be a dyadic number? -/
def dmayB (ng : Bool) (zs : List Int) (ex : Int) : Bool :=
  if zs.length = 0 then (!ng && ex == 0) else (mayB zs && zs.getD 0 0 % 2 == 1 && decide (-16777216 ≤ ex) && decide (ex ≤ 16777216))
/-- Some dyadic number that lies in memory, whatever its form. -/
structure DLie (w : World) (a : Option Addr) (zs : List Int) : Prop where
  lie : Lie w a zs
  len : zs.length ≤ maxLen
  rng : Nt.Rng zs
theorem DLie.below {w w' : World} {a : Option Addr} {zs : List Int} (h : DLie w a zs) (hb : Below w.heap.size w w') : DLie w' a zs := ⟨h.lie.below hb (Nat.le_refl _), h.len, h.rng⟩
/-- MaxExp. -/
def KK : Nat := 16777216
theorem KK_eq : KK = 16777216 := by unfold KK; rfl
theorem KK_int : (KK : Int) = 16777216 := by rw [KK_eq]; rfl
def sv (ng : Bool) (x : Int) : Int := if ng then -x else x
theorem sv_t (x : Int) : sv true x = -x := rfl
theorem sv_f (x : Int) : sv false x = x := rfl
theorem sv_abs (ng : Bool) {x : Int} (h : 0 ≤ x) : ((sv ng x).natAbs : Int) = x := by cases ng <;> simp only [sv_t, sv_f] <;> omega
theorem sv_zero (ng : Bool) {x : Int} : sv ng x = 0 ↔ x = 0 := by cases ng <;> simp only [sv_t, sv_f] <;> omega
def pK (ex : Int) : Int := 2 ^ (ex + KK).toNat
theorem pK_pos (ex : Int) : 0 < pK ex := Int.pow_pos (by decide)
theorem pK_add {ex : Int} (h : -(KK : Int) ≤ ex) (n : Nat) : pK (ex + n) = pK ex * 2 ^ n := by
  unfold pK
  rw [show (ex + n + KK).toNat = (ex + KK).toNat + n by omega, Int.pow_add]
/-- The value of a dyadic number, in units of 2 to the -MaxExp. -/
def dv (ng : Bool) (zs : List Int) (ex : Int) : Int := sv ng (Nt.val zs) * pK ex
/-- A number that may be. -/
structure DG (ng : Bool) (zs : List Int) (ex : Int) : Prop where
  can : Nt.Can zs
  len : zs.length ≤ 4096
  form : (zs = [] ∧ ng = false ∧ ex = 0) ∨ (0 < zs.length ∧ Nt.val zs % 2 = 1 ∧ -16777216 ≤ ex ∧ ex ≤ 16777216)
theorem val_odd {zs : List Int} (hz : 0 < zs.length) : Nt.val zs % 2 = zs.getD 0 0 % 2 := by
  cases zs with
  | nil => simp at hz
  | cons d s => rw [val_cons]; simp only [List.getD_cons_zero]; omega
theorem DG.of {ng : Bool} {zs : List Int} {ex : Int} (hr : Nt.Rng zs) (h : dmayB ng zs ex = true) : DG ng zs ex := by
  unfold dmayB at h
  by_cases hz : zs.length = 0
  · rw [if_pos hz] at h
    have e := List.length_eq_zero_iff.1 hz
    subst e
    refine ⟨Nt.can_nil, by simp, .inl ⟨rfl, ?_, ?_⟩⟩ <;> cases ng <;> simp_all
  · rw [if_neg hz] at h
    simp only [Bool.and_eq_true, beq_iff_eq, decide_eq_true_eq] at h
    obtain ⟨⟨⟨h1, h2⟩, h3⟩, h4⟩ := h
    exact ⟨(may_can hr h1).1, (may_can hr h1).2, .inr ⟨by omega, by rw [val_odd (by omega)]; exact h2, h3, h4⟩⟩
theorem DG.good {ng : Bool} {zs : List Int} {ex : Int} (h : DG ng zs ex) : Good zs (Nt.val zs) := ⟨h.can, h.len, rfl⟩
theorem DG.ex_bd {ng : Bool} {zs : List Int} {ex : Int} (h : DG ng zs ex) : -16777216 ≤ ex ∧ ex ≤ 16777216 := by
  rcases h.form with ⟨rfl, rfl, rfl⟩ | ⟨h1, h2, h3, h4⟩
  · omega
  · exact ⟨h3, h4⟩
theorem DG.nil {ng : Bool} {zs : List Int} {ex : Int} (h : DG ng zs ex) (hz : zs.length ≤ 0) : zs = [] ∧ ng = false ∧ ex = 0 := by
  rcases h.form with h1 | ⟨h1, _⟩
  · exact h1
  · omega
theorem DG.odd {ng : Bool} {zs : List Int} {ex : Int} (h : DG ng zs ex) (hz : 0 < zs.length) : Nt.val zs % 2 = 1 := by
  rcases h.form with ⟨rfl, _⟩ | ⟨_, h2, _⟩
  · simp at hz
  · exact h2
theorem zeroDG : DG false [] 0 := ⟨Nt.can_nil, by simp, .inl ⟨rfl, rfl, rfl⟩⟩
theorem zero_dv (ng : Bool) (ex : Int) : dv ng [] ex = 0 := by unfold dv; rw [Nt.val_nil]; cases ng <;> simp [sv]
theorem DG.pos {ng : Bool} {zs : List Int} {ex : Int} (h : DG ng zs ex) (hz : 0 < zs.length) : 0 < Nt.val zs := h.good.pos hz
theorem odd_low {x : Int} (h : x % 2 = 1) : LowBit x 0 := ⟨by simp, by simpa using h⟩
theorem LowBit.up {x : Int} {t : Nat} (h : LowBit x t) (n : Nat) : LowBit (x * 2 ^ n) (t + n) := by
  have hp := p2pos n
  have h1 := Int.emod_add_mul_ediv x (2 ^ t)
  rw [h.zero, Int.zero_add] at h1
  have e : x * 2 ^ n = 2 ^ (t + n) * (x / 2 ^ t) := by rw [Int.pow_add, ← h1, Int.mul_ediv_cancel_left _ (by have := p2pos t; omega)]; generalize x / 2 ^ t = q; grind
  refine ⟨by rw [e]; exact Int.mul_emod_right _ _, ?_⟩
  rw [e, Int.mul_ediv_cancel_left _ (by have := p2pos (t + n); omega)]
  exact h.one
theorem low_ex {x : Int} (h : 0 < x) : ∃ t, LowBit x t := by
  have key : ∀ n : Nat, ∀ x : Int, 0 < x → x.toNat ≤ n → ∃ t, LowBit x t := by
    intro n
    induction n with
    | zero => intro x h0 h1; omega
    | succ n ih =>
      intro x h0 h1
      by_cases c : x % 2 = 1
      · exact ⟨0, odd_low c⟩
      · obtain ⟨t, ht⟩ := ih (x / 2) (by omega) (by omega)
        have e : x = x / 2 * 2 ^ 1 := by omega
        exact ⟨t + 1, by rw [e]; exact ht.up 1⟩
  exact key _ x h (Nat.le_refl _)
theorem low_half {x : Int} {t : Nat} (h : LowBit x t) : x = x / 2 ^ t * 2 ^ t := by
  have h1 := Int.emod_add_mul_ediv x (2 ^ t)
  rw [h.zero, Int.zero_add, Int.mul_comm] at h1
  exact h1.symm
/-- Equal values have one form. -/
theorem DG.unique {n1 n2 : Bool} {z1 z2 : List Int} {e1 e2 : Int} (h1 : DG n1 z1 e1) (h2 : DG n2 z2 e2) (h : dv n1 z1 e1 = dv n2 z2 e2) : n1 = n2 ∧ z1 = z2 ∧ e1 = e2 := by
  have key : ∀ (n1 n2 : Bool) (z1 z2 : List Int) (e1 e2 : Int), DG n1 z1 e1 → DG n2 z2 e2 → dv n1 z1 e1 = dv n2 z2 e2 → e1 ≤ e2 → 0 < z1.length → 0 < z2.length → n1 = n2 ∧ z1 = z2 ∧ e1 = e2 := by
    intro n1 n2 z1 z2 e1 e2 h1 h2 h hle p1 p2
    have o1 := h1.odd p1
    have o2 := h2.odd p2
    have v1 := h1.pos p1
    have v2 := h2.pos p2
    have b1 := h1.ex_bd
    have hk := KK_int
    obtain ⟨n, hn⟩ : ∃ n : Nat, e2 = e1 + n := ⟨(e2 - e1).toNat, by omega⟩
    unfold dv at h
    rw [hn, pK_add (by omega), ← Int.mul_assoc, Int.mul_right_comm] at h
    have h3 := Int.eq_of_mul_eq_mul_right (by have := pK_pos e1; omega) h
    have hp := p2pos n
    have hs : n1 = n2 := by
      have hpos : 0 < Nt.val z2 * 2 ^ n := Int.mul_pos v2 hp
      cases n1 <;> cases n2 <;> simp only [sv_t, sv_f, Int.neg_mul] at h3 <;> first | rfl | omega
    subst hs
    have h4 : Nt.val z1 = Nt.val z2 * 2 ^ n := by
      cases n1 <;> simp only [sv_t, sv_f, Int.neg_mul] at h3 <;> omega
    have hn0 : n = 0 := (odd_low o1).unique (by rw [h4]; have := (odd_low o2).up n; rw [Nat.zero_add] at this; exact this) |>.symm
    subst hn0
    rw [Int.pow_zero, Int.mul_one] at h4
    exact ⟨rfl, Nt.can_unique h1.can h2.can h4, by omega⟩
  have hz : ∀ {n : Bool} {z : List Int} {e : Int}, DG n z e → 0 < z.length → dv n z e ≠ 0 := by
    intro n z e g p c
    have := g.pos p
    have := pK_pos e
    rcases Int.mul_eq_zero.1 c with c | c
    · have := (sv_zero n).1 c; omega
    · omega
  by_cases p1 : 0 < z1.length
  · by_cases p2 : 0 < z2.length
    · by_cases hle : e1 ≤ e2
      · exact key _ _ _ _ _ _ h1 h2 h hle p1 p2
      · obtain ⟨a, b, c⟩ := key _ _ _ _ _ _ h2 h1 h.symm (by omega) p2 p1
        exact ⟨a.symm, b.symm, c.symm⟩
    · obtain ⟨rfl, rfl, rfl⟩ := h2.nil (by omega)
      rw [zero_dv] at h
      exact absurd h (hz h1 p1)
  · obtain ⟨rfl, rfl, rfl⟩ := h1.nil (by omega)
    by_cases p2 : 0 < z2.length
    · rw [zero_dv] at h
      exact absurd h.symm (hz h2 p2)
    · obtain ⟨rfl, rfl, rfl⟩ := h2.nil (by omega)
      exact ⟨rfl, rfl, rfl⟩
/-- What is answered for the exact number s times 2 to the E. -/
structure DV (w w' : World) (s E : Int) (ng : Bool) (a : Option Addr) (n c : Nat) (ex code : Int) : Prop where
  bel : Below w.heap.size w w'
  all : (s = 0 ∧ ng = false ∧ a = none ∧ n = 0 ∧ c = 0 ∧ ex = 0 ∧ code = 0) ∨ (s ≠ 0 ∧ ∃ t : Nat, LowBit (s.natAbs : Int) t ∧
    ((-16777216 ≤ E + t ∧ E + t ≤ 16777216 ∧ ng = decide (s < 0) ∧ ex = E + t ∧ code = 0 ∧ ∃ zs, n = zs.length ∧ Good zs ((s.natAbs : Int) / 2 ^ t) ∧ Own w.heap.size w' (.slice a n c) zs) ∨
     (4294967296 ^ 4096 ≤ (s.natAbs : Int) / 2 ^ t ∧ ng = false ∧ a = none ∧ n = 0 ∧ c = 0 ∧ ex = 0 ∧ code = 3) ∨
     ((s.natAbs : Int) / 2 ^ t < 4294967296 ^ 4096 ∧ (E + t < -16777216 ∨ 16777216 < E + t) ∧ ng = false ∧ a = none ∧ n = 0 ∧ c = 0 ∧ ex = 0 ∧ code = 20)))
def DRes (w w' : World) (s E : Int) (e : Ending) : Prop := ∃ ng a n c ex code, e = .returned (.tuple #[dV ng a n c ex, .int .i64 code]) ∧ DV w w' s E ng a n c ex code
theorem natAbs_mul_pow (s : Int) (k : Nat) : ((s * 2 ^ k).natAbs : Int) = (s.natAbs : Int) * 2 ^ k := by
  rw [Int.natAbs_mul, Int.natCast_mul]
  have := p2pos k
  have e : (((2 : Int) ^ k).natAbs : Int) = 2 ^ k := by omega
  rw [e]
/-- From an earlier world on, and with another cell of the call's own written. -/
theorem DV.back {w0 w w' : World} {s E : Int} {ng : Bool} {a : Option Addr} {n c : Nat} {ex code : Int} (h : DV w w' s E ng a n c ex code) (hb : Below w0.heap.size w0 w) {g : Nat} (hg : w0.heap.size ≤ g) (hg' : g < w.heap.size) (u0 u1 u2 : Value) :
    DV w0 (((w'.setCell ⟨g, 0, none⟩ u0).setCell ⟨g, 1, none⟩ u1).setCell ⟨g, 2, none⟩ u2) s E ng a n c ex code := by
  refine ⟨(((below_then hb h.bel).setCell (p := ⟨g, 0, none⟩) hg u0).setCell (p := ⟨g, 1, none⟩) hg u1).setCell (p := ⟨g, 2, none⟩) hg u2, ?_⟩
  rcases h.all with h1 | ⟨h1, t, h2, h3⟩
  · exact .inl h1
  · refine .inr ⟨h1, t, h2, ?_⟩
    rcases h3 with ⟨k1, k2, k3, k4, k5, zs, k6, k7, k8⟩ | h3
    · exact .inl ⟨k1, k2, k3, k4, k5, zs, k6, k7, (((k8.setOff (j := 0) hg' u0).setOff (j := 1) hg' u1).setOff (j := 2) hg' u2).mono hb.size⟩
    · exact .inr h3
theorem low_lt {x : Int} {t : Nat} (h : LowBit x t) (hx : 0 < x) (hlt : x < 4294967296 ^ 4096) : t < 131072 := by
  rw [pw32] at hlt
  have h1 := low_half h
  have h4 := h.one
  refine p2lt (?_ : (2 : Int) ^ t < 2 ^ 131072)
  have h6 : 1 ≤ x / 2 ^ t := by
    have := Int.ediv_nonneg (show 0 ≤ x by omega) (Int.le_of_lt (p2pos t))
    omega
  have h7 : 1 * 2 ^ t ≤ x / 2 ^ t * 2 ^ t := Int.mul_le_mul_of_nonneg_right h6 (Int.le_of_lt (p2pos t))
  omega
end Go.Proofs.Ytgfpbmjknknflaa

namespace Go.Proofs.Ytgfpbmjknknflaa
open Go.RowKit
set_option linter.unusedVariables false
set_option maxRecDepth 3000
theorem DCell.c0 {w : World} {g : Nat} {a b c : Value} (h : DCell w g #[a, b, c]) : w.cell? ⟨g, 0, none⟩ = some a := cell_of_row _ _ 0 _ 67 (0, 0) h.1
theorem DCell.c1 {w : World} {g : Nat} {a b c : Value} (h : DCell w g #[a, b, c]) : w.cell? ⟨g, 1, none⟩ = some b := cell_of_row _ _ 1 _ 67 (0, 0) h.1
theorem DCell.c2 {w : World} {g : Nat} {a b c : Value} (h : DCell w g #[a, b, c]) : w.cell? ⟨g, 2, none⟩ = some c := cell_of_row _ _ 2 _ 67 (0, 0) h.1
theorem DCell.fr {w : World} {g : Nat} {cs : Array Value} (h : DCell w g cs) (j : Nat) : w.frozen? ⟨g, j, none⟩ = false := frozen_of_row _ _ j _ 67 h.1
theorem below_cell2 {w w' : World} {B g i : Nat} {x : Value} (hb : Below B w w') (hg : g < B) (h : w.cell? ⟨g, i, none⟩ = some x) : w'.cell? ⟨g, i, none⟩ = some x := by
  rw [hb.cell (p := ⟨g, i, none⟩) hg]; exact h
theorem wrap_ok {x : Int} (h0 : -9223372036854775808 ≤ x) (h1 : x ≤ 9223372036854775807) : IntKind.i64.wrap x = x := by
  rw [IntKind.wrap_i64]; omega
section
variable {w w' : World} {x y ex : Int} {n1 n2 ng : Bool} {a : Option Addr} {n c : Nat} {xx code : Int}
end
end Go.Proofs.Ytgfpbmjknknflaa

namespace Go.Proofs.Ytgfpbmjknknflaa
open Go.RowKit
set_option linter.unusedVariables false
set_option maxRecDepth 3000
end Go.Proofs.Ytgfpbmjknknflaa

namespace Go.Proofs.Ytgfpbmjknknflaa
open Go.RowKit
set_option linter.unusedVariables false
set_option maxRecDepth 3000
theorem DRes.back {w0 w w' : World} {s E : Int} {ng : Bool} {a : Option Addr} {n c : Nat} {ex code : Int} (h : DV w w' s E ng a n c ex code) (hb : Below w0.heap.size w0 w) {g : Nat} (hg : w0.heap.size ≤ g) (hg' : g < w.heap.size) (u0 u1 u2 : Value) :
    DRes w0 (((w'.setCell ⟨g, 0, none⟩ u0).setCell ⟨g, 1, none⟩ u1).setCell ⟨g, 2, none⟩ u2) s E (.returned (.tuple #[dV ng a n c ex, .int .i64 code])) := ⟨ng, a, n, c, ex, code, rfl, h.back hb hg hg' u0 u1 u2⟩
theorem DG.lie {ng : Bool} {zs : List Int} {ex : Int} (g : DG ng zs ex) {w : World} {a : Option Addr} (h : Lie w a zs) : DLie w a zs := ⟨h, by have := g.len; unfold maxLen; omega, g.can.1⟩

end Go.Proofs.Ytgfpbmjknknflaa

namespace Go.Proofs.Ytgfpbmjknknflaa
open Go.RowKit
set_option linter.unusedVariables false
set_option maxRecDepth 3000
/-- A multiple of 2 to the lo, below 2 to the hi in size. -/
structure DB (lo hi : Nat) (s : Int) : Prop where
  dvd : s % 2 ^ lo = 0
  gt : -(2 ^ hi) < s
  lt : s < 2 ^ hi
theorem DB.mono {lo hi l h : Nat} {s : Int} (b : DB lo hi s) (hl : l ≤ lo) (hh : hi ≤ h) : DB l h s := by
  have := p2mono hh
  refine ⟨?_, by have := b.gt; omega, by have := b.lt; omega⟩
  obtain ⟨k, rfl⟩ : ∃ k, lo = l + k := ⟨lo - l, by omega⟩
  obtain ⟨m, hm⟩ := Int.dvd_of_emod_eq_zero b.dvd
  exact Int.emod_eq_zero_of_dvd ⟨2 ^ k * m, by rw [hm, Int.pow_add, Int.mul_assoc]⟩
theorem DB.add {lo hi : Nat} {s t : Int} (b : DB lo hi s) (c : DB lo hi t) : DB lo (hi + 1) (s + t) := by
  have e := p2succ hi
  have b1 := b.gt
  have b2 := b.lt
  have c1 := c.gt
  have c2 := c.lt
  refine ⟨?_, by omega, by omega⟩
  obtain ⟨m, hm⟩ := Int.dvd_of_emod_eq_zero b.dvd
  obtain ⟨k, hk⟩ := Int.dvd_of_emod_eq_zero c.dvd
  exact Int.emod_eq_zero_of_dvd ⟨m + k, by rw [hm, hk, Int.mul_add]⟩
theorem DB.low {lo hi t : Nat} {s : Int} (b : DB lo hi s) (hs : s ≠ 0) (ht : LowBit (s.natAbs : Int) t) : lo ≤ t ∧ t < hi ∧ (s.natAbs : Int) / 2 ^ t < 2 ^ (hi - lo) := by
  have b1 := b.gt
  have b2 := b.lt
  have h1 : lo ≤ t := by
    have := low_lost (n := lo) ht
    have e : (s.natAbs : Int) % 2 ^ lo = 0 := by
      obtain ⟨m, hm⟩ := Int.dvd_of_emod_eq_zero b.dvd
      have hp := p2pos lo
      by_cases c : 0 ≤ s
      · exact Int.emod_eq_zero_of_dvd ⟨m, by rw [← hm]; omega⟩
      · exact Int.emod_eq_zero_of_dvd ⟨-m, by rw [Int.mul_neg, ← hm]; omega⟩
    rw [e] at this
    simp at this
    omega
  have h2 := low_half ht
  have h4 : 1 ≤ (s.natAbs : Int) / 2 ^ t := by
    have := Int.ediv_nonneg (show 0 ≤ (s.natAbs : Int) by omega) (Int.le_of_lt (p2pos t))
    have := ht.one
    omega
  have h5 : 1 * 2 ^ t ≤ (s.natAbs : Int) / 2 ^ t * 2 ^ t := Int.mul_le_mul_of_nonneg_right h4 (Int.le_of_lt (p2pos t))
  have h6 : t < hi := p2lt (by omega)
  refine ⟨h1, h6, ?_⟩
  refine Int.ediv_lt_of_lt_mul (p2pos t) ?_
  rw [← Int.pow_add]
  have := p2mono (show hi ≤ hi - lo + t by omega)
  omega
/-- A number of the value v. -/
structure DN (ng : Bool) (zs : List Int) (ex v : Int) : Prop where
  dg : DG ng zs ex
  val : dv ng zs ex = v
/-- A new number. -/
structure IsD (w w' : World) (a : Option Addr) (c : Nat) (ng : Bool) (zs : List Int) (ex v : Int) : Prop where
  num : DN ng zs ex v
  lie : Lie w' a zs
  bel : Below w.heap.size w w'
  own : Own w.heap.size w' (.slice a zs.length c) zs
theorem dv_back {s : Int} {t k : Nat} {zs : List Int} (hs : s ≠ 0) (ht : LowBit (s.natAbs : Int) t) (hg : Good zs ((s.natAbs : Int) / 2 ^ t)) (hk : k ≤ t) : dv (decide (s < 0)) zs (-(KK : Int) - k + t) * 2 ^ k = s := by
  unfold dv pK
  rw [hg.val, show (-(KK : Int) - k + t + KK).toNat = t - k by omega, Int.mul_assoc, ← Int.pow_add, show t - k + k = t by omega]
  have h1 := low_half ht
  by_cases c : s < 0
  · rw [decide_eq_true c, sv_t, Int.neg_mul, ← h1]; omega
  · rw [decide_eq_false c, sv_f, ← h1]; omega
/-- What fits is answered. -/
theorem DV.fits {w w' : World} {s : Int} {ng : Bool} {a : Option Addr} {n c : Nat} {ex code : Int} {lo hi k : Nat} (h : DV w w' s (-(KK : Int) - k) ng a n c ex code) (hb : DB lo hi s) (h1 : hi ≤ lo + 131072) (h2 : hi ≤ 2 * KK + k) (h3 : k ≤ lo) :
    code = 0 ∧ ∃ zs v, n = zs.length ∧ v * 2 ^ k = s ∧ IsD w w' a c ng zs ex v := by
  have hK := KK_int
  rcases h.all with ⟨rfl, rfl, rfl, rfl, rfl, rfl, rfl⟩ | ⟨hs, t, ht, hh⟩
  · exact ⟨rfl, [], 0, rfl, by simp, ⟨⟨zeroDG, zero_dv _ _⟩, .inl rfl, h.bel, Own.nil _ _⟩⟩
  · obtain ⟨k1, k2, k3⟩ := hb.low hs ht
    have k4 : (s.natAbs : Int) / 2 ^ t < 4294967296 ^ 4096 := by
      have := p2mono (show hi - lo ≤ 131072 by omega)
      rw [pw32]; omega
    rcases hh with ⟨j1, j2, rfl, rfl, rfl, zs, rfl, j3, j4⟩ | ⟨j1, _⟩ | ⟨_, j1, _⟩
    · obtain ⟨a2, c2, he, _, _, hl⟩ := j4.lie
      simp only [Value.slice.injEq, true_and] at he
      obtain ⟨rfl, rfl⟩ := he
      have hp : 0 < (s.natAbs : Int) / 2 ^ t := by
        have := ht.one
        have := Int.ediv_nonneg (show 0 ≤ (s.natAbs : Int) by omega) (Int.le_of_lt (p2pos t))
        omega
      exact ⟨rfl, zs, _, rfl, dv_back hs ht j3 (by omega), ⟨⟨⟨j3.can, j3.len, .inr ⟨j3.ne hp, by rw [j3.val]; exact ht.one, by omega, by omega⟩⟩, rfl⟩, hl, h.bel, j4⟩⟩
    · omega
    · omega

/-- A number that is handed in. -/
structure Arg where
  ng : Bool
  a : Option Addr
  c : Nat
  zs : List Int
  ex : Int
def nearB (x : Arg) : Bool := decide (x.zs.length ≤ 100) && decide (-3000 ≤ x.ex) && decide (x.ex ≤ 3000) && dmayB x.ng x.zs x.ex
/-- The numbers of l lie in a row. -/
structure ARow (w : World) (b : Nat) (l : List Arg) : Prop where
  c0 : ∀ (i : Nat) (x : Arg), l[i]? = some x → w.cell? ⟨b, i * 3, none⟩ = some (.bool x.ng)
  c1 : ∀ (i : Nat) (x : Arg), l[i]? = some x → w.cell? ⟨b, i * 3 + 1, none⟩ = some (.slice x.a x.zs.length x.c)
  c2 : ∀ (i : Nat) (x : Arg), l[i]? = some x → w.cell? ⟨b, i * 3 + 2, none⟩ = some (.int .i64 x.ex)
  lie : ∀ (i : Nat) (x : Arg), l[i]? = some x → DLie w x.a x.zs
theorem DB.shift {lo hi k : Nat} {p : Int} (h : DB lo hi (p * 2 ^ k)) (hk : k ≤ lo) (hk2 : k ≤ hi) : DB (lo - k) (hi - k) p := by
  have hp := p2pos k
  obtain ⟨j, rfl⟩ : ∃ j, lo = j + k := ⟨lo - k, by omega⟩
  obtain ⟨i, rfl⟩ : ∃ i, hi = i + k := ⟨hi - k, by omega⟩
  rw [show j + k - k = j by omega, show i + k - k = i by omega]
  have b1 := h.gt
  have b2 := h.lt
  rw [Int.pow_add] at b1 b2
  refine ⟨?_, ?_, Int.lt_of_mul_lt_mul_right b2 (by omega)⟩
  · obtain ⟨m, hm⟩ := Int.dvd_of_emod_eq_zero h.dvd
    rw [Int.pow_add] at hm
    exact Int.emod_eq_zero_of_dvd ⟨m, Int.eq_of_mul_eq_mul_right (show (2 : Int) ^ k ≠ 0 by omega) (by rw [hm, Int.mul_right_comm])⟩
  · refine Int.lt_of_mul_lt_mul_right (a := 2 ^ k) ?_ (by omega)
    rw [Int.neg_mul]; exact b1
/-- Variables of the law that hold numbers. -/
structure Boxes (w : World) (l : List (Nat × Array Value)) : Prop where
  all : ∀ p ∈ l, DCell w p.1 p.2
theorem Boxes.keep {w w' : World} {l : List (Nat × Array Value)} (h : Boxes w l) (hb : Below w.heap.size w w') : Boxes w' l :=
  ⟨fun p hp => (h.all p hp).below hb (Array.getElem?_eq_some_iff.1 (h.all p hp).1).1⟩
theorem Boxes.push {w w' : World} {l : List (Nat × Array Value)} (h : Boxes w l) (hb : Below w.heap.size w w') (x y z : Value) : Boxes (w'.alloc (.cells #[x, y, z] 67)) ((w'.heap.size, #[x, y, z]) :: l) := by
  refine ⟨fun p hp => ?_⟩
  rcases List.mem_cons.1 hp with rfl | hp
  · exact dcell_new _ _ _ _
  · exact ((h.keep hb).keep (below_alloc _ _)).all p hp
end Go.Proofs.Ytgfpbmjknknflaa

namespace Go.Proofs.Ytgfpbmjknknflaa
open Go.RowKit
set_option linter.unusedVariables false
set_option maxRecDepth 3000
theorem dv_sgn {ng : Bool} {zs : List Int} {ex v : Int} (h : DN ng zs ex v) : (zs.length ≤ 0 → v = 0) ∧ (0 < zs.length → ng = true → v < 0) ∧ (0 < zs.length → ng = false → 0 < v) := by
  have hp := pK_pos ex
  refine ⟨fun hz => ?_, fun hz hn => ?_, fun hz hn => ?_⟩
  · obtain ⟨rfl, rfl, rfl⟩ := h.dg.nil hz
    rw [← h.val, zero_dv]
  · have hx := h.dg.pos hz
    rw [← h.val]; unfold dv
    rw [hn, sv_t, Int.neg_mul]
    have := Int.mul_pos hx hp
    omega
  · have hx := h.dg.pos hz
    rw [← h.val]; unfold dv
    rw [hn, sv_f]
    exact Int.mul_pos hx hp
/-- The sizes, by their tops. -/
theorem tops_lt {x y e1 e2 : Int} {B C : Nat} (hx : Bits x B) (hy : Bits y C) (h1 : -(KK : Int) ≤ e1) (h2 : -(KK : Int) ≤ e2) (h : (B : Int) + e1 < C + e2) : x * pK e1 < y * pK e2 := by
  unfold pK
  have p1 := p2pos (e1 + KK).toNat
  have p2 := p2pos (e2 + KK).toNat
  have k1 : x * 2 ^ (e1 + KK).toNat < 2 ^ B * 2 ^ (e1 + KK).toNat := Int.mul_lt_mul_of_pos_right hx.lt p1
  rw [← Int.pow_add] at k1
  have k2 := p2mono (show B + (e1 + KK).toNat + 1 ≤ C + (e2 + KK).toNat by omega)
  rw [p2succ] at k2
  have k3 : 2 ^ C * 2 ^ (e2 + KK).toNat ≤ 2 * y * 2 ^ (e2 + KK).toNat := Int.mul_le_mul_of_nonneg_right hy.le (by omega)
  rw [← Int.pow_add, Int.mul_assoc] at k3
  omega
theorem sgn_scale {x y k : Int} (hk : 0 < k) : sgn (x * k) (y * k) = sgn x y := by
  unfold sgn
  rcases Int.lt_trichotomy x y with c | c | c
  · have := Int.mul_lt_mul_of_pos_right c hk
    rw [if_pos c, if_pos this]
  · subst c; simp
  · have := Int.mul_lt_mul_of_pos_right c hk
    rw [if_neg (show ¬ x * k < y * k by omega), if_pos this, if_neg (show ¬ x < y by omega), if_pos c]
theorem level_scale {x e m : Int} (hm : -(KK : Int) ≤ m) (h : m ≤ e) : x * pK e = x * 2 ^ (e - m).toNat * pK m := by
  have := pK_add hm (e - m).toNat
  rw [show m + ((e - m).toNat : Int) = e by omega] at this
  rw [this, Int.mul_assoc, Int.mul_comm (pK m)]
theorem sizes_eq {x y e1 e2 m : Int} (h1 : m ≤ e1) (h2 : m ≤ e2) (hm : -(KK : Int) ≤ m) : sgn (x * pK e1) (y * pK e2) = sgn (x * 2 ^ (e1 - m).toNat) (y * 2 ^ (e2 - m).toNat) := by
  rw [level_scale hm h1, level_scale hm h2, sgn_scale (pK_pos m)]
end Go.Proofs.Ytgfpbmjknknflaa

set_option linter.unusedVariables false
namespace Go.Drawn
open Go
section
variable {P : Program} {ops : Array Oper} {Q : Exit → Act → World → Prop} {md : Region.Mode} {I : World → Prop}
end
end Go.Drawn

namespace Go.Proofs.Ytgfpbmjknknflaa
open Go.RowKit
set_option linter.unusedVariables false
set_option maxRecDepth 3000
theorem DV.after {w w' w2 : World} {s E : Int} {ng : Bool} {a : Option Addr} {n c : Nat} {ex code : Int} (h : DV w w' s E ng a n c ex code) (hb : Below w'.heap.size w' w2) : DV w w2 s E ng a n c ex code := by
  refine ⟨below_then h.bel hb, ?_⟩
  rcases h.all with h1 | ⟨h1, t, h2, h3⟩
  · exact .inl h1
  · refine .inr ⟨h1, t, h2, ?_⟩
    rcases h3 with ⟨k1, k2, k3, k4, k5, zs, k6, k7, k8⟩ | h3
    · exact .inl ⟨k1, k2, k3, k4, k5, zs, k6, k7, k8.below hb (Nat.le_refl _)⟩
    · exact .inr h3
theorem DN.low {ng : Bool} {zs : List Int} {ex v : Int} (h : DN ng zs ex v) (hz : 0 < zs.length) : LowBit (v.natAbs : Int) (ex + KK).toNat ∧ v ≠ 0 := by
  have hp := pK_pos ex
  have hx := h.dg.pos hz
  have e : (v.natAbs : Int) = Nt.val zs * 2 ^ (ex + KK).toNat := by
    rw [← h.val]; unfold dv pK
    rw [natAbs_mul_pow, sv_abs _ (by omega)]
  have hl := (odd_low (h.dg.odd hz)).up (ex + KK).toNat
  rw [Nat.zero_add] at hl
  refine ⟨by rw [e]; exact hl, fun c => ?_⟩
  have : Nt.val zs * 2 ^ (ex + KK).toNat ≠ 0 := fun c2 => by rcases Int.mul_eq_zero.1 c2 with c3 | c3 <;> have := p2pos (ex + KK).toNat <;> omega
  omega
theorem set_cell {w : World} {g b j i : Nat} (h : b ≠ g) (u : Value) : (w.setCell ⟨g, j, none⟩ u).cell? ⟨b, i, none⟩ = w.cell? ⟨b, i, none⟩ :=
  World.cell?_setCell_other _ _ _ _ (by intro c; cases c; exact h rfl)
theorem set3_cell {w : World} {g b i : Nat} (h : b ≠ g) (u0 u1 u2 : Value) : (((w.setCell ⟨g, 0, none⟩ u0).setCell ⟨g, 1, none⟩ u1).setCell ⟨g, 2, none⟩ u2).cell? ⟨b, i, none⟩ = w.cell? ⟨b, i, none⟩ := by
  rw [set_cell h, set_cell h, set_cell h]
/-- A fresh box holds no digit. -/
theorem no_digit {w : World} {g i : Nat} {k : IntKind} {x : Int} (hd : DCell w g #[.bool false, .slice none 0 0, .int .i64 0]) (hk : k ≠ .i64) : w.cell? ⟨g, i, none⟩ ≠ some (.int k x) := by
  rw [cell_of_row w g i _ 67 (0, 0) hd.1]
  match i with
  | 0 => intro h; cases h
  | 1 => intro h; cases h
  | 2 => intro h; injection h with h; injection h with h1 h2; exact hk h1.symm
  | n + 3 => intro h; simp at h
theorem Live.set3 {w : World} {g : Nat} (hd : DCell w g #[.bool false, .slice none 0 0, .int .i64 0]) (u0 u1 u2 : Value) {l : List (Option Addr × List Int)} (h : Live w l) : Live (((w.setCell ⟨g, 0, none⟩ u0).setCell ⟨g, 1, none⟩ u1).setCell ⟨g, 2, none⟩ u2) l := by
  refine ⟨fun p hp => ?_⟩
  rcases h.all p hp with h1 | ⟨b, o, h1, h2⟩
  · exact .inl h1
  · refine .inr ⟨b, o, h1, fun i hi => ?_⟩
    have k := h2 i hi
    rw [set3_cell (fun c => no_digit (k := .u32) hd (by decide) (by rw [← c]; exact k))]
    exact k
theorem Tab.set3 {w : World} {g : Nat} (hd : DCell w g #[.bool false, .slice none 0 0, .int .i64 0]) (u0 u1 u2 : Value) (h : Tab w) : Tab (((w.setCell ⟨g, 0, none⟩ u0).setCell ⟨g, 1, none⟩ u1).setCell ⟨g, 2, none⟩ u2) := by
  intro j hj
  have k := h j hj
  rw [set3_cell (fun c => no_digit (k := .u8) hd (by decide) (by rw [← c]; exact k))]
  exact k
theorem Boxes.set3 {w : World} {g : Nat} (hd : DCell w g #[.bool false, .slice none 0 0, .int .i64 0]) (u0 u1 u2 : Value) {l : List (Nat × Array Value)} (h : Boxes w l) (hl : ∀ p ∈ l, p.1 ≠ g) : Boxes (((w.setCell ⟨g, 0, none⟩ u0).setCell ⟨g, 1, none⟩ u1).setCell ⟨g, 2, none⟩ u2) ((g, #[u0, u1, u2]) :: l) := by
  refine ⟨fun p hp => ?_⟩
  rcases List.mem_cons.1 hp with rfl | hp
  · exact ((hd.set 0 u0).set 1 u1).set 2 u2
  · have k := h.all p hp
    refine ⟨?_, k.2⟩
    rw [heap_setCell_other _ _ _ _ (hl p hp), heap_setCell_other _ _ _ _ (hl p hp), heap_setCell_other _ _ _ _ (hl p hp)]
    exact k.1
end Go.Proofs.Ytgfpbmjknknflaa

namespace Go.Proofs.Ytgfpbmjknknflaa
open Go.RowKit
set_option linter.unusedVariables false
set_option maxRecDepth 3000
set_option maxHeartbeats 1000000 in
/-- The reference's form. -/
theorem dform41 (ng : Bool) (a : Option Addr) (ca : Nat) (za : List Int) (ex : Int) (w : World) {x : Int} (ha : Lie w a za) (ga : Good za x) (hz : 0 < za.length) {t : Nat} (ht : LowBit x t) (h0 : -9000000000000000000 ≤ ex) (h1 : ex ≤ 9000000000000000000) :
    Calls Try.prog 58 #[.bool ng, .slice a za.length ca, .int .i64 ex] w fun e w' => ∃ zs a' c, e = .returned (dV ng a' zs.length c (ex + t)) ∧ IsNum w w' a' zs (x / 2 ^ t) := by
  have hb := below_alloc w (.cells #[.bool false, .slice none 0 0, .int .i64 0] 67)
  have hd := dcell_new w (.bool false) (.slice none 0 0) (.int .i64 0)
  have hsz : w.heap.size < (w.alloc (.cells #[.bool false, .slice none 0 0, .int .i64 0] 67)).heap.size := by simp
  have htl := low_lt ht (ga.pos hz) ga.lt.2
  have l1 := ha.below hb (Nat.le_refl _)
  have HL := Hide.mk (refLowN a ca za _ l1 ga hz)
  have HD := Hide.mk (refDownN a ca za _ l1 ga (t : Int) t rfl (by omega) _ rfl)
  have Ht := Hide.mk ht
  have hne : ((za.length : Int) == 0) = false := beq_eq_false_iff_ne.2 (by omega)
  clear ha l1 ht
  generalize decide (x % 2 ^ t ≠ 0) = q at *
  go_enter Try.func58, Try.ntmps58
  go_wp2_with fail
  refine HL.out.mono ?_
  rintro e w' ⟨rfl, t2, rfl, ht2, _⟩
  obtain rfl := ht2.unique Ht.out
  clear ht2 HL
  go_wp2_with fail
  refine HD.out.mono ?_
  rintro e w3 ⟨zs, a', c, rfl, h3, h4⟩
  have hd3 := hd.below h3.bel hsz
  have H := Hide.mk (And.intro h3 h4)
  clear h3 h4 hd HD
  have f0 := hd3.c0
  have f1 := hd3.c1
  have f2 := hd3.c2
  have r0 := hd3.fr 0
  have r1 := hd3.fr 1
  have r2 := hd3.fr 2
  generalize hu : (t2 : Int) = u at *
  have hu0 : 0 ≤ u := by omega
  have hu1 : u < 131072 := by omega
  have HU := Hide.mk hu
  clear hu htl
  go_wp2
  refine bodyPost_ret (results_D1 rfl _ _ w.heap.size _ rfl (((hd3.set 0 _).set 1 _).set 2 _)) rfl ?_
  have hm := made_set H.out.1 H.out.2 (.bool ng) (.slice a' zs.length c) (.int .i64 (ex + u))
  exact ⟨zs, a', c, by rw [HU.out]; rfl, hm.1⟩

theorem DCell.off {w : World} {g g' j : Nat} {cs : Array Value} (h : DCell w g cs) (hne : g ≠ g') (x : Value) : DCell (w.setCell ⟨g', j, none⟩ x) g cs := ⟨by rw [heap_setCell_other _ _ _ _ hne]; exact h.1, h.2⟩
/-- Digits that may be written over: a row of their own, from block B on. -/
def WrA (B : Nat) (w : World) (a : Option Addr) (n : Nat) : Prop := n = 0 ∨ ∃ g cur, a = some ⟨g, 0, none⟩ ∧ B ≤ g ∧ w.heap[g]? = some (.cells cur 112 (0, 0)) ∧ n ≤ cur.size
theorem WrA.below {B C : Nat} {w w' : World} {a : Option Addr} {n : Nat} (h : WrA B w a n) (hb : Below w.heap.size w w') : WrA B w' a n := by
  rcases h with h | ⟨g, cur, h1, h2, h3, h4⟩
  · exact .inl h
  · exact .inr ⟨g, cur, h1, h2, (hb.block g (Array.getElem?_eq_some_iff.1 h3).1).trans h3, h4⟩
theorem WrA.set {B g k : Nat} {w : World} {a : Option Addr} {n : Nat} {cur : Array Value} (h : WrA B w a n) (hg : w.heap[g]? = some (.cells cur 112 (0, 0))) (u : Value) : WrA B (w.setCell ⟨g, k, none⟩ u) a n := by
  rcases h with h | ⟨g', cur', h1, h2, h3, h4⟩
  · exact .inl h
  · by_cases e : g' = g
    · subst e
      rw [hg] at h3
      cases h3
      exact .inr ⟨g', _, h1, h2, heap_setCell_same w g' k cur 112 u hg, by simpa using h4⟩
    · exact .inr ⟨g', cur', h1, h2, by rw [heap_setCell_other _ _ _ _ e]; exact h3, h4⟩
/-- What stays while the digits are written over. -/
structure MInv (B : Nat) (w : World) (b : Nat) (rc : Array Value) (l : List Arg) (wr : World) : Prop where
  bel : Below B w wr
  row : wr.heap[b]? = some (.cells rc 67 (0, 0))
  wr : ∀ (i : Nat) (x : Arg), l[i]? = some x → WrA B wr x.a x.zs.length
theorem MInv.set {B b g k : Nat} {w wr : World} {rc cur : Array Value} {l : List Arg} (h : MInv B w b rc l wr) (hB : B ≤ g) (hg : wr.heap[g]? = some (.cells cur 112 (0, 0))) (u : Value) : MInv B w b rc l (wr.setCell ⟨g, k, none⟩ u) := by
  have hne : b ≠ g := by
    intro e
    subst e
    have := h.row
    rw [hg] at this
    cases this
  exact ⟨h.bel.setCell (p := ⟨g, k, none⟩) hB u, by rw [heap_setCell_other _ _ _ _ hne]; exact h.row, fun i x hx => (h.wr i x hx).set hg u⟩
end Go.Proofs.Ytgfpbmjknknflaa

namespace Go.Proofs.Ytgfpbmjknknflaa
open Go.RowKit
set_option linter.unusedVariables false
set_option maxRecDepth 3000
set_option maxHeartbeats 1000000 in
theorem dreftop54 (ng : Bool) (a : Option Addr) (c : Nat) (zs : List Int) (ex : Int) (w : World) (hl : Lie w a zs) (h : DG ng zs ex) (hz : 0 < zs.length) :
    Calls Try.prog 56 #[dV ng a zs.length c ex] w fun e w' => ∃ B : Nat, e = .returned (.int .i64 (ex + B)) ∧ BitLen (Nt.val zs) B ∧ B ≤ 131072 ∧ Below w.heap.size w w' := by
  have hb := below_alloc w (.cells #[.bool ng, .slice a zs.length c, .int .i64 ex] 67)
  have hd := dcell_new w (.bool ng) (.slice a zs.length c) (.int .i64 ex)
  have hx := h.ex_bd
  have g := h.good
  have hne : ((zs.length : Int) == 0) = false := beq_eq_false_iff_ne.2 (by omega)
  go_enter Try.func56, Try.ntmps56
  go_wp2_with fail
  generalize hw1 : w.alloc (.cells #[.bool ng, .slice a zs.length c, .int .i64 ex] 67) = w1 at *
  have hsz : w.heap.size + 1 = w1.heap.size := by rw [← hw1]; simp
  clear hw1
  have HI : Below (w.heap.size + 1) w1 w1.drew := (Below.refl _ _).drew
  have l1 := hl.below hb.drew (Nat.le_refl _)
  refine Drawn.enter (fun W => Below (w.heap.size + 1) w1 W) (by kernel_rfl) ?_
  refine Drawn.tk (i := 0) (v := .pointer (some ⟨w.heap.size, 2, none⟩)) rfl (fun W hW => ?_) HI ?_ (hw := rfl)
  · go_simp
  refine Drawn.tk (i := 1) (v := .int .i64 ex) rfl (fun W hW => ?_) HI ?_ (hw := rfl)
  · have hc0 := below_cell2 hW (by simp) hd.c2
    go_simp
  refine Drawn.tk (i := 2) (v := .pointer (some ⟨w.heap.size, 1, none⟩)) rfl (fun W hW => ?_) HI ?_ (hw := rfl)
  · go_simp
  refine Drawn.tk (i := 3) (v := .slice a zs.length c) rfl (fun W hW => ?_) HI ?_ (hw := rfl)
  · have hc0 := below_cell2 hW (by simp) hd.c1
    go_simp
  refine Drawn.one (j := 4) (by kernel_rfl) rfl (fun K hK => ?_)
  go_simp
  refine (refLenN a c zs _ l1 g).mono ?_
  rintro e w' ⟨rfl, B, rfl, hB, hB1⟩
  refine hK _ _ HI ?_
  clear hK K
  have HBB := Hide.mk hB
  clear hB
  refine Drawn.tk (i := 5) (v := .int .i64 (ex + (B : Int))) rfl (fun W hW => ?_) HI ?_ (hw := rfl)
  · go_simp
    exact wrap_ok (by omega) (by omega)
  refine Drawn.tk (i := 6) (v := .int .i64 (ex + (B : Int))) rfl (fun W hW => ?_) HI ?_ (hw := rfl)
  · go_simp
  refine Drawn.done (by kernel_rfl) ?_
  go_wp2
  go_ret
  exact ⟨B, rfl, HBB.out, hB1, hb.drew⟩
/-- The value as an int64, where it is one. -/
def i64r (ng : Bool) (x ex : Int) (B : Nat) : Int × Bool :=
  if ex < 0 ∨ 64 < B + ex then (0, false) else if ng then (if x * 2 ^ ex.toNat ≤ 9223372036854775808 then (-(x * 2 ^ ex.toNat), true) else (0, false)) else (if x * 2 ^ ex.toNat < 9223372036854775808 then (x * 2 ^ ex.toNat, true) else (0, false))
end Go.Proofs.Ytgfpbmjknknflaa

/-
  Boxes: blocks of cells that a call has made, which stay as they are while others are called.
-/
set_option linter.unusedVariables false
namespace Go.Box
open Go Go.RowKit
/-- From w to W nothing of w's has turned, and the blocks of L lie there. -/
structure Bx (w : World) (L : List (Nat × Obj)) (W : World) : Prop where
  bel : Below w.heap.size w W
  box : ∀ p ∈ L, W.heap[p.1]? = some p.2
variable {w W W' : World} {L L' : List (Nat × Obj)}
theorem Bx.nil (w : World) : Bx w [] w := ⟨Below.refl _ _, fun _ h => by cases h⟩
theorem Bx.lt (h : Bx w L W) {p : Nat × Obj} (hp : p ∈ L) : p.1 < W.heap.size := (Array.getElem?_eq_some_iff.1 (h.box p hp)).1
theorem Bx.head {g : Nat} {o : Obj} (h : Bx w ((g, o) :: L) W) : W.heap[g]? = some o := h.box _ (.head _)
theorem Bx.tail {q : Nat × Obj} (h : Bx w (q :: L) W) : Bx w L W := ⟨h.bel, fun p hp => h.box p (.tail _ hp)⟩
theorem Bx.sub (h : Bx w L W) (hs : ∀ p ∈ L', p ∈ L) : Bx w L' W := ⟨h.bel, fun p hp => h.box p (hs p hp)⟩
theorem Bx.push (h : Bx w L W) (o : Obj) : Bx w ((W.heap.size, o) :: L) (W.alloc o) := by
  refine ⟨h.bel.alloc h.bel.size o, fun p hp => ?_⟩
  rcases List.mem_cons.1 hp with rfl | hp
  · exact heap_alloc_new W o
  · rw [Below.heap_alloc _ _ _ (h.lt hp)]; exact h.box p hp
theorem Bx.keep (h : Bx w L W) (hb : Below W.heap.size W W') : Bx w L W' :=
  ⟨h.bel.trans (hb.mono h.bel.size), fun p hp => (hb.block _ (h.lt hp)).trans (h.box p hp)⟩
theorem Bx.drew (h : Bx w L W) : Bx w L W.drew := ⟨h.bel.drew, h.box⟩
theorem Bx.cell (h : Bx w L W) (g : Nat) (cs : Array Value) (t : TypeId) (hm : (g, Obj.cells cs t (0, 0)) ∈ L) (j : Nat) : W.cell? ⟨g, j, none⟩ = cs[j]? := cell_of_row W g j cs t (0, 0) (h.box _ hm)
theorem Bx.frozen (h : Bx w L W) (g : Nat) (cs : Array Value) (t : TypeId) (hm : (g, Obj.cells cs t (0, 0)) ∈ L) (j : Nat) : W.frozen? ⟨g, j, none⟩ = false := frozen_of_row W g j cs t (h.box _ hm)
theorem Bx.set {g : Nat} {cs : Array Value} {t : TypeId} (h : Bx w ((g, Obj.cells cs t (0, 0)) :: L) W) (hg : w.heap.size ≤ g) (hne : ∀ p ∈ L, p.1 ≠ g) (j : Nat) (x : Value) :
    Bx w ((g, Obj.cells (cs.setIfInBounds j x) t (0, 0)) :: L) (W.setCell ⟨g, j, none⟩ x) := by
  refine ⟨h.bel.setCell hg x, fun p hp => ?_⟩
  rcases List.mem_cons.1 hp with rfl | hp
  · exact heap_setCell_same W g j cs t x (h.box _ (.head _))
  · rw [Below.heap_setCell _ _ _ _ (hne p hp)]; exact h.box p (.tail _ hp)
theorem Bx.apart (h : Bx w L W) : ∀ p ∈ L, p.1 ≠ W.heap.size := fun p hp e => by have := h.lt hp; omega
theorem Bx.fill3 {g : Nat} {z0 z1 z2 : Value} {t : TypeId} (h : Bx w ((g, Obj.cells #[z0, z1, z2] t (0, 0)) :: L) W) (hg : w.heap.size ≤ g) (hne : ∀ p ∈ L, p.1 ≠ g) (a b c : Value) :
    Bx w ((g, Obj.cells #[a, b, c] t (0, 0)) :: L) (((W.setCell ⟨g, 0, none⟩ a).setCell ⟨g, 1, none⟩ b).setCell ⟨g, 2, none⟩ c) := by
  have := ((h.set hg hne 0 a).set hg hne 1 b).set hg hne 2 c
  simpa using this
theorem Bx.fill4 {g : Nat} {z0 z1 z2 z3 : Value} {t : TypeId} (h : Bx w ((g, Obj.cells #[z0, z1, z2, z3] t (0, 0)) :: L) W) (hg : w.heap.size ≤ g) (hne : ∀ p ∈ L, p.1 ≠ g) (a b c d : Value) :
    Bx w ((g, Obj.cells #[a, b, c, d] t (0, 0)) :: L) ((((W.setCell ⟨g, 0, none⟩ a).setCell ⟨g, 1, none⟩ b).setCell ⟨g, 2, none⟩ c).setCell ⟨g, 3, none⟩ d) := by
  have := (((h.set hg hne 0 a).set hg hne 1 b).set hg hne 2 c).set hg hne 3 d
  simpa using this
end Go.Box

set_option linter.unusedVariables false
namespace Go.Wd
open Go
/-- The numbers of a format (true: F64): the sign's bit, 2 to the F, F, E, L, the infinite word. -/
def sg (b : Bool) : Int := match b with | true => 9223372036854775808 | false => 2147483648
def fr (b : Bool) : Int := match b with | true => 4503599627370496 | false => 8388608
def fc (b : Bool) : Int := match b with | true => 52 | false => 23
def bt (b : Bool) : Int := match b with | true => 64 | false => 32
def tp (b : Bool) : Int := match b with | true => 2047 | false => 255
def lo (b : Bool) : Int := match b with | true => -1074 | false => -149
def fm (b : Bool) : Int := match b with | true => 2 | false => 1
def inf (b : Bool) : Int := match b with | true => 9218868437227405312 | false => 2139095040
def nan (b : Bool) : Int := match b with | true => 9221120237041090560 | false => 2143289344
/-- A word's sign, field, fraction, class. -/
def ng (b : Bool) (x : Int) : Bool := decide (sg b ≤ x)
def sz (b : Bool) (x : Int) : Int := x % sg b
def fd (b : Bool) (x : Int) : Int := x % sg b / fr b
def fn (b : Bool) (x : Int) : Int := x % fr b
def cl (b : Bool) (x : Int) : Int := if sz b x = 0 then 1 else if sz b x < fr b then 2 else if sz b x < inf b then 3 else if sz b x = inf b then 4 else 5
/-- A size with a sign. -/
def sd (b : Bool) (s : Int) (n : Bool) : Int := if n then s + sg b else s
/-- One step up of what is no NaN and not +infinite. -/
def up (b : Bool) (x : Int) : Int := if sz b x = 0 then 1 else if sg b ≤ x then x - 1 else x + 1
def Ok (b : Bool) (x : Int) : Prop := 0 ≤ x ∧ x < 2 * sg b
/-- The low bits. -/
theorem mask (k : Nat) {x M : Int} (hM : M = 2 ^ k - 1) (hk : k ≤ 63) (h0 : 0 ≤ x) (h1 : x < 18446744073709551616) : bits .and .u64 x M = x % 2 ^ k := by
  have e : (2 : Int) ^ k = ((2 ^ k : Nat) : Int) := by simp
  have hp : 0 < 2 ^ k := Nat.two_pow_pos k
  have hq : 2 ^ k ≤ 2 ^ 63 := Nat.pow_le_pow_right (by decide) hk
  have hr : (2 : Nat) ^ 63 = 9223372036854775808 := by decide
  subst hM
  rw [e]
  obtain ⟨n, rfl⟩ : ∃ n : Nat, x = n := ⟨x.toNat, by omega⟩
  rw [show ((2 ^ k : Nat) : Int) - 1 = ((2 ^ k - 1 : Nat) : Int) by omega, u64_and_nat n _ (by omega) (by omega), Nat.and_two_pow_sub_one_eq_mod]
  omega
/-- The bit at the place k of a number that has none above it. -/
theorem topBit (k : Nat) {x S : Int} (hS : S = 2 ^ k) (hk : k ≤ 63) (h0 : 0 ≤ x) (h1 : x < 2 * S) : bits .and .u64 x S = if S ≤ x then S else 0 := by
  have e : (2 : Int) ^ k = ((2 ^ k : Nat) : Int) := by simp
  have hp : 0 < 2 ^ k := Nat.two_pow_pos k
  have hq : 2 ^ k ≤ 2 ^ 63 := Nat.pow_le_pow_right (by decide) hk
  have hr : (2 : Nat) ^ 63 = 9223372036854775808 := by decide
  subst hS
  rw [e] at *
  obtain ⟨n, rfl⟩ : ∃ n : Nat, x = n := ⟨x.toNat, by omega⟩
  rw [u64_and_nat n _ (by omega) (by omega), nat_bit]
  generalize 2 ^ k = P at *
  by_cases c : P ≤ n
  · rw [if_pos (by omega)]
    have : n / P = 1 := by
      refine Nat.div_eq_of_lt_le (by omega) (by omega)
    rw [this]; simp
  · rw [if_neg (by omega), Nat.div_eq_of_lt (by omega)]; simp
/-- Without that bit. -/
theorem clearBit (k : Nat) {x S : Int} (hS : S = 2 ^ k) (hk : k ≤ 63) (h0 : 0 ≤ x) (h1 : x < 2 * S) : bits .andNot .u64 x S = x % S := by
  have e : (2 : Int) ^ k = ((2 ^ k : Nat) : Int) := by simp
  have hp : 0 < 2 ^ k := Nat.two_pow_pos k
  have hq : 2 ^ k ≤ 2 ^ 63 := Nat.pow_le_pow_right (by decide) hk
  have hr : (2 : Nat) ^ 63 = 9223372036854775808 := by decide
  subst hS
  rw [e] at *
  obtain ⟨n, rfl⟩ : ∃ n : Nat, x = n := ⟨x.toNat, by omega⟩
  rw [u64_andNot_nat n _ (by omega) (by omega)]
  have : n &&& (18446744073709551615 - 2 ^ k) = n % 2 ^ k := by
    have hn : n < 2 ^ (k + 1) := by rw [Nat.pow_succ]; omega
    apply Nat.eq_of_testBit_eq
    intro i
    rw [Nat.testBit_and, Nat.testBit_mod_two_pow]
    have h64 : 18446744073709551615 - 2 ^ k = 2 ^ 64 - (2 ^ k + 1) := by
      rw [show (2 : Nat) ^ 64 = 18446744073709551616 by decide]; omega
    rw [h64, Nat.testBit_two_pow_sub_succ (by rw [show (2 : Nat) ^ 64 = 18446744073709551616 by decide]; omega), Nat.testBit_two_pow]
    by_cases hi : i < k
    · simp [hi, show k ≠ i by omega, show i < 64 by omega]
    · by_cases he : k = i
      · subst he; simp
      · have : n.testBit i = false := Nat.testBit_lt_two_pow (Nat.lt_of_lt_of_le hn (Nat.pow_le_pow_right (by decide) (by omega)))
        simp [this]
  rw [this]
  omega
end Go.Wd

namespace Go.Proofs.Ytgfpbmjknknflaa
open Go.RowKit Go.Wd Go.Box
set_option linter.unusedVariables false
set_option maxRecDepth 3000
/-- A format's shape. -/
abbrev S (b : Bool) : Value := .agg #[.int .i64 (bt b), .int .i64 (fc b), .int .i64 (tp b), .int .i64 (lo b)]
abbrev SO (b : Bool) : Obj := .cells #[.int .i64 (bt b), .int .i64 (fc b), .int .i64 (tp b), .int .i64 (lo b)] 98 (0, 0)
abbrev noS : Value := .agg #[.int .i64 0, .int .i64 0, .int .i64 0, .int .i64 0]
theorem S32 : S false = .agg #[.int .i64 32, .int .i64 23, .int .i64 255, .int .i64 (-149)] := rfl
theorem S64 : S true = .agg #[.int .i64 64, .int .i64 52, .int .i64 2047, .int .i64 (-1074)] := rfl
theorem pow31 : sg false = 2 ^ 31 := by decide
theorem pow63 : sg true = 2 ^ 63 := by decide
theorem shape_cells {w W : World} {L : List (Nat × Obj)} (h : Bx w L W) (g : Nat) (b : Bool) (hm : (g, SO b) ∈ L) :
    W.cell? ⟨g, 0, none⟩ = some (.int .i64 (bt b)) ∧ W.cell? ⟨g, 1, none⟩ = some (.int .i64 (fc b)) ∧ W.cell? ⟨g, 2, none⟩ = some (.int .i64 (tp b)) ∧ W.cell? ⟨g, 3, none⟩ = some (.int .i64 (lo b)) :=
  ⟨h.cell g _ _ hm 0, h.cell g _ _ hm 1, h.cell g _ _ hm 2, h.cell g _ _ hm 3⟩
theorem wSignBit (b : Bool) (w : World) :
    Calls Try.prog 106 #[S b] w fun e w' => e = .returned (.int .u64 (sg b)) ∧ Below w.heap.size w w' := by
  cases b
  · rw [S32]
    go_enter Try.func106, Try.ntmps106
    go_wp2
    go_ret
    exact ⟨rfl, below_alloc _ _⟩
  · rw [S64]
    go_enter Try.func106, Try.ntmps106
    go_wp2
    go_ret
    exact ⟨rfl, below_alloc _ _⟩
theorem wFullWord (b : Bool) (w : World) :
    Calls Try.prog 104 #[S b] w fun e w' => e = .returned (.int .u64 (2 * sg b - 1)) ∧ Below w.heap.size w w' := by
  cases b
  · rw [S32]
    go_enter Try.func104, Try.ntmps104
    go_wp2
    go_ret
    exact ⟨rfl, below_alloc _ _⟩
  · rw [S64]
    go_enter Try.func104, Try.ntmps104
    go_wp2
    go_ret
    exact ⟨rfl, below_alloc _ _⟩
theorem wFracBits (b : Bool) (w : World) :
    Calls Try.prog 83 #[S b] w fun e w' => e = .returned (.int .u64 (fr b - 1)) ∧ Below w.heap.size w w' := by
  cases b
  · rw [S32]
    go_enter Try.func83, Try.ntmps83
    go_wp2
    go_ret
    exact ⟨rfl, below_alloc _ _⟩
  · rw [S64]
    go_enter Try.func83, Try.ntmps83
    go_wp2
    go_ret
    exact ⟨rfl, below_alloc _ _⟩
theorem wInfinite (b : Bool) (w : World) :
    Calls Try.prog 86 #[S b] w fun e w' => e = .returned (.int .u64 (inf b)) ∧ Below w.heap.size w w' := by
  cases b
  · rw [S32]
    go_enter Try.func86, Try.ntmps86
    go_wp2
    go_ret
    exact ⟨rfl, below_alloc _ _⟩
  · rw [S64]
    go_enter Try.func86, Try.ntmps86
    go_wp2
    go_ret
    exact ⟨rfl, below_alloc _ _⟩
theorem andNot_sg (b : Bool) {x : Int} (h : Ok b x) : bits .andNot .u64 x (sg b) = sz b x := by
  cases b
  · exact clearBit 31 pow31 (by decide) h.1 h.2
  · exact clearBit 63 pow63 (by decide) h.1 h.2
theorem and_sg (b : Bool) {x : Int} (h : Ok b x) : bits .and .u64 x (sg b) = if sg b ≤ x then sg b else 0 := by
  cases b
  · exact topBit 31 pow31 (by decide) h.1 h.2
  · exact topBit 63 pow63 (by decide) h.1 h.2
theorem and_fr (b : Bool) {x : Int} (h0 : 0 ≤ x) (h1 : x < 18446744073709551616) : bits .and .u64 x (fr b - 1) = fn b x := by
  cases b
  · exact mask 23 (by decide) (by decide) h0 h1
  · exact mask 52 (by decide) (by decide) h0 h1
theorem sg_pos (b : Bool) : 0 < sg b := by cases b <;> decide
theorem sg_le (b : Bool) : sg b ≤ 9223372036854775808 := by cases b <;> decide
theorem fr_pos (b : Bool) : 0 < fr b := by cases b <;> decide
theorem inf_lt (b : Bool) : inf b < sg b := by cases b <;> decide
theorem ok_u64 {b : Bool} {x : Int} (h : Ok b x) : x < 18446744073709551616 := by
  have := h.2
  have := sg_le b
  omega
theorem sz_bd (b : Bool) (x : Int) : 0 ≤ sz b x ∧ sz b x < sg b := ⟨Int.emod_nonneg _ (by have := sg_pos b; omega), Int.emod_lt_of_pos _ (sg_pos b)⟩
theorem wSize (b : Bool) (x : Int) (h : Ok b x) (w : World) :
    Calls Try.prog 105 #[S b, .int .u64 x] w fun e w' => e = .returned (.int .u64 (sz b x)) ∧ Below w.heap.size w w' := by
  have hb := below_alloc w (SO b)
  have HS := Hide.mk (andNot_sg b h)
  go_enter Try.func105, Try.ntmps105
  go_wp2_with fail
  refine (wSignBit b _).mono ?_
  rintro e w' ⟨rfl, h2⟩
  have h3 := below_then hb h2
  clear h2 hb
  go_wp2
  go_ret
  exact ⟨by rw [← HS.out]; rfl, h3⟩
theorem wIsNeg (b : Bool) (x : Int) (h : Ok b x) (w : World) :
    Calls Try.prog 81 #[S b, .int .u64 x] w fun e w' => e = .returned (.bool (ng b x)) ∧ Below w.heap.size w w' := by
  have hb := below_alloc w (SO b)
  have hs : (bits .and .u64 x (sg b) != 0) = ng b x := by
    rw [and_sg b h]
    have := sg_pos b
    unfold ng
    by_cases c : sg b ≤ x
    · simp [c]; omega
    · simp [c]
  have HS := Hide.mk hs
  clear hs
  go_enter Try.func81, Try.ntmps81
  go_wp2_with fail
  refine (wSignBit b _).mono ?_
  rintro e w' ⟨rfl, h2⟩
  have h3 := below_then hb h2
  clear h2 hb
  go_wp2
  go_ret
  exact ⟨by rw [← HS.out]; rfl, h3⟩
theorem wIsNaN (b : Bool) (x : Int) (h : Ok b x) (w : World) :
    Calls Try.prog 88 #[S b, .int .u64 x] w fun e w' => e = .returned (.bool (decide (inf b < sz b x))) ∧ Below w.heap.size w w' := by
  have B1 := (Bx.nil w).push (SO b)
  go_enter Try.func88, Try.ntmps88
  go_wp2_with fail
  generalize hw1 : w.alloc (SO b) = w1 at *
  clear hw1
  have HI := B1.drew
  have sh := fun W (hW : Bx w [(w.heap.size, SO b)] W) => shape_cells hW w.heap.size b (.head _)
  refine Drawn.enter (Bx w [(w.heap.size, SO b)]) (by kernel_rfl) ?_
  refine Drawn.tk (i := 0) (v := ?v0) rfl (fun W hW => ?_) HI ?_
  rotate_left
  · have ⟨e0, e1, e2, e3⟩ := sh W hW
    go_simp <;> exact rfl
  refine Drawn.tk (i := 1) (v := ?v1) rfl (fun W hW => ?_) HI ?_
  rotate_left
  · have ⟨e0, e1, e2, e3⟩ := sh W hW
    go_simp <;> exact rfl
  refine Drawn.tk (i := 3) (v := ?v2) rfl (fun W hW => ?_) HI ?_
  rotate_left
  · have ⟨e0, e1, e2, e3⟩ := sh W hW
    go_simp <;> exact rfl
  refine Drawn.one (j := 2) (by kernel_rfl) rfl (fun K hK => ?_)
  go_simp
  refine (wSize b x h _).mono ?_
  rintro e wn ⟨rfl, hn⟩
  refine hK _ _ (HI.keep hn) ?_
  clear hK K
  replace HI := HI.keep hn
  clear hn
  refine Drawn.one (j := 4) (by kernel_rfl) rfl (fun K hK => ?_)
  go_simp
  refine (wInfinite b _).mono ?_
  rintro e wn ⟨rfl, hn⟩
  refine hK _ _ (HI.keep hn) ?_
  clear hK K
  replace HI := HI.keep hn
  clear hn
  refine Drawn.tk (i := 5) (v := ?v3) rfl (fun W hW => ?_) HI ?_
  rotate_left
  · have ⟨e0, e1, e2, e3⟩ := sh W hW
    go_simp <;> exact rfl
  refine Drawn.tk (i := 6) (v := ?v4) rfl (fun W hW => ?_) HI ?_
  rotate_left
  · have ⟨e0, e1, e2, e3⟩ := sh W hW
    go_simp <;> exact rfl
  refine Drawn.done (by kernel_rfl) ?_
  try go_simp
  go_wp2
  go_ret
  exact ⟨rfl, HI.bel⟩
theorem shr_fc (b : Bool) (y : Int) (W : World) : Sem.run Try.prog (Op.shift .shr .u64 y .i64 (fc b)) W = .ok (.int .u64 (y / fr b)) W := by
  cases b
  · rw [show fc false = 23 from rfl]
    go_simp
    rfl
  · rw [show fc true = 52 from rfl]
    go_simp
    rfl
theorem shl_fc (b : Bool) (y : Int) (W : World) : Sem.run Try.prog (Op.shift .shl .u64 y .i64 (fc b)) W = .ok (.int .u64 (y * fr b % 18446744073709551616)) W := by
  cases b
  · rw [show fc false = 23 from rfl]
    go_simp
    rw [IntKind.wrap_u64]
    rfl
  · rw [show fc true = 52 from rfl]
    go_simp
    rw [IntKind.wrap_u64]
    rfl
theorem shl_half (b : Bool) (W : World) : Sem.run Try.prog (Op.shift .shl .u64 1 .i64 (fc b - 1)) W = .ok (.int .u64 (fr b / 2)) W := by
  cases b
  · rw [show fc false - 1 = 22 from rfl]
    go_simp
    rfl
  · rw [show fc true - 1 = 51 from rfl]
    go_simp
    rfl
theorem or_nan (b : Bool) : bits .or .u64 (inf b) (fr b / 2) = nan b := by cases b <;> rfl
theorem fd_bd (b : Bool) (x : Int) : 0 ≤ fd b x ∧ fd b x ≤ 2047 := by
  have h := sz_bd b x
  unfold sz at h
  cases b <;> simp only [fd, sg, fr] at * <;> omega
theorem wField (b : Bool) (x : Int) (h : Ok b x) (w : World) :
    Calls Try.prog 82 #[S b, .int .u64 x] w fun e w' => e = .returned (.int .i64 (fd b x)) ∧ Below w.heap.size w w' := by
  have B1 := (Bx.nil w).push (SO b)
  go_enter Try.func82, Try.ntmps82
  go_wp2_with fail
  generalize hw1 : w.alloc (SO b) = w1 at *
  clear hw1
  have HI := B1.drew
  have sh := fun W (hW : Bx w [(w.heap.size, SO b)] W) => shape_cells hW w.heap.size b (.head _)
  refine Drawn.enter (Bx w [(w.heap.size, SO b)]) (by kernel_rfl) ?_
  refine Drawn.tk (i := 0) (v := ?v5) rfl (fun W hW => ?_) HI ?_
  rotate_left
  · have ⟨e0, e1, e2, e3⟩ := sh W hW
    go_simp <;> exact rfl
  refine Drawn.tk (i := 1) (v := ?v6) rfl (fun W hW => ?_) HI ?_
  rotate_left
  · have ⟨e0, e1, e2, e3⟩ := sh W hW
    go_simp <;> exact rfl
  refine Drawn.tk (i := 3) (v := ?v7) rfl (fun W hW => ?_) HI ?_
  rotate_left
  · have ⟨e0, e1, e2, e3⟩ := sh W hW
    go_simp <;> exact rfl
  refine Drawn.tk (i := 4) (v := ?v8) rfl (fun W hW => ?_) HI ?_
  rotate_left
  · have ⟨e0, e1, e2, e3⟩ := sh W hW
    go_simp <;> exact rfl
  refine Drawn.one (j := 2) (by kernel_rfl) rfl (fun K hK => ?_)
  go_simp
  refine (wSize b x h _).mono ?_
  rintro e wn ⟨rfl, hn⟩
  refine hK _ _ (HI.keep hn) ?_
  clear hK K
  replace HI := HI.keep hn
  clear hn
  refine Drawn.tk (i := 5) (v := .int .u64 (fd b x)) rfl (fun W hW => ?_) HI ?_
  · have ⟨e0, e1, e2, e3⟩ := sh W hW
    go_simp <;> (rw [shr_fc]; rfl)
  refine Drawn.tk (i := 6) (v := .int .i64 (fd b x)) rfl (fun W hW => ?_) HI ?_
  · have ⟨e0, e1, e2, e3⟩ := sh W hW
    go_simp <;> (have := fd_bd b x; exact wrap_ok (by omega) (by omega))
  refine Drawn.tk (i := 7) (v := ?v9) rfl (fun W hW => ?_) HI ?_
  rotate_left
  · have ⟨e0, e1, e2, e3⟩ := sh W hW
    go_simp <;> exact rfl
  refine Drawn.done (by kernel_rfl) ?_
  try go_simp
  go_wp2
  go_ret
  exact ⟨rfl, HI.bel⟩
theorem wNone (b : Bool) (w : World) :
    Calls Try.prog 68 #[S b] w fun e w' => e = .returned (.int .u64 (nan b)) ∧ Below w.heap.size w w' := by
  have B1 := (Bx.nil w).push (SO b)
  go_enter Try.func68, Try.ntmps68
  go_wp2_with fail
  generalize hw1 : w.alloc (SO b) = w1 at *
  clear hw1
  have HI := B1.drew
  have sh := fun W (hW : Bx w [(w.heap.size, SO b)] W) => shape_cells hW w.heap.size b (.head _)
  refine Drawn.enter (Bx w [(w.heap.size, SO b)]) (by kernel_rfl) ?_
  refine Drawn.tk (i := 0) (v := ?v10) rfl (fun W hW => ?_) HI ?_
  rotate_left
  · have ⟨e0, e1, e2, e3⟩ := sh W hW
    go_simp <;> exact rfl
  refine Drawn.tk (i := 2) (v := ?v11) rfl (fun W hW => ?_) HI ?_
  rotate_left
  · have ⟨e0, e1, e2, e3⟩ := sh W hW
    go_simp <;> exact rfl
  refine Drawn.tk (i := 3) (v := ?v12) rfl (fun W hW => ?_) HI ?_
  rotate_left
  · have ⟨e0, e1, e2, e3⟩ := sh W hW
    go_simp <;> exact rfl
  refine Drawn.tk (i := 4) (v := .int .i64 (fc b - 1)) rfl (fun W hW => ?_) HI ?_
  · have ⟨e0, e1, e2, e3⟩ := sh W hW
    go_simp <;> (cases b <;> rfl)
  refine Drawn.tk (i := 5) (v := .int .u64 (fr b / 2)) rfl (fun W hW => ?_) HI ?_
  · have ⟨e0, e1, e2, e3⟩ := sh W hW
    go_simp <;> (rw [shl_half]; rfl)
  refine Drawn.one (j := 1) (by kernel_rfl) rfl (fun K hK => ?_)
  go_simp
  refine (wInfinite b _).mono ?_
  rintro e wn ⟨rfl, hn⟩
  refine hK _ _ (HI.keep hn) ?_
  clear hK K
  replace HI := HI.keep hn
  clear hn
  refine Drawn.tk (i := 6) (v := .int .u64 (nan b)) rfl (fun W hW => ?_) HI ?_
  · have ⟨e0, e1, e2, e3⟩ := sh W hW
    go_simp <;> (exact or_nan b)
  refine Drawn.tk (i := 7) (v := ?v13) rfl (fun W hW => ?_) HI ?_
  rotate_left
  · have ⟨e0, e1, e2, e3⟩ := sh W hW
    go_simp <;> exact rfl
  refine Drawn.done (by kernel_rfl) ?_
  try go_simp
  go_wp2
  go_ret
  exact ⟨rfl, HI.bel⟩
theorem Try.sizeShape : (Try.prog.info? 98).map (·.size) = some 4 := by kernel_rfl
theorem results_S2 {fn : Func} {p u : Tmp} (h : fn.results = #[.cell p 98, .tmp u]) (tmps : Array Value) (w : World) (g : Nat) (cs : Array Value) (hp : tmps.getD p undef = .pointer (some ⟨g, 0, none⟩)) (hg : w.heap[g]? = some (.cells cs 98 (0, 0))) (hs : cs.size = 4) :
    (results fn tmps).run Try.prog w = .ok (.tuple #[.agg cs, tmps.getD u undef]) w := by
  rw [results_cell_tmp h, hp]
  simp [asAddr, run_loadVar_row w g 98 98 cs (0, 0) _ hg Try.underlying98 rfl (by rw [Try.sizeShape, hs])]
theorem wShapeOf (b : Bool) (w : World) :
    Calls Try.prog 67 #[.int .u8 (fm b)] w fun e w' => e = .returned (.tuple #[S b, .int .i64 0]) ∧ Below w.heap.size w w' := by
  cases b
  · rw [show fm false = 1 from rfl, S32]
    go_enter Try.func67, Try.ntmps67
    go_wp2
    have B1 := (Bx.nil w).push (.cells #[.int .i64 32, .int .i64 23, .int .i64 255, .int .i64 (-149)] 98 (0, 0))
    refine bodyPost_ret (results_S2 rfl _ _ w.heap.size _ rfl B1.head rfl) rfl ?_
    exact ⟨rfl, B1.bel⟩
  · rw [show fm true = 2 from rfl, S64]
    go_enter Try.func67, Try.ntmps67
    go_wp2
    have B1 := (Bx.nil w).push (.cells #[.int .i64 64, .int .i64 52, .int .i64 2047, .int .i64 (-1074)] 98 (0, 0))
    refine bodyPost_ret (results_S2 rfl _ _ w.heap.size _ rfl B1.head rfl) rfl ?_
    exact ⟨rfl, B1.bel⟩
/-- No format. -/
def Bad (f : Int) : Prop := f ≠ 1 ∧ f ≠ 2
theorem wShapeOf_bad (f : Int) (h : Bad f) (w : World) :
    Calls Try.prog 67 #[.int .u8 f] w fun e w' => e = .returned (.tuple #[noS, .int .i64 4]) ∧ Below w.heap.size w w' := by
  have h1 : (f == 1) = false := beq_eq_false_iff_ne.2 h.1
  have h2 : (f == 2) = false := beq_eq_false_iff_ne.2 h.2
  go_enter Try.func67, Try.ntmps67
  go_wp2
  have B1 := (Bx.nil w).push (.cells #[.int .i64 0, .int .i64 0, .int .i64 0, .int .i64 0] 98 (0, 0))
  refine bodyPost_ret (results_S2 rfl _ _ w.heap.size _ rfl B1.head rfl) rfl ?_
  exact ⟨rfl, B1.bel⟩
end Go.Proofs.Ytgfpbmjknknflaa

namespace Go.Proofs.Ytgfpbmjknknflaa
open Go.RowKit Go.Wd Go.Box
set_option linter.unusedVariables false
set_option maxRecDepth 3000
abbrev ZO : Obj := .cells #[.int .i64 0, .int .i64 0, .int .i64 0, .int .i64 0] 98 (0, 0)
/-- The cells of a block of cells4, and that they may be written. -/
theorem cells4 {w W : World} {L : List (Nat × Obj)} (h : Bx w L W) (g : Nat) (a b c d : Value) (t : TypeId) (hm : (g, Obj.cells #[a, b, c, d] t (0, 0)) ∈ L) :
    (W.cell? ⟨g, 0, none⟩ = some a ∧ W.cell? ⟨g, 1, none⟩ = some b ∧ W.cell? ⟨g, 2, none⟩ = some c ∧ W.cell? ⟨g, 3, none⟩ = some d) ∧ W.frozen? ⟨g, 0, none⟩ = false ∧ W.frozen? ⟨g, 1, none⟩ = false ∧ W.frozen? ⟨g, 2, none⟩ = false ∧ W.frozen? ⟨g, 3, none⟩ = false :=
  ⟨⟨h.cell g _ _ hm 0, h.cell g _ _ hm 1, h.cell g _ _ hm 2, h.cell g _ _ hm 3⟩, h.frozen g _ _ hm 0, h.frozen g _ _ hm 1, h.frozen g _ _ hm 2, h.frozen g _ _ hm 3⟩
theorem cells3 {w W : World} {L : List (Nat × Obj)} (h : Bx w L W) (g : Nat) (a b c : Value) (t : TypeId) (hm : (g, Obj.cells #[a, b, c] t (0, 0)) ∈ L) :
    (W.cell? ⟨g, 0, none⟩ = some a ∧ W.cell? ⟨g, 1, none⟩ = some b ∧ W.cell? ⟨g, 2, none⟩ = some c) ∧ W.frozen? ⟨g, 0, none⟩ = false ∧ W.frozen? ⟨g, 1, none⟩ = false ∧ W.frozen? ⟨g, 2, none⟩ = false :=
  ⟨⟨h.cell g _ _ hm 0, h.cell g _ _ hm 1, h.cell g _ _ hm 2⟩, h.frozen g _ _ hm 0, h.frozen g _ _ hm 1, h.frozen g _ _ hm 2⟩
theorem wGoodShape (b : Bool) (x : Int) (h : Ok b x) (w : World) :
    Calls Try.prog 79 #[.int .u8 (fm b), .int .u64 x] w fun e w' => e = .returned (.tuple #[S b, .int .i64 0]) ∧ Below w.heap.size w w' := by
  have B1 := (Bx.nil w).push ZO
  have hx : x ≤ 2 * sg b - 1 := by have := h.2; omega
  go_enter Try.func79, Try.ntmps79
  go_wp2_with fail
  refine (wShapeOf b _).mono ?_
  rintro e w2 ⟨rfl, h2⟩
  have B2 := (B1.keep h2).push (SO b)
  have hlt : w.heap.size < w2.heap.size := (B1.keep h2).lt (.head _)
  go_wp2_with fail
  refine (wFullWord b _).mono ?_
  rintro e w3 ⟨rfl, h3⟩
  have B3 := B2.keep h3
  obtain ⟨⟨e0, e1, e2, e3⟩, _⟩ := cells4 B3 w2.heap.size _ _ _ _ _ (.head _)
  obtain ⟨⟨f0, f1, f2, f3⟩, r0, r1, r2, r3⟩ := cells4 B3 w.heap.size _ _ _ _ _ (.tail _ (.head _))
  clear h2 h3 B1 B2
  go_wp2
  have B4 := (B3.sub (L' := [(w.heap.size, ZO), (w2.heap.size, SO b)]) (by simp)).fill4 (Nat.le_refl _) (by simp; omega) (.int .i64 (bt b)) (.int .i64 (fc b)) (.int .i64 (tp b)) (.int .i64 (lo b))
  refine bodyPost_ret (results_S2 rfl _ _ w.heap.size _ rfl B4.head rfl) rfl ?_
  exact ⟨rfl, B4.bel⟩
theorem wGoodShape_long (b : Bool) (x : Int) (h : 2 * sg b ≤ x) (w : World) :
    Calls Try.prog 79 #[.int .u8 (fm b), .int .u64 x] w fun e w' => e = .returned (.tuple #[noS, .int .i64 6]) ∧ Below w.heap.size w w' := by
  have B1 := (Bx.nil w).push ZO
  have hx : 2 * sg b - 1 < x := by omega
  go_enter Try.func79, Try.ntmps79
  go_wp2_with fail
  refine (wShapeOf b _).mono ?_
  rintro e w2 ⟨rfl, h2⟩
  have B2 := (B1.keep h2).push (SO b)
  have hlt : w.heap.size < w2.heap.size := (B1.keep h2).lt (.head _)
  go_wp2_with fail
  refine (wFullWord b _).mono ?_
  rintro e w3 ⟨rfl, h3⟩
  have B3 := B2.keep h3
  obtain ⟨⟨f0, f1, f2, f3⟩, r0, r1, r2, r3⟩ := cells4 B3 w.heap.size _ _ _ _ _ (.tail _ (.head _))
  clear h2 h3 B1 B2
  go_wp2
  have B4 := (B3.sub (L' := [(w.heap.size, ZO), (w2.heap.size, SO b)]) (by simp)).fill4 (Nat.le_refl _) (by simp; omega) (.int .i64 0) (.int .i64 0) (.int .i64 0) (.int .i64 0)
  refine bodyPost_ret (results_S2 rfl _ _ w.heap.size _ rfl B4.head rfl) rfl ?_
  exact ⟨rfl, B4.bel⟩
theorem wGoodShape_bad (f x : Int) (h : Bad f) (w : World) :
    Calls Try.prog 79 #[.int .u8 f, .int .u64 x] w fun e w' => e = .returned (.tuple #[noS, .int .i64 4]) ∧ Below w.heap.size w w' := by
  have B1 := (Bx.nil w).push ZO
  go_enter Try.func79, Try.ntmps79
  go_wp2_with fail
  refine (wShapeOf_bad f h _).mono ?_
  rintro e w2 ⟨rfl, h2⟩
  have B2 := B1.keep h2
  have hlt : w.heap.size < w2.heap.size := B2.lt (.head _)
  have B4 := (B2.fill4 (Nat.le_refl _) (by simp) (.int .i64 0) (.int .i64 0) (.int .i64 0) (.int .i64 0)).push ZO
  obtain ⟨⟨f0, f1, f2, f3⟩, r0, r1, r2, r3⟩ := cells4 B2 w.heap.size _ _ _ _ _ (.head _)
  clear h2 B1
  go_wp2
  refine bodyPost_ret (results_S2 rfl _ _ w.heap.size _ rfl B4.tail.head rfl) rfl ?_
  exact ⟨rfl, B4.bel⟩
/-- The word is not good, for the error c. -/
def GE (f x c : Int) : Prop := (Bad f ∧ c = 4) ∨ (∃ b, f = fm b ∧ 2 * sg b ≤ x ∧ c = 6)
theorem GE.ne {f x c : Int} (h : GE f x c) : (c == 0) = false := by
  rcases h with ⟨_, rfl⟩ | ⟨_, _, _, rfl⟩ <;> rfl
theorem GE.call {f x c : Int} (h : GE f x c) (w : World) :
    Calls Try.prog 79 #[.int .u8 f, .int .u64 x] w fun e w' => e = .returned (.tuple #[noS, .int .i64 c]) ∧ Below w.heap.size w w' := by
  rcases h with ⟨h, rfl⟩ | ⟨b, rfl, h, rfl⟩
  · exact wGoodShape_bad f x h w
  · exact wGoodShape_long b x h w
abbrev FV (n : Bool) (e f : Int) : Value := .agg #[.bool n, .int .i64 e, .int .u64 f]
abbrev FO (n : Bool) (e f : Int) : Obj := .cells #[.bool n, .int .i64 e, .int .u64 f] 70 (0, 0)
theorem Try.sizeFields : (Try.prog.info? 70).map (·.size) = some 3 := by kernel_rfl
theorem results_F2 {fn : Func} {p u : Tmp} (h : fn.results = #[.cell p 70, .tmp u]) (tmps : Array Value) (w : World) (g : Nat) (cs : Array Value) (hp : tmps.getD p undef = .pointer (some ⟨g, 0, none⟩)) (hg : w.heap[g]? = some (.cells cs 70 (0, 0))) (hs : cs.size = 3) :
    (results fn tmps).run Try.prog w = .ok (.tuple #[.agg cs, tmps.getD u undef]) w := by
  rw [results_cell_tmp h, hp]
  simp [asAddr, run_loadVar_row w g 70 70 cs (0, 0) _ hg Try.underlying70 rfl (by rw [Try.sizeFields, hs])]
theorem results_F1 {fn : Func} {p : Tmp} (h : fn.results = #[.cell p 70]) (tmps : Array Value) (w : World) (g : Nat) (cs : Array Value) (hp : tmps.getD p undef = .pointer (some ⟨g, 0, none⟩)) (hg : w.heap[g]? = some (.cells cs 70 (0, 0))) (hs : cs.size = 3) :
    (results fn tmps).run Try.prog w = .ok (.agg cs) w := by
  exact results_cell_row h tmps w g 70 cs (0, 0) _ hp hg Try.underlying70 rfl (by rw [Try.sizeFields, hs])
set_option maxHeartbeats 1000000 in
theorem wSplit (b : Bool) (x : Int) (h : Ok b x) (w : World) :
    Calls Try.prog 63 #[.int .u8 (fm b), .int .u64 x] w fun e w' => e = .returned (.tuple #[FV (ng b x) (fd b x) (fn b x), .int .i64 0]) ∧ Below w.heap.size w w' := by
  have B1 := (Bx.nil w).push (FO false 0 0)
  go_enter Try.func63, Try.ntmps63
  go_wp2_with fail
  refine (wGoodShape b x h _).mono ?_
  rintro e w2 ⟨rfl, h2⟩
  have HF := (B1.keep h2).push (SO b)
  have hlt : w.heap.size < w2.heap.size := (B1.keep h2).lt (.head _)
  clear h2 B1
  go_wp2_with fail
  generalize hw3 : w2.alloc (SO b) = w3 at *
  clear hw3
  replace HF := HF.drew
  have HI := HF.sub (L' := [(w2.heap.size, SO b)]) (by simp)
  have sh := fun W (hW : Bx w [(w2.heap.size, SO b)] W) => shape_cells hW w2.heap.size b (.head _)
  refine Drawn.enter (Bx w [(w2.heap.size, SO b)]) (by kernel_rfl) ?_
  refine Drawn.tk (i := 0) (v := ?v14) rfl (fun W hW => ?_) HI ?_
  rotate_left
  · have ⟨e0, e1, e2, e3⟩ := sh W hW
    go_simp <;> exact rfl
  refine Drawn.tk (i := 1) (v := ?v15) rfl (fun W hW => ?_) HI ?_
  rotate_left
  · have ⟨e0, e1, e2, e3⟩ := sh W hW
    go_simp <;> exact rfl
  refine Drawn.tk (i := 3) (v := ?v16) rfl (fun W hW => ?_) HI ?_
  rotate_left
  · have ⟨e0, e1, e2, e3⟩ := sh W hW
    go_simp <;> exact rfl
  refine Drawn.tk (i := 4) (v := ?v17) rfl (fun W hW => ?_) HI ?_
  rotate_left
  · have ⟨e0, e1, e2, e3⟩ := sh W hW
    go_simp <;> exact rfl
  refine Drawn.tk (i := 6) (v := ?v18) rfl (fun W hW => ?_) HI ?_
  rotate_left
  · have ⟨e0, e1, e2, e3⟩ := sh W hW
    go_simp <;> exact rfl
  refine Drawn.tk (i := 7) (v := ?v19) rfl (fun W hW => ?_) HI ?_
  rotate_left
  · have ⟨e0, e1, e2, e3⟩ := sh W hW
    go_simp <;> exact rfl
  refine Drawn.one (j := 2) (by kernel_rfl) rfl (fun K hK => ?_)
  go_simp
  refine (wIsNeg b x h _).mono ?_
  rintro e wn ⟨rfl, hn⟩
  refine hK _ _ (HI.keep hn) ?_
  clear hK K
  replace HI := HI.keep hn
  replace HF := HF.keep hn
  clear hn
  refine Drawn.one (j := 5) (by kernel_rfl) rfl (fun K hK => ?_)
  go_simp
  refine (wField b x h _).mono ?_
  rintro e wn ⟨rfl, hn⟩
  refine hK _ _ (HI.keep hn) ?_
  clear hK K
  replace HI := HI.keep hn
  replace HF := HF.keep hn
  clear hn
  refine Drawn.one (j := 8) (by kernel_rfl) rfl (fun K hK => ?_)
  go_simp
  refine (wFracBits b _).mono ?_
  rintro e wn ⟨rfl, hn⟩
  refine hK _ _ (HI.keep hn) ?_
  clear hK K
  replace HI := HI.keep hn
  replace HF := HF.keep hn
  clear hn
  refine Drawn.tk (i := 9) (v := .int .u64 (fn b x)) rfl (fun W hW => ?_) HI ?_
  · have ⟨e0, e1, e2, e3⟩ := sh W hW
    go_simp <;> (exact and_fr b h.1 (ok_u64 h))
  refine Drawn.tk (i := 10) (v := ?v20) rfl (fun W hW => ?_) HI ?_
  rotate_left
  · have ⟨e0, e1, e2, e3⟩ := sh W hW
    go_simp <;> exact rfl
  obtain ⟨⟨f0, f1, f2⟩, r0, r1, r2⟩ := cells3 HF w.heap.size _ _ _ _ (.tail _ (.head _))
  have HF2 := (HF.sub (L' := [(w.heap.size, FO false 0 0), (w2.heap.size, SO b)]) (by simp)).fill3 (Nat.le_refl _) (by simp; omega) (.bool (ng b x)) (.int .i64 (fd b x)) (.int .u64 (fn b x))
  refine Drawn.one (j := 11) (by kernel_rfl) rfl (fun K hK => ?_)
  go_simp
  replace HI := HF2.sub (L' := [(w2.heap.size, SO b)]) (by simp)
  refine hK _ _ HI ?_
  clear hK K f0 f1 f2 r0 r1 r2
  refine Drawn.tk (i := 12) (v := ?v21) rfl (fun W hW => ?_) HI ?_
  rotate_left
  · have ⟨e0, e1, e2, e3⟩ := sh W hW
    go_simp <;> exact rfl
  refine Drawn.done (by kernel_rfl) ?_
  try go_simp
  go_wp2
  refine bodyPost_ret (results_F2 rfl _ _ w.heap.size _ rfl HF2.head rfl) rfl ?_
  exact ⟨rfl, HF2.bel⟩
end Go.Proofs.Ytgfpbmjknknflaa
