import Derived.Test.YtcjmamlffbhnlaaW11
namespace Go.Proofs.Ytcjmamlffbhnlaa
open Go.RowKit
set_option linter.unusedVariables false
/-- Not below nought, and of at most n digits. -/
def Lt (n : Nat) (x : Int) : Prop := 0 ≤ x ∧ x < 4294967296 ^ n
theorem Lt.of {n : Nat} {zs : List Int} (h : Nt.Rng zs) (hl : zs.length ≤ n) : Lt n (Nt.val zs) := by
  have h1 := Nt.val_bd h
  have h2 := Nt.pw_mono hl
  exact ⟨h1.1, by omega⟩
theorem Lt.mono {n m : Nat} {x : Int} (h : Lt n x) (hl : n ≤ m) : Lt m x := ⟨h.1, by have := Nt.pw_mono hl; have := h.2; omega⟩
theorem Lt.add {n : Nat} {x y : Int} (h : Lt n x) (k : Lt n y) : Lt (n + 1) (x + y) := by
  obtain ⟨h1, h2⟩ := h
  obtain ⟨k1, k2⟩ := k
  have := Nt.pw_succ n
  have := Nt.pw_pos n
  exact ⟨by omega, by omega⟩
theorem Lt.mul {n m : Nat} {x y : Int} (h : Lt n x) (k : Lt m y) : Lt (n + m) (x * y) := by
  obtain ⟨h1, h2⟩ := h
  obtain ⟨k1, k2⟩ := k
  refine ⟨Int.mul_nonneg h1 k1, ?_⟩
  rw [Nt.pw_add]
  have p := Nt.pw_pos m
  have q1 : x * y ≤ x * 4294967296 ^ m := Int.mul_le_mul_of_nonneg_left (by omega) h1
  have q2 : x * 4294967296 ^ m < 4294967296 ^ n * 4294967296 ^ m := Int.mul_lt_mul_of_pos_right h2 p
  omega

/-- Numbers that lie in memory. -/
structure Live (w : World) (l : List (Option Addr × List Int)) : Prop where
  all : ∀ p ∈ l, Lie w p.1 p.2
theorem Live.push {w w' : World} {l : List (Option Addr × List Int)} {a : Option Addr} {zs : List Int} (h : Live w l) (hl : Lie w' a zs) (hb : Below w.heap.size w w') : Live w' ((a, zs) :: l) := by
  refine ⟨fun p hp => ?_⟩
  rcases List.mem_cons.1 hp with rfl | hp
  · exact hl
  · exact (h.all p hp).below hb (Nat.le_refl _)
theorem Live.keep {w w' : World} {l : List (Option Addr × List Int)} (h : Live w l) (hb : Below w.heap.size w w') : Live w' l := ⟨fun p hp => (h.all p hp).below hb (Nat.le_refl _)⟩

/-- A new number, x. -/
structure IsNum (w w' : World) (a : Option Addr) (zs : List Int) (x : Int) : Prop where
  can : Nt.Can zs
  len : zs.length ≤ 4096
  val : Nt.val zs = x
  lie : Lie w' a zs
  bel : Below w.heap.size w w'
/-- What is known of a number. -/
structure Good (zs : List Int) (x : Int) : Prop where
  can : Nt.Can zs
  len : zs.length ≤ 4096
  val : Nt.val zs = x
theorem IsNum.good {w w' : World} {a : Option Addr} {zs : List Int} {x : Int} (h : IsNum w w' a zs x) : Good zs x := ⟨h.can, h.len, h.val⟩
theorem Good.same {z y : List Int} {u v : Int} (h : Good z u) (k : Good y v) (e : u = v) : z = y := Nt.can_unique h.can k.can (by rw [h.val, k.val, e])
theorem Good.may {z : List Int} {u : Int} (h : Good z u) : mayB z = true := can_may h.can h.len
theorem Good.lt {z : List Int} {u : Int} (h : Good z u) : Lt 4096 u := by rw [← h.val]; exact Lt.of h.can.1 h.len

theorem add_fit (a b : Option Addr) (ca cb : Nat) (za zb : List Int) (w : World) {x y : Int} (ha : Lie w a za) (hb : Lie w b zb) (ga : Good za x) (gb : Good zb y) (hf : Lt 4096 (x + y)) :
    Calls Try.prog 20 #[.slice a za.length ca, .slice b zb.length cb] w fun e w' => ∃ zs a' c, e = .returned (.tuple #[.slice a' zs.length c, .int .i64 0]) ∧ IsNum w w' a' zs (x + y) ∧ Own w.heap.size w' (.slice a' zs.length c) zs := by
  refine (add20 a b ca cb za zb w ha hb ga.can.1 gb.can.1 ga.may gb.may).mono ?_
  intro e w' h
  obtain ⟨zs, h1, h2, h3, h4, a', c, h5, h6, h7⟩ := h.fits (by rw [ga.val, gb.val]; exact hf.2)
  exact ⟨zs, a', c, h5, ⟨h1, h4, by rw [h2, ga.val, gb.val], h7, h3⟩, h6⟩
theorem mul_fit (a b : Option Addr) (ca cb : Nat) (za zb : List Int) (w : World) {x y : Int} (ha : Lie w a za) (hb : Lie w b zb) (ga : Good za x) (gb : Good zb y) (hf : Lt 4096 (x * y)) :
    Calls Try.prog 26 #[.slice a za.length ca, .slice b zb.length cb] w fun e w' => ∃ zs a' c, e = .returned (.tuple #[.slice a' zs.length c, .int .i64 0]) ∧ IsNum w w' a' zs (x * y) ∧ Own w.heap.size w' (.slice a' zs.length c) zs := by
  refine (mul26 a b ca cb za zb w ha hb ga.can.1 gb.can.1 ga.may gb.may).mono ?_
  intro e w' h
  obtain ⟨zs, h1, h2, h3, h4, a', c, h5, h6, h7⟩ := h.fits (by rw [ga.val, gb.val]; exact hf.2)
  exact ⟨zs, a', c, h5, ⟨h1, h4, by rw [h2, ga.val, gb.val], h7, h3⟩, h6⟩
theorem sub_fit (a b : Option Addr) (ca cb : Nat) (za zb : List Int) (w : World) {x y : Int} (ha : Lie w a za) (hb : Lie w b zb) (ga : Good za x) (gb : Good zb y) (hf : y ≤ x) :
    Calls Try.prog 21 #[.slice a za.length ca, .slice b zb.length cb] w fun e w' => ∃ zs a' c, e = .returned (.tuple #[.slice a' zs.length c, .int .i64 0]) ∧ IsNum w w' a' zs (x - y) ∧ Own w.heap.size w' (.slice a' zs.length c) zs := by
  refine (sub21 a b ca cb za zb w ha hb ga.can.1 gb.can.1 ga.may gb.may (by rw [ga.val, gb.val]; exact hf)).mono ?_
  rintro e w' ⟨v, zs, rfl, h2, h3, h4, h5⟩
  obtain ⟨a', c, rfl, _, _, hl⟩ := h2.lie
  rw [ga.val, gb.val] at h4
  refine ⟨zs, a', c, rfl, ⟨h3, ?_, h4, hl, h5⟩, h2⟩
  refine (Nt.can_len h3 4096).1 ?_
  have := ga.lt.2
  have := gb.lt.1
  omega
theorem same_yes (a b : Option Addr) (ca cb : Nat) (za zb : List Int) (w : World) (ha : Lie w a za) (hb : Lie w b zb) (hl : za.length ≤ 4096) (he : za = zb) :
    Calls Try.prog 15 #[.slice a za.length ca, .slice b zb.length cb] w fun e w' => e = .returned (.bool true) ∧ Below w.heap.size w w' := by
  refine (same15 a b ca cb za zb w ha hb (by unfold maxLen; omega)).mono ?_
  rintro e w' ⟨rfl, h⟩
  exact ⟨by simp [he], h⟩
theorem may_yes (a : Option Addr) (cap : Nat) (zs : List Int) (w : World) (hl : Lie w a zs) (hm : zs.length ≤ maxLen) (h : mayB zs = true) :
    Calls Try.prog 13 #[.slice a zs.length cap] w fun e w' => e = .returned (.bool true) ∧ w = w' := by
  rw [← h]; exact may13 a cap zs w hl hm
theorem may_no (a : Option Addr) (cap : Nat) (zs : List Int) (w : World) (hl : Lie w a zs) (hm : zs.length ≤ maxLen) (h : mayB zs = false) :
    Calls Try.prog 13 #[.slice a zs.length cap] w fun e w' => e = .returned (.bool false) ∧ w = w' := by
  rw [← h]; exact may13 a cap zs w hl hm
theorem long_yes (a : Option Addr) (n cap : Nat) (m : Int) (w : World) (h : m < (n : Int)) :
    Calls Try.prog 10 #[.slice a n cap, .int .i64 m] w fun e w' => e = .returned (.bool true) ∧ w = w' := by
  have := long10 a n cap m w
  simpa [h] using this
theorem long_no (a : Option Addr) (n cap : Nat) (m : Int) (w : World) (h : (n : Int) ≤ m) :
    Calls Try.prog 10 #[.slice a n cap, .int .i64 m] w fun e w' => e = .returned (.bool false) ∧ w = w' := by
  have := long10 a n cap m w
  have h' : ¬ m < (n : Int) := by omega
  simpa [h'] using this
end Go.Proofs.Ytcjmamlffbhnlaa
