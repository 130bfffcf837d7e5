import Derived.Test.YtdnghibkagcbcaaGreatDoorRoundOrderPart11
import Derived.Test.YtdnghibkagcbcaaGreatDoorRoundOrderPart8
import Derived.Test.YtdnghibkagcbcaaGreatDoorRoundOrderPart7
import Derived.Test.YtdnghibkagcbcaaGreatDoorRoundOrderPart6
import Derived.Test.YtdnghibkagcbcaaGreatDoorRoundOrderPart10
namespace Go.Proofs.YtdnghibkagcbcaaGreatDoor
open Go.Wd
set_option linter.unusedVariables false
/-- A format's precision, and the power of two below which its finite numbers lie. -/
def pr (b : Bool) : Nat := match b with | true => 53 | false => 24
def hi (b : Bool) : Int := match b with | true => 1024 | false => 128
/-- Where a number lies between two multiples of a unit, h counting half units, g telling whether there is more: 0 on the nearer one, 1 below half way, 2 half way, 3 beyond. -/
def plc (h : Int) (g : Bool) : Int := 2 * (h % 2) + (if g then 1 else 0)
/-- Is the outer one of two neighbours taken? -/
def outw (m : Int) (n odd : Bool) (p : Int) : Bool :=
  if m = 1 then (if p = 2 then odd else decide (2 ≤ p)) else if m = 2 then decide (2 ≤ p) else if m = 4 then !n else if m = 5 then n else false
/-- The units that are taken. -/
def tk (m : Int) (n : Bool) (h : Int) (g : Bool) : Int :=
  if plc h g = 0 then h / 2 else if outw m n (decide (h / 2 % 2 = 1)) (plc h g) then h / 2 + 1 else h / 2
def ovw (b : Bool) (m : Int) (n : Bool) : Int := sd b (if outw m n false 3 then inf b else inf b - 1) n
/-- The unit of a number with the top T. -/
def ulp (b : Bool) (T : Int) : Int := max (T - pr b) (lo b)
/-- The word and the flags to which a number is rounded: h, g in half units of its unit, i, j in half units of the finer one. -/
def rdW (b : Bool) (m : Int) (n : Bool) (T h : Int) (g : Bool) : Int :=
  if 2 ^ (hi b - ulp b T).toNat ≤ tk m n h g then ovw b m n else sd b ((ulp b T - lo b) * fr b + tk m n h g) n
def rdX (b : Bool) (m : Int) (n : Bool) (T h : Int) (g : Bool) (i : Int) (j : Bool) : Int :=
  if 2 ^ (hi b - ulp b T).toNat ≤ tk m n h g then 20 else if plc h g = 0 then 0 else if tk m n i j < 2 ^ (lo b + pr b - 1 - (T - pr b)).toNat then 24 else 16
def gx (S : Int) (d : Nat) (q : Bool) : Bool := decide (S % 2 ^ d ≠ 0) || q
theorem plc_cases (h : Int) (g : Bool) : (plc h g = 0 ∧ h % 2 = 0 ∧ g = false) ∨ (plc h g = 1 ∧ h % 2 = 0 ∧ g = true) ∨ (plc h g = 2 ∧ h % 2 = 1 ∧ g = false) ∨ (plc h g = 3 ∧ h % 2 = 1 ∧ g = true) := by
  unfold plc
  rcases (show h % 2 = 0 ∨ h % 2 = 1 by omega) with e | e <;> cases g <;> simp [e]
theorem tk_bd (m : Int) (n : Bool) (h : Int) (g : Bool) : h / 2 ≤ tk m n h g ∧ tk m n h g ≤ h / 2 + 1 := by
  unfold tk
  split
  · omega
  · split <;> omega
theorem bl_lt_iff {u : Int} {L : Nat} (h : BitLen u L) (k : Int) (hk : 0 ≤ k ∨ 0 < u) : (k < L ↔ 2 ^ k.toNat ≤ u) := by
  constructor
  · intro c
    rcases h with ⟨rfl, rfl⟩ | ⟨h0, h⟩
    · omega
    · by_cases k0 : 0 ≤ k
      · obtain ⟨j, rfl⟩ : ∃ j : Nat, L = j + 1 := ⟨L - 1, by omega⟩
        have h1 := p2le (show k.toNat + 1 ≤ j + 1 by omega)
        have h2 := h.le
        rw [Int.pow_succ, Int.pow_succ] at h1
        rw [Int.pow_succ] at h2
        omega
      · rw [show k.toNat = 0 by omega, Int.pow_zero]; omega
  · intro c
    have := bl_ge h c
    omega
theorem ulp_ge (b : Bool) (T : Int) : T - pr b ≤ ulp b T ∧ lo b ≤ ulp b T ∧ (ulp b T = lo b ∨ ulp b T = T - pr b) := by unfold ulp; omega
theorem pr_bd (b : Bool) : 24 ≤ pr b ∧ pr b ≤ 53 := by cases b <;> simp [pr]
theorem fr_pr (b : Bool) : fr b = 2 ^ (pr b - 1) := by cases b <;> rfl
theorem fc_pr (b : Bool) : fc b + 1 = pr b := by cases b <;> rfl
/-- A number that is seen by its k highest bits. -/
theorem seen_half {S : Int} {k : Nat} (hS : BitLen S k) (hk : 64 ≤ k + 4) (b : Bool) (T : Int) (d : Nat) (hd : (d : Int) = ulp b T - 1 - (T - k)) : 0 ≤ S / 2 ^ d ∧ S / 2 ^ d < 2 ^ (pr b + 1) ∧ (ulp b T ≠ lo b → 2 ^ pr b ≤ S / 2 ^ d) := by
  have hp := pr_bd b
  obtain ⟨u1, u2, u3⟩ := ulp_ge b T
  have hb := hS.down d
  have h0 : 0 ≤ S := by rcases hS with ⟨h, _⟩ | ⟨h, _⟩ <;> omega
  refine ⟨Int.ediv_nonneg h0 (Int.le_of_lt (p2pos d)), ?_, fun c => ?_⟩
  · rcases hb with ⟨h, _⟩ | ⟨_, h⟩
    · rw [h]; exact p2pos _
    · exact Int.lt_of_lt_of_le h.lt (p2le (by omega))
  · rcases hb with ⟨_, h⟩ | ⟨h0, h⟩
    · omega
    · have h1 := h.le
      rw [show k - d = pr b + 1 by omega, Int.pow_succ] at h1
      omega
theorem halfu_lt {h : Int} {k : Nat} (c : h < 2 ^ (k + 1)) : h / 2 < 2 ^ k := by rw [Int.pow_succ] at c; omega
theorem halfu_ge {h : Int} {k : Nat} (c : 2 ^ (k + 1) ≤ h) : 2 ^ k ≤ h / 2 := by rw [Int.pow_succ] at c; omega
/-- What is taken has at most as many units as the precision lets, and few ones only of the least unit. -/
theorem tk_fits {S : Int} {k : Nat} (hS : BitLen S k) (hk : 64 ≤ k + 4) (b : Bool) (T : Int) (d : Nat) (hd : (d : Int) = ulp b T - 1 - (T - k)) (m : Int) (n g : Bool) :
    0 ≤ tk m n (S / 2 ^ d) g ∧ tk m n (S / 2 ^ d) g ≤ 2 ^ pr b ∧ (ulp b T ≠ lo b → 2 ^ (pr b - 1) ≤ tk m n (S / 2 ^ d) g) := by
  obtain ⟨h1, h2, h3⟩ := seen_half hS hk b T d hd
  have hp := pr_bd b
  have h4 := tk_bd m n (S / 2 ^ d) g
  have h5 := halfu_lt h2
  refine ⟨by omega, by omega, fun c => ?_⟩
  have h6 := h3 c
  rw [show pr b = pr b - 1 + 1 by omega] at h6
  have := halfu_ge h6
  omega
/-- The unit of the number that is taken is the same, or the next one. -/
theorem unit_same (b : Bool) {u unit : Int} {L : Nat} (hL : BitLen u L) (h0 : 0 < u) (h1 : u ≤ 2 ^ pr b) (h2 : unit ≠ lo b → 2 ^ (pr b - 1) ≤ u) (h3 : lo b ≤ unit) :
    (ulp b (L + unit) = unit ∧ L ≤ pr b) ∨ (ulp b (L + unit) = unit + 1 ∧ u = 2 ^ pr b) := by
  have hp := pr_bd b
  unfold ulp
  by_cases c : u = 2 ^ pr b
  · subst c
    have a := bl_ge hL (Int.le_refl _)
    have b' := bl_le hL (k := pr b + 1) (by rw [Int.pow_succ]; have := p2pos (pr b); omega)
    exact .inr ⟨by omega, rfl⟩
  · have a := bl_le hL (k := pr b) (by omega)
    refine .inl ⟨?_, a⟩
    by_cases e : unit = lo b
    · omega
    · have := bl_ge hL (h2 e)
      omega
theorem word_same (b : Bool) {u unit ex x : Int} {L B t k : Nat} (hL : BitLen u L) (h0 : 0 < u) (h1 : u ≤ 2 ^ pr b) (h2 : unit ≠ lo b → 2 ^ (pr b - 1) ≤ u) (h3 : lo b ≤ unit) (hx : u = x * 2 ^ t) (he : ex = unit + t) (hB : (B : Int) + ex = L + unit) (hk : (k : Int) = ex - ulp b (B + ex)) :
    (ulp b (B + ex) - lo b) * fr b + x * 2 ^ k = (unit - lo b) * fr b + u := by
  have hp := pr_bd b
  rw [hB] at hk ⊢
  rcases unit_same b hL h0 h1 h2 h3 with ⟨e, _⟩ | ⟨e, eu⟩
  · rw [e] at hk ⊢
    rw [show k = t by omega, ← hx]
  · rw [e] at hk ⊢
    have e2 : x * 2 ^ t = 2 * (x * 2 ^ k) := by
      rw [show t = k + 1 by omega, Int.pow_succ]; generalize (2 : Int) ^ k = P; grind
    rw [← hx, eu, show pr b = pr b - 1 + 1 by omega, Int.pow_succ, ← fr_pr] at e2
    have e3 : u = 2 * fr b := by rw [eu, show pr b = pr b - 1 + 1 by omega, Int.pow_succ, ← fr_pr]; omega
    rw [show unit + 1 - lo b = (unit - lo b) + 1 by omega, Int.add_mul, Int.one_mul]
    omega
end Go.Proofs.YtdnghibkagcbcaaGreatDoor

namespace Go.Proofs.YtdnghibkagcbcaaGreatDoor
open Go.RowKit Go.Wd Go.Box
set_option linter.unusedVariables false
set_option maxRecDepth 3000
end Go.Proofs.YtdnghibkagcbcaaGreatDoor

namespace Go.Proofs.YtdnghibkagcbcaaGreatDoor
open Go.RowKit Go.Wd Go.Box
set_option linter.unusedVariables false
set_option maxRecDepth 3000
/-- A way to round, and a number as it is seen. -/
abbrev wyV (b : Bool) (m : Int) : Value := .agg #[.int .u8 (fm b), .int .i64 (pr b : Nat), .int .i64 (lo b), .int .i64 (hi b), .int .u8 m]
abbrev wyO (b : Bool) (m : Int) : Obj := .cells #[.int .u8 (fm b), .int .i64 (pr b : Nat), .int .i64 (lo b), .int .i64 (hi b), .int .u8 m] 66 (0, 0)
abbrev snV (n : Bool) (T high : Int) (more : Bool) : Value := .agg #[.bool n, .int .i64 T, .int .u64 high, .bool more]
abbrev snO (n : Bool) (T high : Int) (more : Bool) : Obj := .cells #[.bool n, .int .i64 T, .int .u64 high, .bool more] 72 (0, 0)
theorem way_cells {w W : World} {L : List (Nat × Obj)} (h : Bx w L W) (g : Nat) (b : Bool) (m : Int) (hm : (g, wyO b m) ∈ L) :
    W.cell? ⟨g, 0, none⟩ = some (.int .u8 (fm b)) ∧ W.cell? ⟨g, 1, none⟩ = some (.int .i64 (pr b : Nat)) ∧ W.cell? ⟨g, 2, none⟩ = some (.int .i64 (lo b)) ∧ W.cell? ⟨g, 3, none⟩ = some (.int .i64 (hi b)) ∧ W.cell? ⟨g, 4, none⟩ = some (.int .u8 m) :=
  ⟨h.cell g _ _ hm 0, h.cell g _ _ hm 1, h.cell g _ _ hm 2, h.cell g _ _ hm 3, h.cell g _ _ hm 4⟩
theorem seen_cells {w W : World} {L : List (Nat × Obj)} (h : Bx w L W) (g : Nat) (n : Bool) (T high : Int) (more : Bool) (hm : (g, snO n T high more) ∈ L) :
    W.cell? ⟨g, 0, none⟩ = some (.bool n) ∧ W.cell? ⟨g, 1, none⟩ = some (.int .i64 T) ∧ W.cell? ⟨g, 2, none⟩ = some (.int .u64 high) ∧ W.cell? ⟨g, 3, none⟩ = some (.bool more) :=
  ⟨h.cell g _ _ hm 0, h.cell g _ _ hm 1, h.cell g _ _ hm 2, h.cell g _ _ hm 3⟩
def Mode (m : Int) : Prop := m = 1 ∨ m = 2 ∨ m = 3 ∨ m = 4 ∨ m = 5
theorem wOutward (b : Bool) (m : Int) (n odd : Bool) (p : Int) (hm : Mode m) (w : World) :
    Calls Tryz.prog 83 #[wyV b m, .bool n, .bool odd, .int .i64 p] w fun e w' => e = .returned (.bool (outw m n odd p)) ∧ Below w.heap.size w w' := by
  have B1 := (Bx.nil w).push (wyO b m)
  obtain ⟨e0, e1, e2, e3, e4⟩ := way_cells B1 w.heap.size b m (.head _)
  by_cases hp : p = 2
  · subst hp
    rcases hm with rfl | rfl | rfl | rfl | rfl <;>
      (go_enter Tryz.func83, Tryz.ntmps83; go_wp2; go_ret; exact ⟨by simp [outw], B1.bel⟩)
  · have hp2 : (p == 2) = false := beq_eq_false_iff_ne.2 hp
    rcases hm with rfl | rfl | rfl | rfl | rfl <;>
      (go_enter Tryz.func83, Tryz.ntmps83; go_wp2; go_ret; exact ⟨by simp [outw, hp], B1.bel⟩)
theorem wBetween_far (n : Bool) (T high : Int) (more : Bool) (unit : Int) (w : World) (hT1 : -100000000 ≤ T) (hT2 : T ≤ 100000000) (hu1 : -100000000 ≤ unit) (hu2 : unit ≤ 100000000) (ho : 64 < unit - (T - 64)) :
    Calls Tryz.prog 109 #[snV n T high more, .int .i64 unit] w fun e w' => e = .returned (.tuple #[.int .u64 0, .int .i64 1]) ∧ Below w.heap.size w w' := by
  have B1 := (Bx.nil w).push (snO n T high more)
  obtain ⟨e0, e1, e2, e3⟩ := seen_cells B1 w.heap.size n T high more (.head _)
  go_enter Tryz.func109, Tryz.ntmps109
  go_wp2
  go_ret2
  exact ⟨rfl, B1.bel⟩
def Btw (R p : Int) (more : Bool) : Prop := (p = 0 ∧ R = 0 ∧ more = false) ∨ (p = 1 ∧ R = 0 ∧ more = true) ∨ (p = 1 ∧ R ≠ 0 ∧ R < 9223372036854775808) ∨ (p = 2 ∧ R = 9223372036854775808 ∧ more = false) ∨ (p = 3 ∧ R = 9223372036854775808 ∧ more = true) ∨ (p = 3 ∧ 9223372036854775808 < R)
theorem wBetween_near (n : Bool) (T high : Int) (more : Bool) (unit : Int) (k : Nat) (R near p : Int) (w : World) (hT1 : -100000000 ≤ T) (hT2 : T ≤ 100000000) (hu1 : -100000000 ≤ unit) (hu2 : unit ≤ 100000000) (hk : unit - (T - 64) = (k : Int)) (ho : k ≤ 64) (hs : high / 2 ^ k = near) (hR : high * 2 ^ (64 - k) % 18446744073709551616 = R) (hB : Btw R p more) :
    Calls Tryz.prog 109 #[snV n T high more, .int .i64 unit] w fun e w' => e = .returned (.tuple #[.int .u64 near, .int .i64 p]) ∧ Below w.heap.size w w' := by
  have B1 := (Bx.nil w).push (snO n T high more)
  obtain ⟨e0, e1, e2, e3⟩ := seen_cells B1 w.heap.size n T high more (.head _)
  have HB := Hide.mk hB
  have HK := Hide.mk hk
  have HS := Hide.mk hs
  have HR := Hide.mk hR
  have hle : ¬ 64 < unit - (T - 64) := by omega
  clear hB hs hR
  go_enter Tryz.func109, Tryz.ntmps109
  go_wp2_with fail
  clear hk hle e0 e1 e2 e3
  generalize hw1 : w.alloc (snO n T high more) = w1 at *
  clear hw1
  have HI := B1.drew
  have sh := fun W (hW : Bx w [(w.heap.size, snO n T high more)] W) => seen_cells hW w.heap.size n T high more (.head _)
  refine Drawn.enter (Bx w [(w.heap.size, snO n T high more)]) (by kernel_rfl) ?_
  refine Drawn.tk (i := 0) (v := ?v306) rfl (fun W hW => ?_) HI ?_
  rotate_left
  · have ⟨e0, e1, e2, e3⟩ := sh W hW
    go_simp <;> exact rfl
  refine Drawn.tk (i := 1) (v := ?v307) rfl (fun W hW => ?_) HI ?_
  rotate_left
  · have ⟨e0, e1, e2, e3⟩ := sh W hW
    go_simp <;> exact rfl
  refine Drawn.tk (i := 2) (v := ?v308) rfl (fun W hW => ?_) HI ?_
  rotate_left
  · have ⟨e0, e1, e2, e3⟩ := sh W hW
    go_simp <;> exact rfl
  refine Drawn.tk (i := 3) (v := .int .u64 near) rfl (fun W hW => ?_) HI ?_
  · have ⟨e0, e1, e2, e3⟩ := sh W hW
    go_simp <;> (exact HS.out)
  refine Drawn.tk (i := 4) (v := ?v309) rfl (fun W hW => ?_) HI ?_
  rotate_left
  · have ⟨e0, e1, e2, e3⟩ := sh W hW
    go_simp <;> exact rfl
  refine Drawn.tk (i := 5) (v := ?v310) rfl (fun W hW => ?_) HI ?_
  rotate_left
  · have ⟨e0, e1, e2, e3⟩ := sh W hW
    go_simp <;> exact rfl
  refine Drawn.tk (i := 6) (v := ?v311) rfl (fun W hW => ?_) HI ?_
  rotate_left
  · have ⟨e0, e1, e2, e3⟩ := sh W hW
    go_simp <;> exact rfl
  refine Drawn.tk (i := 7) (v := .int .i64 ((64 - k : Nat) : Int)) rfl (fun W hW => ?_) HI ?_
  · have ⟨e0, e1, e2, e3⟩ := sh W hW
    go_simp <;> (exact (wrap_ok (by omega) (by omega)).trans (by omega))
  refine Drawn.tk (i := 8) (v := .int .u64 R) rfl (fun W hW => ?_) HI ?_
  · have ⟨e0, e1, e2, e3⟩ := sh W hW
    go_simp <;> (rw [IntKind.wrap_u64]; exact HR.out)
  refine Drawn.tk (i := 9) (v := ?v312) rfl (fun W hW => ?_) HI ?_
  rotate_left
  · have ⟨e0, e1, e2, e3⟩ := sh W hW
    go_simp <;> exact rfl
  refine Drawn.tk (i := 10) (v := ?v313) rfl (fun W hW => ?_) HI ?_
  rotate_left
  · have ⟨e0, e1, e2, e3⟩ := sh W hW
    go_simp <;> exact rfl
  refine Drawn.done (by kernel_rfl) ?_
  try go_simp
  clear sh
  obtain ⟨e0, e1, e2, e3⟩ := seen_cells HI w.heap.size n T high more (.head _)
  rcases HB.out with ⟨rfl, r, rfl⟩ | ⟨rfl, r, rfl⟩ | ⟨rfl, r, r2⟩ | ⟨rfl, r, rfl⟩ | ⟨rfl, r, rfl⟩ | ⟨rfl, r⟩
  · have d1 : (R == 0) = true := beq_iff_eq.2 r
    clear HB HR r
    go_wp2
    go_ret2
    exact ⟨rfl, HI.bel⟩
  · have d1 : (R == 0) = true := beq_iff_eq.2 r
    have d2 : R < 9223372036854775808 := by omega
    clear HB HR r
    go_wp2
    go_ret2
    exact ⟨rfl, HI.bel⟩
  · have d1 : (R == 0) = false := beq_eq_false_iff_ne.2 r
    clear HB HR r
    go_wp2
    go_ret2
    exact ⟨rfl, HI.bel⟩
  · have d1 : (R == 0) = false := beq_eq_false_iff_ne.2 (by omega)
    have d2 : ¬ R < 9223372036854775808 := by omega
    have d3 : (R == 9223372036854775808) = true := beq_iff_eq.2 r
    clear HB HR r
    go_wp2
    go_ret2
    exact ⟨rfl, HI.bel⟩
  · have d1 : (R == 0) = false := beq_eq_false_iff_ne.2 (by omega)
    have d2 : ¬ R < 9223372036854775808 := by omega
    have d3 : (R == 9223372036854775808) = true := beq_iff_eq.2 r
    clear HB HR r
    go_wp2
    go_ret2
    exact ⟨rfl, HI.bel⟩
  · have d1 : (R == 0) = false := beq_eq_false_iff_ne.2 (by omega)
    have d2 : ¬ R < 9223372036854775808 := by omega
    have d3 : (R == 9223372036854775808) = false := beq_eq_false_iff_ne.2 (by omega)
    clear HB HR r
    go_wp2
    go_ret2
    exact ⟨rfl, HI.bel⟩
end Go.Proofs.YtdnghibkagcbcaaGreatDoor

namespace Go.Proofs.YtdnghibkagcbcaaGreatDoor
open Go.RowKit Go.Wd Go.Box
set_option linter.unusedVariables false
set_option maxRecDepth 3000
theorem wBetween (n : Bool) (T high : Int) (more : Bool) (unit : Int) (d : Nat) (w : World) (hT1 : -100000000 ≤ T) (hT2 : T ≤ 100000000) (hu1 : -100000000 ≤ unit) (hu2 : unit ≤ 100000000) (hd : unit - T + 63 = (d : Int)) (h0 : 0 < high) (h1 : high < 18446744073709551616) :
    Calls Tryz.prog 109 #[snV n T high more, .int .i64 unit] w fun e w' => e = .returned (.tuple #[.int .u64 (high / 2 ^ d / 2), .int .i64 (plc (high / 2 ^ d) (gx high d more))]) ∧ Below w.heap.size w w' := by
  by_cases c : 64 ≤ d
  · have hb : high < 2 ^ d := Int.lt_of_lt_of_le (show high < 2 ^ 64 by omega) (p2le c)
    have e1 : high / 2 ^ d = 0 := Int.ediv_eq_zero_of_lt (by omega) hb
    have e2 : gx high d more = true := by
      unfold gx
      rw [Int.emod_eq_of_lt (by omega) hb, decide_eq_true (show high ≠ 0 by omega)]; rfl
    rw [e1, e2]
    exact wBetween_far n T high more unit w hT1 hT2 hu1 hu2 (by omega)
  · obtain ⟨a1, key, c0, c1, c2⟩ := out_math high (by omega) (d + 1) (by omega) (by omega) rfl rfl
    rw [show d + 1 - 1 = d by omega] at a1 c0 c1 c2
    refine wBetween_near n T high more unit (d + 1) _ _ _ w hT1 hT2 hu1 hu2 (by omega) (by omega) a1 rfl ?_
    rw [show (18446744073709551616 : Int) = 2 ^ 64 from rfl]
    rw [show (2 : Int) ^ 63 = 9223372036854775808 from rfl] at c1 c2
    generalize high * 2 ^ (64 - (d + 1)) % 2 ^ 64 = R at *
    generalize high / 2 ^ d = h at *
    unfold gx
    generalize high % 2 ^ d = r at *
    clear key a1
    unfold Btw plc
    by_cases hr : r = 0
    · subst hr
      cases more <;> simp <;> omega
    · have : decide (r ≠ 0) = true := decide_eq_true hr
      rw [this]
      simp
      omega
theorem wTaken_walk (b : Bool) (m : Int) (n : Bool) (T high : Int) (more : Bool) (unit near p : Int) (q z : Bool) (u : Int) (w : World) (hm : Mode m) (hn0 : 0 ≤ near) (hn1 : near < 18446744073709551615)
    (HB : ∀ W, Calls Tryz.prog 109 #[snV n T high more, .int .i64 unit] W fun e w' => e = .returned (.tuple #[.int .u64 near, .int .i64 p]) ∧ Below W.heap.size W w')
    (hz : (p == 0) = z) (hq : z = false → outw m n (near % 2 == 1) p = q) (hu : u = if z then near else if q then near + 1 else near) :
    Calls Tryz.prog 76 #[wyV b m, snV n T high more, .int .i64 unit] w fun e w' => e = .returned (.tuple #[.int .u64 u, .bool z]) ∧ Below w.heap.size w w' := by
  have B1 := ((Bx.nil w).push (wyO b m)).push (snO n T high more)
  rw [show (w.alloc (wyO b m)).heap.size = w.heap.size + 1 by simp] at B1
  obtain ⟨e0, e1, e2, e3⟩ := seen_cells B1 (w.heap.size + 1) n T high more (.head _)
  obtain ⟨f0, f1, f2, f3, f4⟩ := way_cells B1 w.heap.size b m (.tail _ (.head _))
  have HBB := Hide.mk HB
  clear HB
  cases z
  · have hq2 := hq rfl
    obtain rfl : u = if q then near + 1 else near := by simpa using hu
    have HO : ∀ W, Hide (Calls Tryz.prog 83 #[wyV b m, .bool n, .bool (near % 2 == 1), .int .i64 p] W fun e w' => e = .returned (.bool q) ∧ Below W.heap.size W w') := fun W => ⟨by
      have := wOutward b m n (near % 2 == 1) p hm W
      rw [hq2] at this
      exact this⟩
    clear hq hq2 hu
    go_enter Tryz.func76, Tryz.ntmps76
    go_wp2_with fail
    refine (HBB.out _).mono ?_
    rintro e w2 ⟨rfl, h2⟩
    have B2 := B1.keep h2
    clear h2 e0 e1 e2 e3 f0 f1 f2 f3 f4
    obtain ⟨e0, e1, e2, e3⟩ := seen_cells B2 (w.heap.size + 1) n T high more (.head _)
    obtain ⟨f0, f1, f2, f3, f4⟩ := way_cells B2 w.heap.size b m (.tail _ (.head _))
    go_wp2_with fail
    refine (HO _).out.mono ?_
    rintro e w3 ⟨rfl, h3⟩
    have B3 := B2.keep h3
    cases q
    · go_wp2
      go_ret2
      exact ⟨rfl, B3.bel⟩
    · go_wp2
      go_ret2
      exact ⟨rfl, B3.bel⟩
  · obtain rfl : u = near := by simpa using hu
    clear hq hu
    go_enter Tryz.func76, Tryz.ntmps76
    go_wp2_with fail
    refine (HBB.out _).mono ?_
    rintro e w2 ⟨rfl, h2⟩
    have B2 := B1.keep h2
    go_wp2
    go_ret2
    exact ⟨rfl, B2.bel⟩
theorem wTaken (b : Bool) (m : Int) (n : Bool) (T high : Int) (more : Bool) (unit : Int) (d : Nat) (w : World) (hm : Mode m) (hT1 : -100000000 ≤ T) (hT2 : T ≤ 100000000) (hu1 : -100000000 ≤ unit) (hu2 : unit ≤ 100000000) (hd : unit - T + 63 = (d : Int)) (h0 : 0 < high) (h1 : high < 18446744073709551616) :
    Calls Tryz.prog 76 #[wyV b m, snV n T high more, .int .i64 unit] w fun e w' => e = .returned (.tuple #[.int .u64 (tk m n (high / 2 ^ d) (gx high d more)), .bool (plc (high / 2 ^ d) (gx high d more) == 0)]) ∧ Below w.heap.size w w' := by
  have b0 : 0 ≤ high / 2 ^ d := Int.ediv_nonneg (by omega) (Int.le_of_lt (p2pos d))
  have b1 : high / 2 ^ d ≤ high := Int.ediv_le_self _ (by omega)
  refine wTaken_walk b m n T high more unit _ _ (outw m n (high / 2 ^ d / 2 % 2 == 1) (plc (high / 2 ^ d) (gx high d more))) _ _ w hm (by omega) (by omega) (fun W => wBetween n T high more unit d W hT1 hT2 hu1 hu2 hd h0 h1) rfl (fun _ => rfl) ?_
  unfold tk
  generalize high / 2 ^ d = h at *
  generalize plc h (gx high d more) = p at *
  by_cases hp : p = 0
  · subst hp; simp
  · have e1 : (p == 0) = false := beq_eq_false_iff_ne.2 hp
    rw [e1, if_neg hp]
    have e2 : (h / 2 % 2 == 1) = decide (h / 2 % 2 = 1) := rfl
    rw [e2]
    simp
end Go.Proofs.YtdnghibkagcbcaaGreatDoor

namespace Go.Proofs.YtdnghibkagcbcaaGreatDoor
open Go.RowKit
set_option linter.unusedVariables false
theorem bl8 (y : Int) (h0 : 0 ≤ y) (h1 : y ≤ 255) : BitLen y (Lib.bitLen y.toNat) ∧ ((Lib.bitLen y.toNat : Nat) : Int) ≤ 8 := by
  obtain ⟨i1, i2, i3⟩ := bitLen_bd 8 y.toNat (by have e : (2 : Nat) ^ 8 = 256 := by decide
                                                 omega) (by decide)
  have e : ((2 ^ Lib.bitLen y.toNat : Nat) : Int) = 2 ^ Lib.bitLen y.toNat := by simp
  refine ⟨?_, by omega⟩
  by_cases c : y = 0
  · subst c
    exact .inl ⟨rfl, by decide⟩
  · have := i2 (by omega)
    exact .inr ⟨by omega, ⟨by omega, by omega⟩⟩
theorem len_at {x y : Int} {B L : Nat} (hB : BitLen x B) (s : Nat) (hy : y = x / 2 ^ s) (hx : 2 ^ s ≤ x ∨ s = 0) (hL : BitLen y L) : (B : Int) = (s : Int) + (L : Nat) := by
  have h1 := hB.down s
  rw [← hy] at h1
  have := h1.unique hL
  rcases hx with hx | hx
  · have := bl_ge hB hx
    omega
  · omega
set_option maxHeartbeats 4000000 in
set_option maxRecDepth 100000 in
theorem len64 (x : Int) (w : World) (h0 : 0 ≤ x) (h1 : x < 18446744073709551616) {B : Nat} (hB : BitLen x B) :
    Calls Tryz.prog 77 #[.int .u64 x] w fun e w' => e = .returned (.int .i64 B) ∧ w = w' := by
  by_cases c1 : 4294967296 ≤ x
  · by_cases c2 : 65536 ≤ x / 4294967296
    · by_cases c3 : 256 ≤ x / 4294967296 / 65536
      · have i0 : (0 : Int) ≤ x / 4294967296 / 65536 / 256 := by omega
        have i1 : x / 4294967296 / 65536 / 256 ≤ 255 := by omega
        have hl := Lib.len8_of (x / 4294967296 / 65536 / 256) i0 i1
        have hb := bl8 (x / 4294967296 / 65536 / 256) i0 i1
        have HF : Hide ((B : Int) = 56 + (Lib.bitLen (x / 4294967296 / 65536 / 256).toNat : Nat)) := ⟨len_at hB 56 (by omega) (by omega) hb.1⟩
        have hb8 := hb.2
        generalize Lib.bitLen (x / 4294967296 / 65536 / 256).toNat = L at *
        rw [HF.out]
        clear hB hb HF
        go_enter Tryz.func77, Tryz.ntmps77
        go_wp2
        go_ret
        exact ⟨by first | rfl | simp, rfl⟩
      · have i0 : (0 : Int) ≤ x / 4294967296 / 65536 := by omega
        have i1 : x / 4294967296 / 65536 ≤ 255 := by omega
        have hl := Lib.len8_of (x / 4294967296 / 65536) i0 i1
        have hb := bl8 (x / 4294967296 / 65536) i0 i1
        have HF : Hide ((B : Int) = 48 + (Lib.bitLen (x / 4294967296 / 65536).toNat : Nat)) := ⟨len_at hB 48 (by omega) (by omega) hb.1⟩
        have hb8 := hb.2
        generalize Lib.bitLen (x / 4294967296 / 65536).toNat = L at *
        rw [HF.out]
        clear hB hb HF
        go_enter Tryz.func77, Tryz.ntmps77
        go_wp2
        go_ret
        exact ⟨by first | rfl | simp, rfl⟩
    · by_cases c3 : 256 ≤ x / 4294967296
      · have i0 : (0 : Int) ≤ x / 4294967296 / 256 := by omega
        have i1 : x / 4294967296 / 256 ≤ 255 := by omega
        have hl := Lib.len8_of (x / 4294967296 / 256) i0 i1
        have hb := bl8 (x / 4294967296 / 256) i0 i1
        have HF : Hide ((B : Int) = 40 + (Lib.bitLen (x / 4294967296 / 256).toNat : Nat)) := ⟨len_at hB 40 (by omega) (by omega) hb.1⟩
        have hb8 := hb.2
        generalize Lib.bitLen (x / 4294967296 / 256).toNat = L at *
        rw [HF.out]
        clear hB hb HF
        go_enter Tryz.func77, Tryz.ntmps77
        go_wp2
        go_ret
        exact ⟨by first | rfl | simp, rfl⟩
      · have i0 : (0 : Int) ≤ x / 4294967296 := by omega
        have i1 : x / 4294967296 ≤ 255 := by omega
        have hl := Lib.len8_of (x / 4294967296) i0 i1
        have hb := bl8 (x / 4294967296) i0 i1
        have HF : Hide ((B : Int) = 32 + (Lib.bitLen (x / 4294967296).toNat : Nat)) := ⟨len_at hB 32 (by omega) (by omega) hb.1⟩
        have hb8 := hb.2
        generalize Lib.bitLen (x / 4294967296).toNat = L at *
        rw [HF.out]
        clear hB hb HF
        go_enter Tryz.func77, Tryz.ntmps77
        go_wp2
        go_ret
        exact ⟨by first | rfl | simp, rfl⟩
  · by_cases c2 : 65536 ≤ x
    · by_cases c3 : 256 ≤ x / 65536
      · have i0 : (0 : Int) ≤ x / 65536 / 256 := by omega
        have i1 : x / 65536 / 256 ≤ 255 := by omega
        have hl := Lib.len8_of (x / 65536 / 256) i0 i1
        have hb := bl8 (x / 65536 / 256) i0 i1
        have HF : Hide ((B : Int) = 24 + (Lib.bitLen (x / 65536 / 256).toNat : Nat)) := ⟨len_at hB 24 (by omega) (by omega) hb.1⟩
        have hb8 := hb.2
        generalize Lib.bitLen (x / 65536 / 256).toNat = L at *
        rw [HF.out]
        clear hB hb HF
        go_enter Tryz.func77, Tryz.ntmps77
        go_wp2
        go_ret
        exact ⟨by first | rfl | simp, rfl⟩
      · have i0 : (0 : Int) ≤ x / 65536 := by omega
        have i1 : x / 65536 ≤ 255 := by omega
        have hl := Lib.len8_of (x / 65536) i0 i1
        have hb := bl8 (x / 65536) i0 i1
        have HF : Hide ((B : Int) = 16 + (Lib.bitLen (x / 65536).toNat : Nat)) := ⟨len_at hB 16 (by omega) (by omega) hb.1⟩
        have hb8 := hb.2
        generalize Lib.bitLen (x / 65536).toNat = L at *
        rw [HF.out]
        clear hB hb HF
        go_enter Tryz.func77, Tryz.ntmps77
        go_wp2
        go_ret
        exact ⟨by first | rfl | simp, rfl⟩
    · by_cases c3 : 256 ≤ x
      · have i0 : (0 : Int) ≤ x / 256 := by omega
        have i1 : x / 256 ≤ 255 := by omega
        have hl := Lib.len8_of (x / 256) i0 i1
        have hb := bl8 (x / 256) i0 i1
        have HF : Hide ((B : Int) = 8 + (Lib.bitLen (x / 256).toNat : Nat)) := ⟨len_at hB 8 (by omega) (by omega) hb.1⟩
        have hb8 := hb.2
        generalize Lib.bitLen (x / 256).toNat = L at *
        rw [HF.out]
        clear hB hb HF
        go_enter Tryz.func77, Tryz.ntmps77
        go_wp2
        go_ret
        exact ⟨by first | rfl | simp, rfl⟩
      · have i0 : (0 : Int) ≤ x := by omega
        have i1 : x ≤ 255 := by omega
        have hl := Lib.len8_of (x) i0 i1
        have hb := bl8 (x) i0 i1
        have HF : Hide ((B : Int) = 0 + (Lib.bitLen (x).toNat : Nat)) := ⟨len_at hB 0 (by omega) (by omega) hb.1⟩
        have hb8 := hb.2
        generalize Lib.bitLen (x).toNat = L at *
        rw [HF.out]
        clear hB hb HF
        go_enter Tryz.func77, Tryz.ntmps77
        go_wp2
        go_ret
        exact ⟨by first | rfl | simp, rfl⟩
theorem lz64 (x : Int) (w : World) (h0 : 0 ≤ x) (h1 : x < 18446744073709551616) {B : Nat} (hB : BitLen x B) (hB2 : B ≤ 64) :
    Calls Tryz.prog 117 #[.int .u64 x] w fun e w' => e = .returned (.int .i64 (64 - (B : Int))) ∧ w = w' := by
  have HL := Hide.mk (len64 x w h0 h1 hB)
  clear hB
  go_enter Tryz.func117, Tryz.ntmps117
  go_wp2_with fail
  refine HL.out.mono ?_
  rintro e w' ⟨rfl, rfl⟩
  go_wp2
  go_ret
  exact ⟨rfl, rfl⟩
end Go.Proofs.YtdnghibkagcbcaaGreatDoor

namespace Go.Proofs.YtdnghibkagcbcaaGreatDoor
open Go.RowKit Go.Wd Go.Box
set_option linter.unusedVariables false
set_option maxRecDepth 3000
theorem uu_ulp (b : Bool) (T : Int) : uu b T = ulp b T := by
  unfold uu ulp
  have := fc_pr b
  rw [show T - fc b - 1 = T - pr b by omega]
theorem wOver (b : Bool) (m : Int) (n : Bool) (hm : Mode m) (w : World) :
    Calls Tryz.prog 49 #[wyV b m, .bool n] w fun e w' => e = .returned (.int .u64 (ovw b m n)) ∧ Below w.heap.size w w' := by
  have B1 := (Bx.nil w).push (wyO b m)
  obtain ⟨f0, f1, f2, f3, f4⟩ := way_cells B1 w.heap.size b m (.head _)
  obtain ⟨q, hq⟩ : ∃ q, outw m n false 3 = q := ⟨_, rfl⟩
  have HO : ∀ W, Hide (Calls Tryz.prog 83 #[wyV b m, .bool n, .bool false, .int .i64 3] W fun e w' => e = .returned (.bool q) ∧ Below W.heap.size W w') := fun W => ⟨by
    have := wOutward b m n false 3 hm W
    rw [hq] at this
    exact this⟩
  unfold ovw
  rw [hq]
  clear hq
  go_enter Tryz.func49, Tryz.ntmps49
  go_wp2_with fail
  refine (HO _).out.mono ?_
  rintro e w2 ⟨rfl, h2⟩
  have B2 := B1.keep h2
  clear h2 f0 f1 f2 f3 f4 B1
  obtain ⟨f0, f1, f2, f3, f4⟩ := way_cells B2 w.heap.size b m (.head _)
  cases q
  · go_wp2_with fail
    refine (wGreatest b n _).mono ?_
    rintro e w3 ⟨rfl, h3⟩
    have B3 := B2.keep h3
    go_wp2
    go_ret
    exact ⟨by simp, B3.bel⟩
  · go_wp2_with fail
    refine (wInf b n _).mono ?_
    rintro e w3 ⟨rfl, h3⟩
    have B3 := B2.keep h3
    go_wp2
    go_ret
    exact ⟨by simp, B3.bel⟩
theorem low_bits3 {x : Int} {b t : Nat} (h : BitLen x b) (ht : LowBit x t) (hx : 0 < x) : t < b := by
  refine Classical.byContradiction fun k => ?_
  have o := ht.one
  rcases h with ⟨rfl, _⟩ | ⟨_, h⟩
  · omega
  · have h1 := h.lt
    have h2 := p2le (show b ≤ t by omega)
    rw [Int.ediv_eq_zero_of_lt (by omega) (by omega)] at o
    omega
theorem odd_of_low {x : Int} {t : Nat} (h : LowBit x t) : x = x / 2 ^ t * 2 ^ t := by
  have h1 := Int.mul_ediv_add_emod x (2 ^ t)
  rw [h.zero, Int.add_zero, Int.mul_comm] at h1
  exact h1.symm
theorem wWordOfZ (b : Bool) (m : Int) (n : Bool) (unit : Int) (w : World) :
    Calls Tryz.prog 79 #[wyV b m, .bool n, .int .u64 0, .int .i64 unit] w fun e w' => e = .returned (.int .u64 (sd b 0 n)) ∧ Below w.heap.size w w' := by
  have B1 := (Bx.nil w).push (wyO b m)
  obtain ⟨f0, f1, f2, f3, f4⟩ := way_cells B1 w.heap.size b m (.head _)
  go_enter Tryz.func79, Tryz.ntmps79
  go_wp2_with fail
  refine (wZero b n _).mono ?_
  rintro e w3 ⟨rfl, h3⟩
  have B3 := B1.keep h3
  go_wp2
  go_ret
  exact ⟨rfl, B3.bel⟩
set_option maxHeartbeats 1000000 in
theorem wWordOfP (b : Bool) (m : Int) (n : Bool) (u unit : Int) (w : World) (hT : Tab w) (h0 : 0 < u) (h1 : u ≤ 2 ^ pr b) (h2 : unit ≠ lo b → 2 ^ (pr b - 1) ≤ u) (h3 : lo b ≤ unit) (h4 : unit ≤ 2000) (h5 : ¬ 2 ^ (hi b - unit).toNat ≤ u) :
    Calls Tryz.prog 79 #[wyV b m, .bool n, .int .u64 u, .int .i64 unit] w fun e w' => e = .returned (.int .u64 (sd b ((unit - lo b) * fr b + u) n)) ∧ Below w.heap.size w w' := by
  have B1 := (Bx.nil w).push (wyO b m)
  obtain ⟨f0, f1, f2, f3, f4⟩ := way_cells B1 w.heap.size b m (.head _)
  obtain ⟨L, hL⟩ := bitLen_ex (show 0 ≤ u by omega)
  obtain ⟨t, ht⟩ := low_ex h0
  have htl := low_bits3 hL ht h0
  have hpb := pr_bd b
  have hlo := lo_bd b
  have hu64 : u < 18446744073709551616 := by
    have := p2le (show pr b ≤ 53 by omega)
    omega
  have hL2 : (L : Int) ≤ hi b - unit := by
    have := bl_lt_iff hL (hi b - unit) (.inr h0)
    omega
  have hL3 : L ≤ 64 := bl_le hL (show u < 2 ^ 64 by omega)
  have hue : (u == 0) = false := beq_eq_false_iff_ne.2 (by omega)
  have H1 := Hide.mk (And.intro h1 (And.intro h2 h5))
  have HL := Hide.mk (And.intro hL ht)
  clear hL ht h1 h2 h5
  go_enter Tryz.func79, Tryz.ntmps79
  go_wp2_with fail
  refine (of16 u (by omega) hu64 _).mono ?_
  rintro e w2 ⟨zs, a, c, rfl, N2, _⟩
  have B2 := B1.keep N2.bel
  have hz : 0 < zs.length := by
    have v := N2.val
    cases zs with
    | nil => rw [Nt.val_nil] at v; omega
    | cons d s => simp
  have HM := Hide.mk (dmake_ok n a c zs unit w2 ⟨N2.lie, by have := N2.len; unfold maxLen; omega, N2.can.1⟩ N2.good.may (hT.below B2.bel (Nat.le_refl _)) (by omega) (by omega) hz (t := t) (by rw [N2.val]; exact HL.out.2) (by omega) (by omega))
  have HV := Hide.mk N2.val
  clear N2 B1 f0 f1 f2 f3 f4
  obtain ⟨f0, f1, f2, f3, f4⟩ := way_cells B2 w.heap.size b m (.head _)
  go_wp2_with fail
  refine HM.out.mono ?_
  rintro e w3 ⟨ys, a3, c3, rfl, N3, _⟩
  have B3 := B2.keep N3.bel
  have B4 := B3.push (DO n a3 ys.length c3 (unit + t))
  obtain ⟨⟨g0, g1, g2⟩, _⟩ := cells3 B4 w3.heap.size _ _ _ _ (.head _)
  obtain ⟨f0, f1, f2, f3, f4⟩ := way_cells B4 w.heap.size b m (.tail _ (.head _))
  have hsz : u = Nt.val ys * 2 ^ t := by
    rw [N3.val, HV.out]; exact odd_of_low HL.out.2
  have hpo : 0 < Nt.val ys := by
    rw [N3.val, HV.out]
    have h9 := hsz
    rw [N3.val, HV.out] at h9
    refine Classical.byContradiction fun c => ?_
    have := Int.mul_nonpos_of_nonpos_of_nonneg (show u / 2 ^ t ≤ 0 by omega) (Int.le_of_lt (p2pos t))
    omega
  have hyz : 0 < ys.length := by
    cases ys with
    | nil => rw [Nt.val_nil] at hpo; omega
    | cons d s => simp
  have hB : BitLen (Nt.val ys) (L - t) := by
    rw [N3.val, HV.out]; exact HL.out.1.down t
  have g : DG n ys (unit + t) := ⟨N3.can, N3.len, .inr ⟨hyz, by rw [N3.val, HV.out]; exact HL.out.2.one, by omega, by omega⟩⟩
  have e1 : ((L - t : Nat) : Int) + (unit + t) = L + unit := by omega
  have hun := ulp_ge b (L + unit)
  have hlt : hi b - pr b - lo b + 1 < tp b ∧ 1 < tp b := by cases b <;> decide
  have hc1 : ulp b ((L - t : Nat) + (unit + t)) - lo b + 1 < tp b := by rw [e1]; omega
  obtain ⟨k, hk⟩ : ∃ k : Nat, (k : Int) = unit + t - ulp b ((L - t : Nat) + (unit + t)) := ⟨(unit + t - ulp b ((L - t : Nat) + (unit + t))).toNat, by
    rw [e1]
    rcases unit_same b HL.out.1 h0 H1.out.1 H1.out.2.1 h3 with ⟨e, _⟩ | ⟨e, eu⟩
    · omega
    · have : 1 ≤ t := by
        refine Classical.byContradiction fun c => ?_
        have o := HL.out.2.one
        rw [show t = 0 by omega, Int.pow_zero, Int.ediv_one, eu, show pr b = pr b - 1 + 1 by omega, Int.pow_succ] at o
        omega
      omega⟩
  have hc2 : ulp b ((L - t : Nat) + (unit + t)) ≤ unit + t := by omega
  have M4 := (Bx.nil w3).push (DO n a3 ys.length c3 (unit + t))
  have HW := Hide.mk (wOf_ok b n a3 c3 ys (unit + t) _ (N3.lie.below M4.bel (Nat.le_refl _)) g hyz hB (by omega) (by rw [uu_ulp]; exact hc1) (by rw [uu_ulp]; exact hc2) k (by rw [uu_ulp]; exact hk))
  rw [uu_ulp, word_same b HL.out.1 h0 H1.out.1 H1.out.2.1 h3 hsz rfl e1 hk] at HW
  clear hc1 hc2 M4 hk hB g hsz hpo hun hlt e1 hyz
  go_wp2_with fail
  refine HW.out.mono ?_
  rintro e w5 ⟨rfl, h5⟩
  have B5 := B4.keep h5
  clear h5 HW f0 f1 f2 f3 f4 g0 g1 g2 B4
  go_wp2
  go_ret
  exact ⟨rfl, B5.bel⟩
end Go.Proofs.YtdnghibkagcbcaaGreatDoor

namespace Go.Proofs.YtdnghibkagcbcaaGreatDoor
open Go.RowKit Go.Wd Go.Box
set_option linter.unusedVariables false
set_option maxRecDepth 3000
theorem sv_natAbs {s : Int} {n : Bool} (h : n = decide (s < 0)) : sv n (s.natAbs : Int) = s := by
  subst h
  by_cases c : s < 0
  · rw [decide_eq_true c, sv_t]; omega
  · rw [decide_eq_false c, sv_f]; omega
/-- What the one form says. -/
theorem Fm.data {s E : Int} {n : Bool} {z : List Int} {x : Int} (F : Fm s E n z x) (h0 : s ≠ 0) {L : Nat} (hL : BitLen (s.natAbs : Int) L) :
    ∃ t : Nat, x = E + t ∧ t < L ∧ Nt.Can z ∧ 0 < z.length ∧ n = decide (s < 0) ∧ sv n (Nt.val z * 2 ^ t) = s ∧ BitLen (Nt.val z) (L - t) ∧ 32 * z.length ≤ L - t + 31 := by
  rcases F with ⟨rfl, _⟩ | ⟨_, t, ht, hn, rfl, hc, hv⟩
  · exact absurd rfl h0
  · have hs : 0 < (s.natAbs : Int) := by omega
    have ht2 := low_bits3 hL ht hs
    have hd := hL.down t
    rw [← hv] at hd
    have ho := odd_of_low ht
    rw [← hv] at ho
    have hz : 0 < z.length := by
      cases z with
      | nil => rw [Nt.val_nil] at ho; omega
      | cons d q => simp
    have hg := can_ge hc hz
    rw [show (4294967296 : Int) = 2 ^ 32 from rfl, ← Int.pow_mul] at hg
    have hb := bl_ge hd hg
    exact ⟨t, rfl, ht2, hc, hz, hn, by rw [← ho]; exact sv_natAbs hn, hd, by omega⟩
theorem Fm.zero {E : Int} {n : Bool} {z : List Int} {x : Int} (F : Fm 0 E n z x) : n = false ∧ z = [] ∧ x = 0 := by
  rcases F with ⟨_, a, b, c⟩ | ⟨h, _⟩
  · exact ⟨a, b, c⟩
  · exact absurd rfl h
theorem Fm.inj {s1 s2 E : Int} {n : Bool} {z : List Int} {x : Int} (F : Fm s1 E n z x) (G : Fm s2 E n z x) : s1 = s2 := by
  rcases F with ⟨rfl, rfl, rfl, rfl⟩ | ⟨h, t, ht, hn, hx, hc, hv⟩ <;> rcases G with ⟨rfl, k1, k2, k3⟩ | ⟨k, u, hu, kn, kx, kc, kv⟩
  · rfl
  · have := odd_of_low hu
    rw [← kv, Nt.val_nil] at this
    omega
  · subst k2
    have := odd_of_low ht
    rw [← hv, Nt.val_nil] at this
    omega
  · obtain rfl : t = u := by omega
    have a := odd_of_low ht
    have b := odd_of_low hu
    rw [← hv] at a
    rw [← kv] at b
    have c := sv_natAbs hn
    have d := sv_natAbs kn
    rw [← c, ← d, a, b]
theorem Fm.can {s E : Int} {n : Bool} {z : List Int} {x : Int} (F : Fm s E n z x) : Nt.Can z := by
  rcases F with ⟨_, _, rfl, _⟩ | ⟨_, _, _, _, _, hc, _⟩
  · exact Nt.can_nil
  · exact hc
end Go.Proofs.YtdnghibkagcbcaaGreatDoor

namespace Go.Proofs.YtdnghibkagcbcaaGreatDoor
open Go.RowKit Go.Wd Go.Box
set_option linter.unusedVariables false
set_option maxRecDepth 3000
theorem len64B (x : Int) (w : World) (h0 : 0 ≤ x) (h1 : x < 18446744073709551616) (B : Nat) (hB : BitLen x B) :
    Calls Tryz.prog 77 #[.int .u64 x] w fun e w' => e = .returned (.int .i64 B) ∧ Below w.heap.size w w' := by
  refine (len64 x w h0 h1 hB).mono ?_
  rintro e w' ⟨rfl, rfl⟩
  exact ⟨rfl, Below.refl _ _⟩
theorem wTiny_walk (b : Bool) (m : Int) (n : Bool) (T high : Int) (more : Bool) (u : Int) (z : Bool) (L : Nat) (q : Bool) (w : World) (hT1 : -50000000 ≤ T) (hT2 : T ≤ 50000000) (h0 : 0 ≤ u) (h1 : u < 18446744073709551616) (hL : BitLen u L) (hL2 : L ≤ 64)
    (HT : ∀ W, Calls Tryz.prog 76 #[wyV b m, snV n T high more, .int .i64 (T - (pr b : Nat))] W fun e w' => e = .returned (.tuple #[.int .u64 u, .bool z]) ∧ Below W.heap.size W w')
    (hq : decide ((L : Int) + (T - (pr b : Nat)) < lo b + (pr b : Nat)) = q) :
    Calls Tryz.prog 78 #[wyV b m, snV n T high more] w fun e w' => e = .returned (.bool q) ∧ Below w.heap.size w w' := by
  have B1 := ((Bx.nil w).push (wyO b m)).push (snO n T high more)
  rw [show (w.alloc (wyO b m)).heap.size = w.heap.size + 1 by simp] at B1
  obtain ⟨e0, e1, e2, e3⟩ := seen_cells B1 (w.heap.size + 1) n T high more (.head _)
  obtain ⟨f0, f1, f2, f3, f4⟩ := way_cells B1 w.heap.size b m (.tail _ (.head _))
  have hpb := pr_bd b
  have hlo := lo_bd b
  have hp1 : 24 ≤ ((pr b : Nat) : Int) := by omega
  have hp2 : ((pr b : Nat) : Int) ≤ 53 := by omega
  have HTT := Hide.mk HT
  have HL := fun W => Hide.mk (len64B u W h0 h1 L hL)
  have HQ := Hide.mk hq
  clear HT hL hq
  go_enter Tryz.func78, Tryz.ntmps78
  go_wp2_with fail
  refine (HTT.out _).mono ?_
  rintro e w2 ⟨rfl, h2⟩
  have B2 := B1.keep h2
  clear h2 e0 e1 e2 e3 f0 f1 f2 f3 f4 HTT
  go_wp2_with fail
  have HI := B2.drew
  have sh := fun W (hW : Bx w [(w.heap.size + 1, snO n T high more), (w.heap.size, wyO b m)] W) => way_cells hW w.heap.size b m (.tail _ (.head _))
  refine Drawn.enter (Bx w [(w.heap.size + 1, snO n T high more), (w.heap.size, wyO b m)]) (by kernel_rfl) ?_
  refine Drawn.tk (i := 0) (v := ?v314) rfl (fun W hW => ?_) HI ?_
  rotate_left
  · have ⟨f0, f1, f2, f3, f4⟩ := sh W hW
    go_simp <;> exact rfl
  refine Drawn.tk (i := 2) (v := ?v315) rfl (fun W hW => ?_) HI ?_
  rotate_left
  · have ⟨f0, f1, f2, f3, f4⟩ := sh W hW
    go_simp <;> exact rfl
  refine Drawn.tk (i := 4) (v := ?v316) rfl (fun W hW => ?_) HI ?_
  rotate_left
  · have ⟨f0, f1, f2, f3, f4⟩ := sh W hW
    go_simp <;> exact rfl
  refine Drawn.tk (i := 5) (v := ?v317) rfl (fun W hW => ?_) HI ?_
  rotate_left
  · have ⟨f0, f1, f2, f3, f4⟩ := sh W hW
    go_simp <;> exact rfl
  refine Drawn.tk (i := 6) (v := ?v318) rfl (fun W hW => ?_) HI ?_
  rotate_left
  · have ⟨f0, f1, f2, f3, f4⟩ := sh W hW
    go_simp <;> exact rfl
  refine Drawn.tk (i := 7) (v := ?v319) rfl (fun W hW => ?_) HI ?_
  rotate_left
  · have ⟨f0, f1, f2, f3, f4⟩ := sh W hW
    go_simp <;> exact rfl
  refine Drawn.tk (i := 8) (v := .int .i64 (lo b + (pr b : Nat))) rfl (fun W hW => ?_) HI ?_
  · have ⟨f0, f1, f2, f3, f4⟩ := sh W hW
    go_simp <;> (exact wrap_ok (by omega) (by omega))
  refine Drawn.one (j := 1) (by kernel_rfl) rfl (fun K hK => ?_)
  go_simp
  refine ((HL _).out).mono ?_
  rintro e wn ⟨rfl, hn⟩
  refine hK _ _ (HI.keep hn) ?_
  clear hK K
  replace HI := HI.keep hn
  clear hn
  refine Drawn.tk (i := 3) (v := .int .i64 ((L : Int) + (T - (pr b : Nat)))) rfl (fun W hW => ?_) HI ?_
  · have ⟨f0, f1, f2, f3, f4⟩ := sh W hW
    go_simp <;> (exact wrap_ok (by omega) (by omega))
  refine Drawn.tk (i := 9) (v := .bool q) rfl (fun W hW => ?_) HI ?_
  · have ⟨f0, f1, f2, f3, f4⟩ := sh W hW
    go_simp <;> (exact HQ.out)
  refine Drawn.tk (i := 10) (v := ?v320) rfl (fun W hW => ?_) HI ?_
  rotate_left
  · have ⟨f0, f1, f2, f3, f4⟩ := sh W hW
    go_simp <;> exact rfl
  refine Drawn.done (by kernel_rfl) ?_
  try go_simp
  go_wp2
  go_ret
  exact ⟨rfl, HI.bel⟩
theorem wTiny (b : Bool) (m : Int) (n : Bool) (T high : Int) (more : Bool) (w : World) (hm : Mode m) (hT1 : -50000000 ≤ T) (hT2 : T ≤ 50000000) (h0 : 9223372036854775808 ≤ high) (h1 : high < 18446744073709551616) :
    Calls Tryz.prog 78 #[wyV b m, snV n T high more] w fun e w' => e = .returned (.bool (decide (tk m n (high / 2 ^ (63 - pr b)) (gx high (63 - pr b) more) < 2 ^ (lo b + pr b - 1 - (T - pr b)).toNat))) ∧ Below w.heap.size w w' := by
  have hp := pr_bd b
  have hS : BitLen high 64 := .inr ⟨by omega, ⟨by omega, by omega⟩⟩
  have hlo := lo_bd b
  have hh : 2 ^ pr b ≤ high / 2 ^ (63 - pr b) ∧ high / 2 ^ (63 - pr b) < 2 ^ (pr b + 1) := by
    rcases hS.down (63 - pr b) with ⟨_, h⟩ | ⟨_, h⟩
    · omega
    · have a := h.le
      have c := h.lt
      rw [show 64 - (63 - pr b) = pr b + 1 by omega] at a c
      rw [Int.pow_succ] at a
      exact ⟨by omega, c⟩
  have t := tk_bd m n (high / 2 ^ (63 - pr b)) (gx high (63 - pr b) more)
  have l1 := halfu_lt hh.2
  have l2 := hh.1
  rw [show pr b = pr b - 1 + 1 by omega] at l2
  have l3 := halfu_ge l2
  rw [show pr b - 1 + 1 = pr b by omega] at l3
  have p0 := p2pos (pr b - 1)
  have p1 := p2le hp.2
  have HT : ∀ W, Calls Tryz.prog 76 #[wyV b m, snV n T high more, .int .i64 (T - (pr b : Nat))] W fun e w' => e = .returned (.tuple #[.int .u64 (tk m n (high / 2 ^ (63 - pr b)) (gx high (63 - pr b) more)), .bool (plc (high / 2 ^ (63 - pr b)) (gx high (63 - pr b) more) == 0)]) ∧ Below W.heap.size W w' :=
    fun W => wTaken b m n T high more (T - (pr b : Nat)) (63 - pr b) W hm (by omega) (by omega) (by omega) (by omega) (by omega) (by omega) h1
  generalize tk m n (high / 2 ^ (63 - pr b)) (gx high (63 - pr b) more) = u at *
  have hu0 : 0 < u := by omega
  have hu1 : u < 2 ^ 54 := by omega
  obtain ⟨L, hL⟩ := bitLen_ex (show 0 ≤ u by omega)
  have hL2 := bl_le hL hu1
  refine wTiny_walk b m n T high more u _ L _ w hT1 hT2 (by omega) (by omega) hL (by omega) HT ?_
  have k := bl_lt_iff hL (lo b + pr b - 1 - (T - pr b)) (.inr hu0)
  by_cases c : u < 2 ^ (lo b + pr b - 1 - (T - pr b)).toNat
  · rw [decide_eq_true c]
    exact decide_eq_true (by omega)
  · rw [decide_eq_false c]
    exact decide_eq_false (by omega)
set_option maxHeartbeats 1000000 in
theorem wRounded_walk (b : Bool) (m : Int) (n : Bool) (T high : Int) (more : Bool) (unit u W OV : Int) (z q : Bool) (L : Nat) (w : World) (hT : Tab w) (hT1 : -50000000 ≤ T) (hT2 : T ≤ 50000000) (hun : ulp b T = unit) (h0 : 0 ≤ u) (h1 : u < 18446744073709551616) (hL : BitLen u L) (hL2 : L ≤ 64)
    (HT : ∀ W, Calls Tryz.prog 76 #[wyV b m, snV n T high more, .int .i64 unit] W fun e w' => e = .returned (.tuple #[.int .u64 u, .bool z]) ∧ Below W.heap.size W w')
    (HQ : ∀ W, Calls Tryz.prog 78 #[wyV b m, snV n T high more] W fun e w' => e = .returned (.bool q) ∧ Below W.heap.size W w')
    (HO : ∀ W, Calls Tryz.prog 49 #[wyV b m, .bool n] W fun e w' => e = .returned (.int .u64 OV) ∧ Below W.heap.size W w')
    (HW : ¬ hi b < (L : Int) + unit → ∀ V, Tab V → Calls Tryz.prog 79 #[wyV b m, .bool n, .int .u64 u, .int .i64 unit] V fun e w' => e = .returned (.int .u64 W) ∧ Below V.heap.size V w')
    (R F : Int) (hR : R = if hi b < (L : Int) + unit then OV else W) (hF : F = if hi b < (L : Int) + unit then 20 else if z then 0 else if q then 24 else 16) :
    Calls Tryz.prog 46 #[wyV b m, snV n T high more] w fun e w' => e = .returned (.tuple #[.int .u64 R, .int .u8 F, .int .i64 0]) ∧ Below w.heap.size w w' := by
  have B1 := ((Bx.nil w).push (wyO b m)).push (snO n T high more)
  rw [show (w.alloc (wyO b m)).heap.size = w.heap.size + 1 by simp] at B1
  obtain ⟨e0, e1, e2, e3⟩ := seen_cells B1 (w.heap.size + 1) n T high more (.head _)
  obtain ⟨f0, f1, f2, f3, f4⟩ := way_cells B1 w.heap.size b m (.tail _ (.head _))
  have hpb := pr_bd b
  have hlo := lo_bd b
  have hp1 : 24 ≤ ((pr b : Nat) : Int) := by omega
  have hp2 : ((pr b : Nat) : Int) ≤ 53 := by omega
  have hub := ulp_ge b T
  have hu1 : -60000000 ≤ unit := by omega
  have hu2 : unit ≤ 60000000 := by omega
  have HTT := Hide.mk HT
  have HL := fun W => Hide.mk (len64B u W h0 h1 L hL)
  have HQQ := Hide.mk HQ
  have HOO := Hide.mk HO
  have HWW := Hide.mk HW
  have HU : Hide (max (T - (pr b : Nat)) (lo b) = unit) := ⟨by unfold ulp at hun; exact hun⟩
  have HR := Hide.mk hR
  have HF := Hide.mk hF
  clear HT HQ HO HW hL hun hR hF hub
  go_enter Tryz.func46, Tryz.ntmps46
  go_wp2_with fail
  try rw [HU.out]
  refine (HTT.out _).mono ?_
  rintro e w2 ⟨rfl, h2⟩
  have B2 := B1.keep h2
  clear h2 e0 e1 e2 e3 f0 f1 f2 f3 f4 HTT B1
  go_wp2_with fail
  have HI := B2.drew
  have sh := fun W (hW : Bx w [(w.heap.size + 1, snO n T high more), (w.heap.size, wyO b m)] W) => way_cells hW w.heap.size b m (.tail _ (.head _))
  refine Drawn.enter (Bx w [(w.heap.size + 1, snO n T high more), (w.heap.size, wyO b m)]) (by kernel_rfl) ?_
  refine Drawn.tk (i := 0) (v := ?v321) rfl (fun W hW => ?_) HI ?_
  rotate_left
  · have ⟨f0, f1, f2, f3, f4⟩ := sh W hW
    go_simp <;> exact rfl
  refine Drawn.tk (i := 2) (v := ?v322) rfl (fun W hW => ?_) HI ?_
  rotate_left
  · have ⟨f0, f1, f2, f3, f4⟩ := sh W hW
    go_simp <;> exact rfl
  refine Drawn.tk (i := 4) (v := ?v323) rfl (fun W hW => ?_) HI ?_
  rotate_left
  · have ⟨f0, f1, f2, f3, f4⟩ := sh W hW
    go_simp <;> exact rfl
  refine Drawn.tk (i := 5) (v := ?v324) rfl (fun W hW => ?_) HI ?_
  rotate_left
  · have ⟨f0, f1, f2, f3, f4⟩ := sh W hW
    go_simp <;> exact rfl
  refine Drawn.one (j := 1) (by kernel_rfl) rfl (fun K hK => ?_)
  go_simp
  refine ((HL _).out).mono ?_
  rintro e wn ⟨rfl, hn⟩
  refine hK _ _ (HI.keep hn) ?_
  clear hK K
  replace HI := HI.keep hn
  clear hn
  refine Drawn.tk (i := 3) (v := .int .i64 ((L : Int) + unit)) rfl (fun W hW => ?_) HI ?_
  · have ⟨f0, f1, f2, f3, f4⟩ := sh W hW
    go_simp <;> (exact wrap_ok (by omega) (by omega))
  refine Drawn.tk (i := 6) (v := ?v325) rfl (fun W hW => ?_) HI ?_
  rotate_left
  · have ⟨f0, f1, f2, f3, f4⟩ := sh W hW
    go_simp <;> exact rfl
  refine Drawn.done (by kernel_rfl) ?_
  try go_simp
  clear sh
  obtain ⟨e0, e1, e2, e3⟩ := seen_cells HI (w.heap.size + 1) n T high more (.head _)
  obtain ⟨f0, f1, f2, f3, f4⟩ := way_cells HI w.heap.size b m (.tail _ (.head _))
  by_cases c : hi b < (L : Int) + unit
  · have r1 := HR.out
    have r2 := HF.out
    rw [if_pos c] at r1 r2
    subst r1 r2
    clear HR HF HWW HQQ
    go_wp2_with fail
    refine (HOO.out _).mono ?_
    rintro e w3 ⟨rfl, h3⟩
    have B3 := HI.keep h3
    clear h3 e0 e1 e2 e3 f0 f1 f2 f3 f4
    go_wp2
    go_ret3
    exact ⟨by first | rfl | kernel_rfl, B3.bel⟩
  · have r1 := HR.out
    have r2 := HF.out
    rw [if_neg c] at r1 r2
    subst r1
    have HWN := Hide.mk (HWW.out (by omega))
    clear HR HF HWW HOO
    cases z
    · have HQ2 := HQQ.out
      clear HQQ
      have HQQ := Hide.mk HQ2
      clear HQ2
      cases q
      · have r3 : F = 16 := r2
        subst r3
        clear r2
        go_wp2_with fail
        refine (HQQ.out _).mono ?_
        rintro e w3 ⟨rfl, h3⟩
        have B3 := HI.keep h3
        clear h3 e0 e1 e2 e3 f0 f1 f2 f3 f4 HQQ
        obtain ⟨e0, e1, e2, e3⟩ := seen_cells B3 (w.heap.size + 1) n T high more (.head _)
        obtain ⟨f0, f1, f2, f3, f4⟩ := way_cells B3 w.heap.size b m (.tail _ (.head _))
        have H9 := Hide.mk (HWN.out w3 (hT.below B3.bel (Nat.le_refl _)))
        go_wp2_with fail
        refine H9.out.mono ?_
        rintro e w4 ⟨rfl, h4⟩
        have B4 := B3.keep h4
        clear h4 e0 e1 e2 e3 f0 f1 f2 f3 f4 H9 HWN
        go_wp2
        go_ret3
        exact ⟨by first | rfl | kernel_rfl, B4.bel⟩
      · have r3 : F = 24 := r2
        subst r3
        clear r2
        go_wp2_with fail
        refine (HQQ.out _).mono ?_
        rintro e w3 ⟨rfl, h3⟩
        have B3 := HI.keep h3
        clear h3 e0 e1 e2 e3 f0 f1 f2 f3 f4 HQQ
        obtain ⟨e0, e1, e2, e3⟩ := seen_cells B3 (w.heap.size + 1) n T high more (.head _)
        obtain ⟨f0, f1, f2, f3, f4⟩ := way_cells B3 w.heap.size b m (.tail _ (.head _))
        have H9 := Hide.mk (HWN.out w3 (hT.below B3.bel (Nat.le_refl _)))
        go_wp2_with fail
        refine H9.out.mono ?_
        rintro e w4 ⟨rfl, h4⟩
        have B4 := B3.keep h4
        clear h4 e0 e1 e2 e3 f0 f1 f2 f3 f4 H9 HWN
        go_wp2
        go_ret3
        exact ⟨by first | rfl | kernel_rfl, B4.bel⟩
    · have r3 : F = 0 := r2
      subst r3
      clear r2 HQQ
      have H9 := Hide.mk (HWN.out _ (hT.below HI.bel (Nat.le_refl _)))
      go_wp2_with fail
      refine H9.out.mono ?_
      rintro e w4 ⟨rfl, h4⟩
      have B4 := HI.keep h4
      clear h4 e0 e1 e2 e3 f0 f1 f2 f3 f4 H9 HWN
      go_wp2
      go_ret3
      exact ⟨by first | rfl | kernel_rfl, B4.bel⟩
end Go.Proofs.YtdnghibkagcbcaaGreatDoor

namespace Go.Proofs.YtdnghibkagcbcaaGreatDoor
open Go.RowKit Go.Wd Go.Box
set_option linter.unusedVariables false
set_option maxRecDepth 3000
/-- The word and the flags of a number as it is seen. -/
theorem wRounded (b : Bool) (m : Int) (n : Bool) (T high : Int) (more : Bool) (d : Nat) (w : World) (hT : Tab w) (hm : Mode m) (hT1 : -50000000 ≤ T) (hT2 : T ≤ 50000000) (h0 : 9223372036854775808 ≤ high) (h1 : high < 18446744073709551616) (hd : ulp b T - T + 63 = (d : Int)) :
    Calls Tryz.prog 46 #[wyV b m, snV n T high more] w fun e w' => e = .returned (.tuple #[.int .u64 (rdW b m n T (high / 2 ^ d) (gx high d more)), .int .u8 (rdX b m n T (high / 2 ^ d) (gx high d more) (high / 2 ^ (63 - pr b)) (gx high (63 - pr b) more)), .int .i64 0]) ∧ Below w.heap.size w w' := by
  have hp := pr_bd b
  have hlo := lo_bd b
  have hub := ulp_ge b T
  have hS : BitLen high 64 := .inr ⟨by omega, ⟨by omega, by omega⟩⟩
  obtain ⟨t1, t2, t3⟩ := tk_fits hS (by omega) b T d (by omega) m n (gx high d more)
  have p1 := p2le hp.2
  have HT : ∀ W, Calls Tryz.prog 76 #[wyV b m, snV n T high more, .int .i64 (ulp b T)] W fun e w' => e = .returned (.tuple #[.int .u64 (tk m n (high / 2 ^ d) (gx high d more)), .bool (plc (high / 2 ^ d) (gx high d more) == 0)]) ∧ Below W.heap.size W w' :=
    fun W => wTaken b m n T high more (ulp b T) d W hm (by omega) (by omega) (by omega) (by omega) (by omega) (by omega) h1
  unfold rdW rdX
  generalize gx high d more = g at *
  generalize high / 2 ^ d = h at *
  generalize hu : tk m n h g = u at *
  obtain ⟨L, hL⟩ := bitLen_ex t1
  have hL2 := bl_le hL (show u < 2 ^ 54 by omega)
  have hi1 : 128 ≤ hi b ∧ hi b ≤ 1024 := by cases b <;> simp [hi]
  have hpp := p2pos (pr b - 1)
  have k := bl_lt_iff hL (hi b - ulp b T) (by
    by_cases c : ulp b T = lo b
    · exact .inl (by omega)
    · exact .inr (by have := t3 c; omega))
  have ko : (2 ^ (hi b - ulp b T).toNat ≤ u) = (hi b < (L : Int) + ulp b T) := propext ⟨fun a => by have := k.2 a; omega, fun a => k.1 (by omega)⟩
  refine wRounded_walk b m n T high more (ulp b T) u (sd b ((ulp b T - lo b) * fr b + u) n) (ovw b m n) (plc h g == 0) (decide (tk m n (high / 2 ^ (63 - pr b)) (gx high (63 - pr b) more) < 2 ^ (lo b + pr b - 1 - (T - pr b)).toNat)) L w hT hT1 hT2 rfl t1 (by omega) hL (by omega) HT (fun W => wTiny b m n T high more W hm hT1 hT2 h0 h1) (fun W => wOver b m n hm W) ?_ _ _ ?_ ?_
  · intro c V hV
    by_cases u0 : u = 0
    · have e1 : ulp b T = lo b := Classical.byContradiction fun c2 => by have := t3 c2; omega
      rw [u0, e1, show (lo b - lo b) * fr b + 0 = 0 by rw [Int.sub_self, Int.zero_mul]; rfl]
      exact wWordOfZ b m n (lo b) V
    · have hL1 : 0 < L := by
        rcases hL with ⟨a, _⟩ | ⟨_, a⟩
        · omega
        · have a1 := a.lt
          refine Nat.pos_of_ne_zero fun z => ?_
          rw [z, Int.pow_zero] at a1
          omega
      exact wWordOfP b m n u (ulp b T) V hV (by omega) t2 t3 (by omega) (by omega) (by rw [ko]; exact c)
  · simp only [ko]
  · simp only [ko, beq_iff_eq, decide_eq_true_eq]
end Go.Proofs.YtdnghibkagcbcaaGreatDoor

namespace Go.Box
open Go Go.RowKit
variable {w w' W W' : World} {L : List (Nat × Obj)}
theorem Bx.fill5 {g : Nat} {z0 z1 z2 z3 z4 : Value} {t : TypeId} (h : Bx w ((g, Obj.cells #[z0, z1, z2, z3, z4] t (0, 0)) :: L) W) (hg : w.heap.size ≤ g) (hne : ∀ p ∈ L, p.1 ≠ g) (a b c d e : Value) :
    Bx w ((g, Obj.cells #[a, b, c, d, e] t (0, 0)) :: L) (((((W.setCell ⟨g, 0, none⟩ a).setCell ⟨g, 1, none⟩ b).setCell ⟨g, 2, none⟩ c).setCell ⟨g, 3, none⟩ d).setCell ⟨g, 4, none⟩ e) := by
  have := ((((h.set hg hne 0 a).set hg hne 1 b).set hg hne 2 c).set hg hne 3 d).set hg hne 4 e
  simpa using this
end Go.Box
namespace Go.Proofs.YtdnghibkagcbcaaGreatDoor
open Go.RowKit Go.Wd Go.Box
set_option linter.unusedVariables false
set_option maxRecDepth 3000
theorem Tryz.sizeWay : (Tryz.prog.info? 66).map (·.size) = some 5 := by kernel_rfl
theorem results_W2 {fn : Func} {p u : Tmp} (h : fn.results = #[.cell p 66, .tmp u]) (tmps : Array Value) (w : World) (g : Nat) (cs : Array Value) (hp : tmps.getD p undef = .pointer (some ⟨g, 0, none⟩)) (hg : w.heap[g]? = some (.cells cs 66 (0, 0))) (hs : cs.size = 5) :
    (results fn tmps).run Tryz.prog w = .ok (.tuple #[.agg cs, tmps.getD u undef]) w := by
  rw [results_cell_tmp h, hp]
  simp [asAddr, run_loadVar_row w g 66 66 cs (0, 0) _ hg Tryz.underlying66 rfl (by rw [Tryz.sizeWay, hs])]
theorem Tryz.sizeSeen : (Tryz.prog.info? 72).map (·.size) = some 4 := by kernel_rfl
theorem results_N1 {fn : Func} {p : Tmp} (h : fn.results = #[.cell p 72]) (tmps : Array Value) (w : World) (g : Nat) (cs : Array Value) (hp : tmps.getD p undef = .pointer (some ⟨g, 0, none⟩)) (hg : w.heap[g]? = some (.cells cs 72 (0, 0))) (hs : cs.size = 4) :
    (results fn tmps).run Tryz.prog w = .ok (.agg cs) w :=
  results_cell_row h tmps w g 72 cs (0, 0) _ hp hg Tryz.underlying72 rfl (by rw [Tryz.sizeSeen, hs])
abbrev noW : Value := .agg #[.int .u8 0, .int .i64 0, .int .i64 0, .int .i64 0, .int .u8 0]
abbrev ZW : Obj := .cells #[.int .u8 0, .int .i64 0, .int .i64 0, .int .i64 0, .int .u8 0] 66 (0, 0)
theorem wWayOf (b : Bool) (m : Int) (hm : Mode m) (w : World) :
    Calls Tryz.prog 48 #[.int .u8 (fm b), .int .u8 m] w fun e w' => e = .returned (.tuple #[wyV b m, .int .i64 0]) ∧ Below w.heap.size w w' := by
  have B1 := ((Bx.nil w).push (wyO b m)).push (wyO b m)
  cases b
  · rw [show fm false = 1 from rfl]
    rcases hm with rfl | rfl | rfl | rfl | rfl <;>
      (go_enter Tryz.func48, Tryz.ntmps48; go_wp2; refine bodyPost_ret (results_W2 rfl _ _ w.heap.size _ rfl B1.tail.head rfl) rfl ?_; exact ⟨rfl, B1.bel⟩)
  · rw [show fm true = 2 from rfl]
    rcases hm with rfl | rfl | rfl | rfl | rfl <;>
      (go_enter Tryz.func48, Tryz.ntmps48; go_wp2; refine bodyPost_ret (results_W2 rfl _ _ w.heap.size _ rfl B1.tail.head rfl) rfl ?_; exact ⟨rfl, B1.bel⟩)
/-- The way that is told of a format and a mode, and the error. -/
def WayIs (f m : Int) (v : Value) (code : Int) : Prop := (∃ b, f = fm b ∧ Mode m ∧ v = wyV b m ∧ code = 0) ∨ (Bad f ∧ v = noW ∧ code = 4) ∨ (∃ b, f = fm b ∧ ¬ Mode m ∧ v = noW ∧ code = 5)
theorem fm_or_bad (f : Int) : (∃ b, f = fm b) ∨ Bad f := by
  by_cases h1 : f = 1
  · exact .inl ⟨false, h1⟩
  · by_cases h2 : f = 2
    · exact .inl ⟨true, h2⟩
    · exact .inr ⟨h1, h2⟩
/-- What lies at g stays. -/
structure At3 (w : World) (g o : Nat) (n : Bool) (a : Option Addr) (k c : Nat) (e : Int) : Prop where
  c0 : w.cell? ⟨g, o, none⟩ = some (.bool n)
  c1 : w.cell? ⟨g, o + 1, none⟩ = some (.slice a k c)
  c2 : w.cell? ⟨g, o + 2, none⟩ = some (.int .i64 e)
theorem At3.below {w W : World} {g o : Nat} {n : Bool} {a : Option Addr} {k c : Nat} {e : Int} (h : At3 w g o n a k c e) (hb : Below w.heap.size w W) : At3 W g o n a k c e :=
  ⟨below_cell hb h.c0, below_cell hb h.c1, below_cell hb h.c2⟩
theorem zway_cells {w W : World} {L : List (Nat × Obj)} (h : Bx w L W) (g : Nat) (hm : (g, ZW) ∈ L) :
    W.cell? ⟨g, 0, none⟩ = some (.int .u8 0) ∧ W.cell? ⟨g, 1, none⟩ = some (.int .i64 0) ∧ W.cell? ⟨g, 2, none⟩ = some (.int .i64 0) ∧ W.cell? ⟨g, 3, none⟩ = some (.int .i64 0) ∧ W.cell? ⟨g, 4, none⟩ = some (.int .u8 0) ∧ W.frozen? ⟨g, 0, none⟩ = false ∧ W.frozen? ⟨g, 1, none⟩ = false ∧ W.frozen? ⟨g, 2, none⟩ = false ∧ W.frozen? ⟨g, 3, none⟩ = false ∧ W.frozen? ⟨g, 4, none⟩ = false :=
  ⟨h.cell g _ _ hm 0, h.cell g _ _ hm 1, h.cell g _ _ hm 2, h.cell g _ _ hm 3, h.cell g _ _ hm 4, h.frozen g _ _ hm 0, h.frozen g _ _ hm 1, h.frozen g _ _ hm 2, h.frozen g _ _ hm 3, h.frozen g _ _ hm 4⟩
set_option maxHeartbeats 1000000 in
theorem wWayFor1 (b : Bool) (m : Int) (hm : Mode m) (g : Nat) (n1 : Bool) (a1 : Option Addr) (c1 : Nat) (z1 : List Int) (e1 : Int) (w : World) (h1 : DLie w a1 z1) (q : Bool) (hq : dmayB n1 z1 e1 = q) (hg : At3 w g 0 n1 a1 z1.length c1 e1) :
    Calls Tryz.prog 43 #[.int .u8 (fm b), .int .u8 m, .slice (some ⟨g, 0, none⟩) 1 1] w fun e w' => e = .returned (.tuple #[if q then wyV b m else noW, .int .i64 (if q then 0 else 2)]) ∧ Below w.heap.size w w' := by
  have M1 := fun W hb => Hide.mk (h1.may n1 c1 e1 q hq W hb)
  have G1 := Hide.mk hg
  clear h1 hq hg
  cases q
  · have B1 := (Bx.nil w).push ZW
    go_enter Tryz.func43, Tryz.ntmps43
    go_wp2_with fail
    refine (wWayOf b m hm _).mono ?_
    rintro e w2 ⟨rfl, h2⟩
    have B2 := (B1.keep h2).push (wyO b m)
    clear h2 B1
    obtain ⟨k0, k1, k2⟩ := G1.out.below B2.bel
    go_wp2
    refine wp_loop_rounds 3 ?_
    rw [rounds_succ]
    go_wp2_with fail
    have B3 := B2.push (DO n1 a1 z1.length c1 e1)
    refine (M1 _ B3.bel).out.mono ?_
    rintro e w3 ⟨rfl, h1⟩
    have B4 := B3.keep h1
    clear h1 k0 k1 k2 B3 B2
    obtain ⟨k0, k1, k2, k3, k4, r0, r1, r2, r3, r4⟩ := zway_cells B4 w.heap.size (by simp)
    go_wp2
    have B5 := (B4.sub (L' := [(w.heap.size, ZW)]) (by simp)).fill5 (Nat.le_refl _) (by simp) (.int .u8 0) (.int .i64 0) (.int .i64 0) (.int .i64 0) (.int .u8 0)
    refine bodyPost_ret (results_W2 rfl _ _ w.heap.size _ rfl B5.head rfl) rfl ?_
    exact ⟨rfl, B5.bel⟩
  · have B1 := (Bx.nil w).push ZW
    go_enter Tryz.func43, Tryz.ntmps43
    go_wp2_with fail
    refine (wWayOf b m hm _).mono ?_
    rintro e w2 ⟨rfl, h2⟩
    have B2 := (B1.keep h2).push (wyO b m)
    clear h2 B1
    obtain ⟨k0, k1, k2⟩ := G1.out.below B2.bel
    go_wp2
    refine wp_loop_rounds 3 ?_
    rw [rounds_succ]
    go_wp2_with fail
    have B3 := B2.push (DO n1 a1 z1.length c1 e1)
    refine (M1 _ B3.bel).out.mono ?_
    rintro e w3 ⟨rfl, h1⟩
    have B4 := B3.keep h1
    clear h1 k0 k1 k2 B3 B2
    obtain ⟨f0, f1, f2, f3, f4⟩ := way_cells B4 w2.heap.size b m (by simp)
    obtain ⟨k0, k1, k2, k3, k4, r0, r1, r2, r3, r4⟩ := zway_cells B4 w.heap.size (by simp)
    go_wp2_with fail
    rw [rounds_succ]
    go_wp2
    have B5 := (B4.sub (L' := [(w.heap.size, ZW)]) (by simp)).fill5 (Nat.le_refl _) (by simp) (.int .u8 (fm b)) (.int .i64 (pr b : Nat)) (.int .i64 (lo b)) (.int .i64 (hi b)) (.int .u8 m)
    refine bodyPost_ret (results_W2 rfl _ _ w.heap.size _ rfl B5.head rfl) rfl ?_
    exact ⟨rfl, B5.bel⟩
end Go.Proofs.YtdnghibkagcbcaaGreatDoor

namespace Go.Proofs.YtdnghibkagcbcaaGreatDoor
open Go.RowKit Go.Wd Go.Box
set_option linter.unusedVariables false
set_option maxRecDepth 3000
set_option maxHeartbeats 2000000 in
theorem wWayFor2 (b : Bool) (m : Int) (hm : Mode m) (g : Nat) (n1 : Bool) (a1 : Option Addr) (c1 : Nat) (z1 : List Int) (e1 : Int) (n2 : Bool) (a2 : Option Addr) (c2 : Nat) (z2 : List Int) (e2 : Int) (w : World) (h1 : DLie w a1 z1) (h2 : DLie w a2 z2) (q1 q2 : Bool) (hq1 : dmayB n1 z1 e1 = q1) (hq2 : dmayB n2 z2 e2 = q2) (hg1 : At3 w g 0 n1 a1 z1.length c1 e1) (hg2 : At3 w g 3 n2 a2 z2.length c2 e2) :
    Calls Tryz.prog 43 #[.int .u8 (fm b), .int .u8 m, .slice (some ⟨g, 0, none⟩) 2 2] w fun e w' => e = .returned (.tuple #[if q1 && q2 then wyV b m else noW, .int .i64 (if q1 && q2 then 0 else 2)]) ∧ Below w.heap.size w w' := by
  have M1 := fun W hb => Hide.mk (h1.may n1 c1 e1 q1 hq1 W hb)
  have M2 := fun W hb => Hide.mk (h2.may n2 c2 e2 q2 hq2 W hb)
  have G1 := Hide.mk hg1
  have G2 := Hide.mk hg2
  clear h1 hq1 hg1 h2 hq2 hg2
  cases q1
  · have B1 := (Bx.nil w).push ZW
    go_enter Tryz.func43, Tryz.ntmps43
    go_wp2_with fail
    refine (wWayOf b m hm _).mono ?_
    rintro e w2 ⟨rfl, h2⟩
    have B2 := (B1.keep h2).push (wyO b m)
    clear h2 B1
    obtain ⟨k0, k1, k2⟩ := G1.out.below B2.bel
    go_wp2
    refine wp_loop_rounds 4 ?_
    rw [rounds_succ]
    go_wp2_with fail
    have B3 := B2.push (DO n1 a1 z1.length c1 e1)
    refine (M1 _ B3.bel).out.mono ?_
    rintro e w3 ⟨rfl, h1⟩
    have B4 := B3.keep h1
    clear h1 k0 k1 k2 B3 B2
    obtain ⟨k0, k1, k2, k3, k4, r0, r1, r2, r3, r4⟩ := zway_cells B4 w.heap.size (by simp)
    go_wp2
    have B9 := (B4.sub (L' := [(w.heap.size, ZW)]) (by simp)).fill5 (Nat.le_refl _) (by simp) (.int .u8 0) (.int .i64 0) (.int .i64 0) (.int .i64 0) (.int .u8 0)
    refine bodyPost_ret (results_W2 rfl _ _ w.heap.size _ rfl B9.head rfl) rfl ?_
    exact ⟨rfl, B9.bel⟩
  · cases q2
    · have B1 := (Bx.nil w).push ZW
      go_enter Tryz.func43, Tryz.ntmps43
      go_wp2_with fail
      refine (wWayOf b m hm _).mono ?_
      rintro e w2 ⟨rfl, h2⟩
      have B2 := (B1.keep h2).push (wyO b m)
      clear h2 B1
      obtain ⟨k0, k1, k2⟩ := G1.out.below B2.bel
      go_wp2
      refine wp_loop_rounds 4 ?_
      rw [rounds_succ]
      go_wp2_with fail
      have B3 := B2.push (DO n1 a1 z1.length c1 e1)
      refine (M1 _ B3.bel).out.mono ?_
      rintro e w3 ⟨rfl, h1⟩
      have B4 := B3.keep h1
      clear h1 k0 k1 k2 B3 B2
      obtain ⟨k0, k1, k2⟩ := G2.out.below B4.bel
      go_wp2_with fail
      rw [rounds_succ]
      go_wp2_with fail
      have B5 := B4.push (DO n2 a2 z2.length c2 e2)
      refine (M2 _ B5.bel).out.mono ?_
      rintro e w4 ⟨rfl, h2⟩
      have B6 := B5.keep h2
      clear h2 k0 k1 k2 B5 B4
      obtain ⟨k0, k1, k2, k3, k4, r0, r1, r2, r3, r4⟩ := zway_cells B6 w.heap.size (by simp)
      go_wp2
      have B9 := (B6.sub (L' := [(w.heap.size, ZW)]) (by simp)).fill5 (Nat.le_refl _) (by simp) (.int .u8 0) (.int .i64 0) (.int .i64 0) (.int .i64 0) (.int .u8 0)
      refine bodyPost_ret (results_W2 rfl _ _ w.heap.size _ rfl B9.head rfl) rfl ?_
      exact ⟨rfl, B9.bel⟩
    · have B1 := (Bx.nil w).push ZW
      go_enter Tryz.func43, Tryz.ntmps43
      go_wp2_with fail
      refine (wWayOf b m hm _).mono ?_
      rintro e w2 ⟨rfl, h2⟩
      have B2 := (B1.keep h2).push (wyO b m)
      clear h2 B1
      obtain ⟨k0, k1, k2⟩ := G1.out.below B2.bel
      go_wp2
      refine wp_loop_rounds 4 ?_
      rw [rounds_succ]
      go_wp2_with fail
      have B3 := B2.push (DO n1 a1 z1.length c1 e1)
      refine (M1 _ B3.bel).out.mono ?_
      rintro e w3 ⟨rfl, h1⟩
      have B4 := B3.keep h1
      clear h1 k0 k1 k2 B3 B2
      obtain ⟨k0, k1, k2⟩ := G2.out.below B4.bel
      go_wp2_with fail
      rw [rounds_succ]
      go_wp2_with fail
      have B5 := B4.push (DO n2 a2 z2.length c2 e2)
      refine (M2 _ B5.bel).out.mono ?_
      rintro e w4 ⟨rfl, h2⟩
      have B6 := B5.keep h2
      clear h2 k0 k1 k2 B5 B4
      obtain ⟨f0, f1, f2, f3, f4⟩ := way_cells B6 w2.heap.size b m (by simp)
      obtain ⟨k0, k1, k2, k3, k4, r0, r1, r2, r3, r4⟩ := zway_cells B6 w.heap.size (by simp)
      go_wp2_with fail
      rw [rounds_succ]
      go_wp2
      have B9 := (B6.sub (L' := [(w.heap.size, ZW)]) (by simp)).fill5 (Nat.le_refl _) (by simp) (.int .u8 (fm b)) (.int .i64 (pr b : Nat)) (.int .i64 (lo b)) (.int .i64 (hi b)) (.int .u8 m)
      refine bodyPost_ret (results_W2 rfl _ _ w.heap.size _ rfl B9.head rfl) rfl ?_
      exact ⟨rfl, B9.bel⟩
end Go.Proofs.YtdnghibkagcbcaaGreatDoor
