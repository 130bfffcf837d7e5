import Derived.Test.YtiamdmfhkhlppaaDoorWH
namespace Go.Proofs.YtiamdmfhkhlppaaDoor
open Go.RowKit Go.Wd Go.Box
set_option linter.unusedVariables false
set_option maxRecDepth 3000
set_option maxHeartbeats 1000000 in
theorem dTop (n : Bool) (a : Option Addr) (c : Nat) (zs : List Int) (ex : Int) (w : World) (hl : Lie w a zs) (g : DG n zs ex) :
    Calls Tryd.prog 27 #[dV n a zs.length c ex] w fun e w' => ∃ B : Nat, e = .returned (.int .i64 (B + ex)) ∧ BitLen (Nt.val zs) B ∧ B ≤ 131072 ∧ Below w.heap.size w w' := by
  have B1 := (Bx.nil w).push (DO n a zs.length c ex)
  have u := g.lie hl
  go_enter Tryd.func27, Tryd.ntmps27
  go_wp2_with fail
  refine (u.may n c ex true g.may _ B1.bel).mono ?_
  rintro e w2 ⟨rfl, h2⟩
  have B2 := B1.keep h2
  obtain ⟨⟨f0, f1, f2⟩, _⟩ := cells3 B2 w.heap.size _ _ _ _ (.head _)
  have l2 := hl.below B2.bel (Nat.le_refl _)
  clear h2 B1 u
  go_wp2_with fail
  refine (dtop96 n a c zs ex _ l2 g).mono ?_
  rintro e w3 ⟨B, rfl, hB, hB2, h3⟩
  have B3 := B2.keep h3
  have HB := Hide.mk (And.intro hB hB2)
  clear h3 B2 hB hB2 f0 f1 f2 l2
  go_wp2
  go_ret
  exact ⟨B, rfl, HB.out.1, HB.out.2, B3.bel⟩
theorem fc_bd (b : Bool) : 23 ≤ fc b ∧ fc b ≤ 52 := by cases b <;> decide
/-- The exponent of the unit of a number with the top T. -/
def uu (b : Bool) (T : Int) : Int := max (T - fc b - 1) (lo b)
theorem p2fc (b : Bool) : (2 : Int) ^ (fc b).toNat = fr b := by cases b <;> decide
/-- The number of units. -/
theorem units_fit (b : Bool) {M : Int} {B k : Nat} (hM : BitLen M B) (h0 : 0 ≤ M) (hk : (B : Int) + k ≤ fc b + 1) : 0 ≤ M * 2 ^ k ∧ M * 2 ^ k < 2 * fr b := by
  have hp := p2pos k
  refine ⟨Int.mul_nonneg h0 (by omega), ?_⟩
  have e : ∃ F : Nat, (F : Int) = fc b ∧ (2 : Int) ^ (F + 1) = 2 * fr b := by
    cases b
    · exact ⟨23, rfl, by decide⟩
    · exact ⟨52, rfl, by decide⟩
  obtain ⟨F, hF, e⟩ := e
  rw [← e]
  rcases hM with ⟨rfl, _⟩ | ⟨_, c⟩
  · rw [Int.zero_mul]; exact p2pos _
  · have h1 := (c.up k).lt
    have := p2mono (show B + k ≤ F + 1 by omega)
    omega
end Go.Proofs.YtiamdmfhkhlppaaDoor
