import Derived.Test.YtiamdmfhkhlppaaDoorM15
namespace Go.Proofs.YtiamdmfhkhlppaaDoor
open Go.RowKit
set_option linter.unusedVariables false
set_option maxRecDepth 3000
set_option maxHeartbeats 1000000 in
theorem dreftop54 (ng : Bool) (a : Option Addr) (c : Nat) (zs : List Int) (ex : Int) (w : World) (hl : Lie w a zs) (h : DG ng zs ex) (hz : 0 < zs.length) :
    Calls Tryd.prog 32 #[dV ng a zs.length c ex] w fun e w' => ∃ B : Nat, e = .returned (.int .i64 (ex + B)) ∧ BitLen (Nt.val zs) B ∧ B ≤ 131072 ∧ Below w.heap.size w w' := by
  have hb := below_alloc w (.cells #[.bool ng, .slice a zs.length c, .int .i64 ex] 36)
  have hd := dcell_new w (.bool ng) (.slice a zs.length c) (.int .i64 ex)
  have hx := h.ex_bd
  have g := h.good
  have hne : ((zs.length : Int) == 0) = false := beq_eq_false_iff_ne.2 (by omega)
  go_enter Tryd.func32, Tryd.ntmps32
  go_wp2_with fail
  generalize hw1 : w.alloc (.cells #[.bool ng, .slice a zs.length c, .int .i64 ex] 36) = w1 at *
  have hsz : w.heap.size + 1 = w1.heap.size := by rw [← hw1]; simp
  clear hw1
  have HI : Below (w.heap.size + 1) w1 w1.drew := (Below.refl _ _).drew
  have l1 := hl.below hb.drew (Nat.le_refl _)
  refine Drawn.enter (fun W => Below (w.heap.size + 1) w1 W) (by kernel_rfl) ?_
  refine Drawn.take (i := 0) (v := .pointer (some ⟨w.heap.size, 2, none⟩)) rfl (by kernel_rfl) (by kernel_rfl) (by kernel_rfl) (fun _ _ _ h => h) rfl (fun W hW => ?_) HI ?_
  · go_simp
  refine Drawn.take (i := 1) (v := .int .i64 ex) rfl (by kernel_rfl) (by kernel_rfl) (by kernel_rfl) (fun _ _ _ h => h) rfl (fun W hW => ?_) HI ?_
  · have hc0 := below_cell2 hW (by simp) hd.c2
    go_simp
  refine Drawn.take (i := 2) (v := .pointer (some ⟨w.heap.size, 1, none⟩)) rfl (by kernel_rfl) (by kernel_rfl) (by kernel_rfl) (fun _ _ _ h => h) rfl (fun W hW => ?_) HI ?_
  · go_simp
  refine Drawn.take (i := 3) (v := .slice a zs.length c) rfl (by kernel_rfl) (by kernel_rfl) (by kernel_rfl) (fun _ _ _ h => h) rfl (fun W hW => ?_) HI ?_
  · have hc0 := below_cell2 hW (by simp) hd.c1
    go_simp
  refine Drawn.one (j := 4) (by kernel_rfl) rfl (fun K hK => ?_)
  go_simp
  refine (refLenN a c zs _ l1 g).mono ?_
  rintro e w' ⟨rfl, B, rfl, hB, hB1⟩
  refine hK _ _ HI ?_
  clear hK K
  have HBB := Hide.mk hB
  clear hB
  refine Drawn.take (i := 5) (v := .int .i64 (ex + (B : Int))) rfl (by kernel_rfl) (by kernel_rfl) (by kernel_rfl) (fun _ _ _ h => h) rfl (fun W hW => ?_) HI ?_
  · go_simp
    exact wrap_ok (by omega) (by omega)
  refine Drawn.take (i := 6) (v := .int .i64 (ex + (B : Int))) rfl (by kernel_rfl) (by kernel_rfl) (by kernel_rfl) (fun _ _ _ h => h) rfl (fun W hW => ?_) HI ?_
  · go_simp
  refine Drawn.done (by kernel_rfl) ?_
  go_wp2
  go_ret
  exact ⟨B, rfl, HBB.out, hB1, hb.drew⟩
theorem fit64 {x : Int} {B k : Nat} (hB : BitLen x B) (h : B + k ≤ 64) (hx : 0 ≤ x) : 0 ≤ x * 2 ^ k ∧ x * 2 ^ k < 18446744073709551616 ∧ x * 2 ^ k < 4294967296 ^ 4096 := by
  have hp := p2pos k
  have h0 : 0 ≤ x * 2 ^ k := Int.mul_nonneg hx (by omega)
  have h1 : x * 2 ^ k < 2 ^ 64 := by
    rcases hB with ⟨rfl, _⟩ | ⟨_, c⟩
    · rw [Int.zero_mul]; exact p2pos _
    · have h1 := (c.up k).lt
      have := p2mono h
      omega
  have e : (2 : Int) ^ 64 = 18446744073709551616 := by decide
  have h2 : x * 2 ^ k < 4294967296 ^ 4096 := by
    refine small_pow ?_
    have e2 : (4294967296 : Int) ^ 2 = 18446744073709551616 := by decide
    omega
  exact ⟨h0, by omega, h2⟩
theorem two_digits {zs : List Int} {X : Int} (g : Good zs X) (h : X < 18446744073709551616) : zs.length ≤ 2 := by
  refine (Nt.can_len g.can 2).1 ?_
  rw [g.val, show (4294967296 : Int) ^ 2 = 18446744073709551616 by decide]
  exact h
/-- The value as an int64, where it is one. -/
def i64r (ng : Bool) (x ex : Int) (B : Nat) : Int × Bool :=
  if ex < 0 ∨ 64 < B + ex then (0, false) else if ng then (if x * 2 ^ ex.toNat ≤ 9223372036854775808 then (-(x * 2 ^ ex.toNat), true) else (0, false)) else (if x * 2 ^ ex.toNat < 9223372036854775808 then (x * 2 ^ ex.toNat, true) else (0, false))
end Go.Proofs.YtiamdmfhkhlppaaDoor
