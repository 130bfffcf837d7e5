import Derived.Test.YtcjmamlffbhnlaaW16
namespace Go.Proofs.Ytcjmamlffbhnlaa
open Go.RowKit
set_option linter.unusedVariables false
set_option maxHeartbeats 1000000 in
theorem add_no (a b : Option Addr) (ca cb : Nat) (za zb : List Int) (w : World) (ha : Lie w a za) (hb : Lie w b zb) (la : za.length ≤ maxLen) (lb : zb.length ≤ maxLen) (hq : (mayB za && mayB zb) = false) :
    Calls Try.prog 20 #[.slice a za.length ca, .slice b zb.length cb] w fun e w' => e = .returned (.tuple #[.slice none 0 0, .int .i64 2]) ∧ Below w.heap.size w w' := by
  have HM := Hide.mk (allMay_new a b ca cb za zb w ha hb la lb false hq)
  clear ha hb hq
  go_enter Try.func20, Try.ntmps20
  go_wp2_with fail
  refine HM.out.mono ?_
  rintro e w' ⟨rfl, rfl⟩
  have hb1 := below_alloc w (.cells #[.slice a za.length ca, .slice b zb.length cb] 22)
  go_wp2_with fail
  go_ret2
  exact ⟨rfl, hb1⟩
set_option maxHeartbeats 1000000 in
theorem sub_no (a b : Option Addr) (ca cb : Nat) (za zb : List Int) (w : World) (ha : Lie w a za) (hb : Lie w b zb) (la : za.length ≤ maxLen) (lb : zb.length ≤ maxLen) (hq : (mayB za && mayB zb) = false) :
    Calls Try.prog 21 #[.slice a za.length ca, .slice b zb.length cb] w fun e w' => e = .returned (.tuple #[.slice none 0 0, .int .i64 2]) ∧ Below w.heap.size w w' := by
  have HM := Hide.mk (allMay_new a b ca cb za zb w ha hb la lb false hq)
  clear ha hb hq
  go_enter Try.func21, Try.ntmps21
  go_wp2_with fail
  refine HM.out.mono ?_
  rintro e w' ⟨rfl, rfl⟩
  have hb1 := below_alloc w (.cells #[.slice a za.length ca, .slice b zb.length cb] 22)
  go_wp2_with fail
  go_ret2
  exact ⟨rfl, hb1⟩
set_option maxHeartbeats 1000000 in
theorem mul_no (a b : Option Addr) (ca cb : Nat) (za zb : List Int) (w : World) (ha : Lie w a za) (hb : Lie w b zb) (la : za.length ≤ maxLen) (lb : zb.length ≤ maxLen) (hq : (mayB za && mayB zb) = false) :
    Calls Try.prog 26 #[.slice a za.length ca, .slice b zb.length cb] w fun e w' => e = .returned (.tuple #[.slice none 0 0, .int .i64 2]) ∧ Below w.heap.size w w' := by
  have HM := Hide.mk (allMay_new a b ca cb za zb w ha hb la lb false hq)
  clear ha hb hq
  go_enter Try.func26, Try.ntmps26
  go_wp2_with fail
  refine HM.out.mono ?_
  rintro e w' ⟨rfl, rfl⟩
  have hb1 := below_alloc w (.cells #[.slice a za.length ca, .slice b zb.length cb] 22)
  go_wp2_with fail
  go_ret2
  exact ⟨rfl, hb1⟩
set_option maxHeartbeats 1000000 in
theorem cmp_no (a b : Option Addr) (ca cb : Nat) (za zb : List Int) (w : World) (ha : Lie w a za) (hb : Lie w b zb) (la : za.length ≤ maxLen) (lb : zb.length ≤ maxLen) (hq : (mayB za && mayB zb) = false) :
    Calls Try.prog 19 #[.slice a za.length ca, .slice b zb.length cb] w fun e w' => e = .returned (.tuple #[.int .i64 0, .int .i64 2]) ∧ Below w.heap.size w w' := by
  have HM := Hide.mk (allMay_new a b ca cb za zb w ha hb la lb false hq)
  clear ha hb hq
  go_enter Try.func19, Try.ntmps19
  go_wp2_with fail
  refine HM.out.mono ?_
  rintro e w' ⟨rfl, rfl⟩
  have hb1 := below_alloc w (.cells #[.slice a za.length ca, .slice b zb.length cb] 22)
  go_wp2_with fail
  go_ret2
  exact ⟨rfl, hb1⟩
set_option maxHeartbeats 1000000 in
set_option maxRecDepth 100000 in
theorem sub_less (a b : Option Addr) (ca cb : Nat) (za zb : List Int) (w : World) (ha : Lie w a za) (hb : Lie w b zb) (ra : Nt.Rng za) (rb : Nt.Rng zb) (pa : mayB za = true) (pb : mayB zb = true) (hv : Nt.val za < Nt.val zb) :
    Calls Try.prog 21 #[.slice a za.length ca, .slice b zb.length cb] w fun e w' => e = .returned (.tuple #[.slice none 0 0, .int .i64 10]) ∧ Below w.heap.size w w' := by
  have la := (may_can ra pa).2
  have lb := (may_can rb pb).2
  have HM := Hide.mk (allMay_new a b ca cb za zb w ha hb (by unfold maxLen; omega) (by unfold maxLen; omega) true (by rw [pa, pb]; rfl))
  have HC := fun W (h : Below w.heap.size w W) => Hide.mk (compare38 a b ca cb za zb W (ha.below h (Nat.le_refl _)) (hb.below h (Nat.le_refl _)) (may_can ra pa).1 (may_can rb pb).1 (by unfold maxLen; omega))
  rw [sgn_lt hv] at HC
  clear ha hb ra rb pa pb hv
  go_enter Try.func21, Try.ntmps21
  go_wp2_with fail
  refine HM.out.mono ?_
  rintro e w' ⟨rfl, rfl⟩
  have hb1 := below_alloc w (.cells #[.slice a za.length ca, .slice b zb.length cb] 22)
  go_wp2_with fail
  refine (HC _ hb1).out.mono ?_
  rintro e w2 ⟨rfl, hbel2⟩
  have hb2 := below_then hb1 hbel2
  clear hb1 hbel2
  go_wp2_with fail
  go_ret2
  exact ⟨rfl, hb2⟩
end Go.Proofs.Ytcjmamlffbhnlaa
