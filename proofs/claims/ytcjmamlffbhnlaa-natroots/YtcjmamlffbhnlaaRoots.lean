import Derived.Test.YtcjmamlffbhnlaaW42
namespace Go.Proofs.Ytcjmamlffbhnlaa
open Go.RowKit
set_option linter.unusedVariables false

theorem root_one {x r q s : Int} (h0 : 0 ≤ r) (h1 : r * r ≤ x) (h2 : x < (r + 1) * (r + 1)) (h : RtInv x q s) : r = q := by
  obtain ⟨k1, k2, k3, k4⟩ := h
  have e2 : (r + 1) * (r + 1) = r * r + 2 * r + 1 := by grind
  by_cases c : r ≤ q
  · by_cases d : q ≤ r
    · omega
    · have : (r + 1) * (r + 1) ≤ q * q := Int.mul_le_mul (by omega) (by omega) (by omega) k1
      omega
  · have h3 : (q + 1) * (q + 1) ≤ r * r := Int.mul_le_mul (by omega) (by omega) (by omega) h0
    have e3 : (q + 1) * (q + 1) = q * q + 2 * q + 1 := by grind
    omega
theorem root_bit {x r q s : Int} (e : r = q) (h : RtInv x q s) : (decide (r * r = x) == decide (s = 0)) = true := by
  obtain ⟨k1, k2, k3, k4⟩ := h
  subst e
  by_cases c : s = 0
  · simp [c]; omega
  · have : ¬ r * r = x := by omega
    simp [c, this]
set_option maxHeartbeats 4000000 in
theorem refRoot_nil (a : Option Addr) (ca : Nat) (w : World) :
    Calls Try.prog 31 #[.slice a 0 ca] w fun e w' => e = .returned (.tuple #[.slice none 0 0, .bool true]) ∧ w = w' := by
  go_enter Try.func31, Try.ntmps31
  go_wp2_with fail
  refine (refLen_nil a ca w).mono ?_
  rintro e w' ⟨rfl, rfl⟩
  go_wp2
  go_loopw [4, 5, 7] (fun rv sv iv wr => iv = .int .i64 (-2) ∧ rv = .slice none 0 0 ∧ sv = .slice none 0 0 ∧ w = wr) (fun _ _ _ _ => 0)
  case atStart => exact ⟨rfl, rfl, rfl, rfl⟩
  case round =>
    obtain ⟨rfl, rfl, rfl, rfl⟩ := hrel
    go_wp2
    go_ret2
    exact ⟨rfl, rfl⟩
theorem refRoot_any (a : Option Addr) (ca : Nat) (za : List Int) (w : World) (ha : Lie w a za) (qa : Nt.Can za) (hm : za.length ≤ 5000) :
    Calls Try.prog 31 #[.slice a za.length ca] w fun e w' => ∃ zr ar cr s, e = .returned (.tuple #[.slice ar zr.length cr, .bool (decide (s = 0))]) ∧ Lie w' ar zr ∧ Nt.Can zr ∧ RtInv (Nt.val za) (Nt.val zr) s ∧ Below w.heap.size w w' := by
  by_cases hz : 0 < za.length
  · exact refRoot31 a ca za w ha qa hz hm
  · have : za = [] := List.length_eq_zero_iff.1 (by omega)
    subst this
    refine (refRoot_nil a ca w).mono ?_
    rintro e w' ⟨rfl, rfl⟩
    exact ⟨[], none, 0, 0, rfl, .inl rfl, Nt.can_nil, by rw [Nt.val_nil]; exact ⟨by decide, by decide, by decide, by decide⟩, Below.refl _ _⟩

set_option maxHeartbeats 4000000 in
set_option maxRecDepth 100000 in
theorem roots_e1 (a : Option Addr) (ca : Nat) (za : List Int) (w : World) (ha : Lie w a za) (ra : Nt.Rng za) (la : za.length ≤ maxLen) (na : a = none → ca = 0) (haa : (130 : Int) < (za.length : Int)) :
    Calls Try.prog 5 #[.slice a za.length ca] w fun e w' => e = .returned (.bool true) ∧ Below w.heap.size w w' := by
  go_enter Try.func5, Try.ntmps5
  go_wp2_with fail
  refine (long_yes _ _ _ _ _ haa).mono ?_
  rintro e w' ⟨rfl, rfl⟩
  go_wp2_with fail
  refine (known11 _).mono ?_
  rintro e w' ⟨rfl, hbel⟩
  go_wp2
  go_ret
  exact ⟨rfl, hbel⟩
set_option maxHeartbeats 4000000 in
set_option maxRecDepth 100000 in
theorem roots_no (a : Option Addr) (ca : Nat) (za : List Int) (w : World) (ha : Lie w a za) (ra : Nt.Rng za) (la : za.length ≤ maxLen) (na : a = none → ca = 0) (haa : (za.length : Int) ≤ 130) (ma : mayB za = false) :
    Calls Try.prog 5 #[.slice a za.length ca] w fun e w' => e = .returned (.bool true) ∧ Below w.heap.size w w' := by
  have R := Hide.mk ra
  have M := Hide.mk ma
  have NN := Hide.mk na
  have LM := Hide.mk la
  have L : Live w [(a, za)] := ⟨by simp [ha]⟩
  have HB : Below w.heap.size w w := Below.refl _ _
  clear ha la ma ra na
  go_enter Try.func5, Try.ntmps5
  go_wp2_with fail
  refine (long_no _ _ _ _ _ haa).mono ?_
  rintro e w' ⟨rfl, rfl⟩
  go_wp2_with fail
  refine (lent12 a ca za _ (L.all (a, za) (by simp)) (by omega) NN.out).mono ?_
  rintro e w1 ⟨ax, cx, rfl, ox, hq⟩
  replace L := L.push (ownLie ox) hq
  replace HB := below_then HB hq
  clear hq ox
  go_wp2_with fail
  refine (root_no ax cx za _ (L.all (ax, za) (by simp)) LM.out M.out).mono ?_
  rintro e w' ⟨rfl, rfl⟩
  go_wp2_with fail
  refine (rmay_false a ca za _ (L.all (a, za) (by simp)) LM.out M.out).mono ?_
  rintro e w' ⟨rfl, rfl⟩
  go_wp2_with fail
  refine (known11 _).mono ?_
  rintro e w2 ⟨rfl, hq⟩
  replace L := L.keep hq
  replace HB := below_then HB hq
  go_wp2
  go_ret
  exact ⟨rfl, HB⟩
theorem root_le2 {r x : Int} (h0 : 0 ≤ r) (h : r * r ≤ x) : r ≤ x := by
  by_cases c : r = 0
  · subst c; omega
  · have : r * 1 ≤ r * r := Int.mul_le_mul_of_nonneg_left (by omega) h0
    omega
set_option maxHeartbeats 4000000 in
set_option maxRecDepth 100000 in
theorem roots_main (a : Option Addr) (ca : Nat) (za : List Int) (w : World) (ha : Lie w a za) (ra : Nt.Rng za) (la : za.length ≤ maxLen) (na : a = none → ca = 0) (haa : (za.length : Int) ≤ 130) (ma : mayB za = true) :
    Calls Try.prog 5 #[.slice a za.length ca] w fun e w' => e = .returned (.bool true) ∧ Below w.heap.size w w' := by
  have R := Hide.mk ra
  have M := Hide.mk ma
  have NN := Hide.mk na
  have LM := Hide.mk la
  have L : Live w [(a, za)] := ⟨by simp [ha]⟩
  have HB : Below w.heap.size w w := Below.refl _ _
  clear ha la ma ra na
  go_enter Try.func5, Try.ntmps5
  go_wp2_with fail
  refine (long_no _ _ _ _ _ haa).mono ?_
  rintro e w' ⟨rfl, rfl⟩
  go_wp2_with fail
  refine (lent12 a ca za _ (L.all (a, za) (by simp)) (by omega) NN.out).mono ?_
  rintro e w1 ⟨ax, cx, rfl, ox, hq⟩
  replace L := L.push (ownLie ox) hq
  replace HB := below_then HB hq
  clear hq ox
  go_wp2_with fail
  refine (root_any ax cx za _ (L.all (ax, za) (by simp)) R.out M.out).mono ?_
  rintro e w2 ⟨zr, ar, cr, rfl, or1, kr, h1, h2, hq⟩
  replace L := L.push (ownLie or1) hq
  replace HB := below_then HB hq
  have lr : zr.length ≤ za.length := (Nt.can_len kr _).1 (by have h3 := root_le2 (Nt.val_bd kr.1).1 h1; have h4 := (Nt.val_bd R.out).2; omega)
  have KR := Hide.mk kr
  have H1 := Hide.mk h1
  have H2 := Hide.mk h2
  obtain ⟨b, hb⟩ : ∃ b, b = decide (Nt.val zr * Nt.val zr = Nt.val za) := ⟨_, rfl⟩
  have HBB := Hide.mk hb
  rw [← hb]
  clear hq or1 kr h1 h2 hb
  go_wp2_with fail
  refine (rmay_true a ca za _ (L.all (a, za) (by simp)) LM.out M.out).mono ?_
  rintro e w' ⟨rfl, rfl⟩
  go_wp2_with fail
  refine (refRoot_any a ca za _ (L.all (a, za) (by simp)) (may_can R.out M.out).1 (by omega)).mono ?_
  rintro e w3 ⟨zq, aq, cq, t, rfl, lq, kq, ht, hq⟩
  replace L := L.push lq hq
  replace HB := below_then HB hq
  have hrq := root_one (Nt.val_bd KR.out.1).1 H1.out H2.out ht
  have hbt : (b == decide (t = 0)) = true := by rw [HBB.out]; exact root_bit hrq ht
  have SQ : Hide (zr = zq) := ⟨Nt.can_unique KR.out kq hrq⟩
  obtain ⟨u, hu⟩ : ∃ u, u = decide (t = 0) := ⟨_, rfl⟩
  rw [← hu] at hbt
  rw [← hu]
  clear lq kq ht hq hrq hu
  go_wp2_with fail
  refine (same_true ar aq cr cq zr zq _ (L.all (ar, zr) (by simp)) (L.all (aq, zq) (by simp)) (by omega) SQ.out).mono ?_
  rintro e w4 ⟨rfl, hq⟩
  replace L := L.keep hq
  replace HB := below_then HB hq
  clear hq
  go_wp2_with fail
  refine (same_true ax a cx ca za za _ (L.all (ax, za) (by simp)) (L.all (a, za) (by simp)) (by omega) rfl).mono ?_
  rintro e w5 ⟨rfl, hq⟩
  replace L := L.keep hq
  replace HB := below_then HB hq
  clear hq
  go_wp2_with fail
  refine (known11 _).mono ?_
  rintro e w6 ⟨rfl, hq⟩
  replace L := L.keep hq
  replace HB := below_then HB hq
  go_wp2
  go_ret
  exact ⟨rfl, HB⟩
theorem roots5 (a : Option Addr) (ca : Nat) (za : List Int) (w : World) (ha : Lie w a za) (ra : Nt.Rng za) (la : za.length ≤ maxLen) (na : a = none → ca = 0) :
    Calls Try.prog 5 #[.slice a za.length ca] w fun e w' => e = .returned (.bool true) ∧ Below w.heap.size w w' := by
  by_cases haa : (za.length : Int) ≤ 130
  · cases ma : mayB za
    · exact roots_no a ca za w ha ra la na haa ma
    · exact roots_main a ca za w ha ra la na haa ma
  · exact roots_e1 a ca za w ha ra la na (by omega)
end Go.Proofs.Ytcjmamlffbhnlaa
