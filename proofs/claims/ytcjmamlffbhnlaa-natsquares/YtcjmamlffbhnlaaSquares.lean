import Derived.Test.YtcjmamlffbhnlaaW32
namespace Go.Proofs.Ytcjmamlffbhnlaa
open Go.RowKit
set_option linter.unusedVariables false

set_option maxHeartbeats 4000000 in
set_option maxRecDepth 100000 in
theorem squares_e1 (a : Option Addr) (ca : Nat) (za : List Int) (w : World) (ha : Lie w a za) (ra : Nt.Rng za) (la : za.length ≤ maxLen) (na : a = none → ca = 0) (haa : (400 : Int) < (za.length : Int)) :
    Calls Try.prog 9 #[.slice a za.length ca] w fun e w' => e = .returned (.bool true) ∧ Below w.heap.size w w' := by
  go_enter Try.func9, Try.ntmps9
  go_wp2_with fail
  refine (long_yes _ _ _ _ _ haa).mono ?_
  rintro e w' ⟨rfl, rfl⟩
  go_wp2_with fail
  refine (known11 _).mono ?_
  rintro e w' ⟨rfl, hbel⟩
  go_wp2
  go_ret
  exact ⟨rfl, hbel⟩
set_option maxHeartbeats 4000000 in
set_option maxRecDepth 100000 in
theorem squares_e2 (a : Option Addr) (ca : Nat) (za : List Int) (w : World) (ha : Lie w a za) (ra : Nt.Rng za) (la : za.length ≤ maxLen) (na : a = none → ca = 0) (haa : (za.length : Int) ≤ 400) (ma : mayB za = false) :
    Calls Try.prog 9 #[.slice a za.length ca] w fun e w' => e = .returned (.bool true) ∧ Below w.heap.size w w' := by
  go_enter Try.func9, Try.ntmps9
  go_wp2_with fail
  refine (long_no _ _ _ _ _ haa).mono ?_
  rintro e w' ⟨rfl, rfl⟩
  go_wp2_with fail
  refine (may_no _ _ _ _ ha la ma).mono ?_
  rintro e w' ⟨rfl, rfl⟩
  go_wp2_with fail
  refine (known11 _).mono ?_
  rintro e w' ⟨rfl, hbel⟩
  go_wp2
  go_ret
  exact ⟨rfl, hbel⟩
theorem root_le {r x : Int} (h0 : 0 ≤ r) (h : r * r ≤ x) : r ≤ x := by
  by_cases c : r = 0
  · subst c; omega
  · have : r * 1 ≤ r * r := Int.mul_le_mul_of_nonneg_left (by omega) h0
    omega
theorem root_flag {x y : Int} {b : Bool} (h : x ≤ y) (hb : b = decide (x = y)) : sgn x y ≤ 0 ∧ (b == (sgn x y == 0)) = true := by
  subst hb
  by_cases e : x = y
  · rw [sgn_eq e]; simp [e]
  · rw [sgn_lt (by omega)]; simp [e]

set_option maxHeartbeats 4000000 in
set_option maxRecDepth 100000 in
theorem squares_main (a : Option Addr) (ca : Nat) (za : List Int) (w : World) (ha : Lie w a za) (ra : Nt.Rng za) (la : za.length ≤ maxLen) (na : a = none → ca = 0) (haa : (za.length : Int) ≤ 400) (ma : mayB za = true) :
    Calls Try.prog 9 #[.slice a za.length ca] w fun e w' => e = .returned (.bool true) ∧ Below w.heap.size w w' := by
  have Ga : Good za (Nt.val za) := ⟨(may_can ra ma).1, (may_can ra ma).2, rfl⟩
  have TA := Hide.mk (Lt.of ra (show za.length ≤ 400 by omega))
  have R := Hide.mk ra
  have M := Hide.mk ma
  have NN := Hide.mk na
  have L : Live w [(a, za)] := ⟨by simp [ha]⟩
  have HB : Below w.heap.size w w := Below.refl _ _
  go_enter Try.func9, Try.ntmps9
  go_wp2_with fail
  refine (long_no _ _ _ _ _ haa).mono ?_
  rintro e w' ⟨rfl, rfl⟩
  go_wp2_with fail
  refine (may_yes _ _ _ _ ha la ma).mono ?_
  rintro e w' ⟨rfl, rfl⟩
  clear ha la ma ra na
  go_wp2_with fail
  refine (lent12 a ca za _ (L.all (a, za) (by simp)) (by omega) NN.out).mono ?_
  rintro e w1 ⟨ax, cx, rfl, ox, hq⟩
  replace L := L.push (ownLie ox) hq
  replace HB := below_then HB hq
  clear hq ox
  go_wp2_with fail
  refine (root_any ax cx za _ (L.all (ax, za) (by simp)) R.out M.out).mono ?_
  rintro e w2 ⟨zr, ar, cr, rfl, or1, kr, h1, h2, hq⟩
  replace L := L.push (ownLie or1) hq
  replace HB := below_then HB hq
  have r0 := (Nt.val_bd kr.1).1
  have hrs : Nt.val zr ≤ Nt.val za := root_le r0 h1
  have TR : Lt 400 (Nt.val zr) := ⟨r0, by have := TA.out.2; omega⟩
  have lr : zr.length ≤ 400 := (Nt.can_len kr 400).1 TR.2
  have Gr : Good zr (Nt.val zr) := ⟨kr, by omega, rfl⟩
  have H1 := Hide.mk h1
  have H2 := Hide.mk h2
  have T := Hide.mk TR
  have T1 : Hide (Lt 401 (Nt.val zr + 1)) := ⟨TR.add ⟨by decide, by have := Nt.pw_mono (show 1 ≤ 400 by decide); omega⟩⟩
  clear hq or1 kr h1 h2 r0 hrs TR lr
  obtain ⟨b, hb⟩ : ∃ b, b = decide (Nt.val zr * Nt.val zr = Nt.val za) := ⟨_, rfl⟩
  have HBB := Hide.mk hb
  rw [← hb]
  clear hb
  go_wp2_with fail
  refine (mul_fit ar ar cr cr zr zr _ (L.all (ar, zr) (by simp)) (L.all (ar, zr) (by simp)) Gr Gr ((T.out.mul T.out).mono (by decide))).mono ?_
  rintro e w3 ⟨zs, as1, cs, rfl, hp, _⟩
  replace L := L.push hp.lie hp.bel
  replace HB := below_then HB hp.bel
  have Gs := hp.good
  clear hp
  go_wp2_with fail
  refine (of16 1 (by decide) (by decide) _).mono ?_
  rintro e w4 ⟨z1, a1, c1, rfl, hp, _⟩
  replace L := L.push hp.lie hp.bel
  replace HB := below_then HB hp.bel
  have G1 := hp.good
  clear hp
  go_wp2_with fail
  refine (add_fit ar a1 cr c1 zr z1 _ (L.all (ar, zr) (by simp)) (L.all (a1, z1) (by simp)) Gr G1 (T1.out.mono (by decide))).mono ?_
  rintro e w5 ⟨zn, an, cn, rfl, hp, _⟩
  replace L := L.push hp.lie hp.bel
  replace HB := below_then HB hp.bel
  have Gn := hp.good
  clear hp
  go_wp2_with fail
  refine (mul_fit an an cn cn zn zn _ (L.all (an, zn) (by simp)) (L.all (an, zn) (by simp)) Gn Gn ((T1.out.mul T1.out).mono (by decide))).mono ?_
  rintro e w6 ⟨zt, at1, ct, rfl, hp, _⟩
  replace L := L.push hp.lie hp.bel
  replace HB := below_then HB hp.bel
  have Gt := hp.good
  clear hp
  have hc1 := fun W h1 h2 => Hide.mk (cmp19 as1 a cs ca zs za W h1 h2 Gs.can.1 R.out Gs.may M.out)
  rw [Gs.val] at hc1
  have hc2 := fun W h1 h2 => Hide.mk (cmp19 at1 a ct ca zt za W h1 h2 Gt.can.1 R.out Gt.may M.out)
  rw [Gt.val, sgn_gt H2.out] at hc2
  have hsg : sgn (Nt.val zr * Nt.val zr) (Nt.val za) ≤ 0 ∧ (b == (sgn (Nt.val zr * Nt.val zr) (Nt.val za) == 0)) = true := root_flag H1.out HBB.out
  generalize sgn (Nt.val zr * Nt.val zr) (Nt.val za) = sg at *
  have hs1 := hsg.1
  have hs2 := hsg.2
  clear hsg
  go_wp2_with fail
  refine ((hc1 _ (L.all (as1, zs) (by simp)) (L.all (a, za) (by simp))).out).mono ?_
  rintro e w7 ⟨rfl, hq⟩
  replace L := L.keep hq
  replace HB := below_then HB hq
  clear hq hc1
  go_wp2_with fail
  refine ((hc2 _ (L.all (at1, zt) (by simp)) (L.all (a, za) (by simp))).out).mono ?_
  rintro e w8 ⟨rfl, hq⟩
  replace L := L.keep hq
  replace HB := below_then HB hq
  clear hq hc2
  go_wp2_with fail
  refine (known11 _).mono ?_
  rintro e w9 ⟨rfl, hq⟩
  replace L := L.keep hq
  replace HB := below_then HB hq
  go_wp2
  go_ret
  exact ⟨rfl, HB⟩
theorem squares9 (a : Option Addr) (ca : Nat) (za : List Int) (w : World) (ha : Lie w a za) (ra : Nt.Rng za) (la : za.length ≤ maxLen) (na : a = none → ca = 0) :
    Calls Try.prog 9 #[.slice a za.length ca] w fun e w' => e = .returned (.bool true) ∧ Below w.heap.size w w' := by
  by_cases haa : (za.length : Int) ≤ 400
  · cases ma : mayB za
    · exact squares_e2 a ca za w ha ra la na haa ma
    · exact squares_main a ca za w ha ra la na haa ma
  · exact squares_e1 a ca za w ha ra la na (by omega)
end Go.Proofs.Ytcjmamlffbhnlaa
