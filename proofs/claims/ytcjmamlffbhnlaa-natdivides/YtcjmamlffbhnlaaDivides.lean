import Derived.Test.YtcjmamlffbhnlaaW28
namespace Go.Proofs.Ytcjmamlffbhnlaa
open Go.RowKit
set_option linter.unusedVariables false

set_option maxHeartbeats 4000000 in
set_option maxRecDepth 100000 in
theorem divides_e1 (a b : Option Addr) (ca cb : Nat) (za zb : List Int) (w : World) (ha : Lie w a za) (hb : Lie w b zb) (ra : Nt.Rng za) (rb : Nt.Rng zb) (la : za.length ≤ maxLen) (lb : zb.length ≤ maxLen) (na : a = none → ca = 0) (nb : b = none → cb = 0) (haa : (400 : Int) < (za.length : Int)) :
    Calls Try.prog 7 #[.slice a za.length ca, .slice b zb.length cb] w fun e w' => e = .returned (.bool true) ∧ Below w.heap.size w w' := by
  go_enter Try.func7, Try.ntmps7
  go_wp2_with fail
  refine (long_yes _ _ _ _ _ haa).mono ?_
  rintro e w' ⟨rfl, rfl⟩
  go_wp2_with fail
  refine (known11 _).mono ?_
  rintro e w' ⟨rfl, hbel⟩
  go_wp2
  go_ret
  exact ⟨rfl, hbel⟩
set_option maxHeartbeats 4000000 in
set_option maxRecDepth 100000 in
theorem divides_e2 (a b : Option Addr) (ca cb : Nat) (za zb : List Int) (w : World) (ha : Lie w a za) (hb : Lie w b zb) (ra : Nt.Rng za) (rb : Nt.Rng zb) (la : za.length ≤ maxLen) (lb : zb.length ≤ maxLen) (na : a = none → ca = 0) (nb : b = none → cb = 0) (haa : (za.length : Int) ≤ 400) (hbb : (400 : Int) < (zb.length : Int)) :
    Calls Try.prog 7 #[.slice a za.length ca, .slice b zb.length cb] w fun e w' => e = .returned (.bool true) ∧ Below w.heap.size w w' := by
  go_enter Try.func7, Try.ntmps7
  go_wp2_with fail
  refine (long_no _ _ _ _ _ haa).mono ?_
  rintro e w' ⟨rfl, rfl⟩
  go_wp2_with fail
  refine (long_yes _ _ _ _ _ hbb).mono ?_
  rintro e w' ⟨rfl, rfl⟩
  go_wp2_with fail
  refine (known11 _).mono ?_
  rintro e w' ⟨rfl, hbel⟩
  go_wp2
  go_ret
  exact ⟨rfl, hbel⟩
set_option maxHeartbeats 4000000 in
set_option maxRecDepth 100000 in
theorem divides_e3 (a b : Option Addr) (ca cb : Nat) (za zb : List Int) (w : World) (ha : Lie w a za) (hb : Lie w b zb) (ra : Nt.Rng za) (rb : Nt.Rng zb) (la : za.length ≤ maxLen) (lb : zb.length ≤ maxLen) (na : a = none → ca = 0) (nb : b = none → cb = 0) (haa : (za.length : Int) ≤ 400) (hbb : (zb.length : Int) ≤ 400) (ma : mayB za = false) :
    Calls Try.prog 7 #[.slice a za.length ca, .slice b zb.length cb] w fun e w' => e = .returned (.bool true) ∧ Below w.heap.size w w' := by
  go_enter Try.func7, Try.ntmps7
  go_wp2_with fail
  refine (long_no _ _ _ _ _ haa).mono ?_
  rintro e w' ⟨rfl, rfl⟩
  go_wp2_with fail
  refine (long_no _ _ _ _ _ hbb).mono ?_
  rintro e w' ⟨rfl, rfl⟩
  go_wp2_with fail
  refine (may_no _ _ _ _ ha la ma).mono ?_
  rintro e w' ⟨rfl, rfl⟩
  go_wp2_with fail
  refine (known11 _).mono ?_
  rintro e w' ⟨rfl, hbel⟩
  go_wp2
  go_ret
  exact ⟨rfl, hbel⟩
set_option maxHeartbeats 4000000 in
set_option maxRecDepth 100000 in
theorem divides_e4 (a b : Option Addr) (ca cb : Nat) (za zb : List Int) (w : World) (ha : Lie w a za) (hb : Lie w b zb) (ra : Nt.Rng za) (rb : Nt.Rng zb) (la : za.length ≤ maxLen) (lb : zb.length ≤ maxLen) (na : a = none → ca = 0) (nb : b = none → cb = 0) (haa : (za.length : Int) ≤ 400) (hbb : (zb.length : Int) ≤ 400) (ma : mayB za = true) (mb : mayB zb = false) :
    Calls Try.prog 7 #[.slice a za.length ca, .slice b zb.length cb] w fun e w' => e = .returned (.bool true) ∧ Below w.heap.size w w' := by
  go_enter Try.func7, Try.ntmps7
  go_wp2_with fail
  refine (long_no _ _ _ _ _ haa).mono ?_
  rintro e w' ⟨rfl, rfl⟩
  go_wp2_with fail
  refine (long_no _ _ _ _ _ hbb).mono ?_
  rintro e w' ⟨rfl, rfl⟩
  go_wp2_with fail
  refine (may_yes _ _ _ _ ha la ma).mono ?_
  rintro e w' ⟨rfl, rfl⟩
  go_wp2_with fail
  refine (may_no _ _ _ _ hb lb mb).mono ?_
  rintro e w' ⟨rfl, rfl⟩
  go_wp2_with fail
  refine (known11 _).mono ?_
  rintro e w' ⟨rfl, hbel⟩
  go_wp2
  go_ret
  exact ⟨rfl, hbel⟩
theorem quo_zero2 (a b : Option Addr) (ca cb : Nat) (za zb : List Int) (w : World) (ha : Lie w a za) (hl : za.length ≤ maxLen) (pa : mayB za = true) (hz : zb = []) :
    Calls Try.prog 27 #[.slice a za.length ca, .slice b zb.length cb] w fun e w' => e = .returned (.tuple #[.slice none 0 0, .slice none 0 0, .int .i64 11]) ∧ Below w.heap.size w w' := by
  subst hz
  exact quo_zero a b ca cb za w ha hl pa

set_option maxHeartbeats 4000000 in
set_option maxRecDepth 100000 in
theorem divides_zero (a b : Option Addr) (ca cb : Nat) (za zb : List Int) (w : World) (ha : Lie w a za) (hb : Lie w b zb) (ra : Nt.Rng za) (rb : Nt.Rng zb) (la : za.length ≤ maxLen) (lb : zb.length ≤ maxLen) (na : a = none → ca = 0) (nb : b = none → cb = 0) (haa : (za.length : Int) ≤ 400) (hbb : (zb.length : Int) ≤ 400) (ma : mayB za = true) (mb : mayB zb = true) (hz : zb = []) :
    Calls Try.prog 7 #[.slice a za.length ca, .slice b zb.length cb] w fun e w' => e = .returned (.bool true) ∧ Below w.heap.size w w' := by
  have HZ := Hide.mk hz
  have hne : ((zb.length : Int) == 0) = true := by rw [hz]; rfl
  clear hz
  have Ga : Good za (Nt.val za) := ⟨(may_can ra ma).1, (may_can ra ma).2, rfl⟩
  have Gb : Good zb (Nt.val zb) := ⟨(may_can rb mb).1, (may_can rb mb).2, rfl⟩
  have R := Hide.mk (And.intro ra rb)
  have M := Hide.mk (And.intro ma mb)
  have NN := Hide.mk (And.intro na nb)
  have LL := Hide.mk (And.intro la lb)
  have L : Live w [(a, za), (b, zb)] := ⟨by simp [ha, hb]⟩
  have HB : Below w.heap.size w w := Below.refl _ _
  go_enter Try.func7, Try.ntmps7
  go_wp2_with fail
  refine (long_no _ _ _ _ _ haa).mono ?_
  rintro e w' ⟨rfl, rfl⟩
  go_wp2_with fail
  refine (long_no _ _ _ _ _ hbb).mono ?_
  rintro e w' ⟨rfl, rfl⟩
  go_wp2_with fail
  refine (may_yes _ _ _ _ ha la ma).mono ?_
  rintro e w' ⟨rfl, rfl⟩
  go_wp2_with fail
  refine (may_yes _ _ _ _ hb lb mb).mono ?_
  rintro e w' ⟨rfl, rfl⟩
  clear ha hb la lb ma mb ra rb na nb
  go_wp2_with fail
  refine (lent12 a ca za _ (L.all (a, za) (by simp)) (by omega) NN.out.1).mono ?_
  rintro e w1 ⟨ax, cx, rfl, ox, hq⟩
  replace L := L.push (ownLie ox) hq
  replace HB := below_then HB hq
  clear hq ox
  go_wp2_with fail
  refine (lent12 b cb zb _ (L.all (b, zb) (by simp)) (by omega) NN.out.2).mono ?_
  rintro e w2 ⟨ay, cy, rfl, oy, hq⟩
  replace L := L.push (ownLie oy) hq
  replace HB := below_then HB hq
  clear hq oy
  go_wp2_with fail
  refine (quo_zero2 ax ay cx cy za zb _ (L.all (ax, za) (by simp)) LL.out.1 M.out.1 HZ.out).mono ?_
  rintro e w3 ⟨rfl, hq⟩
  replace L := L.keep hq
  replace HB := below_then HB hq
  clear hq
  go_wp2_with fail
  refine (known11 _).mono ?_
  rintro e w4 ⟨rfl, hq⟩
  replace L := L.keep hq
  replace HB := below_then HB hq
  go_wp2
  go_ret
  exact ⟨rfl, HB⟩
theorem quot_small {x q b r M : Int} (h : x = q * b + r) (hq : 0 ≤ q) (hr : 0 ≤ r) (hb : 0 ≤ b) (hb1 : r < b) (hx : x < M) : q < M := by
  have h1 : q * 1 ≤ q * b := Int.mul_le_mul_of_nonneg_left (by omega) hq
  omega

set_option maxHeartbeats 4000000 in
set_option maxRecDepth 100000 in
theorem divides_main (a b : Option Addr) (ca cb : Nat) (za zb : List Int) (w : World) (ha : Lie w a za) (hb : Lie w b zb) (ra : Nt.Rng za) (rb : Nt.Rng zb) (la : za.length ≤ maxLen) (lb : zb.length ≤ maxLen) (na : a = none → ca = 0) (nb : b = none → cb = 0) (haa : (za.length : Int) ≤ 400) (hbb : (zb.length : Int) ≤ 400) (ma : mayB za = true) (mb : mayB zb = true) (hz : 0 < zb.length) :
    Calls Try.prog 7 #[.slice a za.length ca, .slice b zb.length cb] w fun e w' => e = .returned (.bool true) ∧ Below w.heap.size w w' := by
  have hne : ((zb.length : Int) == 0) = false := beq_eq_false_iff_ne.2 (by omega)
  have TA := Hide.mk (Lt.of ra (show za.length ≤ 400 by omega))
  have Ga : Good za (Nt.val za) := ⟨(may_can ra ma).1, (may_can ra ma).2, rfl⟩
  have Gb : Good zb (Nt.val zb) := ⟨(may_can rb mb).1, (may_can rb mb).2, rfl⟩
  have R := Hide.mk (And.intro ra rb)
  have M := Hide.mk (And.intro ma mb)
  have NN := Hide.mk (And.intro na nb)
  have LL := Hide.mk (And.intro la lb)
  have L : Live w [(a, za), (b, zb)] := ⟨by simp [ha, hb]⟩
  have HB : Below w.heap.size w w := Below.refl _ _
  go_enter Try.func7, Try.ntmps7
  go_wp2_with fail
  refine (long_no _ _ _ _ _ haa).mono ?_
  rintro e w' ⟨rfl, rfl⟩
  go_wp2_with fail
  refine (long_no _ _ _ _ _ hbb).mono ?_
  rintro e w' ⟨rfl, rfl⟩
  go_wp2_with fail
  refine (may_yes _ _ _ _ ha la ma).mono ?_
  rintro e w' ⟨rfl, rfl⟩
  go_wp2_with fail
  refine (may_yes _ _ _ _ hb lb mb).mono ?_
  rintro e w' ⟨rfl, rfl⟩
  clear ha hb la lb ma mb ra rb na nb
  go_wp2_with fail
  refine (lent12 a ca za _ (L.all (a, za) (by simp)) (by omega) NN.out.1).mono ?_
  rintro e w1 ⟨ax, cx, rfl, ox, hq⟩
  replace L := L.push (ownLie ox) hq
  replace HB := below_then HB hq
  clear hq ox
  go_wp2_with fail
  refine (lent12 b cb zb _ (L.all (b, zb) (by simp)) (by omega) NN.out.2).mono ?_
  rintro e w2 ⟨ay, cy, rfl, oy, hq⟩
  replace L := L.push (ownLie oy) hq
  replace HB := below_then HB hq
  clear hq oy
  go_wp2_with fail
  refine (quo27 ax ay cx cy za zb _ (L.all (ax, za) (by simp)) (L.all (ay, zb) (by simp)) R.out.1 R.out.2 M.out.1 M.out.2 hz).mono ?_
  rintro e w3 ⟨zq, zr, aq, cq, ar, cr, rfl, oq, or1, kq, kr, heq, hlt, hq⟩
  replace L := L.push (ownLie oq) hq
  replace L := L.push (ownLie or1) (Below.refl _ _)
  replace HB := below_then HB hq
  have hq0 := (Nt.val_bd kq.1).1
  have hr0 := (Nt.val_bd kr.1).1
  have hb0 := (Nt.val_bd R.out.2).1
  have hp0 : 0 ≤ Nt.val zq * Nt.val zb := Int.mul_nonneg hq0 hb0
  have HE := Hide.mk heq
  have HLT := Hide.mk hlt
  have lq : zq.length ≤ 4096 := (Nt.can_len kq 4096).1 (quot_small heq hq0 hr0 hb0 (by omega) ((TA.out.mono (show 400 ≤ 4096 by decide)).2))
  have lr : zr.length ≤ 4096 := (Nt.can_len kr 4096).1 (by have h1 := (TA.out.mono (show 400 ≤ 4096 by decide)).2; omega)
  have Gq : Good zq (Nt.val zq) := ⟨kq, lq, rfl⟩
  have Gr : Good zr (Nt.val zr) := ⟨kr, lr, rfl⟩
  have TP : Hide (Lt 4096 (Nt.val zq * Nt.val zb)) := ⟨⟨hp0, by have h1 := (TA.out.mono (show 400 ≤ 4096 by decide)).2; omega⟩⟩
  have TS : Hide (Lt 4096 (Nt.val zq * Nt.val zb + Nt.val zr)) := ⟨by rw [← heq]; exact TA.out.mono (by decide)⟩
  clear oq or1 kq kr heq hlt hq hq0 hr0 hb0 hp0 lq lr
  unfold three
  go_wp2_with fail
  refine (mul_fit aq b cq cb zq zb _ (L.all (aq, zq) (by simp)) (L.all (b, zb) (by simp)) Gq Gb TP.out).mono ?_
  rintro e w4 ⟨zp, ap, cp, rfl, hp, _⟩
  replace L := L.push hp.lie hp.bel
  replace HB := below_then HB hp.bel
  have Gp := hp.good
  clear hp
  go_wp2_with fail
  refine (add_fit ap ar cp cr zp zr _ (L.all (ap, zp) (by simp)) (L.all (ar, zr) (by simp)) Gp Gr TS.out).mono ?_
  rintro e w5 ⟨zs, as1, cs, rfl, hp, _⟩
  replace L := L.push hp.lie hp.bel
  replace HB := below_then HB hp.bel
  have Gs := hp.good
  clear hp
  have hcm := fun W h1 h2 => Hide.mk (cmp19 ar b cr cb zr zb W h1 h2 Gr.can.1 R.out.2 Gr.may M.out.2)
  rw [sgn_lt HLT.out] at hcm
  go_wp2_with fail
  refine ((hcm _ (L.all (ar, zr) (by simp)) (L.all (b, zb) (by simp))).out).mono ?_
  rintro e w6 ⟨rfl, hq⟩
  replace L := L.keep hq
  replace HB := below_then HB hq
  clear hq hcm
  go_wp2_with fail
  refine (same_yes as1 a cs ca zs za _ (L.all (as1, zs) (by simp)) (L.all (a, za) (by simp)) Gs.len (Gs.same Ga HE.out.symm)).mono ?_
  rintro e w7 ⟨rfl, hq⟩
  replace L := L.keep hq
  replace HB := below_then HB hq
  clear hq
  go_wp2_with fail
  refine (known11 _).mono ?_
  rintro e w8 ⟨rfl, hq⟩
  replace L := L.keep hq
  replace HB := below_then HB hq
  go_wp2
  go_ret
  exact ⟨rfl, HB⟩
theorem divides7 (a b : Option Addr) (ca cb : Nat) (za zb : List Int) (w : World) (ha : Lie w a za) (hb : Lie w b zb) (ra : Nt.Rng za) (rb : Nt.Rng zb) (la : za.length ≤ maxLen) (lb : zb.length ≤ maxLen) (na : a = none → ca = 0) (nb : b = none → cb = 0) :
    Calls Try.prog 7 #[.slice a za.length ca, .slice b zb.length cb] w fun e w' => e = .returned (.bool true) ∧ Below w.heap.size w w' := by
  by_cases haa : (za.length : Int) ≤ 400
  · by_cases hbb : (zb.length : Int) ≤ 400
    · cases ma : mayB za
      · exact divides_e3 a b ca cb za zb w ha hb ra rb la lb na nb haa hbb ma
      cases mb : mayB zb
      · exact divides_e4 a b ca cb za zb w ha hb ra rb la lb na nb haa hbb ma mb
      by_cases hz : zb.length = 0
      · exact divides_zero a b ca cb za zb w ha hb ra rb la lb na nb haa hbb ma mb (List.length_eq_zero_iff.1 hz)
      · exact divides_main a b ca cb za zb w ha hb ra rb la lb na nb haa hbb ma mb (by omega)
    · exact divides_e2 a b ca cb za zb w ha hb ra rb la lb na nb haa (by omega)
  · exact divides_e1 a b ca cb za zb w ha hb ra rb la lb na nb (by omega)
end Go.Proofs.Ytcjmamlffbhnlaa
