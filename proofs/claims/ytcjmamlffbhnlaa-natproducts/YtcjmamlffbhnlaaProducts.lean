import Derived.Test.YtcjmamlffbhnlaaW41
namespace Go.Proofs.Ytcjmamlffbhnlaa
open Go.RowKit
set_option linter.unusedVariables false

set_option maxHeartbeats 8000000 in
set_option maxRecDepth 100000 in
theorem prods_e1 (a b : Option Addr) (ca cb : Nat) (za zb : List Int) (w : World) (ha : Lie w a za) (hb : Lie w b zb) (ra : Nt.Rng za) (rb : Nt.Rng zb) (la : za.length ≤ maxLen) (lb : zb.length ≤ maxLen) (na : a = none → ca = 0) (nb : b = none → cb = 0) (haa : (4100 : Int) < (za.length : Int)) :
    Calls Try.prog 4 #[.slice a za.length ca, .slice b zb.length cb] w fun e w' => e = .returned (.bool true) ∧ Below w.heap.size w w' := by
  go_enter Try.func4, Try.ntmps4
  go_wp2_with fail
  refine (long_yes _ _ _ _ _ haa).mono ?_
  rintro e w' ⟨rfl, rfl⟩
  go_wp2_with fail
  refine (known11 _).mono ?_
  rintro e w' ⟨rfl, hbel⟩
  go_wp2
  go_ret
  exact ⟨rfl, hbel⟩
set_option maxHeartbeats 8000000 in
set_option maxRecDepth 100000 in
theorem prods_e2 (a b : Option Addr) (ca cb : Nat) (za zb : List Int) (w : World) (ha : Lie w a za) (hb : Lie w b zb) (ra : Nt.Rng za) (rb : Nt.Rng zb) (la : za.length ≤ maxLen) (lb : zb.length ≤ maxLen) (na : a = none → ca = 0) (nb : b = none → cb = 0) (haa : (za.length : Int) ≤ 4100) (hbb : (4100 : Int) < (zb.length : Int)) :
    Calls Try.prog 4 #[.slice a za.length ca, .slice b zb.length cb] w fun e w' => e = .returned (.bool true) ∧ Below w.heap.size w w' := by
  go_enter Try.func4, Try.ntmps4
  go_wp2_with fail
  refine (long_no _ _ _ _ _ haa).mono ?_
  rintro e w' ⟨rfl, rfl⟩
  go_wp2_with fail
  refine (long_yes _ _ _ _ _ hbb).mono ?_
  rintro e w' ⟨rfl, rfl⟩
  go_wp2_with fail
  refine (known11 _).mono ?_
  rintro e w' ⟨rfl, hbel⟩
  go_wp2
  go_ret
  exact ⟨rfl, hbel⟩
set_option maxHeartbeats 8000000 in
set_option maxRecDepth 100000 in
theorem prods_e3 (a b : Option Addr) (ca cb : Nat) (za zb : List Int) (w : World) (ha : Lie w a za) (hb : Lie w b zb) (ra : Nt.Rng za) (rb : Nt.Rng zb) (la : za.length ≤ maxLen) (lb : zb.length ≤ maxLen) (na : a = none → ca = 0) (nb : b = none → cb = 0) (haa : (za.length : Int) ≤ 4100) (hbb : (zb.length : Int) ≤ 4100) (hab : (1048576 : Int) < (za.length : Int) * (zb.length : Int)) :
    Calls Try.prog 4 #[.slice a za.length ca, .slice b zb.length cb] w fun e w' => e = .returned (.bool true) ∧ Below w.heap.size w w' := by
  have hpb : (za.length : Int) * (zb.length : Int) ≤ 16810000 := Int.mul_le_mul haa hbb (by omega) (by decide)
  have hpb0 : 0 ≤ (za.length : Int) * (zb.length : Int) := Int.mul_nonneg (by omega) (by omega)
  go_enter Try.func4, Try.ntmps4
  go_wp2_with fail
  refine (long_no _ _ _ _ _ haa).mono ?_
  rintro e w' ⟨rfl, rfl⟩
  go_wp2_with fail
  refine (long_no _ _ _ _ _ hbb).mono ?_
  rintro e w' ⟨rfl, rfl⟩
  go_wp2_with fail
  refine (known11 _).mono ?_
  rintro e w' ⟨rfl, hbel⟩
  go_wp2
  go_ret
  exact ⟨rfl, hbel⟩
theorem hwst (w : World) : Below w.heap.size w w := Below.refl _ _
theorem quo_zero3 (a b : Option Addr) (ca cb : Nat) (za zb : List Int) (w : World) (ha : Lie w a za) (hl : za.length ≤ maxLen) (pa : mayB za = true) (hz : zb = []) :
    Calls Try.prog 27 #[.slice a za.length ca, .slice b zb.length cb] w fun e w' => e = .returned (.tuple #[.slice none 0 0, .slice none 0 0, .int .i64 11]) ∧ Below w.heap.size w w' := by
  subst hz
  exact quo_zero a b ca cb za w ha hl pa
theorem quot_lt {x q b r M : Int} (h : x = q * b + r) (hq : 0 ≤ q) (hr : 0 ≤ r) (hb1 : r < b) (hx : x < M) : q < M := by
  have h1 : q * 1 ≤ q * b := Int.mul_le_mul_of_nonneg_left (by omega) hq
  omega

set_option maxHeartbeats 8000000 in
set_option maxRecDepth 100000 in
theorem prods_n1 (a b : Option Addr) (ca cb : Nat) (za zb : List Int) (w : World) (ha : Lie w a za) (hb : Lie w b zb) (ra : Nt.Rng za) (rb : Nt.Rng zb) (la : za.length ≤ maxLen) (lb : zb.length ≤ maxLen) (na : a = none → ca = 0) (nb : b = none → cb = 0) (haa : (za.length : Int) ≤ 4100) (hbb : (zb.length : Int) ≤ 4100) (hab : (za.length : Int) * (zb.length : Int) ≤ 1048576) (pa : mayB za = false) :
    Calls Try.prog 4 #[.slice a za.length ca, .slice b zb.length cb] w fun e w' => e = .returned (.bool true) ∧ Below w.heap.size w w' := by
  have hpb : (za.length : Int) * (zb.length : Int) ≤ 16810000 := Int.mul_le_mul haa hbb (by omega) (by decide)
  have hpb0 : 0 ≤ (za.length : Int) * (zb.length : Int) := Int.mul_nonneg (by omega) (by omega)
  have E := Hide.mk (show (mayB za && mayB zb) = false by rw [pa]; rfl)
  have R := Hide.mk (And.intro ra rb)
  have M := Hide.mk (And.intro la lb)
  have PA := Hide.mk pa
  have NN := Hide.mk (And.intro na nb)
  have L : Live w [(a, za), (b, zb)] := ⟨by simp [ha, hb]⟩
  have HB : Below w.heap.size w w := Below.refl _ _
  clear ha hb ra rb la lb na nb pa
  go_enter Try.func4, Try.ntmps4
  go_wp2_with fail
  refine (long_no _ _ _ _ _ haa).mono ?_
  rintro e w' ⟨rfl, rfl⟩
  go_wp2_with fail
  refine (long_no _ _ _ _ _ hbb).mono ?_
  rintro e w' ⟨rfl, rfl⟩
  go_wp2_with fail
  refine (lent12 a ca za _ (L.all (a, za) (by simp)) (by omega) NN.out.1).mono ?_
  rintro e w1 ⟨ax, cx, rfl, ox, hq⟩
  replace L := L.push (ownLie ox) hq
  replace HB := below_then HB hq
  clear hq ox
  go_wp2_with fail
  refine (lent12 b cb zb _ (L.all (b, zb) (by simp)) (by omega) NN.out.2).mono ?_
  rintro e w2 ⟨ay, cy, rfl, oy, hq⟩
  replace L := L.push (ownLie oy) hq
  replace HB := below_then HB hq
  clear hq oy
  go_wp2_with fail
  refine (mul_no ax ay cx cy za zb _ (L.all (ax, za) (by simp)) (L.all (ay, zb) (by simp)) M.out.1 M.out.2 E.out).mono ?_
  rintro e w3 ⟨rfl, hq⟩
  replace L := L.keep hq
  replace HB := below_then HB hq
  clear hq
  go_wp2_with fail
  refine (rmay_false a ca za _ (L.all (a, za) (by simp)) M.out.1 PA.out).mono ?_
  rintro e w' ⟨rfl, rfl⟩
  go_wp2_with fail
  refine (quo_no ax ay cx cy za zb _ (L.all (ax, za) (by simp)) (L.all (ay, zb) (by simp)) M.out.1 M.out.2 E.out).mono ?_
  rintro e w4 ⟨rfl, hq⟩
  replace L := L.keep hq
  replace HB := below_then HB hq
  clear hq
  go_wp2_with fail
  refine (known11 _).mono ?_
  rintro e w5 ⟨rfl, hq⟩
  replace L := L.keep hq
  replace HB := below_then HB hq
  go_wp2
  go_ret
  exact ⟨rfl, HB⟩
set_option maxHeartbeats 8000000 in
set_option maxRecDepth 100000 in
theorem prods_n2 (a b : Option Addr) (ca cb : Nat) (za zb : List Int) (w : World) (ha : Lie w a za) (hb : Lie w b zb) (ra : Nt.Rng za) (rb : Nt.Rng zb) (la : za.length ≤ maxLen) (lb : zb.length ≤ maxLen) (na : a = none → ca = 0) (nb : b = none → cb = 0) (haa : (za.length : Int) ≤ 4100) (hbb : (zb.length : Int) ≤ 4100) (hab : (za.length : Int) * (zb.length : Int) ≤ 1048576) (pa : mayB za = true) (pb : mayB zb = false) :
    Calls Try.prog 4 #[.slice a za.length ca, .slice b zb.length cb] w fun e w' => e = .returned (.bool true) ∧ Below w.heap.size w w' := by
  have hpb : (za.length : Int) * (zb.length : Int) ≤ 16810000 := Int.mul_le_mul haa hbb (by omega) (by decide)
  have hpb0 : 0 ≤ (za.length : Int) * (zb.length : Int) := Int.mul_nonneg (by omega) (by omega)
  have E := Hide.mk (show (mayB za && mayB zb) = false by rw [pa, pb]; rfl)
  have R := Hide.mk (And.intro ra rb)
  have M := Hide.mk (And.intro la lb)
  have PA := Hide.mk pa
  have PB := Hide.mk pb
  have NN := Hide.mk (And.intro na nb)
  have L : Live w [(a, za), (b, zb)] := ⟨by simp [ha, hb]⟩
  have HB : Below w.heap.size w w := Below.refl _ _
  clear ha hb ra rb la lb na nb pa pb
  go_enter Try.func4, Try.ntmps4
  go_wp2_with fail
  refine (long_no _ _ _ _ _ haa).mono ?_
  rintro e w' ⟨rfl, rfl⟩
  go_wp2_with fail
  refine (long_no _ _ _ _ _ hbb).mono ?_
  rintro e w' ⟨rfl, rfl⟩
  go_wp2_with fail
  refine (lent12 a ca za _ (L.all (a, za) (by simp)) (by omega) NN.out.1).mono ?_
  rintro e w1 ⟨ax, cx, rfl, ox, hq⟩
  replace L := L.push (ownLie ox) hq
  replace HB := below_then HB hq
  clear hq ox
  go_wp2_with fail
  refine (lent12 b cb zb _ (L.all (b, zb) (by simp)) (by omega) NN.out.2).mono ?_
  rintro e w2 ⟨ay, cy, rfl, oy, hq⟩
  replace L := L.push (ownLie oy) hq
  replace HB := below_then HB hq
  clear hq oy
  go_wp2_with fail
  refine (mul_no ax ay cx cy za zb _ (L.all (ax, za) (by simp)) (L.all (ay, zb) (by simp)) M.out.1 M.out.2 E.out).mono ?_
  rintro e w3 ⟨rfl, hq⟩
  replace L := L.keep hq
  replace HB := below_then HB hq
  clear hq
  go_wp2_with fail
  refine (rmay_true a ca za _ (L.all (a, za) (by simp)) M.out.1 PA.out).mono ?_
  rintro e w' ⟨rfl, rfl⟩
  go_wp2_with fail
  refine (rmay_false b cb zb _ (L.all (b, zb) (by simp)) M.out.2 PB.out).mono ?_
  rintro e w' ⟨rfl, rfl⟩
  go_wp2_with fail
  refine (quo_no ax ay cx cy za zb _ (L.all (ax, za) (by simp)) (L.all (ay, zb) (by simp)) M.out.1 M.out.2 E.out).mono ?_
  rintro e w4 ⟨rfl, hq⟩
  replace L := L.keep hq
  replace HB := below_then HB hq
  clear hq
  go_wp2_with fail
  refine (known11 _).mono ?_
  rintro e w5 ⟨rfl, hq⟩
  replace L := L.keep hq
  replace HB := below_then HB hq
  go_wp2
  go_ret
  exact ⟨rfl, HB⟩
set_option maxHeartbeats 8000000 in
set_option maxRecDepth 100000 in
theorem prods_l_la (a b : Option Addr) (ca cb : Nat) (za zb : List Int) (w : World) (ha : Lie w a za) (hb : Lie w b zb) (ra : Nt.Rng za) (rb : Nt.Rng zb) (la : za.length ≤ maxLen) (lb : zb.length ≤ maxLen) (na : a = none → ca = 0) (nb : b = none → cb = 0) (haa : (za.length : Int) ≤ 4100) (hbb : (zb.length : Int) ≤ 4100) (hab : (za.length : Int) * (zb.length : Int) ≤ 1048576) (pa : mayB za = true) (pb : mayB zb = true) (hs : 4294967296 ^ 4096 ≤ Nt.val za * Nt.val zb) (h1 : (1 : Int) < (zb.length : Int)) (h2 : (220 : Int) < (za.length : Int)) :
    Calls Try.prog 4 #[.slice a za.length ca, .slice b zb.length cb] w fun e w' => e = .returned (.bool true) ∧ Below w.heap.size w w' := by
  have hpb : (za.length : Int) * (zb.length : Int) ≤ 16810000 := Int.mul_le_mul haa hbb (by omega) (by decide)
  have hpb0 : 0 ≤ (za.length : Int) * (zb.length : Int) := Int.mul_nonneg (by omega) (by omega)
  have Ga : Good za (Nt.val za) := ⟨(may_can ra pa).1, (may_can ra pa).2, rfl⟩
  have Gb : Good zb (Nt.val zb) := ⟨(may_can rb pb).1, (may_can rb pb).2, rfl⟩
  have U := Hide.mk hs
  clear hs
  have VB := Hide.mk (And.intro (Nt.val_bd ra).1 (Nt.val_bd rb).1)
  have E := Hide.mk (show (mayB za && mayB zb) = true by rw [pa, pb]; rfl)
  have R := Hide.mk (And.intro ra rb)
  have M := Hide.mk (And.intro la lb)
  have PA := Hide.mk pa
  have PB := Hide.mk pb
  have NN := Hide.mk (And.intro na nb)
  have L : Live w [(a, za), (b, zb)] := ⟨by simp [ha, hb]⟩
  have HB : Below w.heap.size w w := Below.refl _ _
  clear ha hb ra rb la lb na nb pa pb
  go_enter Try.func4, Try.ntmps4
  go_wp2_with fail
  refine (long_no _ _ _ _ _ haa).mono ?_
  rintro e w' ⟨rfl, rfl⟩
  go_wp2_with fail
  refine (long_no _ _ _ _ _ hbb).mono ?_
  rintro e w' ⟨rfl, rfl⟩
  go_wp2_with fail
  refine (lent12 a ca za _ (L.all (a, za) (by simp)) (by omega) NN.out.1).mono ?_
  rintro e w1 ⟨ax, cx, rfl, ox, hq⟩
  replace L := L.push (ownLie ox) hq
  replace HB := below_then HB hq
  clear hq ox
  go_wp2_with fail
  refine (lent12 b cb zb _ (L.all (b, zb) (by simp)) (by omega) NN.out.2).mono ?_
  rintro e w2 ⟨ay, cy, rfl, oy, hq⟩
  replace L := L.push (ownLie oy) hq
  replace HB := below_then HB hq
  clear hq oy
  have LW := Hide.mk L
  have HBW := Hide.mk HB
  have HW := hwst w2
  go_wp2_with fail
  refine (mul_long ax ay cx cy za zb _ (L.all (ax, za) (by simp)) (L.all (ay, zb) (by simp)) Ga Gb U.out).mono ?_
  rintro e w3 ⟨rfl, hq⟩
  replace L := L.keep hq
  replace HB := below_then HB hq
  replace HW := below_then HW hq
  clear hq
  have WP : Wr w2.heap.size w3 (.slice none 0 0) := .inl rfl
  go_wp2_with fail
  refine (rmay_true a ca za _ (L.all (a, za) (by simp)) M.out.1 PA.out).mono ?_
  rintro e w' ⟨rfl, rfl⟩
  go_wp2_with fail
  refine (rmay_true b cb zb _ (L.all (b, zb) (by simp)) M.out.2 PB.out).mono ?_
  rintro e w' ⟨rfl, rfl⟩
  go_wp2_with fail
  refine (refMul_any a b ca cb za zb _ (L.all (a, za) (by simp)) (L.all (b, zb) (by simp)) R.out.1 R.out.2 (by omega) (by omega)).mono ?_
  rintro e w4 ⟨zm, am, cm, rfl, om, km, vm, hq⟩
  replace L := L.push (ownLie om) hq
  replace HB := below_then HB hq
  replace HW := below_then HW hq
  replace WP := WP.below hq (Nat.le_refl _)
  have hlen : (4096 : Int) < (zm.length : Int) := by have := mt (Nt.can_len km 4096).2 (by rw [vm]; exact Int.not_lt.2 U.out); omega
  clear om km vm hq
  go_wp2_with fail
  refine (long_yes _ _ _ _ _ h2).mono ?_
  rintro e w' ⟨rfl, rfl⟩
  go_wp2_with fail
  refine (known11 _).mono ?_
  rintro e w5 ⟨rfl, hq⟩
  replace L := L.keep hq
  replace HB := below_then HB hq
  replace HW := below_then HW hq
  replace WP := WP.below hq (Nat.le_refl _)
  go_wp2
  go_ret
  exact ⟨rfl, HB⟩
set_option maxHeartbeats 8000000 in
set_option maxRecDepth 100000 in
theorem prods_l_lb (a b : Option Addr) (ca cb : Nat) (za zb : List Int) (w : World) (ha : Lie w a za) (hb : Lie w b zb) (ra : Nt.Rng za) (rb : Nt.Rng zb) (la : za.length ≤ maxLen) (lb : zb.length ≤ maxLen) (na : a = none → ca = 0) (nb : b = none → cb = 0) (haa : (za.length : Int) ≤ 4100) (hbb : (zb.length : Int) ≤ 4100) (hab : (za.length : Int) * (zb.length : Int) ≤ 1048576) (pa : mayB za = true) (pb : mayB zb = true) (hs : 4294967296 ^ 4096 ≤ Nt.val za * Nt.val zb) (h1 : (1 : Int) < (zb.length : Int)) (h2 : (za.length : Int) ≤ 220) (h3 : (220 : Int) < (zb.length : Int)) :
    Calls Try.prog 4 #[.slice a za.length ca, .slice b zb.length cb] w fun e w' => e = .returned (.bool true) ∧ Below w.heap.size w w' := by
  have hpb : (za.length : Int) * (zb.length : Int) ≤ 16810000 := Int.mul_le_mul haa hbb (by omega) (by decide)
  have hpb0 : 0 ≤ (za.length : Int) * (zb.length : Int) := Int.mul_nonneg (by omega) (by omega)
  have Ga : Good za (Nt.val za) := ⟨(may_can ra pa).1, (may_can ra pa).2, rfl⟩
  have Gb : Good zb (Nt.val zb) := ⟨(may_can rb pb).1, (may_can rb pb).2, rfl⟩
  have U := Hide.mk hs
  clear hs
  have VB := Hide.mk (And.intro (Nt.val_bd ra).1 (Nt.val_bd rb).1)
  have E := Hide.mk (show (mayB za && mayB zb) = true by rw [pa, pb]; rfl)
  have R := Hide.mk (And.intro ra rb)
  have M := Hide.mk (And.intro la lb)
  have PA := Hide.mk pa
  have PB := Hide.mk pb
  have NN := Hide.mk (And.intro na nb)
  have L : Live w [(a, za), (b, zb)] := ⟨by simp [ha, hb]⟩
  have HB : Below w.heap.size w w := Below.refl _ _
  clear ha hb ra rb la lb na nb pa pb
  go_enter Try.func4, Try.ntmps4
  go_wp2_with fail
  refine (long_no _ _ _ _ _ haa).mono ?_
  rintro e w' ⟨rfl, rfl⟩
  go_wp2_with fail
  refine (long_no _ _ _ _ _ hbb).mono ?_
  rintro e w' ⟨rfl, rfl⟩
  go_wp2_with fail
  refine (lent12 a ca za _ (L.all (a, za) (by simp)) (by omega) NN.out.1).mono ?_
  rintro e w1 ⟨ax, cx, rfl, ox, hq⟩
  replace L := L.push (ownLie ox) hq
  replace HB := below_then HB hq
  clear hq ox
  go_wp2_with fail
  refine (lent12 b cb zb _ (L.all (b, zb) (by simp)) (by omega) NN.out.2).mono ?_
  rintro e w2 ⟨ay, cy, rfl, oy, hq⟩
  replace L := L.push (ownLie oy) hq
  replace HB := below_then HB hq
  clear hq oy
  have LW := Hide.mk L
  have HBW := Hide.mk HB
  have HW := hwst w2
  go_wp2_with fail
  refine (mul_long ax ay cx cy za zb _ (L.all (ax, za) (by simp)) (L.all (ay, zb) (by simp)) Ga Gb U.out).mono ?_
  rintro e w3 ⟨rfl, hq⟩
  replace L := L.keep hq
  replace HB := below_then HB hq
  replace HW := below_then HW hq
  clear hq
  have WP : Wr w2.heap.size w3 (.slice none 0 0) := .inl rfl
  go_wp2_with fail
  refine (rmay_true a ca za _ (L.all (a, za) (by simp)) M.out.1 PA.out).mono ?_
  rintro e w' ⟨rfl, rfl⟩
  go_wp2_with fail
  refine (rmay_true b cb zb _ (L.all (b, zb) (by simp)) M.out.2 PB.out).mono ?_
  rintro e w' ⟨rfl, rfl⟩
  go_wp2_with fail
  refine (refMul_any a b ca cb za zb _ (L.all (a, za) (by simp)) (L.all (b, zb) (by simp)) R.out.1 R.out.2 (by omega) (by omega)).mono ?_
  rintro e w4 ⟨zm, am, cm, rfl, om, km, vm, hq⟩
  replace L := L.push (ownLie om) hq
  replace HB := below_then HB hq
  replace HW := below_then HW hq
  replace WP := WP.below hq (Nat.le_refl _)
  have hlen : (4096 : Int) < (zm.length : Int) := by have := mt (Nt.can_len km 4096).2 (by rw [vm]; exact Int.not_lt.2 U.out); omega
  clear om km vm hq
  go_wp2_with fail
  refine (long_no _ _ _ _ _ h2).mono ?_
  rintro e w' ⟨rfl, rfl⟩
  go_wp2_with fail
  refine (long_yes _ _ _ _ _ h3).mono ?_
  rintro e w' ⟨rfl, rfl⟩
  go_wp2_with fail
  refine (known11 _).mono ?_
  rintro e w5 ⟨rfl, hq⟩
  replace L := L.keep hq
  replace HB := below_then HB hq
  replace HW := below_then HW hq
  replace WP := WP.below hq (Nat.le_refl _)
  go_wp2
  go_ret
  exact ⟨rfl, HB⟩
set_option maxHeartbeats 8000000 in
set_option maxRecDepth 100000 in
theorem prods_l_zero (a b : Option Addr) (ca cb : Nat) (za zb : List Int) (w : World) (ha : Lie w a za) (hb : Lie w b zb) (ra : Nt.Rng za) (rb : Nt.Rng zb) (la : za.length ≤ maxLen) (lb : zb.length ≤ maxLen) (na : a = none → ca = 0) (nb : b = none → cb = 0) (haa : (za.length : Int) ≤ 4100) (hbb : (zb.length : Int) ≤ 4100) (hab : (za.length : Int) * (zb.length : Int) ≤ 1048576) (pa : mayB za = true) (pb : mayB zb = true) (hs : 4294967296 ^ 4096 ≤ Nt.val za * Nt.val zb) (hz : zb = []) :
    Calls Try.prog 4 #[.slice a za.length ca, .slice b zb.length cb] w fun e w' => e = .returned (.bool true) ∧ Below w.heap.size w w' := by
  have hpb : (za.length : Int) * (zb.length : Int) ≤ 16810000 := Int.mul_le_mul haa hbb (by omega) (by decide)
  have hpb0 : 0 ≤ (za.length : Int) * (zb.length : Int) := Int.mul_nonneg (by omega) (by omega)
  have Ga : Good za (Nt.val za) := ⟨(may_can ra pa).1, (may_can ra pa).2, rfl⟩
  have Gb : Good zb (Nt.val zb) := ⟨(may_can rb pb).1, (may_can rb pb).2, rfl⟩
  have U := Hide.mk hs
  clear hs
  have HZ := Hide.mk hz
  have hl0 : ((zb.length : Int) == 0) = true := by rw [hz]; rfl
  have hl1 : (zb.length : Int) ≤ 1 := by rw [hz]; decide
  clear hz
  have VB := Hide.mk (And.intro (Nt.val_bd ra).1 (Nt.val_bd rb).1)
  have E := Hide.mk (show (mayB za && mayB zb) = true by rw [pa, pb]; rfl)
  have R := Hide.mk (And.intro ra rb)
  have M := Hide.mk (And.intro la lb)
  have PA := Hide.mk pa
  have PB := Hide.mk pb
  have NN := Hide.mk (And.intro na nb)
  have L : Live w [(a, za), (b, zb)] := ⟨by simp [ha, hb]⟩
  have HB : Below w.heap.size w w := Below.refl _ _
  clear ha hb ra rb la lb na nb pa pb
  go_enter Try.func4, Try.ntmps4
  go_wp2_with fail
  refine (long_no _ _ _ _ _ haa).mono ?_
  rintro e w' ⟨rfl, rfl⟩
  go_wp2_with fail
  refine (long_no _ _ _ _ _ hbb).mono ?_
  rintro e w' ⟨rfl, rfl⟩
  go_wp2_with fail
  refine (lent12 a ca za _ (L.all (a, za) (by simp)) (by omega) NN.out.1).mono ?_
  rintro e w1 ⟨ax, cx, rfl, ox, hq⟩
  replace L := L.push (ownLie ox) hq
  replace HB := below_then HB hq
  clear hq ox
  go_wp2_with fail
  refine (lent12 b cb zb _ (L.all (b, zb) (by simp)) (by omega) NN.out.2).mono ?_
  rintro e w2 ⟨ay, cy, rfl, oy, hq⟩
  replace L := L.push (ownLie oy) hq
  replace HB := below_then HB hq
  clear hq oy
  have LW := Hide.mk L
  have HBW := Hide.mk HB
  have HW := hwst w2
  go_wp2_with fail
  refine (mul_long ax ay cx cy za zb _ (L.all (ax, za) (by simp)) (L.all (ay, zb) (by simp)) Ga Gb U.out).mono ?_
  rintro e w3 ⟨rfl, hq⟩
  replace L := L.keep hq
  replace HB := below_then HB hq
  replace HW := below_then HW hq
  clear hq
  have WP : Wr w2.heap.size w3 (.slice none 0 0) := .inl rfl
  go_wp2_with fail
  refine (rmay_true a ca za _ (L.all (a, za) (by simp)) M.out.1 PA.out).mono ?_
  rintro e w' ⟨rfl, rfl⟩
  go_wp2_with fail
  refine (rmay_true b cb zb _ (L.all (b, zb) (by simp)) M.out.2 PB.out).mono ?_
  rintro e w' ⟨rfl, rfl⟩
  go_wp2_with fail
  refine (refMul_any a b ca cb za zb _ (L.all (a, za) (by simp)) (L.all (b, zb) (by simp)) R.out.1 R.out.2 (by omega) (by omega)).mono ?_
  rintro e w4 ⟨zm, am, cm, rfl, om, km, vm, hq⟩
  replace L := L.push (ownLie om) hq
  replace HB := below_then HB hq
  replace HW := below_then HW hq
  replace WP := WP.below hq (Nat.le_refl _)
  have hlen : (4096 : Int) < (zm.length : Int) := by have := mt (Nt.can_len km 4096).2 (by rw [vm]; exact Int.not_lt.2 U.out); omega
  clear om km vm hq
  go_wp2_with fail
  refine (quo_zero3 ax ay cx cy za zb _ (L.all (ax, za) (by simp)) M.out.1 PA.out HZ.out).mono ?_
  rintro e w5 ⟨rfl, hq⟩
  replace L := L.keep hq
  replace HB := below_then HB hq
  replace HW := below_then HW hq
  replace WP := WP.below hq (Nat.le_refl _)
  clear hq
  go_wp2_with fail
  refine (known11 _).mono ?_
  rintro e w6 ⟨rfl, hq⟩
  replace L := L.keep hq
  replace HB := below_then HB hq
  replace HW := below_then HW hq
  replace WP := WP.below hq (Nat.le_refl _)
  go_wp2
  go_ret
  exact ⟨rfl, HB⟩
set_option maxHeartbeats 8000000 in
set_option maxRecDepth 100000 in
theorem prods_l_one (a b : Option Addr) (ca cb : Nat) (za zb : List Int) (w : World) (ha : Lie w a za) (hb : Lie w b zb) (ra : Nt.Rng za) (rb : Nt.Rng zb) (la : za.length ≤ maxLen) (lb : zb.length ≤ maxLen) (na : a = none → ca = 0) (nb : b = none → cb = 0) (haa : (za.length : Int) ≤ 4100) (hbb : (zb.length : Int) ≤ 4100) (hab : (za.length : Int) * (zb.length : Int) ≤ 1048576) (pa : mayB za = true) (pb : mayB zb = true) (hs : 4294967296 ^ 4096 ≤ Nt.val za * Nt.val zb) (h1 : (zb.length : Int) ≤ 1) (h0 : 0 < zb.length) :
    Calls Try.prog 4 #[.slice a za.length ca, .slice b zb.length cb] w fun e w' => e = .returned (.bool true) ∧ Below w.heap.size w w' := by
  have hpb : (za.length : Int) * (zb.length : Int) ≤ 16810000 := Int.mul_le_mul haa hbb (by omega) (by decide)
  have hpb0 : 0 ≤ (za.length : Int) * (zb.length : Int) := Int.mul_nonneg (by omega) (by omega)
  have Ga : Good za (Nt.val za) := ⟨(may_can ra pa).1, (may_can ra pa).2, rfl⟩
  have Gb : Good zb (Nt.val zb) := ⟨(may_can rb pb).1, (may_can rb pb).2, rfl⟩
  have U := Hide.mk hs
  clear hs
  have hl0 : ((zb.length : Int) == 0) = false := beq_eq_false_iff_ne.2 (by omega)
  have VB := Hide.mk (And.intro (Nt.val_bd ra).1 (Nt.val_bd rb).1)
  have E := Hide.mk (show (mayB za && mayB zb) = true by rw [pa, pb]; rfl)
  have R := Hide.mk (And.intro ra rb)
  have M := Hide.mk (And.intro la lb)
  have PA := Hide.mk pa
  have PB := Hide.mk pb
  have NN := Hide.mk (And.intro na nb)
  have L : Live w [(a, za), (b, zb)] := ⟨by simp [ha, hb]⟩
  have HB : Below w.heap.size w w := Below.refl _ _
  clear ha hb ra rb la lb na nb pa pb
  go_enter Try.func4, Try.ntmps4
  go_wp2_with fail
  refine (long_no _ _ _ _ _ haa).mono ?_
  rintro e w' ⟨rfl, rfl⟩
  go_wp2_with fail
  refine (long_no _ _ _ _ _ hbb).mono ?_
  rintro e w' ⟨rfl, rfl⟩
  go_wp2_with fail
  refine (lent12 a ca za _ (L.all (a, za) (by simp)) (by omega) NN.out.1).mono ?_
  rintro e w1 ⟨ax, cx, rfl, ox, hq⟩
  replace L := L.push (ownLie ox) hq
  replace HB := below_then HB hq
  clear hq ox
  go_wp2_with fail
  refine (lent12 b cb zb _ (L.all (b, zb) (by simp)) (by omega) NN.out.2).mono ?_
  rintro e w2 ⟨ay, cy, rfl, oy, hq⟩
  replace L := L.push (ownLie oy) hq
  replace HB := below_then HB hq
  clear hq oy
  have LW := Hide.mk L
  have HBW := Hide.mk HB
  have HW := hwst w2
  go_wp2_with fail
  refine (mul_long ax ay cx cy za zb _ (L.all (ax, za) (by simp)) (L.all (ay, zb) (by simp)) Ga Gb U.out).mono ?_
  rintro e w3 ⟨rfl, hq⟩
  replace L := L.keep hq
  replace HB := below_then HB hq
  replace HW := below_then HW hq
  clear hq
  have WP : Wr w2.heap.size w3 (.slice none 0 0) := .inl rfl
  go_wp2_with fail
  refine (rmay_true a ca za _ (L.all (a, za) (by simp)) M.out.1 PA.out).mono ?_
  rintro e w' ⟨rfl, rfl⟩
  go_wp2_with fail
  refine (rmay_true b cb zb _ (L.all (b, zb) (by simp)) M.out.2 PB.out).mono ?_
  rintro e w' ⟨rfl, rfl⟩
  go_wp2_with fail
  refine (refMul_any a b ca cb za zb _ (L.all (a, za) (by simp)) (L.all (b, zb) (by simp)) R.out.1 R.out.2 (by omega) (by omega)).mono ?_
  rintro e w4 ⟨zm, am, cm, rfl, om, km, vm, hq⟩
  replace L := L.push (ownLie om) hq
  replace HB := below_then HB hq
  replace HW := below_then HW hq
  replace WP := WP.below hq (Nat.le_refl _)
  have hlen : (4096 : Int) < (zm.length : Int) := by have := mt (Nt.can_len km 4096).2 (by rw [vm]; exact Int.not_lt.2 U.out); omega
  clear om km vm hq
  go_wp2_with fail
  refine (quo27 ax ay cx cy za zb _ (L.all (ax, za) (by simp)) (L.all (ay, zb) (by simp)) R.out.1 R.out.2 PA.out PB.out (by omega)).mono ?_
  rintro e w5 ⟨zq, zr, aq, cq, ar, cr, rfl, oq, or1, kq, kr, heq, hlt, hq⟩
  replace L := L.push (ownLie oq) hq
  replace L := L.push (ownLie or1) (Below.refl _ _)
  replace HB := below_then HB hq
  have HWQ := Hide.mk HW.size
  replace HW := below_then HW hq
  replace WP := WP.below hq (Nat.le_refl _)
  have lq : zq.length ≤ za.length := (Nt.can_len kq _).1 (quot_lt heq (Nt.val_bd kq.1).1 (Nt.val_bd kr.1).1 hlt (Nt.val_bd R.out.1).2)
  have lr : zr.length ≤ zb.length := (Nt.can_len kr _).1 (by have := (Nt.val_bd R.out.2).2; omega)
  have WQ := oq.wr (by omega)
  have WR := or1.wr (by omega)
  have D1 := Hide.mk heq
  have D2 := Hide.mk hlt
  have KQ := Hide.mk kq
  have KR := Hide.mk kr
  clear oq or1 kq kr heq hlt hq
  unfold three
  go_wp2_with fail
  refine (refQuo_any a b ca cb za zb _ (L.all (a, za) (by simp)) (L.all (b, zb) (by simp)) Ga.can Gb.can (by omega) (by omega) (by omega)).mono ?_
  rintro e w6 ⟨yq, yr, bq, dq, br, dr, rfl, oq, or1, kq, kr, heq, hlt, hq⟩
  replace L := L.push (ownLie oq) hq
  replace L := L.push (ownLie or1) (Below.refl _ _)
  replace HB := below_then HB hq
  replace HW := below_then HW hq
  replace WP := WP.below hq (Nat.le_refl _)
  replace WQ := WQ.below hq (Nat.le_refl _)
  replace WR := WR.below hq (Nat.le_refl _)
  have hsame := div_same D1.out heq (Nt.val_bd KR.out.1).1 D2.out (Nt.val_bd kr.1).1 hlt
  have SQ : Hide (zq = yq) := ⟨Nt.can_unique KQ.out kq hsame.1⟩
  have SR : Hide (zr = yr) := ⟨Nt.can_unique KR.out kr hsame.2⟩
  clear oq or1 kq kr heq hlt hq hsame
  unfold two
  go_wp2_with fail
  refine (same_true aq bq cq dq zq yq _ (L.all (aq, zq) (by simp)) (L.all (bq, yq) (by simp)) (by omega) SQ.out).mono ?_
  rintro e w7 ⟨rfl, hq⟩
  replace L := L.keep hq
  replace HB := below_then HB hq
  replace HW := below_then HW hq
  replace WP := WP.below hq (Nat.le_refl _)
  replace WQ := WQ.below hq (Nat.le_refl _)
  replace WR := WR.below hq (Nat.le_refl _)
  clear hq
  go_wp2_with fail
  refine (same_true ar br cr dr zr yr _ (L.all (ar, zr) (by simp)) (L.all (br, yr) (by simp)) (by omega) SR.out).mono ?_
  rintro e w8 ⟨rfl, hq⟩
  replace L := L.keep hq
  replace HB := below_then HB hq
  replace HW := below_then HW hq
  replace WP := WP.below hq (Nat.le_refl _)
  replace WQ := WQ.below hq (Nat.le_refl _)
  replace WR := WR.below hq (Nat.le_refl _)
  clear hq
  clear L HB
  go_wp2_with fail
  refine (mark25 _ _ _ WQ).mono ?_
  rintro e w9 ⟨rfl, hm1, hm2⟩
  replace HW := HW.trans (hm1.out w2.heap.size HW.size HWQ.out)
  replace WR := hm2.out _ _ WR
  replace WP := hm2.out _ _ WP
  clear hm1 hm2 WQ
  go_wp2_with fail
  refine (mark25 _ _ _ WR).mono ?_
  rintro e w10 ⟨rfl, hm1, hm2⟩
  replace HW := HW.trans (hm1.out w2.heap.size HW.size HWQ.out)
  replace WP := hm2.out _ _ WP
  clear hm1 hm2 WR
  go_wp2_with fail
  refine (mark25 _ _ _ WP).mono ?_
  rintro e w11 ⟨rfl, hm1, hm2⟩
  replace HW := HW.trans (hm1.out w2.heap.size HW.size (Nat.le_refl _))
  clear hm1 hm2 WP
  have L := LW.out.keep HW
  have HB := below_then HBW.out HW
  go_wp2_with fail
  refine (same_true ax a cx ca za za _ (L.all (ax, za) (by simp)) (L.all (a, za) (by simp)) (by omega) rfl).mono ?_
  rintro e w12 ⟨rfl, hq⟩
  replace L := L.keep hq
  replace HB := below_then HB hq
  clear hq
  go_wp2_with fail
  refine (same_true ay b cy cb zb zb _ (L.all (ay, zb) (by simp)) (L.all (b, zb) (by simp)) (by omega) rfl).mono ?_
  rintro e w13 ⟨rfl, hq⟩
  replace L := L.keep hq
  replace HB := below_then HB hq
  clear hq
  go_wp2_with fail
  refine (known11 _).mono ?_
  rintro e w14 ⟨rfl, hq⟩
  replace L := L.keep hq
  replace HB := below_then HB hq
  go_wp2
  go_ret
  exact ⟨rfl, HB⟩
set_option maxHeartbeats 8000000 in
set_option maxRecDepth 100000 in
theorem prods_l_div (a b : Option Addr) (ca cb : Nat) (za zb : List Int) (w : World) (ha : Lie w a za) (hb : Lie w b zb) (ra : Nt.Rng za) (rb : Nt.Rng zb) (la : za.length ≤ maxLen) (lb : zb.length ≤ maxLen) (na : a = none → ca = 0) (nb : b = none → cb = 0) (haa : (za.length : Int) ≤ 4100) (hbb : (zb.length : Int) ≤ 4100) (hab : (za.length : Int) * (zb.length : Int) ≤ 1048576) (pa : mayB za = true) (pb : mayB zb = true) (hs : 4294967296 ^ 4096 ≤ Nt.val za * Nt.val zb) (h1 : (1 : Int) < (zb.length : Int)) (h2 : (za.length : Int) ≤ 220) (h3 : (zb.length : Int) ≤ 220) :
    Calls Try.prog 4 #[.slice a za.length ca, .slice b zb.length cb] w fun e w' => e = .returned (.bool true) ∧ Below w.heap.size w w' := by
  have hpb : (za.length : Int) * (zb.length : Int) ≤ 16810000 := Int.mul_le_mul haa hbb (by omega) (by decide)
  have hpb0 : 0 ≤ (za.length : Int) * (zb.length : Int) := Int.mul_nonneg (by omega) (by omega)
  have Ga : Good za (Nt.val za) := ⟨(may_can ra pa).1, (may_can ra pa).2, rfl⟩
  have Gb : Good zb (Nt.val zb) := ⟨(may_can rb pb).1, (may_can rb pb).2, rfl⟩
  have U := Hide.mk hs
  clear hs
  have hl0 : ((zb.length : Int) == 0) = false := beq_eq_false_iff_ne.2 (by omega)
  have VB := Hide.mk (And.intro (Nt.val_bd ra).1 (Nt.val_bd rb).1)
  have E := Hide.mk (show (mayB za && mayB zb) = true by rw [pa, pb]; rfl)
  have R := Hide.mk (And.intro ra rb)
  have M := Hide.mk (And.intro la lb)
  have PA := Hide.mk pa
  have PB := Hide.mk pb
  have NN := Hide.mk (And.intro na nb)
  have L : Live w [(a, za), (b, zb)] := ⟨by simp [ha, hb]⟩
  have HB : Below w.heap.size w w := Below.refl _ _
  clear ha hb ra rb la lb na nb pa pb
  go_enter Try.func4, Try.ntmps4
  go_wp2_with fail
  refine (long_no _ _ _ _ _ haa).mono ?_
  rintro e w' ⟨rfl, rfl⟩
  go_wp2_with fail
  refine (long_no _ _ _ _ _ hbb).mono ?_
  rintro e w' ⟨rfl, rfl⟩
  go_wp2_with fail
  refine (lent12 a ca za _ (L.all (a, za) (by simp)) (by omega) NN.out.1).mono ?_
  rintro e w1 ⟨ax, cx, rfl, ox, hq⟩
  replace L := L.push (ownLie ox) hq
  replace HB := below_then HB hq
  clear hq ox
  go_wp2_with fail
  refine (lent12 b cb zb _ (L.all (b, zb) (by simp)) (by omega) NN.out.2).mono ?_
  rintro e w2 ⟨ay, cy, rfl, oy, hq⟩
  replace L := L.push (ownLie oy) hq
  replace HB := below_then HB hq
  clear hq oy
  have LW := Hide.mk L
  have HBW := Hide.mk HB
  have HW := hwst w2
  go_wp2_with fail
  refine (mul_long ax ay cx cy za zb _ (L.all (ax, za) (by simp)) (L.all (ay, zb) (by simp)) Ga Gb U.out).mono ?_
  rintro e w3 ⟨rfl, hq⟩
  replace L := L.keep hq
  replace HB := below_then HB hq
  replace HW := below_then HW hq
  clear hq
  have WP : Wr w2.heap.size w3 (.slice none 0 0) := .inl rfl
  go_wp2_with fail
  refine (rmay_true a ca za _ (L.all (a, za) (by simp)) M.out.1 PA.out).mono ?_
  rintro e w' ⟨rfl, rfl⟩
  go_wp2_with fail
  refine (rmay_true b cb zb _ (L.all (b, zb) (by simp)) M.out.2 PB.out).mono ?_
  rintro e w' ⟨rfl, rfl⟩
  go_wp2_with fail
  refine (refMul_any a b ca cb za zb _ (L.all (a, za) (by simp)) (L.all (b, zb) (by simp)) R.out.1 R.out.2 (by omega) (by omega)).mono ?_
  rintro e w4 ⟨zm, am, cm, rfl, om, km, vm, hq⟩
  replace L := L.push (ownLie om) hq
  replace HB := below_then HB hq
  replace HW := below_then HW hq
  replace WP := WP.below hq (Nat.le_refl _)
  have hlen : (4096 : Int) < (zm.length : Int) := by have := mt (Nt.can_len km 4096).2 (by rw [vm]; exact Int.not_lt.2 U.out); omega
  clear om km vm hq
  go_wp2_with fail
  refine (long_no _ _ _ _ _ h2).mono ?_
  rintro e w' ⟨rfl, rfl⟩
  go_wp2_with fail
  refine (long_no _ _ _ _ _ h3).mono ?_
  rintro e w' ⟨rfl, rfl⟩
  go_wp2_with fail
  refine (quo27 ax ay cx cy za zb _ (L.all (ax, za) (by simp)) (L.all (ay, zb) (by simp)) R.out.1 R.out.2 PA.out PB.out (by omega)).mono ?_
  rintro e w5 ⟨zq, zr, aq, cq, ar, cr, rfl, oq, or1, kq, kr, heq, hlt, hq⟩
  replace L := L.push (ownLie oq) hq
  replace L := L.push (ownLie or1) (Below.refl _ _)
  replace HB := below_then HB hq
  have HWQ := Hide.mk HW.size
  replace HW := below_then HW hq
  replace WP := WP.below hq (Nat.le_refl _)
  have lq : zq.length ≤ za.length := (Nt.can_len kq _).1 (quot_lt heq (Nt.val_bd kq.1).1 (Nt.val_bd kr.1).1 hlt (Nt.val_bd R.out.1).2)
  have lr : zr.length ≤ zb.length := (Nt.can_len kr _).1 (by have := (Nt.val_bd R.out.2).2; omega)
  have WQ := oq.wr (by omega)
  have WR := or1.wr (by omega)
  have D1 := Hide.mk heq
  have D2 := Hide.mk hlt
  have KQ := Hide.mk kq
  have KR := Hide.mk kr
  clear oq or1 kq kr heq hlt hq
  unfold three
  go_wp2_with fail
  refine (refQuo_any a b ca cb za zb _ (L.all (a, za) (by simp)) (L.all (b, zb) (by simp)) Ga.can Gb.can (by omega) (by omega) (by omega)).mono ?_
  rintro e w6 ⟨yq, yr, bq, dq, br, dr, rfl, oq, or1, kq, kr, heq, hlt, hq⟩
  replace L := L.push (ownLie oq) hq
  replace L := L.push (ownLie or1) (Below.refl _ _)
  replace HB := below_then HB hq
  replace HW := below_then HW hq
  replace WP := WP.below hq (Nat.le_refl _)
  replace WQ := WQ.below hq (Nat.le_refl _)
  replace WR := WR.below hq (Nat.le_refl _)
  have hsame := div_same D1.out heq (Nt.val_bd KR.out.1).1 D2.out (Nt.val_bd kr.1).1 hlt
  have SQ : Hide (zq = yq) := ⟨Nt.can_unique KQ.out kq hsame.1⟩
  have SR : Hide (zr = yr) := ⟨Nt.can_unique KR.out kr hsame.2⟩
  clear oq or1 kq kr heq hlt hq hsame
  unfold two
  go_wp2_with fail
  refine (same_true aq bq cq dq zq yq _ (L.all (aq, zq) (by simp)) (L.all (bq, yq) (by simp)) (by omega) SQ.out).mono ?_
  rintro e w7 ⟨rfl, hq⟩
  replace L := L.keep hq
  replace HB := below_then HB hq
  replace HW := below_then HW hq
  replace WP := WP.below hq (Nat.le_refl _)
  replace WQ := WQ.below hq (Nat.le_refl _)
  replace WR := WR.below hq (Nat.le_refl _)
  clear hq
  go_wp2_with fail
  refine (same_true ar br cr dr zr yr _ (L.all (ar, zr) (by simp)) (L.all (br, yr) (by simp)) (by omega) SR.out).mono ?_
  rintro e w8 ⟨rfl, hq⟩
  replace L := L.keep hq
  replace HB := below_then HB hq
  replace HW := below_then HW hq
  replace WP := WP.below hq (Nat.le_refl _)
  replace WQ := WQ.below hq (Nat.le_refl _)
  replace WR := WR.below hq (Nat.le_refl _)
  clear hq
  clear L HB
  go_wp2_with fail
  refine (mark25 _ _ _ WQ).mono ?_
  rintro e w9 ⟨rfl, hm1, hm2⟩
  replace HW := HW.trans (hm1.out w2.heap.size HW.size HWQ.out)
  replace WR := hm2.out _ _ WR
  replace WP := hm2.out _ _ WP
  clear hm1 hm2 WQ
  go_wp2_with fail
  refine (mark25 _ _ _ WR).mono ?_
  rintro e w10 ⟨rfl, hm1, hm2⟩
  replace HW := HW.trans (hm1.out w2.heap.size HW.size HWQ.out)
  replace WP := hm2.out _ _ WP
  clear hm1 hm2 WR
  go_wp2_with fail
  refine (mark25 _ _ _ WP).mono ?_
  rintro e w11 ⟨rfl, hm1, hm2⟩
  replace HW := HW.trans (hm1.out w2.heap.size HW.size (Nat.le_refl _))
  clear hm1 hm2 WP
  have L := LW.out.keep HW
  have HB := below_then HBW.out HW
  go_wp2_with fail
  refine (same_true ax a cx ca za za _ (L.all (ax, za) (by simp)) (L.all (a, za) (by simp)) (by omega) rfl).mono ?_
  rintro e w12 ⟨rfl, hq⟩
  replace L := L.keep hq
  replace HB := below_then HB hq
  clear hq
  go_wp2_with fail
  refine (same_true ay b cy cb zb zb _ (L.all (ay, zb) (by simp)) (L.all (b, zb) (by simp)) (by omega) rfl).mono ?_
  rintro e w13 ⟨rfl, hq⟩
  replace L := L.keep hq
  replace HB := below_then HB hq
  clear hq
  go_wp2_with fail
  refine (known11 _).mono ?_
  rintro e w14 ⟨rfl, hq⟩
  replace L := L.keep hq
  replace HB := below_then HB hq
  go_wp2
  go_ret
  exact ⟨rfl, HB⟩
set_option maxHeartbeats 8000000 in
set_option maxRecDepth 100000 in
theorem prods_f_la (a b : Option Addr) (ca cb : Nat) (za zb : List Int) (w : World) (ha : Lie w a za) (hb : Lie w b zb) (ra : Nt.Rng za) (rb : Nt.Rng zb) (la : za.length ≤ maxLen) (lb : zb.length ≤ maxLen) (na : a = none → ca = 0) (nb : b = none → cb = 0) (haa : (za.length : Int) ≤ 4100) (hbb : (zb.length : Int) ≤ 4100) (hab : (za.length : Int) * (zb.length : Int) ≤ 1048576) (pa : mayB za = true) (pb : mayB zb = true) (hs : Nt.val za * Nt.val zb < 4294967296 ^ 4096) (h1 : (1 : Int) < (zb.length : Int)) (h2 : (220 : Int) < (za.length : Int)) :
    Calls Try.prog 4 #[.slice a za.length ca, .slice b zb.length cb] w fun e w' => e = .returned (.bool true) ∧ Below w.heap.size w w' := by
  have hpb : (za.length : Int) * (zb.length : Int) ≤ 16810000 := Int.mul_le_mul haa hbb (by omega) (by decide)
  have hpb0 : 0 ≤ (za.length : Int) * (zb.length : Int) := Int.mul_nonneg (by omega) (by omega)
  have Ga : Good za (Nt.val za) := ⟨(may_can ra pa).1, (may_can ra pa).2, rfl⟩
  have Gb : Good zb (Nt.val zb) := ⟨(may_can rb pb).1, (may_can rb pb).2, rfl⟩
  have U := Hide.mk hs
  clear hs
  have VB := Hide.mk (And.intro (Nt.val_bd ra).1 (Nt.val_bd rb).1)
  have E := Hide.mk (show (mayB za && mayB zb) = true by rw [pa, pb]; rfl)
  have R := Hide.mk (And.intro ra rb)
  have M := Hide.mk (And.intro la lb)
  have PA := Hide.mk pa
  have PB := Hide.mk pb
  have NN := Hide.mk (And.intro na nb)
  have L : Live w [(a, za), (b, zb)] := ⟨by simp [ha, hb]⟩
  have HB : Below w.heap.size w w := Below.refl _ _
  clear ha hb ra rb la lb na nb pa pb
  go_enter Try.func4, Try.ntmps4
  go_wp2_with fail
  refine (long_no _ _ _ _ _ haa).mono ?_
  rintro e w' ⟨rfl, rfl⟩
  go_wp2_with fail
  refine (long_no _ _ _ _ _ hbb).mono ?_
  rintro e w' ⟨rfl, rfl⟩
  go_wp2_with fail
  refine (lent12 a ca za _ (L.all (a, za) (by simp)) (by omega) NN.out.1).mono ?_
  rintro e w1 ⟨ax, cx, rfl, ox, hq⟩
  replace L := L.push (ownLie ox) hq
  replace HB := below_then HB hq
  clear hq ox
  go_wp2_with fail
  refine (lent12 b cb zb _ (L.all (b, zb) (by simp)) (by omega) NN.out.2).mono ?_
  rintro e w2 ⟨ay, cy, rfl, oy, hq⟩
  replace L := L.push (ownLie oy) hq
  replace HB := below_then HB hq
  clear hq oy
  have LW := Hide.mk L
  have HBW := Hide.mk HB
  have HW := hwst w2
  go_wp2_with fail
  refine (mul_fit ax ay cx cy za zb _ (L.all (ax, za) (by simp)) (L.all (ay, zb) (by simp)) Ga Gb ⟨Int.mul_nonneg VB.out.1 VB.out.2, U.out⟩).mono ?_
  rintro e w3 ⟨zp, ap, cp, rfl, hp, op⟩
  replace L := L.push hp.lie hp.bel
  replace HB := below_then HB hp.bel
  replace HW := below_then HW hp.bel
  have Gp := hp.good
  have WP := op.wr (by have := Gp.len; omega)
  clear hp op
  go_wp2_with fail
  refine (rmay_true a ca za _ (L.all (a, za) (by simp)) M.out.1 PA.out).mono ?_
  rintro e w' ⟨rfl, rfl⟩
  go_wp2_with fail
  refine (rmay_true b cb zb _ (L.all (b, zb) (by simp)) M.out.2 PB.out).mono ?_
  rintro e w' ⟨rfl, rfl⟩
  go_wp2_with fail
  refine (refMul_any a b ca cb za zb _ (L.all (a, za) (by simp)) (L.all (b, zb) (by simp)) R.out.1 R.out.2 (by omega) (by omega)).mono ?_
  rintro e w4 ⟨zm, am, cm, rfl, om, km, vm, hq⟩
  replace L := L.push (ownLie om) hq
  replace HB := below_then HB hq
  replace HW := below_then HW hq
  replace WP := WP.below hq (Nat.le_refl _)
  have hzm : zp = zm := Nt.can_unique Gp.can km (by rw [vm, Gp.val])
  have HZM := Hide.mk hzm
  have hlen : (zm.length : Int) ≤ 4096 := by rw [← hzm]; have := Gp.len; omega
  clear om km vm hq hzm
  go_wp2_with fail
  refine (same_true ap am cp cm zp zm _ (L.all (ap, zp) (by simp)) (L.all (am, zm) (by simp)) (by have := Gp.len; omega) HZM.out).mono ?_
  rintro e w5 ⟨rfl, hq⟩
  replace L := L.keep hq
  replace HB := below_then HB hq
  replace HW := below_then HW hq
  replace WP := WP.below hq (Nat.le_refl _)
  clear hq
  go_wp2_with fail
  refine (long_yes _ _ _ _ _ h2).mono ?_
  rintro e w' ⟨rfl, rfl⟩
  go_wp2_with fail
  refine (known11 _).mono ?_
  rintro e w6 ⟨rfl, hq⟩
  replace L := L.keep hq
  replace HB := below_then HB hq
  replace HW := below_then HW hq
  replace WP := WP.below hq (Nat.le_refl _)
  go_wp2
  go_ret
  exact ⟨rfl, HB⟩
set_option maxHeartbeats 8000000 in
set_option maxRecDepth 100000 in
theorem prods_f_lb (a b : Option Addr) (ca cb : Nat) (za zb : List Int) (w : World) (ha : Lie w a za) (hb : Lie w b zb) (ra : Nt.Rng za) (rb : Nt.Rng zb) (la : za.length ≤ maxLen) (lb : zb.length ≤ maxLen) (na : a = none → ca = 0) (nb : b = none → cb = 0) (haa : (za.length : Int) ≤ 4100) (hbb : (zb.length : Int) ≤ 4100) (hab : (za.length : Int) * (zb.length : Int) ≤ 1048576) (pa : mayB za = true) (pb : mayB zb = true) (hs : Nt.val za * Nt.val zb < 4294967296 ^ 4096) (h1 : (1 : Int) < (zb.length : Int)) (h2 : (za.length : Int) ≤ 220) (h3 : (220 : Int) < (zb.length : Int)) :
    Calls Try.prog 4 #[.slice a za.length ca, .slice b zb.length cb] w fun e w' => e = .returned (.bool true) ∧ Below w.heap.size w w' := by
  have hpb : (za.length : Int) * (zb.length : Int) ≤ 16810000 := Int.mul_le_mul haa hbb (by omega) (by decide)
  have hpb0 : 0 ≤ (za.length : Int) * (zb.length : Int) := Int.mul_nonneg (by omega) (by omega)
  have Ga : Good za (Nt.val za) := ⟨(may_can ra pa).1, (may_can ra pa).2, rfl⟩
  have Gb : Good zb (Nt.val zb) := ⟨(may_can rb pb).1, (may_can rb pb).2, rfl⟩
  have U := Hide.mk hs
  clear hs
  have VB := Hide.mk (And.intro (Nt.val_bd ra).1 (Nt.val_bd rb).1)
  have E := Hide.mk (show (mayB za && mayB zb) = true by rw [pa, pb]; rfl)
  have R := Hide.mk (And.intro ra rb)
  have M := Hide.mk (And.intro la lb)
  have PA := Hide.mk pa
  have PB := Hide.mk pb
  have NN := Hide.mk (And.intro na nb)
  have L : Live w [(a, za), (b, zb)] := ⟨by simp [ha, hb]⟩
  have HB : Below w.heap.size w w := Below.refl _ _
  clear ha hb ra rb la lb na nb pa pb
  go_enter Try.func4, Try.ntmps4
  go_wp2_with fail
  refine (long_no _ _ _ _ _ haa).mono ?_
  rintro e w' ⟨rfl, rfl⟩
  go_wp2_with fail
  refine (long_no _ _ _ _ _ hbb).mono ?_
  rintro e w' ⟨rfl, rfl⟩
  go_wp2_with fail
  refine (lent12 a ca za _ (L.all (a, za) (by simp)) (by omega) NN.out.1).mono ?_
  rintro e w1 ⟨ax, cx, rfl, ox, hq⟩
  replace L := L.push (ownLie ox) hq
  replace HB := below_then HB hq
  clear hq ox
  go_wp2_with fail
  refine (lent12 b cb zb _ (L.all (b, zb) (by simp)) (by omega) NN.out.2).mono ?_
  rintro e w2 ⟨ay, cy, rfl, oy, hq⟩
  replace L := L.push (ownLie oy) hq
  replace HB := below_then HB hq
  clear hq oy
  have LW := Hide.mk L
  have HBW := Hide.mk HB
  have HW := hwst w2
  go_wp2_with fail
  refine (mul_fit ax ay cx cy za zb _ (L.all (ax, za) (by simp)) (L.all (ay, zb) (by simp)) Ga Gb ⟨Int.mul_nonneg VB.out.1 VB.out.2, U.out⟩).mono ?_
  rintro e w3 ⟨zp, ap, cp, rfl, hp, op⟩
  replace L := L.push hp.lie hp.bel
  replace HB := below_then HB hp.bel
  replace HW := below_then HW hp.bel
  have Gp := hp.good
  have WP := op.wr (by have := Gp.len; omega)
  clear hp op
  go_wp2_with fail
  refine (rmay_true a ca za _ (L.all (a, za) (by simp)) M.out.1 PA.out).mono ?_
  rintro e w' ⟨rfl, rfl⟩
  go_wp2_with fail
  refine (rmay_true b cb zb _ (L.all (b, zb) (by simp)) M.out.2 PB.out).mono ?_
  rintro e w' ⟨rfl, rfl⟩
  go_wp2_with fail
  refine (refMul_any a b ca cb za zb _ (L.all (a, za) (by simp)) (L.all (b, zb) (by simp)) R.out.1 R.out.2 (by omega) (by omega)).mono ?_
  rintro e w4 ⟨zm, am, cm, rfl, om, km, vm, hq⟩
  replace L := L.push (ownLie om) hq
  replace HB := below_then HB hq
  replace HW := below_then HW hq
  replace WP := WP.below hq (Nat.le_refl _)
  have hzm : zp = zm := Nt.can_unique Gp.can km (by rw [vm, Gp.val])
  have HZM := Hide.mk hzm
  have hlen : (zm.length : Int) ≤ 4096 := by rw [← hzm]; have := Gp.len; omega
  clear om km vm hq hzm
  go_wp2_with fail
  refine (same_true ap am cp cm zp zm _ (L.all (ap, zp) (by simp)) (L.all (am, zm) (by simp)) (by have := Gp.len; omega) HZM.out).mono ?_
  rintro e w5 ⟨rfl, hq⟩
  replace L := L.keep hq
  replace HB := below_then HB hq
  replace HW := below_then HW hq
  replace WP := WP.below hq (Nat.le_refl _)
  clear hq
  go_wp2_with fail
  refine (long_no _ _ _ _ _ h2).mono ?_
  rintro e w' ⟨rfl, rfl⟩
  go_wp2_with fail
  refine (long_yes _ _ _ _ _ h3).mono ?_
  rintro e w' ⟨rfl, rfl⟩
  go_wp2_with fail
  refine (known11 _).mono ?_
  rintro e w6 ⟨rfl, hq⟩
  replace L := L.keep hq
  replace HB := below_then HB hq
  replace HW := below_then HW hq
  replace WP := WP.below hq (Nat.le_refl _)
  go_wp2
  go_ret
  exact ⟨rfl, HB⟩
set_option maxHeartbeats 8000000 in
set_option maxRecDepth 100000 in
theorem prods_f_zero (a b : Option Addr) (ca cb : Nat) (za zb : List Int) (w : World) (ha : Lie w a za) (hb : Lie w b zb) (ra : Nt.Rng za) (rb : Nt.Rng zb) (la : za.length ≤ maxLen) (lb : zb.length ≤ maxLen) (na : a = none → ca = 0) (nb : b = none → cb = 0) (haa : (za.length : Int) ≤ 4100) (hbb : (zb.length : Int) ≤ 4100) (hab : (za.length : Int) * (zb.length : Int) ≤ 1048576) (pa : mayB za = true) (pb : mayB zb = true) (hs : Nt.val za * Nt.val zb < 4294967296 ^ 4096) (hz : zb = []) :
    Calls Try.prog 4 #[.slice a za.length ca, .slice b zb.length cb] w fun e w' => e = .returned (.bool true) ∧ Below w.heap.size w w' := by
  have hpb : (za.length : Int) * (zb.length : Int) ≤ 16810000 := Int.mul_le_mul haa hbb (by omega) (by decide)
  have hpb0 : 0 ≤ (za.length : Int) * (zb.length : Int) := Int.mul_nonneg (by omega) (by omega)
  have Ga : Good za (Nt.val za) := ⟨(may_can ra pa).1, (may_can ra pa).2, rfl⟩
  have Gb : Good zb (Nt.val zb) := ⟨(may_can rb pb).1, (may_can rb pb).2, rfl⟩
  have U := Hide.mk hs
  clear hs
  have HZ := Hide.mk hz
  have hl0 : ((zb.length : Int) == 0) = true := by rw [hz]; rfl
  have hl1 : (zb.length : Int) ≤ 1 := by rw [hz]; decide
  clear hz
  have VB := Hide.mk (And.intro (Nt.val_bd ra).1 (Nt.val_bd rb).1)
  have E := Hide.mk (show (mayB za && mayB zb) = true by rw [pa, pb]; rfl)
  have R := Hide.mk (And.intro ra rb)
  have M := Hide.mk (And.intro la lb)
  have PA := Hide.mk pa
  have PB := Hide.mk pb
  have NN := Hide.mk (And.intro na nb)
  have L : Live w [(a, za), (b, zb)] := ⟨by simp [ha, hb]⟩
  have HB : Below w.heap.size w w := Below.refl _ _
  clear ha hb ra rb la lb na nb pa pb
  go_enter Try.func4, Try.ntmps4
  go_wp2_with fail
  refine (long_no _ _ _ _ _ haa).mono ?_
  rintro e w' ⟨rfl, rfl⟩
  go_wp2_with fail
  refine (long_no _ _ _ _ _ hbb).mono ?_
  rintro e w' ⟨rfl, rfl⟩
  go_wp2_with fail
  refine (lent12 a ca za _ (L.all (a, za) (by simp)) (by omega) NN.out.1).mono ?_
  rintro e w1 ⟨ax, cx, rfl, ox, hq⟩
  replace L := L.push (ownLie ox) hq
  replace HB := below_then HB hq
  clear hq ox
  go_wp2_with fail
  refine (lent12 b cb zb _ (L.all (b, zb) (by simp)) (by omega) NN.out.2).mono ?_
  rintro e w2 ⟨ay, cy, rfl, oy, hq⟩
  replace L := L.push (ownLie oy) hq
  replace HB := below_then HB hq
  clear hq oy
  have LW := Hide.mk L
  have HBW := Hide.mk HB
  have HW := hwst w2
  go_wp2_with fail
  refine (mul_fit ax ay cx cy za zb _ (L.all (ax, za) (by simp)) (L.all (ay, zb) (by simp)) Ga Gb ⟨Int.mul_nonneg VB.out.1 VB.out.2, U.out⟩).mono ?_
  rintro e w3 ⟨zp, ap, cp, rfl, hp, op⟩
  replace L := L.push hp.lie hp.bel
  replace HB := below_then HB hp.bel
  replace HW := below_then HW hp.bel
  have Gp := hp.good
  have WP := op.wr (by have := Gp.len; omega)
  clear hp op
  go_wp2_with fail
  refine (rmay_true a ca za _ (L.all (a, za) (by simp)) M.out.1 PA.out).mono ?_
  rintro e w' ⟨rfl, rfl⟩
  go_wp2_with fail
  refine (rmay_true b cb zb _ (L.all (b, zb) (by simp)) M.out.2 PB.out).mono ?_
  rintro e w' ⟨rfl, rfl⟩
  go_wp2_with fail
  refine (refMul_any a b ca cb za zb _ (L.all (a, za) (by simp)) (L.all (b, zb) (by simp)) R.out.1 R.out.2 (by omega) (by omega)).mono ?_
  rintro e w4 ⟨zm, am, cm, rfl, om, km, vm, hq⟩
  replace L := L.push (ownLie om) hq
  replace HB := below_then HB hq
  replace HW := below_then HW hq
  replace WP := WP.below hq (Nat.le_refl _)
  have hzm : zp = zm := Nt.can_unique Gp.can km (by rw [vm, Gp.val])
  have HZM := Hide.mk hzm
  have hlen : (zm.length : Int) ≤ 4096 := by rw [← hzm]; have := Gp.len; omega
  clear om km vm hq hzm
  go_wp2_with fail
  refine (same_true ap am cp cm zp zm _ (L.all (ap, zp) (by simp)) (L.all (am, zm) (by simp)) (by have := Gp.len; omega) HZM.out).mono ?_
  rintro e w5 ⟨rfl, hq⟩
  replace L := L.keep hq
  replace HB := below_then HB hq
  replace HW := below_then HW hq
  replace WP := WP.below hq (Nat.le_refl _)
  clear hq
  go_wp2_with fail
  refine (quo_zero3 ax ay cx cy za zb _ (L.all (ax, za) (by simp)) M.out.1 PA.out HZ.out).mono ?_
  rintro e w6 ⟨rfl, hq⟩
  replace L := L.keep hq
  replace HB := below_then HB hq
  replace HW := below_then HW hq
  replace WP := WP.below hq (Nat.le_refl _)
  clear hq
  go_wp2_with fail
  refine (known11 _).mono ?_
  rintro e w7 ⟨rfl, hq⟩
  replace L := L.keep hq
  replace HB := below_then HB hq
  replace HW := below_then HW hq
  replace WP := WP.below hq (Nat.le_refl _)
  go_wp2
  go_ret
  exact ⟨rfl, HB⟩
set_option maxHeartbeats 8000000 in
set_option maxRecDepth 100000 in
theorem prods_f_one (a b : Option Addr) (ca cb : Nat) (za zb : List Int) (w : World) (ha : Lie w a za) (hb : Lie w b zb) (ra : Nt.Rng za) (rb : Nt.Rng zb) (la : za.length ≤ maxLen) (lb : zb.length ≤ maxLen) (na : a = none → ca = 0) (nb : b = none → cb = 0) (haa : (za.length : Int) ≤ 4100) (hbb : (zb.length : Int) ≤ 4100) (hab : (za.length : Int) * (zb.length : Int) ≤ 1048576) (pa : mayB za = true) (pb : mayB zb = true) (hs : Nt.val za * Nt.val zb < 4294967296 ^ 4096) (h1 : (zb.length : Int) ≤ 1) (h0 : 0 < zb.length) :
    Calls Try.prog 4 #[.slice a za.length ca, .slice b zb.length cb] w fun e w' => e = .returned (.bool true) ∧ Below w.heap.size w w' := by
  have hpb : (za.length : Int) * (zb.length : Int) ≤ 16810000 := Int.mul_le_mul haa hbb (by omega) (by decide)
  have hpb0 : 0 ≤ (za.length : Int) * (zb.length : Int) := Int.mul_nonneg (by omega) (by omega)
  have Ga : Good za (Nt.val za) := ⟨(may_can ra pa).1, (may_can ra pa).2, rfl⟩
  have Gb : Good zb (Nt.val zb) := ⟨(may_can rb pb).1, (may_can rb pb).2, rfl⟩
  have U := Hide.mk hs
  clear hs
  have hl0 : ((zb.length : Int) == 0) = false := beq_eq_false_iff_ne.2 (by omega)
  have VB := Hide.mk (And.intro (Nt.val_bd ra).1 (Nt.val_bd rb).1)
  have E := Hide.mk (show (mayB za && mayB zb) = true by rw [pa, pb]; rfl)
  have R := Hide.mk (And.intro ra rb)
  have M := Hide.mk (And.intro la lb)
  have PA := Hide.mk pa
  have PB := Hide.mk pb
  have NN := Hide.mk (And.intro na nb)
  have L : Live w [(a, za), (b, zb)] := ⟨by simp [ha, hb]⟩
  have HB : Below w.heap.size w w := Below.refl _ _
  clear ha hb ra rb la lb na nb pa pb
  go_enter Try.func4, Try.ntmps4
  go_wp2_with fail
  refine (long_no _ _ _ _ _ haa).mono ?_
  rintro e w' ⟨rfl, rfl⟩
  go_wp2_with fail
  refine (long_no _ _ _ _ _ hbb).mono ?_
  rintro e w' ⟨rfl, rfl⟩
  go_wp2_with fail
  refine (lent12 a ca za _ (L.all (a, za) (by simp)) (by omega) NN.out.1).mono ?_
  rintro e w1 ⟨ax, cx, rfl, ox, hq⟩
  replace L := L.push (ownLie ox) hq
  replace HB := below_then HB hq
  clear hq ox
  go_wp2_with fail
  refine (lent12 b cb zb _ (L.all (b, zb) (by simp)) (by omega) NN.out.2).mono ?_
  rintro e w2 ⟨ay, cy, rfl, oy, hq⟩
  replace L := L.push (ownLie oy) hq
  replace HB := below_then HB hq
  clear hq oy
  have LW := Hide.mk L
  have HBW := Hide.mk HB
  have HW := hwst w2
  go_wp2_with fail
  refine (mul_fit ax ay cx cy za zb _ (L.all (ax, za) (by simp)) (L.all (ay, zb) (by simp)) Ga Gb ⟨Int.mul_nonneg VB.out.1 VB.out.2, U.out⟩).mono ?_
  rintro e w3 ⟨zp, ap, cp, rfl, hp, op⟩
  replace L := L.push hp.lie hp.bel
  replace HB := below_then HB hp.bel
  replace HW := below_then HW hp.bel
  have Gp := hp.good
  have WP := op.wr (by have := Gp.len; omega)
  clear hp op
  go_wp2_with fail
  refine (rmay_true a ca za _ (L.all (a, za) (by simp)) M.out.1 PA.out).mono ?_
  rintro e w' ⟨rfl, rfl⟩
  go_wp2_with fail
  refine (rmay_true b cb zb _ (L.all (b, zb) (by simp)) M.out.2 PB.out).mono ?_
  rintro e w' ⟨rfl, rfl⟩
  go_wp2_with fail
  refine (refMul_any a b ca cb za zb _ (L.all (a, za) (by simp)) (L.all (b, zb) (by simp)) R.out.1 R.out.2 (by omega) (by omega)).mono ?_
  rintro e w4 ⟨zm, am, cm, rfl, om, km, vm, hq⟩
  replace L := L.push (ownLie om) hq
  replace HB := below_then HB hq
  replace HW := below_then HW hq
  replace WP := WP.below hq (Nat.le_refl _)
  have hzm : zp = zm := Nt.can_unique Gp.can km (by rw [vm, Gp.val])
  have HZM := Hide.mk hzm
  have hlen : (zm.length : Int) ≤ 4096 := by rw [← hzm]; have := Gp.len; omega
  clear om km vm hq hzm
  go_wp2_with fail
  refine (same_true ap am cp cm zp zm _ (L.all (ap, zp) (by simp)) (L.all (am, zm) (by simp)) (by have := Gp.len; omega) HZM.out).mono ?_
  rintro e w5 ⟨rfl, hq⟩
  replace L := L.keep hq
  replace HB := below_then HB hq
  replace HW := below_then HW hq
  replace WP := WP.below hq (Nat.le_refl _)
  clear hq
  go_wp2_with fail
  refine (quo27 ax ay cx cy za zb _ (L.all (ax, za) (by simp)) (L.all (ay, zb) (by simp)) R.out.1 R.out.2 PA.out PB.out (by omega)).mono ?_
  rintro e w6 ⟨zq, zr, aq, cq, ar, cr, rfl, oq, or1, kq, kr, heq, hlt, hq⟩
  replace L := L.push (ownLie oq) hq
  replace L := L.push (ownLie or1) (Below.refl _ _)
  replace HB := below_then HB hq
  have HWQ := Hide.mk HW.size
  replace HW := below_then HW hq
  replace WP := WP.below hq (Nat.le_refl _)
  have lq : zq.length ≤ za.length := (Nt.can_len kq _).1 (quot_lt heq (Nt.val_bd kq.1).1 (Nt.val_bd kr.1).1 hlt (Nt.val_bd R.out.1).2)
  have lr : zr.length ≤ zb.length := (Nt.can_len kr _).1 (by have := (Nt.val_bd R.out.2).2; omega)
  have WQ := oq.wr (by omega)
  have WR := or1.wr (by omega)
  have D1 := Hide.mk heq
  have D2 := Hide.mk hlt
  have KQ := Hide.mk kq
  have KR := Hide.mk kr
  clear oq or1 kq kr heq hlt hq
  unfold three
  go_wp2_with fail
  refine (refQuo_any a b ca cb za zb _ (L.all (a, za) (by simp)) (L.all (b, zb) (by simp)) Ga.can Gb.can (by omega) (by omega) (by omega)).mono ?_
  rintro e w7 ⟨yq, yr, bq, dq, br, dr, rfl, oq, or1, kq, kr, heq, hlt, hq⟩
  replace L := L.push (ownLie oq) hq
  replace L := L.push (ownLie or1) (Below.refl _ _)
  replace HB := below_then HB hq
  replace HW := below_then HW hq
  replace WP := WP.below hq (Nat.le_refl _)
  replace WQ := WQ.below hq (Nat.le_refl _)
  replace WR := WR.below hq (Nat.le_refl _)
  have hsame := div_same D1.out heq (Nt.val_bd KR.out.1).1 D2.out (Nt.val_bd kr.1).1 hlt
  have SQ : Hide (zq = yq) := ⟨Nt.can_unique KQ.out kq hsame.1⟩
  have SR : Hide (zr = yr) := ⟨Nt.can_unique KR.out kr hsame.2⟩
  clear oq or1 kq kr heq hlt hq hsame
  unfold two
  go_wp2_with fail
  refine (same_true aq bq cq dq zq yq _ (L.all (aq, zq) (by simp)) (L.all (bq, yq) (by simp)) (by omega) SQ.out).mono ?_
  rintro e w8 ⟨rfl, hq⟩
  replace L := L.keep hq
  replace HB := below_then HB hq
  replace HW := below_then HW hq
  replace WP := WP.below hq (Nat.le_refl _)
  replace WQ := WQ.below hq (Nat.le_refl _)
  replace WR := WR.below hq (Nat.le_refl _)
  clear hq
  go_wp2_with fail
  refine (same_true ar br cr dr zr yr _ (L.all (ar, zr) (by simp)) (L.all (br, yr) (by simp)) (by omega) SR.out).mono ?_
  rintro e w9 ⟨rfl, hq⟩
  replace L := L.keep hq
  replace HB := below_then HB hq
  replace HW := below_then HW hq
  replace WP := WP.below hq (Nat.le_refl _)
  replace WQ := WQ.below hq (Nat.le_refl _)
  replace WR := WR.below hq (Nat.le_refl _)
  clear hq
  clear L HB
  go_wp2_with fail
  refine (mark25 _ _ _ WQ).mono ?_
  rintro e w10 ⟨rfl, hm1, hm2⟩
  replace HW := HW.trans (hm1.out w2.heap.size HW.size HWQ.out)
  replace WR := hm2.out _ _ WR
  replace WP := hm2.out _ _ WP
  clear hm1 hm2 WQ
  go_wp2_with fail
  refine (mark25 _ _ _ WR).mono ?_
  rintro e w11 ⟨rfl, hm1, hm2⟩
  replace HW := HW.trans (hm1.out w2.heap.size HW.size HWQ.out)
  replace WP := hm2.out _ _ WP
  clear hm1 hm2 WR
  go_wp2_with fail
  refine (mark25 _ _ _ WP).mono ?_
  rintro e w12 ⟨rfl, hm1, hm2⟩
  replace HW := HW.trans (hm1.out w2.heap.size HW.size (Nat.le_refl _))
  clear hm1 hm2 WP
  have L := LW.out.keep HW
  have HB := below_then HBW.out HW
  go_wp2_with fail
  refine (same_true ax a cx ca za za _ (L.all (ax, za) (by simp)) (L.all (a, za) (by simp)) (by omega) rfl).mono ?_
  rintro e w13 ⟨rfl, hq⟩
  replace L := L.keep hq
  replace HB := below_then HB hq
  clear hq
  go_wp2_with fail
  refine (same_true ay b cy cb zb zb _ (L.all (ay, zb) (by simp)) (L.all (b, zb) (by simp)) (by omega) rfl).mono ?_
  rintro e w14 ⟨rfl, hq⟩
  replace L := L.keep hq
  replace HB := below_then HB hq
  clear hq
  go_wp2_with fail
  refine (known11 _).mono ?_
  rintro e w15 ⟨rfl, hq⟩
  replace L := L.keep hq
  replace HB := below_then HB hq
  go_wp2
  go_ret
  exact ⟨rfl, HB⟩
set_option maxHeartbeats 8000000 in
set_option maxRecDepth 100000 in
theorem prods_f_div (a b : Option Addr) (ca cb : Nat) (za zb : List Int) (w : World) (ha : Lie w a za) (hb : Lie w b zb) (ra : Nt.Rng za) (rb : Nt.Rng zb) (la : za.length ≤ maxLen) (lb : zb.length ≤ maxLen) (na : a = none → ca = 0) (nb : b = none → cb = 0) (haa : (za.length : Int) ≤ 4100) (hbb : (zb.length : Int) ≤ 4100) (hab : (za.length : Int) * (zb.length : Int) ≤ 1048576) (pa : mayB za = true) (pb : mayB zb = true) (hs : Nt.val za * Nt.val zb < 4294967296 ^ 4096) (h1 : (1 : Int) < (zb.length : Int)) (h2 : (za.length : Int) ≤ 220) (h3 : (zb.length : Int) ≤ 220) :
    Calls Try.prog 4 #[.slice a za.length ca, .slice b zb.length cb] w fun e w' => e = .returned (.bool true) ∧ Below w.heap.size w w' := by
  have hpb : (za.length : Int) * (zb.length : Int) ≤ 16810000 := Int.mul_le_mul haa hbb (by omega) (by decide)
  have hpb0 : 0 ≤ (za.length : Int) * (zb.length : Int) := Int.mul_nonneg (by omega) (by omega)
  have Ga : Good za (Nt.val za) := ⟨(may_can ra pa).1, (may_can ra pa).2, rfl⟩
  have Gb : Good zb (Nt.val zb) := ⟨(may_can rb pb).1, (may_can rb pb).2, rfl⟩
  have U := Hide.mk hs
  clear hs
  have hl0 : ((zb.length : Int) == 0) = false := beq_eq_false_iff_ne.2 (by omega)
  have VB := Hide.mk (And.intro (Nt.val_bd ra).1 (Nt.val_bd rb).1)
  have E := Hide.mk (show (mayB za && mayB zb) = true by rw [pa, pb]; rfl)
  have R := Hide.mk (And.intro ra rb)
  have M := Hide.mk (And.intro la lb)
  have PA := Hide.mk pa
  have PB := Hide.mk pb
  have NN := Hide.mk (And.intro na nb)
  have L : Live w [(a, za), (b, zb)] := ⟨by simp [ha, hb]⟩
  have HB : Below w.heap.size w w := Below.refl _ _
  clear ha hb ra rb la lb na nb pa pb
  go_enter Try.func4, Try.ntmps4
  go_wp2_with fail
  refine (long_no _ _ _ _ _ haa).mono ?_
  rintro e w' ⟨rfl, rfl⟩
  go_wp2_with fail
  refine (long_no _ _ _ _ _ hbb).mono ?_
  rintro e w' ⟨rfl, rfl⟩
  go_wp2_with fail
  refine (lent12 a ca za _ (L.all (a, za) (by simp)) (by omega) NN.out.1).mono ?_
  rintro e w1 ⟨ax, cx, rfl, ox, hq⟩
  replace L := L.push (ownLie ox) hq
  replace HB := below_then HB hq
  clear hq ox
  go_wp2_with fail
  refine (lent12 b cb zb _ (L.all (b, zb) (by simp)) (by omega) NN.out.2).mono ?_
  rintro e w2 ⟨ay, cy, rfl, oy, hq⟩
  replace L := L.push (ownLie oy) hq
  replace HB := below_then HB hq
  clear hq oy
  have LW := Hide.mk L
  have HBW := Hide.mk HB
  have HW := hwst w2
  go_wp2_with fail
  refine (mul_fit ax ay cx cy za zb _ (L.all (ax, za) (by simp)) (L.all (ay, zb) (by simp)) Ga Gb ⟨Int.mul_nonneg VB.out.1 VB.out.2, U.out⟩).mono ?_
  rintro e w3 ⟨zp, ap, cp, rfl, hp, op⟩
  replace L := L.push hp.lie hp.bel
  replace HB := below_then HB hp.bel
  replace HW := below_then HW hp.bel
  have Gp := hp.good
  have WP := op.wr (by have := Gp.len; omega)
  clear hp op
  go_wp2_with fail
  refine (rmay_true a ca za _ (L.all (a, za) (by simp)) M.out.1 PA.out).mono ?_
  rintro e w' ⟨rfl, rfl⟩
  go_wp2_with fail
  refine (rmay_true b cb zb _ (L.all (b, zb) (by simp)) M.out.2 PB.out).mono ?_
  rintro e w' ⟨rfl, rfl⟩
  go_wp2_with fail
  refine (refMul_any a b ca cb za zb _ (L.all (a, za) (by simp)) (L.all (b, zb) (by simp)) R.out.1 R.out.2 (by omega) (by omega)).mono ?_
  rintro e w4 ⟨zm, am, cm, rfl, om, km, vm, hq⟩
  replace L := L.push (ownLie om) hq
  replace HB := below_then HB hq
  replace HW := below_then HW hq
  replace WP := WP.below hq (Nat.le_refl _)
  have hzm : zp = zm := Nt.can_unique Gp.can km (by rw [vm, Gp.val])
  have HZM := Hide.mk hzm
  have hlen : (zm.length : Int) ≤ 4096 := by rw [← hzm]; have := Gp.len; omega
  clear om km vm hq hzm
  go_wp2_with fail
  refine (same_true ap am cp cm zp zm _ (L.all (ap, zp) (by simp)) (L.all (am, zm) (by simp)) (by have := Gp.len; omega) HZM.out).mono ?_
  rintro e w5 ⟨rfl, hq⟩
  replace L := L.keep hq
  replace HB := below_then HB hq
  replace HW := below_then HW hq
  replace WP := WP.below hq (Nat.le_refl _)
  clear hq
  go_wp2_with fail
  refine (long_no _ _ _ _ _ h2).mono ?_
  rintro e w' ⟨rfl, rfl⟩
  go_wp2_with fail
  refine (long_no _ _ _ _ _ h3).mono ?_
  rintro e w' ⟨rfl, rfl⟩
  go_wp2_with fail
  refine (quo27 ax ay cx cy za zb _ (L.all (ax, za) (by simp)) (L.all (ay, zb) (by simp)) R.out.1 R.out.2 PA.out PB.out (by omega)).mono ?_
  rintro e w6 ⟨zq, zr, aq, cq, ar, cr, rfl, oq, or1, kq, kr, heq, hlt, hq⟩
  replace L := L.push (ownLie oq) hq
  replace L := L.push (ownLie or1) (Below.refl _ _)
  replace HB := below_then HB hq
  have HWQ := Hide.mk HW.size
  replace HW := below_then HW hq
  replace WP := WP.below hq (Nat.le_refl _)
  have lq : zq.length ≤ za.length := (Nt.can_len kq _).1 (quot_lt heq (Nt.val_bd kq.1).1 (Nt.val_bd kr.1).1 hlt (Nt.val_bd R.out.1).2)
  have lr : zr.length ≤ zb.length := (Nt.can_len kr _).1 (by have := (Nt.val_bd R.out.2).2; omega)
  have WQ := oq.wr (by omega)
  have WR := or1.wr (by omega)
  have D1 := Hide.mk heq
  have D2 := Hide.mk hlt
  have KQ := Hide.mk kq
  have KR := Hide.mk kr
  clear oq or1 kq kr heq hlt hq
  unfold three
  go_wp2_with fail
  refine (refQuo_any a b ca cb za zb _ (L.all (a, za) (by simp)) (L.all (b, zb) (by simp)) Ga.can Gb.can (by omega) (by omega) (by omega)).mono ?_
  rintro e w7 ⟨yq, yr, bq, dq, br, dr, rfl, oq, or1, kq, kr, heq, hlt, hq⟩
  replace L := L.push (ownLie oq) hq
  replace L := L.push (ownLie or1) (Below.refl _ _)
  replace HB := below_then HB hq
  replace HW := below_then HW hq
  replace WP := WP.below hq (Nat.le_refl _)
  replace WQ := WQ.below hq (Nat.le_refl _)
  replace WR := WR.below hq (Nat.le_refl _)
  have hsame := div_same D1.out heq (Nt.val_bd KR.out.1).1 D2.out (Nt.val_bd kr.1).1 hlt
  have SQ : Hide (zq = yq) := ⟨Nt.can_unique KQ.out kq hsame.1⟩
  have SR : Hide (zr = yr) := ⟨Nt.can_unique KR.out kr hsame.2⟩
  clear oq or1 kq kr heq hlt hq hsame
  unfold two
  go_wp2_with fail
  refine (same_true aq bq cq dq zq yq _ (L.all (aq, zq) (by simp)) (L.all (bq, yq) (by simp)) (by omega) SQ.out).mono ?_
  rintro e w8 ⟨rfl, hq⟩
  replace L := L.keep hq
  replace HB := below_then HB hq
  replace HW := below_then HW hq
  replace WP := WP.below hq (Nat.le_refl _)
  replace WQ := WQ.below hq (Nat.le_refl _)
  replace WR := WR.below hq (Nat.le_refl _)
  clear hq
  go_wp2_with fail
  refine (same_true ar br cr dr zr yr _ (L.all (ar, zr) (by simp)) (L.all (br, yr) (by simp)) (by omega) SR.out).mono ?_
  rintro e w9 ⟨rfl, hq⟩
  replace L := L.keep hq
  replace HB := below_then HB hq
  replace HW := below_then HW hq
  replace WP := WP.below hq (Nat.le_refl _)
  replace WQ := WQ.below hq (Nat.le_refl _)
  replace WR := WR.below hq (Nat.le_refl _)
  clear hq
  clear L HB
  go_wp2_with fail
  refine (mark25 _ _ _ WQ).mono ?_
  rintro e w10 ⟨rfl, hm1, hm2⟩
  replace HW := HW.trans (hm1.out w2.heap.size HW.size HWQ.out)
  replace WR := hm2.out _ _ WR
  replace WP := hm2.out _ _ WP
  clear hm1 hm2 WQ
  go_wp2_with fail
  refine (mark25 _ _ _ WR).mono ?_
  rintro e w11 ⟨rfl, hm1, hm2⟩
  replace HW := HW.trans (hm1.out w2.heap.size HW.size HWQ.out)
  replace WP := hm2.out _ _ WP
  clear hm1 hm2 WR
  go_wp2_with fail
  refine (mark25 _ _ _ WP).mono ?_
  rintro e w12 ⟨rfl, hm1, hm2⟩
  replace HW := HW.trans (hm1.out w2.heap.size HW.size (Nat.le_refl _))
  clear hm1 hm2 WP
  have L := LW.out.keep HW
  have HB := below_then HBW.out HW
  go_wp2_with fail
  refine (same_true ax a cx ca za za _ (L.all (ax, za) (by simp)) (L.all (a, za) (by simp)) (by omega) rfl).mono ?_
  rintro e w13 ⟨rfl, hq⟩
  replace L := L.keep hq
  replace HB := below_then HB hq
  clear hq
  go_wp2_with fail
  refine (same_true ay b cy cb zb zb _ (L.all (ay, zb) (by simp)) (L.all (b, zb) (by simp)) (by omega) rfl).mono ?_
  rintro e w14 ⟨rfl, hq⟩
  replace L := L.keep hq
  replace HB := below_then HB hq
  clear hq
  go_wp2_with fail
  refine (known11 _).mono ?_
  rintro e w15 ⟨rfl, hq⟩
  replace L := L.keep hq
  replace HB := below_then HB hq
  go_wp2
  go_ret
  exact ⟨rfl, HB⟩
theorem prods4 (a b : Option Addr) (ca cb : Nat) (za zb : List Int) (w : World) (ha : Lie w a za) (hb : Lie w b zb) (ra : Nt.Rng za) (rb : Nt.Rng zb) (la : za.length ≤ maxLen) (lb : zb.length ≤ maxLen) (na : a = none → ca = 0) (nb : b = none → cb = 0) :
    Calls Try.prog 4 #[.slice a za.length ca, .slice b zb.length cb] w fun e w' => e = .returned (.bool true) ∧ Below w.heap.size w w' := by
  by_cases haa : (za.length : Int) ≤ 4100
  · by_cases hbb : (zb.length : Int) ≤ 4100
    · by_cases hab : (za.length : Int) * (zb.length : Int) ≤ 1048576
      · cases pa : mayB za
        · exact prods_n1 a b ca cb za zb w ha hb ra rb la lb na nb haa hbb hab pa
        cases pb : mayB zb
        · exact prods_n2 a b ca cb za zb w ha hb ra rb la lb na nb haa hbb hab pa pb
        by_cases hs : Nt.val za * Nt.val zb < 4294967296 ^ 4096
        · by_cases h1 : (1 : Int) < (zb.length : Int)
          · by_cases h2 : (za.length : Int) ≤ 220
            · by_cases h3 : (zb.length : Int) ≤ 220
              · exact prods_f_div a b ca cb za zb w ha hb ra rb la lb na nb haa hbb hab pa pb hs h1 h2 h3
              · exact prods_f_lb a b ca cb za zb w ha hb ra rb la lb na nb haa hbb hab pa pb hs h1 h2 (by omega)
            · exact prods_f_la a b ca cb za zb w ha hb ra rb la lb na nb haa hbb hab pa pb hs h1 (by omega)
          · by_cases hz : zb.length = 0
            · exact prods_f_zero a b ca cb za zb w ha hb ra rb la lb na nb haa hbb hab pa pb hs (List.length_eq_zero_iff.1 hz)
            · exact prods_f_one a b ca cb za zb w ha hb ra rb la lb na nb haa hbb hab pa pb hs (by omega) (by omega)
        · by_cases h1 : (1 : Int) < (zb.length : Int)
          · by_cases h2 : (za.length : Int) ≤ 220
            · by_cases h3 : (zb.length : Int) ≤ 220
              · exact prods_l_div a b ca cb za zb w ha hb ra rb la lb na nb haa hbb hab pa pb (Int.not_lt.1 hs) h1 h2 h3
              · exact prods_l_lb a b ca cb za zb w ha hb ra rb la lb na nb haa hbb hab pa pb (Int.not_lt.1 hs) h1 h2 (by omega)
            · exact prods_l_la a b ca cb za zb w ha hb ra rb la lb na nb haa hbb hab pa pb (Int.not_lt.1 hs) h1 (by omega)
          · by_cases hz : zb.length = 0
            · exact prods_l_zero a b ca cb za zb w ha hb ra rb la lb na nb haa hbb hab pa pb (Int.not_lt.1 hs) (List.length_eq_zero_iff.1 hz)
            · exact prods_l_one a b ca cb za zb w ha hb ra rb la lb na nb haa hbb hab pa pb (Int.not_lt.1 hs) (by omega) (by omega)
      · exact prods_e3 a b ca cb za zb w ha hb ra rb la lb na nb haa hbb (by omega)
    · exact prods_e2 a b ca cb za zb w ha hb ra rb la lb na nb haa (by omega)
  · exact prods_e1 a b ca cb za zb w ha hb ra rb la lb na nb (by omega)
end Go.Proofs.Ytcjmamlffbhnlaa
