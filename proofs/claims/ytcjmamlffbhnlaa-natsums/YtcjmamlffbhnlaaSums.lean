import Derived.Test.YtcjmamlffbhnlaaW17
namespace Go.Proofs.Ytcjmamlffbhnlaa
open Go.RowKit
set_option linter.unusedVariables false

theorem add_long (a b : Option Addr) (ca cb : Nat) (za zb : List Int) (w : World) {x y : Int} (ha : Lie w a za) (hb : Lie w b zb) (ga : Good za x) (gb : Good zb y) (hf : 4294967296 ^ 4096 ≤ x + y) :
    Calls Try.prog 20 #[.slice a za.length ca, .slice b zb.length cb] w fun e w' => e = .returned (.tuple #[.slice none 0 0, .int .i64 3]) ∧ Below w.heap.size w w' := by
  refine (add20 a b ca cb za zb w ha hb ga.can.1 gb.can.1 ga.may gb.may).mono ?_
  rintro e w' ⟨zs, h1, h2, h3, h4⟩
  rcases h4 with ⟨h5, _⟩ | ⟨_, h5⟩
  · exact absurd ((Nt.can_len h1 4096).2 h5) (by rw [h2, ga.val, gb.val]; exact Int.not_lt.2 hf)
  · exact ⟨h5, h3⟩
theorem own_lie {B : Nat} {w : World} {a : Option Addr} {n c : Nat} {zs : List Int} (h : Own B w (.slice a n c) zs) : Lie w a zs := by
  obtain ⟨a', c', he, _, _, hl⟩ := h.lie
  simp only [Value.slice.injEq] at he
  rw [he.1]; exact hl
theorem own_kept_after {B1 B2 : Nat} {w1 w w' : World} {v1 v2 : Value} {z1 z2 : List Int} (h1 : Own B1 w1 v1 z1) (h2 : Own B2 w v2 z2) (hB : w1.heap.size ≤ B2) (hg : w.grownBy w' v1.ownBlock) : Own B2 w' v2 z2 := by
  refine World.ownsRow.kept h2 hg ?_
  cases e : v2.ownBlock with
  | none => exact .inl rfl
  | some k =>
    refine .inr ?_
    intro e1
    have := (h1.lt k e1.symm).2
    have := (h2.lt k e).1
    omega
theorem same_yes' (a b : Option Addr) (ca cb : Nat) (za zb : List Int) (w : World) (ha : Lie w a za) (hb : Lie w b zb) (hl : za.length ≤ 1000000) (he : za = zb) :
    Calls Try.prog 15 #[.slice a za.length ca, .slice b zb.length cb] w fun e w' => e = .returned (.bool true) ∧ Below w.heap.size w w' := by
  refine (same15 a b ca cb za zb w ha hb (by unfold maxLen; omega)).mono ?_
  rintro e w' ⟨rfl, h⟩
  exact ⟨by simp [he], h⟩
theorem rmay_yes (a : Option Addr) (cap : Nat) (zs : List Int) (w : World) (hl : Lie w a zs) (hm : zs.length ≤ maxLen) (h : mayB zs = true) :
    Calls Try.prog 14 #[.slice a zs.length cap] w fun e w' => e = .returned (.bool true) ∧ w = w' := by
  rw [← h]; exact refMay14 a cap zs w hl hm
theorem rmay_no (a : Option Addr) (cap : Nat) (zs : List Int) (w : World) (hl : Lie w a zs) (hm : zs.length ≤ maxLen) (h : mayB zs = false) :
    Calls Try.prog 14 #[.slice a zs.length cap] w fun e w' => e = .returned (.bool false) ∧ w = w' := by
  rw [← h]; exact refMay14 a cap zs w hl hm

set_option maxHeartbeats 4000000 in
set_option maxRecDepth 100000 in
theorem sums_e1 (a b : Option Addr) (ca cb : Nat) (za zb : List Int) (n : Int) (w : World) (ha : Lie w a za) (hb : Lie w b zb) (ra : Nt.Rng za) (rb : Nt.Rng zb) (la : za.length ≤ maxLen) (lb : zb.length ≤ maxLen) (na : a = none → ca = 0) (nb : b = none → cb = 0) (n0 : 0 ≤ n) (n1 : n < 18446744073709551616) (haa : (4100 : Int) < (za.length : Int)) :
    Calls Try.prog 3 #[.slice a za.length ca, .slice b zb.length cb, .int .u64 n] w fun e w' => e = .returned (.bool true) ∧ Below w.heap.size w w' := by
  go_enter Try.func3, Try.ntmps3
  go_wp2_with fail
  refine (long_yes _ _ _ _ _ haa).mono ?_
  rintro e w' ⟨rfl, rfl⟩
  go_wp2_with fail
  refine (known11 _).mono ?_
  rintro e w' ⟨rfl, hbel⟩
  go_wp2
  go_ret
  exact ⟨rfl, hbel⟩
set_option maxHeartbeats 4000000 in
set_option maxRecDepth 100000 in
theorem sums_e2 (a b : Option Addr) (ca cb : Nat) (za zb : List Int) (n : Int) (w : World) (ha : Lie w a za) (hb : Lie w b zb) (ra : Nt.Rng za) (rb : Nt.Rng zb) (la : za.length ≤ maxLen) (lb : zb.length ≤ maxLen) (na : a = none → ca = 0) (nb : b = none → cb = 0) (n0 : 0 ≤ n) (n1 : n < 18446744073709551616) (haa : (za.length : Int) ≤ 4100) (hbb : (4100 : Int) < (zb.length : Int)) :
    Calls Try.prog 3 #[.slice a za.length ca, .slice b zb.length cb, .int .u64 n] w fun e w' => e = .returned (.bool true) ∧ Below w.heap.size w w' := by
  go_enter Try.func3, Try.ntmps3
  go_wp2_with fail
  refine (long_no _ _ _ _ _ haa).mono ?_
  rintro e w' ⟨rfl, rfl⟩
  go_wp2_with fail
  refine (long_yes _ _ _ _ _ hbb).mono ?_
  rintro e w' ⟨rfl, rfl⟩
  go_wp2_with fail
  refine (known11 _).mono ?_
  rintro e w' ⟨rfl, hbel⟩
  go_wp2
  go_ret
  exact ⟨rfl, hbel⟩
theorem hw_start (w : World) : Below w.heap.size w w := Below.refl _ _
set_option maxHeartbeats 4000000 in
set_option maxRecDepth 100000 in
theorem sums_n1 (a b : Option Addr) (ca cb : Nat) (za zb : List Int) (n : Int) (w : World) (ha : Lie w a za) (hb : Lie w b zb) (ra : Nt.Rng za) (rb : Nt.Rng zb) (la : za.length ≤ maxLen) (lb : zb.length ≤ maxLen) (na : a = none → ca = 0) (nb : b = none → cb = 0) (n0 : 0 ≤ n) (n1 : n < 18446744073709551616) (haa : (za.length : Int) ≤ 4100) (hbb : (zb.length : Int) ≤ 4100) (pa : mayB za = false) :
    Calls Try.prog 3 #[.slice a za.length ca, .slice b zb.length cb, .int .u64 n] w fun e w' => e = .returned (.bool true) ∧ Below w.heap.size w w' := by
  have R := Hide.mk (And.intro ra rb)
  have M := Hide.mk (And.intro la lb)
  have PA := Hide.mk pa
  have E := Hide.mk (show (mayB za && mayB zb) = false by rw [pa]; rfl)
  have L : Live w [(a, za), (b, zb)] := ⟨by simp [ha, hb]⟩
  have HB : Below w.heap.size w w := Below.refl _ _
  have NA := Hide.mk na
  have NB := Hide.mk nb
  clear ha hb ra rb la lb na nb pa
  go_enter Try.func3, Try.ntmps3
  go_wp2_with fail
  refine (long_no _ _ _ _ _ haa).mono ?_
  rintro e w' ⟨rfl, rfl⟩
  go_wp2_with fail
  refine (long_no _ _ _ _ _ hbb).mono ?_
  rintro e w' ⟨rfl, rfl⟩
  go_wp2_with fail
  refine (lent12 a ca za _ (L.all (a, za) (by simp)) (by omega) NA.out).mono ?_
  rintro e w1 ⟨ax, cx, rfl, ox, hq⟩
  replace L := L.push (own_lie ox) hq
  replace HB := below_then HB hq
  clear hq ox
  go_wp2_with fail
  refine (lent12 b cb zb _ (L.all (b, zb) (by simp)) (by omega) NB.out).mono ?_
  rintro e w2 ⟨ay, cy, rfl, oy, hq⟩
  replace L := L.push (own_lie oy) hq
  replace HB := below_then HB hq
  clear hq oy
  go_wp2_with fail
  refine (may_no ax cx za _ (L.all (ax, za) (by simp)) M.out.1 PA.out).mono ?_
  rintro e w' ⟨rfl, rfl⟩
  go_wp2_with fail
  refine (rmay_no a ca za _ (L.all (a, za) (by simp)) M.out.1 PA.out).mono ?_
  rintro e w' ⟨rfl, rfl⟩
  go_wp2_with fail
  refine (of16 n n0 n1 _).mono ?_
  rintro e w3 ⟨z1, a1, c1, rfl, h1, _⟩
  replace L := L.push h1.lie h1.bel
  replace HB := below_then HB h1.bel
  have G1 := h1.good
  clear h1
  go_wp2_with fail
  refine (of17 n n0 n1 _).mono ?_
  rintro e w4 ⟨z2, a2, c2, rfl, h2, _⟩
  replace L := L.push h2.lie h2.bel
  replace HB := below_then HB h2.bel
  have G2 := h2.good
  clear h2
  go_wp2_with fail
  refine (same_yes' a1 a2 c1 c2 z1 z2 _ (L.all (a1, z1) (by simp)) (L.all (a2, z2) (by simp)) (by have := G1.len; omega) (G1.same G2 rfl)).mono ?_
  rintro e w5 ⟨rfl, hq⟩
  replace L := L.keep hq
  replace HB := below_then HB hq
  clear hq G1 G2
  go_wp2_with fail
  refine (num_no ax cx za _ (L.all (ax, za) (by simp)) M.out.1 (.inl PA.out)).mono ?_
  rintro e w' ⟨rfl, rfl⟩
  go_wp2_with fail
  refine (rmay_no a ca za _ (L.all (a, za) (by simp)) M.out.1 PA.out).mono ?_
  rintro e w' ⟨rfl, rfl⟩
  go_wp2_with fail
  refine (cmp_no ax ay cx cy za zb _ (L.all (ax, za) (by simp)) (L.all (ay, zb) (by simp)) M.out.1 M.out.2 E.out).mono ?_
  rintro e w6 ⟨rfl, hq⟩
  replace L := L.keep hq
  replace HB := below_then HB hq
  clear hq
  go_wp2_with fail
  refine (add_no ax ay cx cy za zb _ (L.all (ax, za) (by simp)) (L.all (ay, zb) (by simp)) M.out.1 M.out.2 E.out).mono ?_
  rintro e w7 ⟨rfl, hq⟩
  replace L := L.keep hq
  replace HB := below_then HB hq
  clear hq
  go_wp2_with fail
  refine (sub_no ax ay cx cy za zb _ (L.all (ax, za) (by simp)) (L.all (ay, zb) (by simp)) M.out.1 M.out.2 E.out).mono ?_
  rintro e w8 ⟨rfl, hq⟩
  replace L := L.keep hq
  replace HB := below_then HB hq
  clear hq
  go_wp2_with fail
  refine (same_yes' _ _ cx ca za za _ (L.all (ax, za) (by simp)) (L.all (a, za) (by simp)) (by omega) rfl).mono ?_
  rintro e w9 ⟨rfl, hq⟩
  replace L := L.keep hq
  replace HB := below_then HB hq
  clear hq
  go_wp2_with fail
  refine (same_yes' _ _ cy cb zb zb _ (L.all (ay, zb) (by simp)) (L.all (b, zb) (by simp)) (by omega) rfl).mono ?_
  rintro e w10 ⟨rfl, hq⟩
  replace L := L.keep hq
  replace HB := below_then HB hq
  clear hq
  go_wp2_with fail
  refine (rmay_no a ca za _ (L.all (a, za) (by simp)) M.out.1 PA.out).mono ?_
  rintro e w' ⟨rfl, rfl⟩
  go_wp2_with fail
  refine (known11 _).mono ?_
  rintro e w11 ⟨rfl, hq⟩
  replace L := L.keep hq
  replace HB := below_then HB hq
  go_wp2
  go_ret
  exact ⟨rfl, HB⟩
set_option maxHeartbeats 4000000 in
set_option maxRecDepth 100000 in
theorem sums_n2 (a b : Option Addr) (ca cb : Nat) (za zb : List Int) (n : Int) (w : World) (ha : Lie w a za) (hb : Lie w b zb) (ra : Nt.Rng za) (rb : Nt.Rng zb) (la : za.length ≤ maxLen) (lb : zb.length ≤ maxLen) (na : a = none → ca = 0) (nb : b = none → cb = 0) (n0 : 0 ≤ n) (n1 : n < 18446744073709551616) (haa : (za.length : Int) ≤ 4100) (hbb : (zb.length : Int) ≤ 4100) (pa : mayB za = true) (pb : mayB zb = false) (hf : za.length ≤ 2) :
    Calls Try.prog 3 #[.slice a za.length ca, .slice b zb.length cb, .int .u64 n] w fun e w' => e = .returned (.bool true) ∧ Below w.heap.size w w' := by
  have Ga : Good za (Nt.val za) := ⟨(may_can ra pa).1, (may_can ra pa).2, rfl⟩
  have X := Hide.mk ((Lt.of ra hf).2)
  have X0 := Hide.mk ((Lt.of ra hf).1)
  have R := Hide.mk (And.intro ra rb)
  have M := Hide.mk (And.intro la lb)
  have PA := Hide.mk pa
  have PB := Hide.mk pb
  have E := Hide.mk (show (mayB za && mayB zb) = false by rw [pa, pb]; rfl)
  have L : Live w [(a, za), (b, zb)] := ⟨by simp [ha, hb]⟩
  have HB : Below w.heap.size w w := Below.refl _ _
  have NA := Hide.mk na
  have NB := Hide.mk nb
  clear ha hb ra rb la lb na nb pa pb
  go_enter Try.func3, Try.ntmps3
  go_wp2_with fail
  refine (long_no _ _ _ _ _ haa).mono ?_
  rintro e w' ⟨rfl, rfl⟩
  go_wp2_with fail
  refine (long_no _ _ _ _ _ hbb).mono ?_
  rintro e w' ⟨rfl, rfl⟩
  go_wp2_with fail
  refine (lent12 a ca za _ (L.all (a, za) (by simp)) (by omega) NA.out).mono ?_
  rintro e w1 ⟨ax, cx, rfl, ox, hq⟩
  replace L := L.push (own_lie ox) hq
  replace HB := below_then HB hq
  clear hq ox
  go_wp2_with fail
  refine (lent12 b cb zb _ (L.all (b, zb) (by simp)) (by omega) NB.out).mono ?_
  rintro e w2 ⟨ay, cy, rfl, oy, hq⟩
  replace L := L.push (own_lie oy) hq
  replace HB := below_then HB hq
  clear hq oy
  go_wp2_with fail
  refine (may_yes ax cx za _ (L.all (ax, za) (by simp)) M.out.1 PA.out).mono ?_
  rintro e w' ⟨rfl, rfl⟩
  go_wp2_with fail
  refine (rmay_yes a ca za _ (L.all (a, za) (by simp)) M.out.1 PA.out).mono ?_
  rintro e w' ⟨rfl, rfl⟩
  go_wp2_with fail
  refine (of16 n n0 n1 _).mono ?_
  rintro e w3 ⟨z1, a1, c1, rfl, h1, _⟩
  replace L := L.push h1.lie h1.bel
  replace HB := below_then HB h1.bel
  have G1 := h1.good
  clear h1
  go_wp2_with fail
  refine (of17 n n0 n1 _).mono ?_
  rintro e w4 ⟨z2, a2, c2, rfl, h2, _⟩
  replace L := L.push h2.lie h2.bel
  replace HB := below_then HB h2.bel
  have G2 := h2.good
  clear h2
  go_wp2_with fail
  refine (same_yes' a1 a2 c1 c2 z1 z2 _ (L.all (a1, z1) (by simp)) (L.all (a2, z2) (by simp)) (by have := G1.len; omega) (G1.same G2 rfl)).mono ?_
  rintro e w5 ⟨rfl, hq⟩
  replace L := L.keep hq
  replace HB := below_then HB hq
  clear hq G1 G2
  go_wp2_with fail
  refine (num_yes ax cx za _ PA.out (L.all (ax, za) (by simp)) R.out.1 hf).mono ?_
  rintro e w' ⟨rfl, rfl⟩
  go_wp2_with fail
  refine (rmay_yes a ca za _ (L.all (a, za) (by simp)) M.out.1 PA.out).mono ?_
  rintro e w' ⟨rfl, rfl⟩
  go_wp2_with fail
  refine (of17 (Nt.val za) X0.out X.out _).mono ?_
  rintro e w6 ⟨z3, a3, c3, rfl, h3, _⟩
  replace L := L.push h3.lie h3.bel
  replace HB := below_then HB h3.bel
  have G3 := h3.good
  clear h3
  go_wp2_with fail
  refine (same_yes' a3 a c3 ca z3 za _ (L.all (a3, z3) (by simp)) (L.all (a, za) (by simp)) (by have := G3.len; omega) (G3.same Ga rfl)).mono ?_
  rintro e w7 ⟨rfl, hq⟩
  replace L := L.keep hq
  replace HB := below_then HB hq
  clear hq G3
  go_wp2_with fail
  refine (cmp_no ax ay cx cy za zb _ (L.all (ax, za) (by simp)) (L.all (ay, zb) (by simp)) M.out.1 M.out.2 E.out).mono ?_
  rintro e w8 ⟨rfl, hq⟩
  replace L := L.keep hq
  replace HB := below_then HB hq
  clear hq
  go_wp2_with fail
  refine (add_no ax ay cx cy za zb _ (L.all (ax, za) (by simp)) (L.all (ay, zb) (by simp)) M.out.1 M.out.2 E.out).mono ?_
  rintro e w9 ⟨rfl, hq⟩
  replace L := L.keep hq
  replace HB := below_then HB hq
  clear hq
  go_wp2_with fail
  refine (sub_no ax ay cx cy za zb _ (L.all (ax, za) (by simp)) (L.all (ay, zb) (by simp)) M.out.1 M.out.2 E.out).mono ?_
  rintro e w10 ⟨rfl, hq⟩
  replace L := L.keep hq
  replace HB := below_then HB hq
  clear hq
  go_wp2_with fail
  refine (same_yes' _ _ cx ca za za _ (L.all (ax, za) (by simp)) (L.all (a, za) (by simp)) (by omega) rfl).mono ?_
  rintro e w11 ⟨rfl, hq⟩
  replace L := L.keep hq
  replace HB := below_then HB hq
  clear hq
  go_wp2_with fail
  refine (same_yes' _ _ cy cb zb zb _ (L.all (ay, zb) (by simp)) (L.all (b, zb) (by simp)) (by omega) rfl).mono ?_
  rintro e w12 ⟨rfl, hq⟩
  replace L := L.keep hq
  replace HB := below_then HB hq
  clear hq
  go_wp2_with fail
  refine (rmay_yes a ca za _ (L.all (a, za) (by simp)) M.out.1 PA.out).mono ?_
  rintro e w' ⟨rfl, rfl⟩
  go_wp2_with fail
  refine (rmay_no b cb zb _ (L.all (b, zb) (by simp)) M.out.2 PB.out).mono ?_
  rintro e w' ⟨rfl, rfl⟩
  go_wp2_with fail
  refine (known11 _).mono ?_
  rintro e w13 ⟨rfl, hq⟩
  replace L := L.keep hq
  replace HB := below_then HB hq
  go_wp2
  go_ret
  exact ⟨rfl, HB⟩
set_option maxHeartbeats 4000000 in
set_option maxRecDepth 100000 in
theorem sums_n3 (a b : Option Addr) (ca cb : Nat) (za zb : List Int) (n : Int) (w : World) (ha : Lie w a za) (hb : Lie w b zb) (ra : Nt.Rng za) (rb : Nt.Rng zb) (la : za.length ≤ maxLen) (lb : zb.length ≤ maxLen) (na : a = none → ca = 0) (nb : b = none → cb = 0) (n0 : 0 ≤ n) (n1 : n < 18446744073709551616) (haa : (za.length : Int) ≤ 4100) (hbb : (zb.length : Int) ≤ 4100) (pa : mayB za = true) (pb : mayB zb = false) (hf : 2 < za.length) :
    Calls Try.prog 3 #[.slice a za.length ca, .slice b zb.length cb, .int .u64 n] w fun e w' => e = .returned (.bool true) ∧ Below w.heap.size w w' := by
  have Ga : Good za (Nt.val za) := ⟨(may_can ra pa).1, (may_can ra pa).2, rfl⟩
  have R := Hide.mk (And.intro ra rb)
  have M := Hide.mk (And.intro la lb)
  have PA := Hide.mk pa
  have PB := Hide.mk pb
  have E := Hide.mk (show (mayB za && mayB zb) = false by rw [pa, pb]; rfl)
  have L : Live w [(a, za), (b, zb)] := ⟨by simp [ha, hb]⟩
  have HB : Below w.heap.size w w := Below.refl _ _
  have NA := Hide.mk na
  have NB := Hide.mk nb
  clear ha hb ra rb la lb na nb pa pb
  go_enter Try.func3, Try.ntmps3
  go_wp2_with fail
  refine (long_no _ _ _ _ _ haa).mono ?_
  rintro e w' ⟨rfl, rfl⟩
  go_wp2_with fail
  refine (long_no _ _ _ _ _ hbb).mono ?_
  rintro e w' ⟨rfl, rfl⟩
  go_wp2_with fail
  refine (lent12 a ca za _ (L.all (a, za) (by simp)) (by omega) NA.out).mono ?_
  rintro e w1 ⟨ax, cx, rfl, ox, hq⟩
  replace L := L.push (own_lie ox) hq
  replace HB := below_then HB hq
  clear hq ox
  go_wp2_with fail
  refine (lent12 b cb zb _ (L.all (b, zb) (by simp)) (by omega) NB.out).mono ?_
  rintro e w2 ⟨ay, cy, rfl, oy, hq⟩
  replace L := L.push (own_lie oy) hq
  replace HB := below_then HB hq
  clear hq oy
  go_wp2_with fail
  refine (may_yes ax cx za _ (L.all (ax, za) (by simp)) M.out.1 PA.out).mono ?_
  rintro e w' ⟨rfl, rfl⟩
  go_wp2_with fail
  refine (rmay_yes a ca za _ (L.all (a, za) (by simp)) M.out.1 PA.out).mono ?_
  rintro e w' ⟨rfl, rfl⟩
  go_wp2_with fail
  refine (of16 n n0 n1 _).mono ?_
  rintro e w3 ⟨z1, a1, c1, rfl, h1, _⟩
  replace L := L.push h1.lie h1.bel
  replace HB := below_then HB h1.bel
  have G1 := h1.good
  clear h1
  go_wp2_with fail
  refine (of17 n n0 n1 _).mono ?_
  rintro e w4 ⟨z2, a2, c2, rfl, h2, _⟩
  replace L := L.push h2.lie h2.bel
  replace HB := below_then HB h2.bel
  have G2 := h2.good
  clear h2
  go_wp2_with fail
  refine (same_yes' a1 a2 c1 c2 z1 z2 _ (L.all (a1, z1) (by simp)) (L.all (a2, z2) (by simp)) (by have := G1.len; omega) (G1.same G2 rfl)).mono ?_
  rintro e w5 ⟨rfl, hq⟩
  replace L := L.keep hq
  replace HB := below_then HB hq
  clear hq G1 G2
  go_wp2_with fail
  refine (num_no ax cx za _ (L.all (ax, za) (by simp)) M.out.1 (.inr hf)).mono ?_
  rintro e w' ⟨rfl, rfl⟩
  go_wp2_with fail
  refine (rmay_yes a ca za _ (L.all (a, za) (by simp)) M.out.1 PA.out).mono ?_
  rintro e w' ⟨rfl, rfl⟩
  go_wp2_with fail
  refine (cmp_no ax ay cx cy za zb _ (L.all (ax, za) (by simp)) (L.all (ay, zb) (by simp)) M.out.1 M.out.2 E.out).mono ?_
  rintro e w6 ⟨rfl, hq⟩
  replace L := L.keep hq
  replace HB := below_then HB hq
  clear hq
  go_wp2_with fail
  refine (add_no ax ay cx cy za zb _ (L.all (ax, za) (by simp)) (L.all (ay, zb) (by simp)) M.out.1 M.out.2 E.out).mono ?_
  rintro e w7 ⟨rfl, hq⟩
  replace L := L.keep hq
  replace HB := below_then HB hq
  clear hq
  go_wp2_with fail
  refine (sub_no ax ay cx cy za zb _ (L.all (ax, za) (by simp)) (L.all (ay, zb) (by simp)) M.out.1 M.out.2 E.out).mono ?_
  rintro e w8 ⟨rfl, hq⟩
  replace L := L.keep hq
  replace HB := below_then HB hq
  clear hq
  go_wp2_with fail
  refine (same_yes' _ _ cx ca za za _ (L.all (ax, za) (by simp)) (L.all (a, za) (by simp)) (by omega) rfl).mono ?_
  rintro e w9 ⟨rfl, hq⟩
  replace L := L.keep hq
  replace HB := below_then HB hq
  clear hq
  go_wp2_with fail
  refine (same_yes' _ _ cy cb zb zb _ (L.all (ay, zb) (by simp)) (L.all (b, zb) (by simp)) (by omega) rfl).mono ?_
  rintro e w10 ⟨rfl, hq⟩
  replace L := L.keep hq
  replace HB := below_then HB hq
  clear hq
  go_wp2_with fail
  refine (rmay_yes a ca za _ (L.all (a, za) (by simp)) M.out.1 PA.out).mono ?_
  rintro e w' ⟨rfl, rfl⟩
  go_wp2_with fail
  refine (rmay_no b cb zb _ (L.all (b, zb) (by simp)) M.out.2 PB.out).mono ?_
  rintro e w' ⟨rfl, rfl⟩
  go_wp2_with fail
  refine (known11 _).mono ?_
  rintro e w11 ⟨rfl, hq⟩
  replace L := L.keep hq
  replace HB := below_then HB hq
  go_wp2
  go_ret
  exact ⟨rfl, HB⟩
set_option maxHeartbeats 4000000 in
set_option maxRecDepth 100000 in
theorem sums_m1 (a b : Option Addr) (ca cb : Nat) (za zb : List Int) (n : Int) (w : World) (ha : Lie w a za) (hb : Lie w b zb) (ra : Nt.Rng za) (rb : Nt.Rng zb) (la : za.length ≤ maxLen) (lb : zb.length ≤ maxLen) (na : a = none → ca = 0) (nb : b = none → cb = 0) (n0 : 0 ≤ n) (n1 : n < 18446744073709551616) (haa : (za.length : Int) ≤ 4100) (hbb : (zb.length : Int) ≤ 4100) (pa : mayB za = true) (pb : mayB zb = true) (hf : za.length ≤ 2) (hs : 4294967296 ^ 4096 ≤ Nt.val za + Nt.val zb) (hv : Nt.val za < Nt.val zb) :
    Calls Try.prog 3 #[.slice a za.length ca, .slice b zb.length cb, .int .u64 n] w fun e w' => e = .returned (.bool true) ∧ Below w.heap.size w w' := by
  have Ga : Good za (Nt.val za) := ⟨(may_can ra pa).1, (may_can ra pa).2, rfl⟩
  have Gb : Good zb (Nt.val zb) := ⟨(may_can rb pb).1, (may_can rb pb).2, rfl⟩
  have U := Hide.mk hs
  have V := Hide.mk hv
  clear hs hv
  have X := Hide.mk ((Lt.of ra hf).2)
  have X0 := Hide.mk ((Lt.of ra hf).1)
  have R := Hide.mk (And.intro ra rb)
  have M := Hide.mk (And.intro la lb)
  have PA := Hide.mk pa
  have PB := Hide.mk pb
  have E := Hide.mk (show (mayB za && mayB zb) = true by rw [pa, pb]; rfl)
  have L : Live w [(a, za), (b, zb)] := ⟨by simp [ha, hb]⟩
  have HB : Below w.heap.size w w := Below.refl _ _
  have NA := Hide.mk na
  have NB := Hide.mk nb
  clear ha hb ra rb la lb na nb pa pb
  go_enter Try.func3, Try.ntmps3
  go_wp2_with fail
  refine (long_no _ _ _ _ _ haa).mono ?_
  rintro e w' ⟨rfl, rfl⟩
  go_wp2_with fail
  refine (long_no _ _ _ _ _ hbb).mono ?_
  rintro e w' ⟨rfl, rfl⟩
  go_wp2_with fail
  refine (lent12 a ca za _ (L.all (a, za) (by simp)) (by omega) NA.out).mono ?_
  rintro e w1 ⟨ax, cx, rfl, ox, hq⟩
  replace L := L.push (own_lie ox) hq
  replace HB := below_then HB hq
  clear hq ox
  go_wp2_with fail
  refine (lent12 b cb zb _ (L.all (b, zb) (by simp)) (by omega) NB.out).mono ?_
  rintro e w2 ⟨ay, cy, rfl, oy, hq⟩
  replace L := L.push (own_lie oy) hq
  replace HB := below_then HB hq
  clear hq oy
  go_wp2_with fail
  refine (may_yes ax cx za _ (L.all (ax, za) (by simp)) M.out.1 PA.out).mono ?_
  rintro e w' ⟨rfl, rfl⟩
  go_wp2_with fail
  refine (rmay_yes a ca za _ (L.all (a, za) (by simp)) M.out.1 PA.out).mono ?_
  rintro e w' ⟨rfl, rfl⟩
  go_wp2_with fail
  refine (of16 n n0 n1 _).mono ?_
  rintro e w3 ⟨z1, a1, c1, rfl, h1, _⟩
  replace L := L.push h1.lie h1.bel
  replace HB := below_then HB h1.bel
  have G1 := h1.good
  clear h1
  go_wp2_with fail
  refine (of17 n n0 n1 _).mono ?_
  rintro e w4 ⟨z2, a2, c2, rfl, h2, _⟩
  replace L := L.push h2.lie h2.bel
  replace HB := below_then HB h2.bel
  have G2 := h2.good
  clear h2
  go_wp2_with fail
  refine (same_yes' a1 a2 c1 c2 z1 z2 _ (L.all (a1, z1) (by simp)) (L.all (a2, z2) (by simp)) (by have := G1.len; omega) (G1.same G2 rfl)).mono ?_
  rintro e w5 ⟨rfl, hq⟩
  replace L := L.keep hq
  replace HB := below_then HB hq
  clear hq G1 G2
  go_wp2_with fail
  refine (num_yes ax cx za _ PA.out (L.all (ax, za) (by simp)) R.out.1 hf).mono ?_
  rintro e w' ⟨rfl, rfl⟩
  go_wp2_with fail
  refine (rmay_yes a ca za _ (L.all (a, za) (by simp)) M.out.1 PA.out).mono ?_
  rintro e w' ⟨rfl, rfl⟩
  go_wp2_with fail
  refine (of17 (Nt.val za) X0.out X.out _).mono ?_
  rintro e w6 ⟨z3, a3, c3, rfl, h3, _⟩
  replace L := L.push h3.lie h3.bel
  replace HB := below_then HB h3.bel
  have G3 := h3.good
  clear h3
  go_wp2_with fail
  refine (same_yes' a3 a c3 ca z3 za _ (L.all (a3, z3) (by simp)) (L.all (a, za) (by simp)) (by have := G3.len; omega) (G3.same Ga rfl)).mono ?_
  rintro e w7 ⟨rfl, hq⟩
  replace L := L.keep hq
  replace HB := below_then HB hq
  clear hq G3
  have hsg := sgn_lt V.out
  have HSG := Hide.mk hsg
  clear hsg
  have W0 := L
  skip
  have hcmp := fun W h1 h2 => Hide.mk (cmp19 ax ay cx cy za zb W h1 h2 R.out.1 R.out.2 PA.out PB.out)
  rw [HSG.out] at hcmp
  go_wp2_with fail
  refine ((hcmp _ (L.all (ax, za) (by simp)) (L.all (ay, zb) (by simp))).out).mono ?_
  rintro e w8 ⟨rfl, hq⟩
  replace L := L.keep hq
  replace HB := below_then HB hq
  clear hq
  have LW := Hide.mk L
  have HW := hw_start w8
  go_wp2_with fail
  refine (add_long ax ay cx cy za zb _ (L.all (ax, za) (by simp)) (L.all (ay, zb) (by simp)) Ga Gb U.out).mono ?_
  rintro e w9 ⟨rfl, hq⟩
  replace L := L.keep hq
  replace HB := below_then HB hq
  replace HW := below_then HW hq
  clear hq
  have OS := Own.nil w8.heap.size w9
  have OS1 := Hide.mk OS
  go_wp2_with fail
  refine (sub_less ax ay cx cy za zb _ (L.all (ax, za) (by simp)) (L.all (ay, zb) (by simp)) R.out.1 R.out.2 PA.out PB.out V.out).mono ?_
  rintro e w10 ⟨rfl, hq⟩
  replace L := L.keep hq
  replace HB := below_then HB hq
  replace HW := below_then HW hq
  replace OS := OS.below hq (Nat.le_refl _)
  clear hq
  go_wp2_with fail
  refine (same_yes' _ _ cx ca za za _ (L.all (ax, za) (by simp)) (L.all (a, za) (by simp)) (by omega) rfl).mono ?_
  rintro e w11 ⟨rfl, hq⟩
  replace L := L.keep hq
  replace HB := below_then HB hq
  replace HW := below_then HW hq
  replace OS := OS.below hq (Nat.le_refl _)
  clear hq
  go_wp2_with fail
  refine (same_yes' _ _ cy cb zb zb _ (L.all (ay, zb) (by simp)) (L.all (b, zb) (by simp)) (by omega) rfl).mono ?_
  rintro e w12 ⟨rfl, hq⟩
  replace L := L.keep hq
  replace HB := below_then HB hq
  replace HW := below_then HW hq
  replace OS := OS.below hq (Nat.le_refl _)
  clear hq
  go_wp2_with fail
  refine (rmay_yes a ca za _ (L.all (a, za) (by simp)) M.out.1 PA.out).mono ?_
  rintro e w' ⟨rfl, rfl⟩
  go_wp2_with fail
  refine (rmay_yes b cb zb _ (L.all (b, zb) (by simp)) M.out.2 PB.out).mono ?_
  rintro e w' ⟨rfl, rfl⟩
  have hrc := fun W h1 h2 => Hide.mk (refCmp22 a b ca cb za zb W h1 h2 Ga.can Gb.can M.out.1)
  rw [HSG.out] at hrc
  go_wp2_with fail
  refine ((hrc _ (L.all (a, za) (by simp)) (L.all (b, zb) (by simp))).out).mono ?_
  rintro e w13 ⟨rfl, hq⟩
  replace L := L.keep hq
  replace HB := below_then HB hq
  replace HW := below_then HW hq
  replace OS := OS.below hq (Nat.le_refl _)
  clear hq hrc
  go_wp2_with fail
  refine (refAdd23 a b ca cb za zb _ (L.all (a, za) (by simp)) (L.all (b, zb) (by simp)) R.out.1 R.out.2 (by omega) (by omega)).mono ?_
  rintro e w14 ⟨zr, ar, cr, rfl, hr1, hr2, hr3, hr4⟩
  replace L := L.push (own_lie hr1) hr4
  replace HB := below_then HB hr4
  replace HW := below_then HW hr4
  replace OS := OS.below hr4 (Nat.le_refl _)
  have hlen : (4096 : Int) < (zr.length : Int) := by have := mt (Nt.can_len hr2 4096).2 (by rw [hr3]; exact Int.not_lt.2 U.out); omega
  clear hr1 hr2 hr3 hr4
  have hrc := fun W h1 h2 => Hide.mk (refCmp22 a b ca cb za zb W h1 h2 Ga.can Gb.can M.out.1)
  rw [HSG.out] at hrc
  go_wp2_with fail
  refine ((hrc _ (L.all (a, za) (by simp)) (L.all (b, zb) (by simp))).out).mono ?_
  rintro e w15 ⟨rfl, hq⟩
  replace L := L.keep hq
  replace HB := below_then HB hq
  replace HW := below_then HW hq
  replace OS := OS.below hq (Nat.le_refl _)
  clear hq hrc
  go_wp2_with fail
  refine (known11 _).mono ?_
  rintro e w16 ⟨rfl, hq⟩
  replace L := L.keep hq
  replace HB := below_then HB hq
  replace HW := below_then HW hq
  replace OS := OS.below hq (Nat.le_refl _)
  go_wp2
  go_ret
  exact ⟨rfl, HB⟩
set_option maxHeartbeats 4000000 in
set_option maxRecDepth 100000 in
theorem sums_m2 (a b : Option Addr) (ca cb : Nat) (za zb : List Int) (n : Int) (w : World) (ha : Lie w a za) (hb : Lie w b zb) (ra : Nt.Rng za) (rb : Nt.Rng zb) (la : za.length ≤ maxLen) (lb : zb.length ≤ maxLen) (na : a = none → ca = 0) (nb : b = none → cb = 0) (n0 : 0 ≤ n) (n1 : n < 18446744073709551616) (haa : (za.length : Int) ≤ 4100) (hbb : (zb.length : Int) ≤ 4100) (pa : mayB za = true) (pb : mayB zb = true) (hf : za.length ≤ 2) (hs : 4294967296 ^ 4096 ≤ Nt.val za + Nt.val zb) (hv : Nt.val zb ≤ Nt.val za) :
    Calls Try.prog 3 #[.slice a za.length ca, .slice b zb.length cb, .int .u64 n] w fun e w' => e = .returned (.bool true) ∧ Below w.heap.size w w' := by
  have Ga : Good za (Nt.val za) := ⟨(may_can ra pa).1, (may_can ra pa).2, rfl⟩
  have Gb : Good zb (Nt.val zb) := ⟨(may_can rb pb).1, (may_can rb pb).2, rfl⟩
  have U := Hide.mk hs
  have V := Hide.mk hv
  have hsg : 0 ≤ sgn (Nt.val za) (Nt.val zb) := by unfold sgn; split <;> (try split) <;> omega
  clear hs hv
  have X := Hide.mk ((Lt.of ra hf).2)
  have X0 := Hide.mk ((Lt.of ra hf).1)
  have R := Hide.mk (And.intro ra rb)
  have M := Hide.mk (And.intro la lb)
  have PA := Hide.mk pa
  have PB := Hide.mk pb
  have E := Hide.mk (show (mayB za && mayB zb) = true by rw [pa, pb]; rfl)
  have L : Live w [(a, za), (b, zb)] := ⟨by simp [ha, hb]⟩
  have HB : Below w.heap.size w w := Below.refl _ _
  have NA := Hide.mk na
  have NB := Hide.mk nb
  clear ha hb ra rb la lb na nb pa pb
  go_enter Try.func3, Try.ntmps3
  go_wp2_with fail
  refine (long_no _ _ _ _ _ haa).mono ?_
  rintro e w' ⟨rfl, rfl⟩
  go_wp2_with fail
  refine (long_no _ _ _ _ _ hbb).mono ?_
  rintro e w' ⟨rfl, rfl⟩
  go_wp2_with fail
  refine (lent12 a ca za _ (L.all (a, za) (by simp)) (by omega) NA.out).mono ?_
  rintro e w1 ⟨ax, cx, rfl, ox, hq⟩
  replace L := L.push (own_lie ox) hq
  replace HB := below_then HB hq
  clear hq ox
  go_wp2_with fail
  refine (lent12 b cb zb _ (L.all (b, zb) (by simp)) (by omega) NB.out).mono ?_
  rintro e w2 ⟨ay, cy, rfl, oy, hq⟩
  replace L := L.push (own_lie oy) hq
  replace HB := below_then HB hq
  clear hq oy
  go_wp2_with fail
  refine (may_yes ax cx za _ (L.all (ax, za) (by simp)) M.out.1 PA.out).mono ?_
  rintro e w' ⟨rfl, rfl⟩
  go_wp2_with fail
  refine (rmay_yes a ca za _ (L.all (a, za) (by simp)) M.out.1 PA.out).mono ?_
  rintro e w' ⟨rfl, rfl⟩
  go_wp2_with fail
  refine (of16 n n0 n1 _).mono ?_
  rintro e w3 ⟨z1, a1, c1, rfl, h1, _⟩
  replace L := L.push h1.lie h1.bel
  replace HB := below_then HB h1.bel
  have G1 := h1.good
  clear h1
  go_wp2_with fail
  refine (of17 n n0 n1 _).mono ?_
  rintro e w4 ⟨z2, a2, c2, rfl, h2, _⟩
  replace L := L.push h2.lie h2.bel
  replace HB := below_then HB h2.bel
  have G2 := h2.good
  clear h2
  go_wp2_with fail
  refine (same_yes' a1 a2 c1 c2 z1 z2 _ (L.all (a1, z1) (by simp)) (L.all (a2, z2) (by simp)) (by have := G1.len; omega) (G1.same G2 rfl)).mono ?_
  rintro e w5 ⟨rfl, hq⟩
  replace L := L.keep hq
  replace HB := below_then HB hq
  clear hq G1 G2
  go_wp2_with fail
  refine (num_yes ax cx za _ PA.out (L.all (ax, za) (by simp)) R.out.1 hf).mono ?_
  rintro e w' ⟨rfl, rfl⟩
  go_wp2_with fail
  refine (rmay_yes a ca za _ (L.all (a, za) (by simp)) M.out.1 PA.out).mono ?_
  rintro e w' ⟨rfl, rfl⟩
  go_wp2_with fail
  refine (of17 (Nt.val za) X0.out X.out _).mono ?_
  rintro e w6 ⟨z3, a3, c3, rfl, h3, _⟩
  replace L := L.push h3.lie h3.bel
  replace HB := below_then HB h3.bel
  have G3 := h3.good
  clear h3
  go_wp2_with fail
  refine (same_yes' a3 a c3 ca z3 za _ (L.all (a3, z3) (by simp)) (L.all (a, za) (by simp)) (by have := G3.len; omega) (G3.same Ga rfl)).mono ?_
  rintro e w7 ⟨rfl, hq⟩
  replace L := L.keep hq
  replace HB := below_then HB hq
  clear hq G3
  have W0 := L
  skip
  go_wp2_with fail
  refine (cmp19 ax ay cx cy za zb _ (L.all (ax, za) (by simp)) (L.all (ay, zb) (by simp)) R.out.1 R.out.2 PA.out PB.out).mono ?_
  rintro e w8 ⟨rfl, hq⟩
  replace L := L.keep hq
  replace HB := below_then HB hq
  clear hq
  generalize hg : sgn (Nt.val za) (Nt.val zb) = sg at *
  have HG := Hide.mk hg
  clear hg
  have HBW := Hide.mk HB
  have LW := Hide.mk L
  have HW := hw_start w8
  go_wp2_with fail
  refine (add_long ax ay cx cy za zb _ (L.all (ax, za) (by simp)) (L.all (ay, zb) (by simp)) Ga Gb U.out).mono ?_
  rintro e w9 ⟨rfl, hq⟩
  replace L := L.keep hq
  replace HB := below_then HB hq
  replace HW := below_then HW hq
  clear hq
  have OS := Own.nil w8.heap.size w9
  have OS1 := Hide.mk OS
  have HSZ := Hide.mk HW.size
  go_wp2_with fail
  refine (sub_fit ax ay cx cy za zb _ (L.all (ax, za) (by simp)) (L.all (ay, zb) (by simp)) Ga Gb V.out).mono ?_
  rintro e w10 ⟨zd, ad, cd, rfl, hd, OD⟩
  replace L := L.push hd.lie hd.bel
  replace HB := below_then HB hd.bel
  replace HW := below_then HW hd.bel
  replace OS := OS.below hd.bel (Nat.le_refl _)
  have Gd := hd.good
  clear hd
  go_wp2_with fail
  refine (same_yes' _ _ cx ca za za _ (L.all (ax, za) (by simp)) (L.all (a, za) (by simp)) (by omega) rfl).mono ?_
  rintro e w11 ⟨rfl, hq⟩
  replace L := L.keep hq
  replace HB := below_then HB hq
  replace HW := below_then HW hq
  replace OS := OS.below hq (Nat.le_refl _)
  replace OD := OD.below hq (Nat.le_refl _)
  clear hq
  go_wp2_with fail
  refine (same_yes' _ _ cy cb zb zb _ (L.all (ay, zb) (by simp)) (L.all (b, zb) (by simp)) (by omega) rfl).mono ?_
  rintro e w12 ⟨rfl, hq⟩
  replace L := L.keep hq
  replace HB := below_then HB hq
  replace HW := below_then HW hq
  replace OS := OS.below hq (Nat.le_refl _)
  replace OD := OD.below hq (Nat.le_refl _)
  clear hq
  go_wp2_with fail
  refine (rmay_yes a ca za _ (L.all (a, za) (by simp)) M.out.1 PA.out).mono ?_
  rintro e w' ⟨rfl, rfl⟩
  go_wp2_with fail
  refine (rmay_yes b cb zb _ (L.all (b, zb) (by simp)) M.out.2 PB.out).mono ?_
  rintro e w' ⟨rfl, rfl⟩
  have hrc := fun W h1 h2 => Hide.mk (refCmp22 a b ca cb za zb W h1 h2 Ga.can Gb.can M.out.1)
  rw [HG.out] at hrc
  go_wp2_with fail
  refine ((hrc _ (L.all (a, za) (by simp)) (L.all (b, zb) (by simp))).out).mono ?_
  rintro e w13 ⟨rfl, hq⟩
  replace L := L.keep hq
  replace HB := below_then HB hq
  replace HW := below_then HW hq
  replace OS := OS.below hq (Nat.le_refl _)
  replace OD := OD.below hq (Nat.le_refl _)
  clear hq hrc
  go_wp2_with fail
  refine (refAdd23 a b ca cb za zb _ (L.all (a, za) (by simp)) (L.all (b, zb) (by simp)) R.out.1 R.out.2 (by omega) (by omega)).mono ?_
  rintro e w14 ⟨zr, ar, cr, rfl, hr1, hr2, hr3, hr4⟩
  replace L := L.push (own_lie hr1) hr4
  replace HB := below_then HB hr4
  replace HW := below_then HW hr4
  replace OS := OS.below hr4 (Nat.le_refl _)
  replace OD := OD.below hr4 (Nat.le_refl _)
  have hlen : (4096 : Int) < (zr.length : Int) := by have := mt (Nt.can_len hr2 4096).2 (by rw [hr3]; exact Int.not_lt.2 U.out); omega
  clear hr1 hr2 hr3 hr4
  have hrc := fun W h1 h2 => Hide.mk (refCmp22 a b ca cb za zb W h1 h2 Ga.can Gb.can M.out.1)
  rw [HG.out] at hrc
  go_wp2_with fail
  refine ((hrc _ (L.all (a, za) (by simp)) (L.all (b, zb) (by simp))).out).mono ?_
  rintro e w15 ⟨rfl, hq⟩
  replace L := L.keep hq
  replace HB := below_then HB hq
  replace HW := below_then HW hq
  replace OS := OS.below hq (Nat.le_refl _)
  replace OD := OD.below hq (Nat.le_refl _)
  clear hq hrc
  go_wp2_with fail
  refine (refSub24 a b ca cb za zb _ (L.all (a, za) (by simp)) (L.all (b, zb) (by simp)) R.out.1 R.out.2 (by omega) ((Nt.can_len Gb.can _).1 (by have := (Nt.val_bd R.out.1).2; have := V.out; omega)) V.out).mono ?_
  rintro e w16 ⟨zt, at1, ct, rfl, ht1, ht2, ht3, ht4⟩
  replace L := L.push (own_lie ht1) ht4
  replace HB := below_then HB ht4
  replace HW := below_then HW ht4
  replace OS := OS.below ht4 (Nat.le_refl _)
  replace OD := OD.below ht4 (Nat.le_refl _)
  have hzt : zd = zt := Nt.can_unique Gd.can ht2 (by rw [ht3, Gd.val])
  have HT := Hide.mk hzt
  clear ht1 ht2 ht3 ht4 hzt
  go_wp2_with fail
  refine (same_yes' ad at1 cd ct zd zt _ (L.all (ad, zd) (by simp)) (L.all (at1, zt) (by simp)) (by have := Gd.len; omega) HT.out).mono ?_
  rintro e w17 ⟨rfl, hq⟩
  replace L := L.keep hq
  replace HB := below_then HB hq
  replace HW := below_then HW hq
  replace OS := OS.below hq (Nat.le_refl _)
  replace OD := OD.below hq (Nat.le_refl _)
  clear hq
  go_wp2_with fail
  refine (marked25 _ _ _ _ OS (by simp)).mono ?_
  rintro e w18 ⟨rfl, hgr⟩
  replace HW := HW.grown hgr HW.size (fun k hk => (OS1.out.lt k hk).1)
  replace OD := own_kept_after OS1.out OD (Nat.le_refl _) hgr
  clear hgr L OS
  go_wp2_with fail
  refine (marked25 _ _ _ _ OD (by have := Gd.len; omega)).mono ?_
  rintro e w19 ⟨rfl, hgr⟩
  replace HW := HW.grown hgr HW.size (fun k hk => by have h1 := (OD.lt k hk).1; have h2 := HSZ.out; omega)
  have L := LW.out.keep HW
  replace HB := below_then HBW.out HW
  clear hgr OD
  go_wp2_with fail
  refine (same_yes' _ _ cx ca za za _ (L.all (ax, za) (by simp)) (L.all (a, za) (by simp)) (by omega) rfl).mono ?_
  rintro e w20 ⟨rfl, hq⟩
  replace L := L.keep hq
  replace HB := below_then HB hq
  clear hq
  go_wp2_with fail
  refine (same_yes' _ _ cy cb zb zb _ (L.all (ay, zb) (by simp)) (L.all (b, zb) (by simp)) (by omega) rfl).mono ?_
  rintro e w21 ⟨rfl, hq⟩
  replace L := L.keep hq
  replace HB := below_then HB hq
  clear hq
  go_wp2_with fail
  refine (known11 _).mono ?_
  rintro e w22 ⟨rfl, hq⟩
  replace L := L.keep hq
  replace HB := below_then HB hq
  go_wp2
  go_ret
  exact ⟨rfl, HB⟩
set_option maxHeartbeats 4000000 in
set_option maxRecDepth 100000 in
theorem sums_m3 (a b : Option Addr) (ca cb : Nat) (za zb : List Int) (n : Int) (w : World) (ha : Lie w a za) (hb : Lie w b zb) (ra : Nt.Rng za) (rb : Nt.Rng zb) (la : za.length ≤ maxLen) (lb : zb.length ≤ maxLen) (na : a = none → ca = 0) (nb : b = none → cb = 0) (n0 : 0 ≤ n) (n1 : n < 18446744073709551616) (haa : (za.length : Int) ≤ 4100) (hbb : (zb.length : Int) ≤ 4100) (pa : mayB za = true) (pb : mayB zb = true) (hf : za.length ≤ 2) (hs : Nt.val za + Nt.val zb < 4294967296 ^ 4096) (hv : Nt.val za < Nt.val zb) :
    Calls Try.prog 3 #[.slice a za.length ca, .slice b zb.length cb, .int .u64 n] w fun e w' => e = .returned (.bool true) ∧ Below w.heap.size w w' := by
  have Ga : Good za (Nt.val za) := ⟨(may_can ra pa).1, (may_can ra pa).2, rfl⟩
  have Gb : Good zb (Nt.val zb) := ⟨(may_can rb pb).1, (may_can rb pb).2, rfl⟩
  have U := Hide.mk hs
  have V := Hide.mk hv
  clear hs hv
  have X := Hide.mk ((Lt.of ra hf).2)
  have X0 := Hide.mk ((Lt.of ra hf).1)
  have R := Hide.mk (And.intro ra rb)
  have M := Hide.mk (And.intro la lb)
  have PA := Hide.mk pa
  have PB := Hide.mk pb
  have E := Hide.mk (show (mayB za && mayB zb) = true by rw [pa, pb]; rfl)
  have L : Live w [(a, za), (b, zb)] := ⟨by simp [ha, hb]⟩
  have HB : Below w.heap.size w w := Below.refl _ _
  have NA := Hide.mk na
  have NB := Hide.mk nb
  clear ha hb ra rb la lb na nb pa pb
  go_enter Try.func3, Try.ntmps3
  go_wp2_with fail
  refine (long_no _ _ _ _ _ haa).mono ?_
  rintro e w' ⟨rfl, rfl⟩
  go_wp2_with fail
  refine (long_no _ _ _ _ _ hbb).mono ?_
  rintro e w' ⟨rfl, rfl⟩
  go_wp2_with fail
  refine (lent12 a ca za _ (L.all (a, za) (by simp)) (by omega) NA.out).mono ?_
  rintro e w1 ⟨ax, cx, rfl, ox, hq⟩
  replace L := L.push (own_lie ox) hq
  replace HB := below_then HB hq
  clear hq ox
  go_wp2_with fail
  refine (lent12 b cb zb _ (L.all (b, zb) (by simp)) (by omega) NB.out).mono ?_
  rintro e w2 ⟨ay, cy, rfl, oy, hq⟩
  replace L := L.push (own_lie oy) hq
  replace HB := below_then HB hq
  clear hq oy
  go_wp2_with fail
  refine (may_yes ax cx za _ (L.all (ax, za) (by simp)) M.out.1 PA.out).mono ?_
  rintro e w' ⟨rfl, rfl⟩
  go_wp2_with fail
  refine (rmay_yes a ca za _ (L.all (a, za) (by simp)) M.out.1 PA.out).mono ?_
  rintro e w' ⟨rfl, rfl⟩
  go_wp2_with fail
  refine (of16 n n0 n1 _).mono ?_
  rintro e w3 ⟨z1, a1, c1, rfl, h1, _⟩
  replace L := L.push h1.lie h1.bel
  replace HB := below_then HB h1.bel
  have G1 := h1.good
  clear h1
  go_wp2_with fail
  refine (of17 n n0 n1 _).mono ?_
  rintro e w4 ⟨z2, a2, c2, rfl, h2, _⟩
  replace L := L.push h2.lie h2.bel
  replace HB := below_then HB h2.bel
  have G2 := h2.good
  clear h2
  go_wp2_with fail
  refine (same_yes' a1 a2 c1 c2 z1 z2 _ (L.all (a1, z1) (by simp)) (L.all (a2, z2) (by simp)) (by have := G1.len; omega) (G1.same G2 rfl)).mono ?_
  rintro e w5 ⟨rfl, hq⟩
  replace L := L.keep hq
  replace HB := below_then HB hq
  clear hq G1 G2
  go_wp2_with fail
  refine (num_yes ax cx za _ PA.out (L.all (ax, za) (by simp)) R.out.1 hf).mono ?_
  rintro e w' ⟨rfl, rfl⟩
  go_wp2_with fail
  refine (rmay_yes a ca za _ (L.all (a, za) (by simp)) M.out.1 PA.out).mono ?_
  rintro e w' ⟨rfl, rfl⟩
  go_wp2_with fail
  refine (of17 (Nt.val za) X0.out X.out _).mono ?_
  rintro e w6 ⟨z3, a3, c3, rfl, h3, _⟩
  replace L := L.push h3.lie h3.bel
  replace HB := below_then HB h3.bel
  have G3 := h3.good
  clear h3
  go_wp2_with fail
  refine (same_yes' a3 a c3 ca z3 za _ (L.all (a3, z3) (by simp)) (L.all (a, za) (by simp)) (by have := G3.len; omega) (G3.same Ga rfl)).mono ?_
  rintro e w7 ⟨rfl, hq⟩
  replace L := L.keep hq
  replace HB := below_then HB hq
  clear hq G3
  have hsg := sgn_lt V.out
  have HSG := Hide.mk hsg
  clear hsg
  have W0 := L
  skip
  have hcmp := fun W h1 h2 => Hide.mk (cmp19 ax ay cx cy za zb W h1 h2 R.out.1 R.out.2 PA.out PB.out)
  rw [HSG.out] at hcmp
  go_wp2_with fail
  refine ((hcmp _ (L.all (ax, za) (by simp)) (L.all (ay, zb) (by simp))).out).mono ?_
  rintro e w8 ⟨rfl, hq⟩
  replace L := L.keep hq
  replace HB := below_then HB hq
  clear hq
  have LW := Hide.mk L
  have HW := hw_start w8
  go_wp2_with fail
  refine (add_fit ax ay cx cy za zb _ (L.all (ax, za) (by simp)) (L.all (ay, zb) (by simp)) Ga Gb ⟨by have := (Nt.val_bd R.out.1).1; have := (Nt.val_bd R.out.2).1; omega, U.out⟩).mono ?_
  rintro e w9 ⟨zs, as1, cs, rfl, hs, OS⟩
  replace L := L.push hs.lie hs.bel
  replace HB := below_then HB hs.bel
  replace HW := below_then HW hs.bel
  have Gs := hs.good
  clear hs
  have OS1 := Hide.mk OS
  go_wp2_with fail
  refine (sub_less ax ay cx cy za zb _ (L.all (ax, za) (by simp)) (L.all (ay, zb) (by simp)) R.out.1 R.out.2 PA.out PB.out V.out).mono ?_
  rintro e w10 ⟨rfl, hq⟩
  replace L := L.keep hq
  replace HB := below_then HB hq
  replace HW := below_then HW hq
  replace OS := OS.below hq (Nat.le_refl _)
  clear hq
  go_wp2_with fail
  refine (same_yes' _ _ cx ca za za _ (L.all (ax, za) (by simp)) (L.all (a, za) (by simp)) (by omega) rfl).mono ?_
  rintro e w11 ⟨rfl, hq⟩
  replace L := L.keep hq
  replace HB := below_then HB hq
  replace HW := below_then HW hq
  replace OS := OS.below hq (Nat.le_refl _)
  clear hq
  go_wp2_with fail
  refine (same_yes' _ _ cy cb zb zb _ (L.all (ay, zb) (by simp)) (L.all (b, zb) (by simp)) (by omega) rfl).mono ?_
  rintro e w12 ⟨rfl, hq⟩
  replace L := L.keep hq
  replace HB := below_then HB hq
  replace HW := below_then HW hq
  replace OS := OS.below hq (Nat.le_refl _)
  clear hq
  go_wp2_with fail
  refine (rmay_yes a ca za _ (L.all (a, za) (by simp)) M.out.1 PA.out).mono ?_
  rintro e w' ⟨rfl, rfl⟩
  go_wp2_with fail
  refine (rmay_yes b cb zb _ (L.all (b, zb) (by simp)) M.out.2 PB.out).mono ?_
  rintro e w' ⟨rfl, rfl⟩
  have hrc := fun W h1 h2 => Hide.mk (refCmp22 a b ca cb za zb W h1 h2 Ga.can Gb.can M.out.1)
  rw [HSG.out] at hrc
  go_wp2_with fail
  refine ((hrc _ (L.all (a, za) (by simp)) (L.all (b, zb) (by simp))).out).mono ?_
  rintro e w13 ⟨rfl, hq⟩
  replace L := L.keep hq
  replace HB := below_then HB hq
  replace HW := below_then HW hq
  replace OS := OS.below hq (Nat.le_refl _)
  clear hq hrc
  go_wp2_with fail
  refine (refAdd23 a b ca cb za zb _ (L.all (a, za) (by simp)) (L.all (b, zb) (by simp)) R.out.1 R.out.2 (by omega) (by omega)).mono ?_
  rintro e w14 ⟨zr, ar, cr, rfl, hr1, hr2, hr3, hr4⟩
  replace L := L.push (own_lie hr1) hr4
  replace HB := below_then HB hr4
  replace HW := below_then HW hr4
  replace OS := OS.below hr4 (Nat.le_refl _)
  have hzr : zr = zs := Nt.can_unique hr2 Gs.can (by rw [hr3, Gs.val])
  have HZ := Hide.mk hzr
  have hlen : (zr.length : Int) ≤ 4096 := by rw [hzr]; have := Gs.len; omega
  clear hr1 hr2 hr3 hr4 hzr
  go_wp2_with fail
  refine (same_yes' as1 ar cs cr zs zr _ (L.all (as1, zs) (by simp)) (L.all (ar, zr) (by simp)) (by have := Gs.len; omega) HZ.out.symm).mono ?_
  rintro e w15 ⟨rfl, hq⟩
  replace L := L.keep hq
  replace HB := below_then HB hq
  replace HW := below_then HW hq
  replace OS := OS.below hq (Nat.le_refl _)
  clear hq
  have hrc := fun W h1 h2 => Hide.mk (refCmp22 a b ca cb za zb W h1 h2 Ga.can Gb.can M.out.1)
  rw [HSG.out] at hrc
  go_wp2_with fail
  refine ((hrc _ (L.all (a, za) (by simp)) (L.all (b, zb) (by simp))).out).mono ?_
  rintro e w16 ⟨rfl, hq⟩
  replace L := L.keep hq
  replace HB := below_then HB hq
  replace HW := below_then HW hq
  replace OS := OS.below hq (Nat.le_refl _)
  clear hq hrc
  go_wp2_with fail
  refine (known11 _).mono ?_
  rintro e w17 ⟨rfl, hq⟩
  replace L := L.keep hq
  replace HB := below_then HB hq
  replace HW := below_then HW hq
  replace OS := OS.below hq (Nat.le_refl _)
  go_wp2
  go_ret
  exact ⟨rfl, HB⟩
set_option maxHeartbeats 4000000 in
set_option maxRecDepth 100000 in
theorem sums_m4 (a b : Option Addr) (ca cb : Nat) (za zb : List Int) (n : Int) (w : World) (ha : Lie w a za) (hb : Lie w b zb) (ra : Nt.Rng za) (rb : Nt.Rng zb) (la : za.length ≤ maxLen) (lb : zb.length ≤ maxLen) (na : a = none → ca = 0) (nb : b = none → cb = 0) (n0 : 0 ≤ n) (n1 : n < 18446744073709551616) (haa : (za.length : Int) ≤ 4100) (hbb : (zb.length : Int) ≤ 4100) (pa : mayB za = true) (pb : mayB zb = true) (hf : za.length ≤ 2) (hs : Nt.val za + Nt.val zb < 4294967296 ^ 4096) (hv : Nt.val zb ≤ Nt.val za) :
    Calls Try.prog 3 #[.slice a za.length ca, .slice b zb.length cb, .int .u64 n] w fun e w' => e = .returned (.bool true) ∧ Below w.heap.size w w' := by
  have Ga : Good za (Nt.val za) := ⟨(may_can ra pa).1, (may_can ra pa).2, rfl⟩
  have Gb : Good zb (Nt.val zb) := ⟨(may_can rb pb).1, (may_can rb pb).2, rfl⟩
  have U := Hide.mk hs
  have V := Hide.mk hv
  have hsg : 0 ≤ sgn (Nt.val za) (Nt.val zb) := by unfold sgn; split <;> (try split) <;> omega
  clear hs hv
  have X := Hide.mk ((Lt.of ra hf).2)
  have X0 := Hide.mk ((Lt.of ra hf).1)
  have R := Hide.mk (And.intro ra rb)
  have M := Hide.mk (And.intro la lb)
  have PA := Hide.mk pa
  have PB := Hide.mk pb
  have E := Hide.mk (show (mayB za && mayB zb) = true by rw [pa, pb]; rfl)
  have L : Live w [(a, za), (b, zb)] := ⟨by simp [ha, hb]⟩
  have HB : Below w.heap.size w w := Below.refl _ _
  have NA := Hide.mk na
  have NB := Hide.mk nb
  clear ha hb ra rb la lb na nb pa pb
  go_enter Try.func3, Try.ntmps3
  go_wp2_with fail
  refine (long_no _ _ _ _ _ haa).mono ?_
  rintro e w' ⟨rfl, rfl⟩
  go_wp2_with fail
  refine (long_no _ _ _ _ _ hbb).mono ?_
  rintro e w' ⟨rfl, rfl⟩
  go_wp2_with fail
  refine (lent12 a ca za _ (L.all (a, za) (by simp)) (by omega) NA.out).mono ?_
  rintro e w1 ⟨ax, cx, rfl, ox, hq⟩
  replace L := L.push (own_lie ox) hq
  replace HB := below_then HB hq
  clear hq ox
  go_wp2_with fail
  refine (lent12 b cb zb _ (L.all (b, zb) (by simp)) (by omega) NB.out).mono ?_
  rintro e w2 ⟨ay, cy, rfl, oy, hq⟩
  replace L := L.push (own_lie oy) hq
  replace HB := below_then HB hq
  clear hq oy
  go_wp2_with fail
  refine (may_yes ax cx za _ (L.all (ax, za) (by simp)) M.out.1 PA.out).mono ?_
  rintro e w' ⟨rfl, rfl⟩
  go_wp2_with fail
  refine (rmay_yes a ca za _ (L.all (a, za) (by simp)) M.out.1 PA.out).mono ?_
  rintro e w' ⟨rfl, rfl⟩
  go_wp2_with fail
  refine (of16 n n0 n1 _).mono ?_
  rintro e w3 ⟨z1, a1, c1, rfl, h1, _⟩
  replace L := L.push h1.lie h1.bel
  replace HB := below_then HB h1.bel
  have G1 := h1.good
  clear h1
  go_wp2_with fail
  refine (of17 n n0 n1 _).mono ?_
  rintro e w4 ⟨z2, a2, c2, rfl, h2, _⟩
  replace L := L.push h2.lie h2.bel
  replace HB := below_then HB h2.bel
  have G2 := h2.good
  clear h2
  go_wp2_with fail
  refine (same_yes' a1 a2 c1 c2 z1 z2 _ (L.all (a1, z1) (by simp)) (L.all (a2, z2) (by simp)) (by have := G1.len; omega) (G1.same G2 rfl)).mono ?_
  rintro e w5 ⟨rfl, hq⟩
  replace L := L.keep hq
  replace HB := below_then HB hq
  clear hq G1 G2
  go_wp2_with fail
  refine (num_yes ax cx za _ PA.out (L.all (ax, za) (by simp)) R.out.1 hf).mono ?_
  rintro e w' ⟨rfl, rfl⟩
  go_wp2_with fail
  refine (rmay_yes a ca za _ (L.all (a, za) (by simp)) M.out.1 PA.out).mono ?_
  rintro e w' ⟨rfl, rfl⟩
  go_wp2_with fail
  refine (of17 (Nt.val za) X0.out X.out _).mono ?_
  rintro e w6 ⟨z3, a3, c3, rfl, h3, _⟩
  replace L := L.push h3.lie h3.bel
  replace HB := below_then HB h3.bel
  have G3 := h3.good
  clear h3
  go_wp2_with fail
  refine (same_yes' a3 a c3 ca z3 za _ (L.all (a3, z3) (by simp)) (L.all (a, za) (by simp)) (by have := G3.len; omega) (G3.same Ga rfl)).mono ?_
  rintro e w7 ⟨rfl, hq⟩
  replace L := L.keep hq
  replace HB := below_then HB hq
  clear hq G3
  have W0 := L
  skip
  go_wp2_with fail
  refine (cmp19 ax ay cx cy za zb _ (L.all (ax, za) (by simp)) (L.all (ay, zb) (by simp)) R.out.1 R.out.2 PA.out PB.out).mono ?_
  rintro e w8 ⟨rfl, hq⟩
  replace L := L.keep hq
  replace HB := below_then HB hq
  clear hq
  generalize hg : sgn (Nt.val za) (Nt.val zb) = sg at *
  have HG := Hide.mk hg
  clear hg
  have HBW := Hide.mk HB
  have LW := Hide.mk L
  have HW := hw_start w8
  go_wp2_with fail
  refine (add_fit ax ay cx cy za zb _ (L.all (ax, za) (by simp)) (L.all (ay, zb) (by simp)) Ga Gb ⟨by have := (Nt.val_bd R.out.1).1; have := (Nt.val_bd R.out.2).1; omega, U.out⟩).mono ?_
  rintro e w9 ⟨zs, as1, cs, rfl, hs, OS⟩
  replace L := L.push hs.lie hs.bel
  replace HB := below_then HB hs.bel
  replace HW := below_then HW hs.bel
  have Gs := hs.good
  clear hs
  have OS1 := Hide.mk OS
  have HSZ := Hide.mk HW.size
  go_wp2_with fail
  refine (sub_fit ax ay cx cy za zb _ (L.all (ax, za) (by simp)) (L.all (ay, zb) (by simp)) Ga Gb V.out).mono ?_
  rintro e w10 ⟨zd, ad, cd, rfl, hd, OD⟩
  replace L := L.push hd.lie hd.bel
  replace HB := below_then HB hd.bel
  replace HW := below_then HW hd.bel
  replace OS := OS.below hd.bel (Nat.le_refl _)
  have Gd := hd.good
  clear hd
  go_wp2_with fail
  refine (same_yes' _ _ cx ca za za _ (L.all (ax, za) (by simp)) (L.all (a, za) (by simp)) (by omega) rfl).mono ?_
  rintro e w11 ⟨rfl, hq⟩
  replace L := L.keep hq
  replace HB := below_then HB hq
  replace HW := below_then HW hq
  replace OS := OS.below hq (Nat.le_refl _)
  replace OD := OD.below hq (Nat.le_refl _)
  clear hq
  go_wp2_with fail
  refine (same_yes' _ _ cy cb zb zb _ (L.all (ay, zb) (by simp)) (L.all (b, zb) (by simp)) (by omega) rfl).mono ?_
  rintro e w12 ⟨rfl, hq⟩
  replace L := L.keep hq
  replace HB := below_then HB hq
  replace HW := below_then HW hq
  replace OS := OS.below hq (Nat.le_refl _)
  replace OD := OD.below hq (Nat.le_refl _)
  clear hq
  go_wp2_with fail
  refine (rmay_yes a ca za _ (L.all (a, za) (by simp)) M.out.1 PA.out).mono ?_
  rintro e w' ⟨rfl, rfl⟩
  go_wp2_with fail
  refine (rmay_yes b cb zb _ (L.all (b, zb) (by simp)) M.out.2 PB.out).mono ?_
  rintro e w' ⟨rfl, rfl⟩
  have hrc := fun W h1 h2 => Hide.mk (refCmp22 a b ca cb za zb W h1 h2 Ga.can Gb.can M.out.1)
  rw [HG.out] at hrc
  go_wp2_with fail
  refine ((hrc _ (L.all (a, za) (by simp)) (L.all (b, zb) (by simp))).out).mono ?_
  rintro e w13 ⟨rfl, hq⟩
  replace L := L.keep hq
  replace HB := below_then HB hq
  replace HW := below_then HW hq
  replace OS := OS.below hq (Nat.le_refl _)
  replace OD := OD.below hq (Nat.le_refl _)
  clear hq hrc
  go_wp2_with fail
  refine (refAdd23 a b ca cb za zb _ (L.all (a, za) (by simp)) (L.all (b, zb) (by simp)) R.out.1 R.out.2 (by omega) (by omega)).mono ?_
  rintro e w14 ⟨zr, ar, cr, rfl, hr1, hr2, hr3, hr4⟩
  replace L := L.push (own_lie hr1) hr4
  replace HB := below_then HB hr4
  replace HW := below_then HW hr4
  replace OS := OS.below hr4 (Nat.le_refl _)
  replace OD := OD.below hr4 (Nat.le_refl _)
  have hzr : zr = zs := Nt.can_unique hr2 Gs.can (by rw [hr3, Gs.val])
  have HZ := Hide.mk hzr
  have hlen : (zr.length : Int) ≤ 4096 := by rw [hzr]; have := Gs.len; omega
  clear hr1 hr2 hr3 hr4 hzr
  go_wp2_with fail
  refine (same_yes' as1 ar cs cr zs zr _ (L.all (as1, zs) (by simp)) (L.all (ar, zr) (by simp)) (by have := Gs.len; omega) HZ.out.symm).mono ?_
  rintro e w15 ⟨rfl, hq⟩
  replace L := L.keep hq
  replace HB := below_then HB hq
  replace HW := below_then HW hq
  replace OS := OS.below hq (Nat.le_refl _)
  replace OD := OD.below hq (Nat.le_refl _)
  clear hq
  have hrc := fun W h1 h2 => Hide.mk (refCmp22 a b ca cb za zb W h1 h2 Ga.can Gb.can M.out.1)
  rw [HG.out] at hrc
  go_wp2_with fail
  refine ((hrc _ (L.all (a, za) (by simp)) (L.all (b, zb) (by simp))).out).mono ?_
  rintro e w16 ⟨rfl, hq⟩
  replace L := L.keep hq
  replace HB := below_then HB hq
  replace HW := below_then HW hq
  replace OS := OS.below hq (Nat.le_refl _)
  replace OD := OD.below hq (Nat.le_refl _)
  clear hq hrc
  go_wp2_with fail
  refine (refSub24 a b ca cb za zb _ (L.all (a, za) (by simp)) (L.all (b, zb) (by simp)) R.out.1 R.out.2 (by omega) ((Nt.can_len Gb.can _).1 (by have := (Nt.val_bd R.out.1).2; have := V.out; omega)) V.out).mono ?_
  rintro e w17 ⟨zt, at1, ct, rfl, ht1, ht2, ht3, ht4⟩
  replace L := L.push (own_lie ht1) ht4
  replace HB := below_then HB ht4
  replace HW := below_then HW ht4
  replace OS := OS.below ht4 (Nat.le_refl _)
  replace OD := OD.below ht4 (Nat.le_refl _)
  have hzt : zd = zt := Nt.can_unique Gd.can ht2 (by rw [ht3, Gd.val])
  have HT := Hide.mk hzt
  clear ht1 ht2 ht3 ht4 hzt
  go_wp2_with fail
  refine (same_yes' ad at1 cd ct zd zt _ (L.all (ad, zd) (by simp)) (L.all (at1, zt) (by simp)) (by have := Gd.len; omega) HT.out).mono ?_
  rintro e w18 ⟨rfl, hq⟩
  replace L := L.keep hq
  replace HB := below_then HB hq
  replace HW := below_then HW hq
  replace OS := OS.below hq (Nat.le_refl _)
  replace OD := OD.below hq (Nat.le_refl _)
  clear hq
  go_wp2_with fail
  refine (marked25 _ _ _ _ OS (by have := Gs.len; omega)).mono ?_
  rintro e w19 ⟨rfl, hgr⟩
  replace HW := HW.grown hgr HW.size (fun k hk => (OS1.out.lt k hk).1)
  replace OD := own_kept_after OS1.out OD (Nat.le_refl _) hgr
  clear hgr L OS
  go_wp2_with fail
  refine (marked25 _ _ _ _ OD (by have := Gd.len; omega)).mono ?_
  rintro e w20 ⟨rfl, hgr⟩
  replace HW := HW.grown hgr HW.size (fun k hk => by have h1 := (OD.lt k hk).1; have h2 := HSZ.out; omega)
  have L := LW.out.keep HW
  replace HB := below_then HBW.out HW
  clear hgr OD
  go_wp2_with fail
  refine (same_yes' _ _ cx ca za za _ (L.all (ax, za) (by simp)) (L.all (a, za) (by simp)) (by omega) rfl).mono ?_
  rintro e w21 ⟨rfl, hq⟩
  replace L := L.keep hq
  replace HB := below_then HB hq
  clear hq
  go_wp2_with fail
  refine (same_yes' _ _ cy cb zb zb _ (L.all (ay, zb) (by simp)) (L.all (b, zb) (by simp)) (by omega) rfl).mono ?_
  rintro e w22 ⟨rfl, hq⟩
  replace L := L.keep hq
  replace HB := below_then HB hq
  clear hq
  go_wp2_with fail
  refine (known11 _).mono ?_
  rintro e w23 ⟨rfl, hq⟩
  replace L := L.keep hq
  replace HB := below_then HB hq
  go_wp2
  go_ret
  exact ⟨rfl, HB⟩
set_option maxHeartbeats 4000000 in
set_option maxRecDepth 100000 in
theorem sums_m5 (a b : Option Addr) (ca cb : Nat) (za zb : List Int) (n : Int) (w : World) (ha : Lie w a za) (hb : Lie w b zb) (ra : Nt.Rng za) (rb : Nt.Rng zb) (la : za.length ≤ maxLen) (lb : zb.length ≤ maxLen) (na : a = none → ca = 0) (nb : b = none → cb = 0) (n0 : 0 ≤ n) (n1 : n < 18446744073709551616) (haa : (za.length : Int) ≤ 4100) (hbb : (zb.length : Int) ≤ 4100) (pa : mayB za = true) (pb : mayB zb = true) (hf : 2 < za.length) (hs : 4294967296 ^ 4096 ≤ Nt.val za + Nt.val zb) (hv : Nt.val za < Nt.val zb) :
    Calls Try.prog 3 #[.slice a za.length ca, .slice b zb.length cb, .int .u64 n] w fun e w' => e = .returned (.bool true) ∧ Below w.heap.size w w' := by
  have Ga : Good za (Nt.val za) := ⟨(may_can ra pa).1, (may_can ra pa).2, rfl⟩
  have Gb : Good zb (Nt.val zb) := ⟨(may_can rb pb).1, (may_can rb pb).2, rfl⟩
  have U := Hide.mk hs
  have V := Hide.mk hv
  clear hs hv
  have R := Hide.mk (And.intro ra rb)
  have M := Hide.mk (And.intro la lb)
  have PA := Hide.mk pa
  have PB := Hide.mk pb
  have E := Hide.mk (show (mayB za && mayB zb) = true by rw [pa, pb]; rfl)
  have L : Live w [(a, za), (b, zb)] := ⟨by simp [ha, hb]⟩
  have HB : Below w.heap.size w w := Below.refl _ _
  have NA := Hide.mk na
  have NB := Hide.mk nb
  clear ha hb ra rb la lb na nb pa pb
  go_enter Try.func3, Try.ntmps3
  go_wp2_with fail
  refine (long_no _ _ _ _ _ haa).mono ?_
  rintro e w' ⟨rfl, rfl⟩
  go_wp2_with fail
  refine (long_no _ _ _ _ _ hbb).mono ?_
  rintro e w' ⟨rfl, rfl⟩
  go_wp2_with fail
  refine (lent12 a ca za _ (L.all (a, za) (by simp)) (by omega) NA.out).mono ?_
  rintro e w1 ⟨ax, cx, rfl, ox, hq⟩
  replace L := L.push (own_lie ox) hq
  replace HB := below_then HB hq
  clear hq ox
  go_wp2_with fail
  refine (lent12 b cb zb _ (L.all (b, zb) (by simp)) (by omega) NB.out).mono ?_
  rintro e w2 ⟨ay, cy, rfl, oy, hq⟩
  replace L := L.push (own_lie oy) hq
  replace HB := below_then HB hq
  clear hq oy
  go_wp2_with fail
  refine (may_yes ax cx za _ (L.all (ax, za) (by simp)) M.out.1 PA.out).mono ?_
  rintro e w' ⟨rfl, rfl⟩
  go_wp2_with fail
  refine (rmay_yes a ca za _ (L.all (a, za) (by simp)) M.out.1 PA.out).mono ?_
  rintro e w' ⟨rfl, rfl⟩
  go_wp2_with fail
  refine (of16 n n0 n1 _).mono ?_
  rintro e w3 ⟨z1, a1, c1, rfl, h1, _⟩
  replace L := L.push h1.lie h1.bel
  replace HB := below_then HB h1.bel
  have G1 := h1.good
  clear h1
  go_wp2_with fail
  refine (of17 n n0 n1 _).mono ?_
  rintro e w4 ⟨z2, a2, c2, rfl, h2, _⟩
  replace L := L.push h2.lie h2.bel
  replace HB := below_then HB h2.bel
  have G2 := h2.good
  clear h2
  go_wp2_with fail
  refine (same_yes' a1 a2 c1 c2 z1 z2 _ (L.all (a1, z1) (by simp)) (L.all (a2, z2) (by simp)) (by have := G1.len; omega) (G1.same G2 rfl)).mono ?_
  rintro e w5 ⟨rfl, hq⟩
  replace L := L.keep hq
  replace HB := below_then HB hq
  clear hq G1 G2
  go_wp2_with fail
  refine (num_no ax cx za _ (L.all (ax, za) (by simp)) M.out.1 (.inr hf)).mono ?_
  rintro e w' ⟨rfl, rfl⟩
  go_wp2_with fail
  refine (rmay_yes a ca za _ (L.all (a, za) (by simp)) M.out.1 PA.out).mono ?_
  rintro e w' ⟨rfl, rfl⟩
  have hsg := sgn_lt V.out
  have HSG := Hide.mk hsg
  clear hsg
  have W0 := L
  skip
  have hcmp := fun W h1 h2 => Hide.mk (cmp19 ax ay cx cy za zb W h1 h2 R.out.1 R.out.2 PA.out PB.out)
  rw [HSG.out] at hcmp
  go_wp2_with fail
  refine ((hcmp _ (L.all (ax, za) (by simp)) (L.all (ay, zb) (by simp))).out).mono ?_
  rintro e w6 ⟨rfl, hq⟩
  replace L := L.keep hq
  replace HB := below_then HB hq
  clear hq
  have LW := Hide.mk L
  have HW := hw_start w6
  go_wp2_with fail
  refine (add_long ax ay cx cy za zb _ (L.all (ax, za) (by simp)) (L.all (ay, zb) (by simp)) Ga Gb U.out).mono ?_
  rintro e w7 ⟨rfl, hq⟩
  replace L := L.keep hq
  replace HB := below_then HB hq
  replace HW := below_then HW hq
  clear hq
  have OS := Own.nil w6.heap.size w7
  have OS1 := Hide.mk OS
  go_wp2_with fail
  refine (sub_less ax ay cx cy za zb _ (L.all (ax, za) (by simp)) (L.all (ay, zb) (by simp)) R.out.1 R.out.2 PA.out PB.out V.out).mono ?_
  rintro e w8 ⟨rfl, hq⟩
  replace L := L.keep hq
  replace HB := below_then HB hq
  replace HW := below_then HW hq
  replace OS := OS.below hq (Nat.le_refl _)
  clear hq
  go_wp2_with fail
  refine (same_yes' _ _ cx ca za za _ (L.all (ax, za) (by simp)) (L.all (a, za) (by simp)) (by omega) rfl).mono ?_
  rintro e w9 ⟨rfl, hq⟩
  replace L := L.keep hq
  replace HB := below_then HB hq
  replace HW := below_then HW hq
  replace OS := OS.below hq (Nat.le_refl _)
  clear hq
  go_wp2_with fail
  refine (same_yes' _ _ cy cb zb zb _ (L.all (ay, zb) (by simp)) (L.all (b, zb) (by simp)) (by omega) rfl).mono ?_
  rintro e w10 ⟨rfl, hq⟩
  replace L := L.keep hq
  replace HB := below_then HB hq
  replace HW := below_then HW hq
  replace OS := OS.below hq (Nat.le_refl _)
  clear hq
  go_wp2_with fail
  refine (rmay_yes a ca za _ (L.all (a, za) (by simp)) M.out.1 PA.out).mono ?_
  rintro e w' ⟨rfl, rfl⟩
  go_wp2_with fail
  refine (rmay_yes b cb zb _ (L.all (b, zb) (by simp)) M.out.2 PB.out).mono ?_
  rintro e w' ⟨rfl, rfl⟩
  have hrc := fun W h1 h2 => Hide.mk (refCmp22 a b ca cb za zb W h1 h2 Ga.can Gb.can M.out.1)
  rw [HSG.out] at hrc
  go_wp2_with fail
  refine ((hrc _ (L.all (a, za) (by simp)) (L.all (b, zb) (by simp))).out).mono ?_
  rintro e w11 ⟨rfl, hq⟩
  replace L := L.keep hq
  replace HB := below_then HB hq
  replace HW := below_then HW hq
  replace OS := OS.below hq (Nat.le_refl _)
  clear hq hrc
  go_wp2_with fail
  refine (refAdd23 a b ca cb za zb _ (L.all (a, za) (by simp)) (L.all (b, zb) (by simp)) R.out.1 R.out.2 (by omega) (by omega)).mono ?_
  rintro e w12 ⟨zr, ar, cr, rfl, hr1, hr2, hr3, hr4⟩
  replace L := L.push (own_lie hr1) hr4
  replace HB := below_then HB hr4
  replace HW := below_then HW hr4
  replace OS := OS.below hr4 (Nat.le_refl _)
  have hlen : (4096 : Int) < (zr.length : Int) := by have := mt (Nt.can_len hr2 4096).2 (by rw [hr3]; exact Int.not_lt.2 U.out); omega
  clear hr1 hr2 hr3 hr4
  have hrc := fun W h1 h2 => Hide.mk (refCmp22 a b ca cb za zb W h1 h2 Ga.can Gb.can M.out.1)
  rw [HSG.out] at hrc
  go_wp2_with fail
  refine ((hrc _ (L.all (a, za) (by simp)) (L.all (b, zb) (by simp))).out).mono ?_
  rintro e w13 ⟨rfl, hq⟩
  replace L := L.keep hq
  replace HB := below_then HB hq
  replace HW := below_then HW hq
  replace OS := OS.below hq (Nat.le_refl _)
  clear hq hrc
  go_wp2_with fail
  refine (known11 _).mono ?_
  rintro e w14 ⟨rfl, hq⟩
  replace L := L.keep hq
  replace HB := below_then HB hq
  replace HW := below_then HW hq
  replace OS := OS.below hq (Nat.le_refl _)
  go_wp2
  go_ret
  exact ⟨rfl, HB⟩
set_option maxHeartbeats 4000000 in
set_option maxRecDepth 100000 in
theorem sums_m6 (a b : Option Addr) (ca cb : Nat) (za zb : List Int) (n : Int) (w : World) (ha : Lie w a za) (hb : Lie w b zb) (ra : Nt.Rng za) (rb : Nt.Rng zb) (la : za.length ≤ maxLen) (lb : zb.length ≤ maxLen) (na : a = none → ca = 0) (nb : b = none → cb = 0) (n0 : 0 ≤ n) (n1 : n < 18446744073709551616) (haa : (za.length : Int) ≤ 4100) (hbb : (zb.length : Int) ≤ 4100) (pa : mayB za = true) (pb : mayB zb = true) (hf : 2 < za.length) (hs : 4294967296 ^ 4096 ≤ Nt.val za + Nt.val zb) (hv : Nt.val zb ≤ Nt.val za) :
    Calls Try.prog 3 #[.slice a za.length ca, .slice b zb.length cb, .int .u64 n] w fun e w' => e = .returned (.bool true) ∧ Below w.heap.size w w' := by
  have Ga : Good za (Nt.val za) := ⟨(may_can ra pa).1, (may_can ra pa).2, rfl⟩
  have Gb : Good zb (Nt.val zb) := ⟨(may_can rb pb).1, (may_can rb pb).2, rfl⟩
  have U := Hide.mk hs
  have V := Hide.mk hv
  have hsg : 0 ≤ sgn (Nt.val za) (Nt.val zb) := by unfold sgn; split <;> (try split) <;> omega
  clear hs hv
  have R := Hide.mk (And.intro ra rb)
  have M := Hide.mk (And.intro la lb)
  have PA := Hide.mk pa
  have PB := Hide.mk pb
  have E := Hide.mk (show (mayB za && mayB zb) = true by rw [pa, pb]; rfl)
  have L : Live w [(a, za), (b, zb)] := ⟨by simp [ha, hb]⟩
  have HB : Below w.heap.size w w := Below.refl _ _
  have NA := Hide.mk na
  have NB := Hide.mk nb
  clear ha hb ra rb la lb na nb pa pb
  go_enter Try.func3, Try.ntmps3
  go_wp2_with fail
  refine (long_no _ _ _ _ _ haa).mono ?_
  rintro e w' ⟨rfl, rfl⟩
  go_wp2_with fail
  refine (long_no _ _ _ _ _ hbb).mono ?_
  rintro e w' ⟨rfl, rfl⟩
  go_wp2_with fail
  refine (lent12 a ca za _ (L.all (a, za) (by simp)) (by omega) NA.out).mono ?_
  rintro e w1 ⟨ax, cx, rfl, ox, hq⟩
  replace L := L.push (own_lie ox) hq
  replace HB := below_then HB hq
  clear hq ox
  go_wp2_with fail
  refine (lent12 b cb zb _ (L.all (b, zb) (by simp)) (by omega) NB.out).mono ?_
  rintro e w2 ⟨ay, cy, rfl, oy, hq⟩
  replace L := L.push (own_lie oy) hq
  replace HB := below_then HB hq
  clear hq oy
  go_wp2_with fail
  refine (may_yes ax cx za _ (L.all (ax, za) (by simp)) M.out.1 PA.out).mono ?_
  rintro e w' ⟨rfl, rfl⟩
  go_wp2_with fail
  refine (rmay_yes a ca za _ (L.all (a, za) (by simp)) M.out.1 PA.out).mono ?_
  rintro e w' ⟨rfl, rfl⟩
  go_wp2_with fail
  refine (of16 n n0 n1 _).mono ?_
  rintro e w3 ⟨z1, a1, c1, rfl, h1, _⟩
  replace L := L.push h1.lie h1.bel
  replace HB := below_then HB h1.bel
  have G1 := h1.good
  clear h1
  go_wp2_with fail
  refine (of17 n n0 n1 _).mono ?_
  rintro e w4 ⟨z2, a2, c2, rfl, h2, _⟩
  replace L := L.push h2.lie h2.bel
  replace HB := below_then HB h2.bel
  have G2 := h2.good
  clear h2
  go_wp2_with fail
  refine (same_yes' a1 a2 c1 c2 z1 z2 _ (L.all (a1, z1) (by simp)) (L.all (a2, z2) (by simp)) (by have := G1.len; omega) (G1.same G2 rfl)).mono ?_
  rintro e w5 ⟨rfl, hq⟩
  replace L := L.keep hq
  replace HB := below_then HB hq
  clear hq G1 G2
  go_wp2_with fail
  refine (num_no ax cx za _ (L.all (ax, za) (by simp)) M.out.1 (.inr hf)).mono ?_
  rintro e w' ⟨rfl, rfl⟩
  go_wp2_with fail
  refine (rmay_yes a ca za _ (L.all (a, za) (by simp)) M.out.1 PA.out).mono ?_
  rintro e w' ⟨rfl, rfl⟩
  have W0 := L
  skip
  go_wp2_with fail
  refine (cmp19 ax ay cx cy za zb _ (L.all (ax, za) (by simp)) (L.all (ay, zb) (by simp)) R.out.1 R.out.2 PA.out PB.out).mono ?_
  rintro e w6 ⟨rfl, hq⟩
  replace L := L.keep hq
  replace HB := below_then HB hq
  clear hq
  generalize hg : sgn (Nt.val za) (Nt.val zb) = sg at *
  have HG := Hide.mk hg
  clear hg
  have HBW := Hide.mk HB
  have LW := Hide.mk L
  have HW := hw_start w6
  go_wp2_with fail
  refine (add_long ax ay cx cy za zb _ (L.all (ax, za) (by simp)) (L.all (ay, zb) (by simp)) Ga Gb U.out).mono ?_
  rintro e w7 ⟨rfl, hq⟩
  replace L := L.keep hq
  replace HB := below_then HB hq
  replace HW := below_then HW hq
  clear hq
  have OS := Own.nil w6.heap.size w7
  have OS1 := Hide.mk OS
  have HSZ := Hide.mk HW.size
  go_wp2_with fail
  refine (sub_fit ax ay cx cy za zb _ (L.all (ax, za) (by simp)) (L.all (ay, zb) (by simp)) Ga Gb V.out).mono ?_
  rintro e w8 ⟨zd, ad, cd, rfl, hd, OD⟩
  replace L := L.push hd.lie hd.bel
  replace HB := below_then HB hd.bel
  replace HW := below_then HW hd.bel
  replace OS := OS.below hd.bel (Nat.le_refl _)
  have Gd := hd.good
  clear hd
  go_wp2_with fail
  refine (same_yes' _ _ cx ca za za _ (L.all (ax, za) (by simp)) (L.all (a, za) (by simp)) (by omega) rfl).mono ?_
  rintro e w9 ⟨rfl, hq⟩
  replace L := L.keep hq
  replace HB := below_then HB hq
  replace HW := below_then HW hq
  replace OS := OS.below hq (Nat.le_refl _)
  replace OD := OD.below hq (Nat.le_refl _)
  clear hq
  go_wp2_with fail
  refine (same_yes' _ _ cy cb zb zb _ (L.all (ay, zb) (by simp)) (L.all (b, zb) (by simp)) (by omega) rfl).mono ?_
  rintro e w10 ⟨rfl, hq⟩
  replace L := L.keep hq
  replace HB := below_then HB hq
  replace HW := below_then HW hq
  replace OS := OS.below hq (Nat.le_refl _)
  replace OD := OD.below hq (Nat.le_refl _)
  clear hq
  go_wp2_with fail
  refine (rmay_yes a ca za _ (L.all (a, za) (by simp)) M.out.1 PA.out).mono ?_
  rintro e w' ⟨rfl, rfl⟩
  go_wp2_with fail
  refine (rmay_yes b cb zb _ (L.all (b, zb) (by simp)) M.out.2 PB.out).mono ?_
  rintro e w' ⟨rfl, rfl⟩
  have hrc := fun W h1 h2 => Hide.mk (refCmp22 a b ca cb za zb W h1 h2 Ga.can Gb.can M.out.1)
  rw [HG.out] at hrc
  go_wp2_with fail
  refine ((hrc _ (L.all (a, za) (by simp)) (L.all (b, zb) (by simp))).out).mono ?_
  rintro e w11 ⟨rfl, hq⟩
  replace L := L.keep hq
  replace HB := below_then HB hq
  replace HW := below_then HW hq
  replace OS := OS.below hq (Nat.le_refl _)
  replace OD := OD.below hq (Nat.le_refl _)
  clear hq hrc
  go_wp2_with fail
  refine (refAdd23 a b ca cb za zb _ (L.all (a, za) (by simp)) (L.all (b, zb) (by simp)) R.out.1 R.out.2 (by omega) (by omega)).mono ?_
  rintro e w12 ⟨zr, ar, cr, rfl, hr1, hr2, hr3, hr4⟩
  replace L := L.push (own_lie hr1) hr4
  replace HB := below_then HB hr4
  replace HW := below_then HW hr4
  replace OS := OS.below hr4 (Nat.le_refl _)
  replace OD := OD.below hr4 (Nat.le_refl _)
  have hlen : (4096 : Int) < (zr.length : Int) := by have := mt (Nt.can_len hr2 4096).2 (by rw [hr3]; exact Int.not_lt.2 U.out); omega
  clear hr1 hr2 hr3 hr4
  have hrc := fun W h1 h2 => Hide.mk (refCmp22 a b ca cb za zb W h1 h2 Ga.can Gb.can M.out.1)
  rw [HG.out] at hrc
  go_wp2_with fail
  refine ((hrc _ (L.all (a, za) (by simp)) (L.all (b, zb) (by simp))).out).mono ?_
  rintro e w13 ⟨rfl, hq⟩
  replace L := L.keep hq
  replace HB := below_then HB hq
  replace HW := below_then HW hq
  replace OS := OS.below hq (Nat.le_refl _)
  replace OD := OD.below hq (Nat.le_refl _)
  clear hq hrc
  go_wp2_with fail
  refine (refSub24 a b ca cb za zb _ (L.all (a, za) (by simp)) (L.all (b, zb) (by simp)) R.out.1 R.out.2 (by omega) ((Nt.can_len Gb.can _).1 (by have := (Nt.val_bd R.out.1).2; have := V.out; omega)) V.out).mono ?_
  rintro e w14 ⟨zt, at1, ct, rfl, ht1, ht2, ht3, ht4⟩
  replace L := L.push (own_lie ht1) ht4
  replace HB := below_then HB ht4
  replace HW := below_then HW ht4
  replace OS := OS.below ht4 (Nat.le_refl _)
  replace OD := OD.below ht4 (Nat.le_refl _)
  have hzt : zd = zt := Nt.can_unique Gd.can ht2 (by rw [ht3, Gd.val])
  have HT := Hide.mk hzt
  clear ht1 ht2 ht3 ht4 hzt
  go_wp2_with fail
  refine (same_yes' ad at1 cd ct zd zt _ (L.all (ad, zd) (by simp)) (L.all (at1, zt) (by simp)) (by have := Gd.len; omega) HT.out).mono ?_
  rintro e w15 ⟨rfl, hq⟩
  replace L := L.keep hq
  replace HB := below_then HB hq
  replace HW := below_then HW hq
  replace OS := OS.below hq (Nat.le_refl _)
  replace OD := OD.below hq (Nat.le_refl _)
  clear hq
  go_wp2_with fail
  refine (marked25 _ _ _ _ OS (by simp)).mono ?_
  rintro e w16 ⟨rfl, hgr⟩
  replace HW := HW.grown hgr HW.size (fun k hk => (OS1.out.lt k hk).1)
  replace OD := own_kept_after OS1.out OD (Nat.le_refl _) hgr
  clear hgr L OS
  go_wp2_with fail
  refine (marked25 _ _ _ _ OD (by have := Gd.len; omega)).mono ?_
  rintro e w17 ⟨rfl, hgr⟩
  replace HW := HW.grown hgr HW.size (fun k hk => by have h1 := (OD.lt k hk).1; have h2 := HSZ.out; omega)
  have L := LW.out.keep HW
  replace HB := below_then HBW.out HW
  clear hgr OD
  go_wp2_with fail
  refine (same_yes' _ _ cx ca za za _ (L.all (ax, za) (by simp)) (L.all (a, za) (by simp)) (by omega) rfl).mono ?_
  rintro e w18 ⟨rfl, hq⟩
  replace L := L.keep hq
  replace HB := below_then HB hq
  clear hq
  go_wp2_with fail
  refine (same_yes' _ _ cy cb zb zb _ (L.all (ay, zb) (by simp)) (L.all (b, zb) (by simp)) (by omega) rfl).mono ?_
  rintro e w19 ⟨rfl, hq⟩
  replace L := L.keep hq
  replace HB := below_then HB hq
  clear hq
  go_wp2_with fail
  refine (known11 _).mono ?_
  rintro e w20 ⟨rfl, hq⟩
  replace L := L.keep hq
  replace HB := below_then HB hq
  go_wp2
  go_ret
  exact ⟨rfl, HB⟩
set_option maxHeartbeats 4000000 in
set_option maxRecDepth 100000 in
theorem sums_m7 (a b : Option Addr) (ca cb : Nat) (za zb : List Int) (n : Int) (w : World) (ha : Lie w a za) (hb : Lie w b zb) (ra : Nt.Rng za) (rb : Nt.Rng zb) (la : za.length ≤ maxLen) (lb : zb.length ≤ maxLen) (na : a = none → ca = 0) (nb : b = none → cb = 0) (n0 : 0 ≤ n) (n1 : n < 18446744073709551616) (haa : (za.length : Int) ≤ 4100) (hbb : (zb.length : Int) ≤ 4100) (pa : mayB za = true) (pb : mayB zb = true) (hf : 2 < za.length) (hs : Nt.val za + Nt.val zb < 4294967296 ^ 4096) (hv : Nt.val za < Nt.val zb) :
    Calls Try.prog 3 #[.slice a za.length ca, .slice b zb.length cb, .int .u64 n] w fun e w' => e = .returned (.bool true) ∧ Below w.heap.size w w' := by
  have Ga : Good za (Nt.val za) := ⟨(may_can ra pa).1, (may_can ra pa).2, rfl⟩
  have Gb : Good zb (Nt.val zb) := ⟨(may_can rb pb).1, (may_can rb pb).2, rfl⟩
  have U := Hide.mk hs
  have V := Hide.mk hv
  clear hs hv
  have R := Hide.mk (And.intro ra rb)
  have M := Hide.mk (And.intro la lb)
  have PA := Hide.mk pa
  have PB := Hide.mk pb
  have E := Hide.mk (show (mayB za && mayB zb) = true by rw [pa, pb]; rfl)
  have L : Live w [(a, za), (b, zb)] := ⟨by simp [ha, hb]⟩
  have HB : Below w.heap.size w w := Below.refl _ _
  have NA := Hide.mk na
  have NB := Hide.mk nb
  clear ha hb ra rb la lb na nb pa pb
  go_enter Try.func3, Try.ntmps3
  go_wp2_with fail
  refine (long_no _ _ _ _ _ haa).mono ?_
  rintro e w' ⟨rfl, rfl⟩
  go_wp2_with fail
  refine (long_no _ _ _ _ _ hbb).mono ?_
  rintro e w' ⟨rfl, rfl⟩
  go_wp2_with fail
  refine (lent12 a ca za _ (L.all (a, za) (by simp)) (by omega) NA.out).mono ?_
  rintro e w1 ⟨ax, cx, rfl, ox, hq⟩
  replace L := L.push (own_lie ox) hq
  replace HB := below_then HB hq
  clear hq ox
  go_wp2_with fail
  refine (lent12 b cb zb _ (L.all (b, zb) (by simp)) (by omega) NB.out).mono ?_
  rintro e w2 ⟨ay, cy, rfl, oy, hq⟩
  replace L := L.push (own_lie oy) hq
  replace HB := below_then HB hq
  clear hq oy
  go_wp2_with fail
  refine (may_yes ax cx za _ (L.all (ax, za) (by simp)) M.out.1 PA.out).mono ?_
  rintro e w' ⟨rfl, rfl⟩
  go_wp2_with fail
  refine (rmay_yes a ca za _ (L.all (a, za) (by simp)) M.out.1 PA.out).mono ?_
  rintro e w' ⟨rfl, rfl⟩
  go_wp2_with fail
  refine (of16 n n0 n1 _).mono ?_
  rintro e w3 ⟨z1, a1, c1, rfl, h1, _⟩
  replace L := L.push h1.lie h1.bel
  replace HB := below_then HB h1.bel
  have G1 := h1.good
  clear h1
  go_wp2_with fail
  refine (of17 n n0 n1 _).mono ?_
  rintro e w4 ⟨z2, a2, c2, rfl, h2, _⟩
  replace L := L.push h2.lie h2.bel
  replace HB := below_then HB h2.bel
  have G2 := h2.good
  clear h2
  go_wp2_with fail
  refine (same_yes' a1 a2 c1 c2 z1 z2 _ (L.all (a1, z1) (by simp)) (L.all (a2, z2) (by simp)) (by have := G1.len; omega) (G1.same G2 rfl)).mono ?_
  rintro e w5 ⟨rfl, hq⟩
  replace L := L.keep hq
  replace HB := below_then HB hq
  clear hq G1 G2
  go_wp2_with fail
  refine (num_no ax cx za _ (L.all (ax, za) (by simp)) M.out.1 (.inr hf)).mono ?_
  rintro e w' ⟨rfl, rfl⟩
  go_wp2_with fail
  refine (rmay_yes a ca za _ (L.all (a, za) (by simp)) M.out.1 PA.out).mono ?_
  rintro e w' ⟨rfl, rfl⟩
  have hsg := sgn_lt V.out
  have HSG := Hide.mk hsg
  clear hsg
  have W0 := L
  skip
  have hcmp := fun W h1 h2 => Hide.mk (cmp19 ax ay cx cy za zb W h1 h2 R.out.1 R.out.2 PA.out PB.out)
  rw [HSG.out] at hcmp
  go_wp2_with fail
  refine ((hcmp _ (L.all (ax, za) (by simp)) (L.all (ay, zb) (by simp))).out).mono ?_
  rintro e w6 ⟨rfl, hq⟩
  replace L := L.keep hq
  replace HB := below_then HB hq
  clear hq
  have LW := Hide.mk L
  have HW := hw_start w6
  go_wp2_with fail
  refine (add_fit ax ay cx cy za zb _ (L.all (ax, za) (by simp)) (L.all (ay, zb) (by simp)) Ga Gb ⟨by have := (Nt.val_bd R.out.1).1; have := (Nt.val_bd R.out.2).1; omega, U.out⟩).mono ?_
  rintro e w7 ⟨zs, as1, cs, rfl, hs, OS⟩
  replace L := L.push hs.lie hs.bel
  replace HB := below_then HB hs.bel
  replace HW := below_then HW hs.bel
  have Gs := hs.good
  clear hs
  have OS1 := Hide.mk OS
  go_wp2_with fail
  refine (sub_less ax ay cx cy za zb _ (L.all (ax, za) (by simp)) (L.all (ay, zb) (by simp)) R.out.1 R.out.2 PA.out PB.out V.out).mono ?_
  rintro e w8 ⟨rfl, hq⟩
  replace L := L.keep hq
  replace HB := below_then HB hq
  replace HW := below_then HW hq
  replace OS := OS.below hq (Nat.le_refl _)
  clear hq
  go_wp2_with fail
  refine (same_yes' _ _ cx ca za za _ (L.all (ax, za) (by simp)) (L.all (a, za) (by simp)) (by omega) rfl).mono ?_
  rintro e w9 ⟨rfl, hq⟩
  replace L := L.keep hq
  replace HB := below_then HB hq
  replace HW := below_then HW hq
  replace OS := OS.below hq (Nat.le_refl _)
  clear hq
  go_wp2_with fail
  refine (same_yes' _ _ cy cb zb zb _ (L.all (ay, zb) (by simp)) (L.all (b, zb) (by simp)) (by omega) rfl).mono ?_
  rintro e w10 ⟨rfl, hq⟩
  replace L := L.keep hq
  replace HB := below_then HB hq
  replace HW := below_then HW hq
  replace OS := OS.below hq (Nat.le_refl _)
  clear hq
  go_wp2_with fail
  refine (rmay_yes a ca za _ (L.all (a, za) (by simp)) M.out.1 PA.out).mono ?_
  rintro e w' ⟨rfl, rfl⟩
  go_wp2_with fail
  refine (rmay_yes b cb zb _ (L.all (b, zb) (by simp)) M.out.2 PB.out).mono ?_
  rintro e w' ⟨rfl, rfl⟩
  have hrc := fun W h1 h2 => Hide.mk (refCmp22 a b ca cb za zb W h1 h2 Ga.can Gb.can M.out.1)
  rw [HSG.out] at hrc
  go_wp2_with fail
  refine ((hrc _ (L.all (a, za) (by simp)) (L.all (b, zb) (by simp))).out).mono ?_
  rintro e w11 ⟨rfl, hq⟩
  replace L := L.keep hq
  replace HB := below_then HB hq
  replace HW := below_then HW hq
  replace OS := OS.below hq (Nat.le_refl _)
  clear hq hrc
  go_wp2_with fail
  refine (refAdd23 a b ca cb za zb _ (L.all (a, za) (by simp)) (L.all (b, zb) (by simp)) R.out.1 R.out.2 (by omega) (by omega)).mono ?_
  rintro e w12 ⟨zr, ar, cr, rfl, hr1, hr2, hr3, hr4⟩
  replace L := L.push (own_lie hr1) hr4
  replace HB := below_then HB hr4
  replace HW := below_then HW hr4
  replace OS := OS.below hr4 (Nat.le_refl _)
  have hzr : zr = zs := Nt.can_unique hr2 Gs.can (by rw [hr3, Gs.val])
  have HZ := Hide.mk hzr
  have hlen : (zr.length : Int) ≤ 4096 := by rw [hzr]; have := Gs.len; omega
  clear hr1 hr2 hr3 hr4 hzr
  go_wp2_with fail
  refine (same_yes' as1 ar cs cr zs zr _ (L.all (as1, zs) (by simp)) (L.all (ar, zr) (by simp)) (by have := Gs.len; omega) HZ.out.symm).mono ?_
  rintro e w13 ⟨rfl, hq⟩
  replace L := L.keep hq
  replace HB := below_then HB hq
  replace HW := below_then HW hq
  replace OS := OS.below hq (Nat.le_refl _)
  clear hq
  have hrc := fun W h1 h2 => Hide.mk (refCmp22 a b ca cb za zb W h1 h2 Ga.can Gb.can M.out.1)
  rw [HSG.out] at hrc
  go_wp2_with fail
  refine ((hrc _ (L.all (a, za) (by simp)) (L.all (b, zb) (by simp))).out).mono ?_
  rintro e w14 ⟨rfl, hq⟩
  replace L := L.keep hq
  replace HB := below_then HB hq
  replace HW := below_then HW hq
  replace OS := OS.below hq (Nat.le_refl _)
  clear hq hrc
  go_wp2_with fail
  refine (known11 _).mono ?_
  rintro e w15 ⟨rfl, hq⟩
  replace L := L.keep hq
  replace HB := below_then HB hq
  replace HW := below_then HW hq
  replace OS := OS.below hq (Nat.le_refl _)
  go_wp2
  go_ret
  exact ⟨rfl, HB⟩
set_option maxHeartbeats 4000000 in
set_option maxRecDepth 100000 in
theorem sums_m8 (a b : Option Addr) (ca cb : Nat) (za zb : List Int) (n : Int) (w : World) (ha : Lie w a za) (hb : Lie w b zb) (ra : Nt.Rng za) (rb : Nt.Rng zb) (la : za.length ≤ maxLen) (lb : zb.length ≤ maxLen) (na : a = none → ca = 0) (nb : b = none → cb = 0) (n0 : 0 ≤ n) (n1 : n < 18446744073709551616) (haa : (za.length : Int) ≤ 4100) (hbb : (zb.length : Int) ≤ 4100) (pa : mayB za = true) (pb : mayB zb = true) (hf : 2 < za.length) (hs : Nt.val za + Nt.val zb < 4294967296 ^ 4096) (hv : Nt.val zb ≤ Nt.val za) :
    Calls Try.prog 3 #[.slice a za.length ca, .slice b zb.length cb, .int .u64 n] w fun e w' => e = .returned (.bool true) ∧ Below w.heap.size w w' := by
  have Ga : Good za (Nt.val za) := ⟨(may_can ra pa).1, (may_can ra pa).2, rfl⟩
  have Gb : Good zb (Nt.val zb) := ⟨(may_can rb pb).1, (may_can rb pb).2, rfl⟩
  have U := Hide.mk hs
  have V := Hide.mk hv
  have hsg : 0 ≤ sgn (Nt.val za) (Nt.val zb) := by unfold sgn; split <;> (try split) <;> omega
  clear hs hv
  have R := Hide.mk (And.intro ra rb)
  have M := Hide.mk (And.intro la lb)
  have PA := Hide.mk pa
  have PB := Hide.mk pb
  have E := Hide.mk (show (mayB za && mayB zb) = true by rw [pa, pb]; rfl)
  have L : Live w [(a, za), (b, zb)] := ⟨by simp [ha, hb]⟩
  have HB : Below w.heap.size w w := Below.refl _ _
  have NA := Hide.mk na
  have NB := Hide.mk nb
  clear ha hb ra rb la lb na nb pa pb
  go_enter Try.func3, Try.ntmps3
  go_wp2_with fail
  refine (long_no _ _ _ _ _ haa).mono ?_
  rintro e w' ⟨rfl, rfl⟩
  go_wp2_with fail
  refine (long_no _ _ _ _ _ hbb).mono ?_
  rintro e w' ⟨rfl, rfl⟩
  go_wp2_with fail
  refine (lent12 a ca za _ (L.all (a, za) (by simp)) (by omega) NA.out).mono ?_
  rintro e w1 ⟨ax, cx, rfl, ox, hq⟩
  replace L := L.push (own_lie ox) hq
  replace HB := below_then HB hq
  clear hq ox
  go_wp2_with fail
  refine (lent12 b cb zb _ (L.all (b, zb) (by simp)) (by omega) NB.out).mono ?_
  rintro e w2 ⟨ay, cy, rfl, oy, hq⟩
  replace L := L.push (own_lie oy) hq
  replace HB := below_then HB hq
  clear hq oy
  go_wp2_with fail
  refine (may_yes ax cx za _ (L.all (ax, za) (by simp)) M.out.1 PA.out).mono ?_
  rintro e w' ⟨rfl, rfl⟩
  go_wp2_with fail
  refine (rmay_yes a ca za _ (L.all (a, za) (by simp)) M.out.1 PA.out).mono ?_
  rintro e w' ⟨rfl, rfl⟩
  go_wp2_with fail
  refine (of16 n n0 n1 _).mono ?_
  rintro e w3 ⟨z1, a1, c1, rfl, h1, _⟩
  replace L := L.push h1.lie h1.bel
  replace HB := below_then HB h1.bel
  have G1 := h1.good
  clear h1
  go_wp2_with fail
  refine (of17 n n0 n1 _).mono ?_
  rintro e w4 ⟨z2, a2, c2, rfl, h2, _⟩
  replace L := L.push h2.lie h2.bel
  replace HB := below_then HB h2.bel
  have G2 := h2.good
  clear h2
  go_wp2_with fail
  refine (same_yes' a1 a2 c1 c2 z1 z2 _ (L.all (a1, z1) (by simp)) (L.all (a2, z2) (by simp)) (by have := G1.len; omega) (G1.same G2 rfl)).mono ?_
  rintro e w5 ⟨rfl, hq⟩
  replace L := L.keep hq
  replace HB := below_then HB hq
  clear hq G1 G2
  go_wp2_with fail
  refine (num_no ax cx za _ (L.all (ax, za) (by simp)) M.out.1 (.inr hf)).mono ?_
  rintro e w' ⟨rfl, rfl⟩
  go_wp2_with fail
  refine (rmay_yes a ca za _ (L.all (a, za) (by simp)) M.out.1 PA.out).mono ?_
  rintro e w' ⟨rfl, rfl⟩
  have W0 := L
  skip
  go_wp2_with fail
  refine (cmp19 ax ay cx cy za zb _ (L.all (ax, za) (by simp)) (L.all (ay, zb) (by simp)) R.out.1 R.out.2 PA.out PB.out).mono ?_
  rintro e w6 ⟨rfl, hq⟩
  replace L := L.keep hq
  replace HB := below_then HB hq
  clear hq
  generalize hg : sgn (Nt.val za) (Nt.val zb) = sg at *
  have HG := Hide.mk hg
  clear hg
  have HBW := Hide.mk HB
  have LW := Hide.mk L
  have HW := hw_start w6
  go_wp2_with fail
  refine (add_fit ax ay cx cy za zb _ (L.all (ax, za) (by simp)) (L.all (ay, zb) (by simp)) Ga Gb ⟨by have := (Nt.val_bd R.out.1).1; have := (Nt.val_bd R.out.2).1; omega, U.out⟩).mono ?_
  rintro e w7 ⟨zs, as1, cs, rfl, hs, OS⟩
  replace L := L.push hs.lie hs.bel
  replace HB := below_then HB hs.bel
  replace HW := below_then HW hs.bel
  have Gs := hs.good
  clear hs
  have OS1 := Hide.mk OS
  have HSZ := Hide.mk HW.size
  go_wp2_with fail
  refine (sub_fit ax ay cx cy za zb _ (L.all (ax, za) (by simp)) (L.all (ay, zb) (by simp)) Ga Gb V.out).mono ?_
  rintro e w8 ⟨zd, ad, cd, rfl, hd, OD⟩
  replace L := L.push hd.lie hd.bel
  replace HB := below_then HB hd.bel
  replace HW := below_then HW hd.bel
  replace OS := OS.below hd.bel (Nat.le_refl _)
  have Gd := hd.good
  clear hd
  go_wp2_with fail
  refine (same_yes' _ _ cx ca za za _ (L.all (ax, za) (by simp)) (L.all (a, za) (by simp)) (by omega) rfl).mono ?_
  rintro e w9 ⟨rfl, hq⟩
  replace L := L.keep hq
  replace HB := below_then HB hq
  replace HW := below_then HW hq
  replace OS := OS.below hq (Nat.le_refl _)
  replace OD := OD.below hq (Nat.le_refl _)
  clear hq
  go_wp2_with fail
  refine (same_yes' _ _ cy cb zb zb _ (L.all (ay, zb) (by simp)) (L.all (b, zb) (by simp)) (by omega) rfl).mono ?_
  rintro e w10 ⟨rfl, hq⟩
  replace L := L.keep hq
  replace HB := below_then HB hq
  replace HW := below_then HW hq
  replace OS := OS.below hq (Nat.le_refl _)
  replace OD := OD.below hq (Nat.le_refl _)
  clear hq
  go_wp2_with fail
  refine (rmay_yes a ca za _ (L.all (a, za) (by simp)) M.out.1 PA.out).mono ?_
  rintro e w' ⟨rfl, rfl⟩
  go_wp2_with fail
  refine (rmay_yes b cb zb _ (L.all (b, zb) (by simp)) M.out.2 PB.out).mono ?_
  rintro e w' ⟨rfl, rfl⟩
  have hrc := fun W h1 h2 => Hide.mk (refCmp22 a b ca cb za zb W h1 h2 Ga.can Gb.can M.out.1)
  rw [HG.out] at hrc
  go_wp2_with fail
  refine ((hrc _ (L.all (a, za) (by simp)) (L.all (b, zb) (by simp))).out).mono ?_
  rintro e w11 ⟨rfl, hq⟩
  replace L := L.keep hq
  replace HB := below_then HB hq
  replace HW := below_then HW hq
  replace OS := OS.below hq (Nat.le_refl _)
  replace OD := OD.below hq (Nat.le_refl _)
  clear hq hrc
  go_wp2_with fail
  refine (refAdd23 a b ca cb za zb _ (L.all (a, za) (by simp)) (L.all (b, zb) (by simp)) R.out.1 R.out.2 (by omega) (by omega)).mono ?_
  rintro e w12 ⟨zr, ar, cr, rfl, hr1, hr2, hr3, hr4⟩
  replace L := L.push (own_lie hr1) hr4
  replace HB := below_then HB hr4
  replace HW := below_then HW hr4
  replace OS := OS.below hr4 (Nat.le_refl _)
  replace OD := OD.below hr4 (Nat.le_refl _)
  have hzr : zr = zs := Nt.can_unique hr2 Gs.can (by rw [hr3, Gs.val])
  have HZ := Hide.mk hzr
  have hlen : (zr.length : Int) ≤ 4096 := by rw [hzr]; have := Gs.len; omega
  clear hr1 hr2 hr3 hr4 hzr
  go_wp2_with fail
  refine (same_yes' as1 ar cs cr zs zr _ (L.all (as1, zs) (by simp)) (L.all (ar, zr) (by simp)) (by have := Gs.len; omega) HZ.out.symm).mono ?_
  rintro e w13 ⟨rfl, hq⟩
  replace L := L.keep hq
  replace HB := below_then HB hq
  replace HW := below_then HW hq
  replace OS := OS.below hq (Nat.le_refl _)
  replace OD := OD.below hq (Nat.le_refl _)
  clear hq
  have hrc := fun W h1 h2 => Hide.mk (refCmp22 a b ca cb za zb W h1 h2 Ga.can Gb.can M.out.1)
  rw [HG.out] at hrc
  go_wp2_with fail
  refine ((hrc _ (L.all (a, za) (by simp)) (L.all (b, zb) (by simp))).out).mono ?_
  rintro e w14 ⟨rfl, hq⟩
  replace L := L.keep hq
  replace HB := below_then HB hq
  replace HW := below_then HW hq
  replace OS := OS.below hq (Nat.le_refl _)
  replace OD := OD.below hq (Nat.le_refl _)
  clear hq hrc
  go_wp2_with fail
  refine (refSub24 a b ca cb za zb _ (L.all (a, za) (by simp)) (L.all (b, zb) (by simp)) R.out.1 R.out.2 (by omega) ((Nt.can_len Gb.can _).1 (by have := (Nt.val_bd R.out.1).2; have := V.out; omega)) V.out).mono ?_
  rintro e w15 ⟨zt, at1, ct, rfl, ht1, ht2, ht3, ht4⟩
  replace L := L.push (own_lie ht1) ht4
  replace HB := below_then HB ht4
  replace HW := below_then HW ht4
  replace OS := OS.below ht4 (Nat.le_refl _)
  replace OD := OD.below ht4 (Nat.le_refl _)
  have hzt : zd = zt := Nt.can_unique Gd.can ht2 (by rw [ht3, Gd.val])
  have HT := Hide.mk hzt
  clear ht1 ht2 ht3 ht4 hzt
  go_wp2_with fail
  refine (same_yes' ad at1 cd ct zd zt _ (L.all (ad, zd) (by simp)) (L.all (at1, zt) (by simp)) (by have := Gd.len; omega) HT.out).mono ?_
  rintro e w16 ⟨rfl, hq⟩
  replace L := L.keep hq
  replace HB := below_then HB hq
  replace HW := below_then HW hq
  replace OS := OS.below hq (Nat.le_refl _)
  replace OD := OD.below hq (Nat.le_refl _)
  clear hq
  go_wp2_with fail
  refine (marked25 _ _ _ _ OS (by have := Gs.len; omega)).mono ?_
  rintro e w17 ⟨rfl, hgr⟩
  replace HW := HW.grown hgr HW.size (fun k hk => (OS1.out.lt k hk).1)
  replace OD := own_kept_after OS1.out OD (Nat.le_refl _) hgr
  clear hgr L OS
  go_wp2_with fail
  refine (marked25 _ _ _ _ OD (by have := Gd.len; omega)).mono ?_
  rintro e w18 ⟨rfl, hgr⟩
  replace HW := HW.grown hgr HW.size (fun k hk => by have h1 := (OD.lt k hk).1; have h2 := HSZ.out; omega)
  have L := LW.out.keep HW
  replace HB := below_then HBW.out HW
  clear hgr OD
  go_wp2_with fail
  refine (same_yes' _ _ cx ca za za _ (L.all (ax, za) (by simp)) (L.all (a, za) (by simp)) (by omega) rfl).mono ?_
  rintro e w19 ⟨rfl, hq⟩
  replace L := L.keep hq
  replace HB := below_then HB hq
  clear hq
  go_wp2_with fail
  refine (same_yes' _ _ cy cb zb zb _ (L.all (ay, zb) (by simp)) (L.all (b, zb) (by simp)) (by omega) rfl).mono ?_
  rintro e w20 ⟨rfl, hq⟩
  replace L := L.keep hq
  replace HB := below_then HB hq
  clear hq
  go_wp2_with fail
  refine (known11 _).mono ?_
  rintro e w21 ⟨rfl, hq⟩
  replace L := L.keep hq
  replace HB := below_then HB hq
  go_wp2
  go_ret
  exact ⟨rfl, HB⟩
theorem sums3 (a b : Option Addr) (ca cb : Nat) (za zb : List Int) (n : Int) (w : World) (ha : Lie w a za) (hb : Lie w b zb) (ra : Nt.Rng za) (rb : Nt.Rng zb) (la : za.length ≤ maxLen) (lb : zb.length ≤ maxLen) (na : a = none → ca = 0) (nb : b = none → cb = 0) (n0 : 0 ≤ n) (n1 : n < 18446744073709551616) :
    Calls Try.prog 3 #[.slice a za.length ca, .slice b zb.length cb, .int .u64 n] w fun e w' => e = .returned (.bool true) ∧ Below w.heap.size w w' := by
  by_cases haa : (za.length : Int) ≤ 4100
  · by_cases hbb : (zb.length : Int) ≤ 4100
    · cases pa : mayB za
      · exact sums_n1 a b ca cb za zb n w ha hb ra rb la lb na nb n0 n1 haa hbb pa
      cases pb : mayB zb
      · by_cases hf : za.length ≤ 2
        · exact sums_n2 a b ca cb za zb n w ha hb ra rb la lb na nb n0 n1 haa hbb pa pb hf
        · exact sums_n3 a b ca cb za zb n w ha hb ra rb la lb na nb n0 n1 haa hbb pa pb (by omega)
      by_cases hf : za.length ≤ 2
      · by_cases hs : Nt.val za + Nt.val zb < 4294967296 ^ 4096
        · by_cases hv : Nt.val za < Nt.val zb
          · exact sums_m3 a b ca cb za zb n w ha hb ra rb la lb na nb n0 n1 haa hbb pa pb hf hs hv
          · exact sums_m4 a b ca cb za zb n w ha hb ra rb la lb na nb n0 n1 haa hbb pa pb hf hs (Int.not_lt.1 hv)
        · by_cases hv : Nt.val za < Nt.val zb
          · exact sums_m1 a b ca cb za zb n w ha hb ra rb la lb na nb n0 n1 haa hbb pa pb hf (Int.not_lt.1 hs) hv
          · exact sums_m2 a b ca cb za zb n w ha hb ra rb la lb na nb n0 n1 haa hbb pa pb hf (Int.not_lt.1 hs) (Int.not_lt.1 hv)
      · have hf' : 2 < za.length := by omega
        by_cases hs : Nt.val za + Nt.val zb < 4294967296 ^ 4096
        · by_cases hv : Nt.val za < Nt.val zb
          · exact sums_m7 a b ca cb za zb n w ha hb ra rb la lb na nb n0 n1 haa hbb pa pb hf' hs hv
          · exact sums_m8 a b ca cb za zb n w ha hb ra rb la lb na nb n0 n1 haa hbb pa pb hf' hs (Int.not_lt.1 hv)
        · by_cases hv : Nt.val za < Nt.val zb
          · exact sums_m5 a b ca cb za zb n w ha hb ra rb la lb na nb n0 n1 haa hbb pa pb hf' (Int.not_lt.1 hs) hv
          · exact sums_m6 a b ca cb za zb n w ha hb ra rb la lb na nb n0 n1 haa hbb pa pb hf' (Int.not_lt.1 hs) (Int.not_lt.1 hv)
    · exact sums_e2 a b ca cb za zb n w ha hb ra rb la lb na nb n0 n1 haa (by omega)
  · exact sums_e1 a b ca cb za zb n w ha hb ra rb la lb na nb n0 n1 (by omega)
end Go.Proofs.Ytcjmamlffbhnlaa
