import Derived.Test.YtcjmamlffbhnlaaW12
namespace Go.Proofs.Ytcjmamlffbhnlaa
open Go.RowKit
set_option linter.unusedVariables false

set_option maxHeartbeats 1000000 in
set_option maxRecDepth 100000 in
theorem ring_e1 (a b c : Option Addr) (ca cb cc : Nat) (za zb zc : List Int) (w : World) (ha : Lie w a za) (hb : Lie w b zb) (hc : Lie w c zc) (la : za.length ≤ maxLen) (lb : zb.length ≤ maxLen) (lc : zc.length ≤ maxLen) (haa : (100 : Int) < (za.length : Int)) :
    Calls Try.prog 8 #[.slice a za.length ca, .slice b zb.length cb, .slice c zc.length cc] w fun e w' => e = .returned (.bool true) ∧ Below w.heap.size w w' := by
  go_enter Try.func8, Try.ntmps8
  go_wp2_with fail
  refine (long_yes _ _ _ _ _ haa).mono ?_
  rintro e w' ⟨rfl, rfl⟩
  go_wp2_with fail
  refine (known11 _).mono ?_
  rintro e w' ⟨rfl, hbel⟩
  go_wp2
  go_ret
  exact ⟨rfl, hbel⟩
set_option maxHeartbeats 1000000 in
set_option maxRecDepth 100000 in
theorem ring_e2 (a b c : Option Addr) (ca cb cc : Nat) (za zb zc : List Int) (w : World) (ha : Lie w a za) (hb : Lie w b zb) (hc : Lie w c zc) (la : za.length ≤ maxLen) (lb : zb.length ≤ maxLen) (lc : zc.length ≤ maxLen) (haa : (za.length : Int) ≤ 100) (hbb : (100 : Int) < (zb.length : Int)) :
    Calls Try.prog 8 #[.slice a za.length ca, .slice b zb.length cb, .slice c zc.length cc] w fun e w' => e = .returned (.bool true) ∧ Below w.heap.size w w' := by
  go_enter Try.func8, Try.ntmps8
  go_wp2_with fail
  refine (long_no _ _ _ _ _ haa).mono ?_
  rintro e w' ⟨rfl, rfl⟩
  go_wp2_with fail
  refine (long_yes _ _ _ _ _ hbb).mono ?_
  rintro e w' ⟨rfl, rfl⟩
  go_wp2_with fail
  refine (known11 _).mono ?_
  rintro e w' ⟨rfl, hbel⟩
  go_wp2
  go_ret
  exact ⟨rfl, hbel⟩
set_option maxHeartbeats 1000000 in
set_option maxRecDepth 100000 in
theorem ring_e3 (a b c : Option Addr) (ca cb cc : Nat) (za zb zc : List Int) (w : World) (ha : Lie w a za) (hb : Lie w b zb) (hc : Lie w c zc) (la : za.length ≤ maxLen) (lb : zb.length ≤ maxLen) (lc : zc.length ≤ maxLen) (haa : (za.length : Int) ≤ 100) (hbb : (zb.length : Int) ≤ 100) (hcc : (100 : Int) < (zc.length : Int)) :
    Calls Try.prog 8 #[.slice a za.length ca, .slice b zb.length cb, .slice c zc.length cc] w fun e w' => e = .returned (.bool true) ∧ Below w.heap.size w w' := by
  go_enter Try.func8, Try.ntmps8
  go_wp2_with fail
  refine (long_no _ _ _ _ _ haa).mono ?_
  rintro e w' ⟨rfl, rfl⟩
  go_wp2_with fail
  refine (long_no _ _ _ _ _ hbb).mono ?_
  rintro e w' ⟨rfl, rfl⟩
  go_wp2_with fail
  refine (long_yes _ _ _ _ _ hcc).mono ?_
  rintro e w' ⟨rfl, rfl⟩
  go_wp2_with fail
  refine (known11 _).mono ?_
  rintro e w' ⟨rfl, hbel⟩
  go_wp2
  go_ret
  exact ⟨rfl, hbel⟩
set_option maxHeartbeats 1000000 in
set_option maxRecDepth 100000 in
theorem ring_e4 (a b c : Option Addr) (ca cb cc : Nat) (za zb zc : List Int) (w : World) (ha : Lie w a za) (hb : Lie w b zb) (hc : Lie w c zc) (la : za.length ≤ maxLen) (lb : zb.length ≤ maxLen) (lc : zc.length ≤ maxLen) (haa : (za.length : Int) ≤ 100) (hbb : (zb.length : Int) ≤ 100) (hcc : (zc.length : Int) ≤ 100) (ma : mayB za = false) :
    Calls Try.prog 8 #[.slice a za.length ca, .slice b zb.length cb, .slice c zc.length cc] w fun e w' => e = .returned (.bool true) ∧ Below w.heap.size w w' := by
  go_enter Try.func8, Try.ntmps8
  go_wp2_with fail
  refine (long_no _ _ _ _ _ haa).mono ?_
  rintro e w' ⟨rfl, rfl⟩
  go_wp2_with fail
  refine (long_no _ _ _ _ _ hbb).mono ?_
  rintro e w' ⟨rfl, rfl⟩
  go_wp2_with fail
  refine (long_no _ _ _ _ _ hcc).mono ?_
  rintro e w' ⟨rfl, rfl⟩
  go_wp2_with fail
  refine (may_no _ _ _ _ ha la ma).mono ?_
  rintro e w' ⟨rfl, rfl⟩
  go_wp2_with fail
  refine (known11 _).mono ?_
  rintro e w' ⟨rfl, hbel⟩
  go_wp2
  go_ret
  exact ⟨rfl, hbel⟩
set_option maxHeartbeats 1000000 in
set_option maxRecDepth 100000 in
theorem ring_e5 (a b c : Option Addr) (ca cb cc : Nat) (za zb zc : List Int) (w : World) (ha : Lie w a za) (hb : Lie w b zb) (hc : Lie w c zc) (la : za.length ≤ maxLen) (lb : zb.length ≤ maxLen) (lc : zc.length ≤ maxLen) (haa : (za.length : Int) ≤ 100) (hbb : (zb.length : Int) ≤ 100) (hcc : (zc.length : Int) ≤ 100) (ma : mayB za = true) (mb : mayB zb = false) :
    Calls Try.prog 8 #[.slice a za.length ca, .slice b zb.length cb, .slice c zc.length cc] w fun e w' => e = .returned (.bool true) ∧ Below w.heap.size w w' := by
  go_enter Try.func8, Try.ntmps8
  go_wp2_with fail
  refine (long_no _ _ _ _ _ haa).mono ?_
  rintro e w' ⟨rfl, rfl⟩
  go_wp2_with fail
  refine (long_no _ _ _ _ _ hbb).mono ?_
  rintro e w' ⟨rfl, rfl⟩
  go_wp2_with fail
  refine (long_no _ _ _ _ _ hcc).mono ?_
  rintro e w' ⟨rfl, rfl⟩
  go_wp2_with fail
  refine (may_yes _ _ _ _ ha la ma).mono ?_
  rintro e w' ⟨rfl, rfl⟩
  go_wp2_with fail
  refine (may_no _ _ _ _ hb lb mb).mono ?_
  rintro e w' ⟨rfl, rfl⟩
  go_wp2_with fail
  refine (known11 _).mono ?_
  rintro e w' ⟨rfl, hbel⟩
  go_wp2
  go_ret
  exact ⟨rfl, hbel⟩
set_option maxHeartbeats 1000000 in
set_option maxRecDepth 100000 in
theorem ring_e6 (a b c : Option Addr) (ca cb cc : Nat) (za zb zc : List Int) (w : World) (ha : Lie w a za) (hb : Lie w b zb) (hc : Lie w c zc) (la : za.length ≤ maxLen) (lb : zb.length ≤ maxLen) (lc : zc.length ≤ maxLen) (haa : (za.length : Int) ≤ 100) (hbb : (zb.length : Int) ≤ 100) (hcc : (zc.length : Int) ≤ 100) (ma : mayB za = true) (mb : mayB zb = true) (mc : mayB zc = false) :
    Calls Try.prog 8 #[.slice a za.length ca, .slice b zb.length cb, .slice c zc.length cc] w fun e w' => e = .returned (.bool true) ∧ Below w.heap.size w w' := by
  go_enter Try.func8, Try.ntmps8
  go_wp2_with fail
  refine (long_no _ _ _ _ _ haa).mono ?_
  rintro e w' ⟨rfl, rfl⟩
  go_wp2_with fail
  refine (long_no _ _ _ _ _ hbb).mono ?_
  rintro e w' ⟨rfl, rfl⟩
  go_wp2_with fail
  refine (long_no _ _ _ _ _ hcc).mono ?_
  rintro e w' ⟨rfl, rfl⟩
  go_wp2_with fail
  refine (may_yes _ _ _ _ ha la ma).mono ?_
  rintro e w' ⟨rfl, rfl⟩
  go_wp2_with fail
  refine (may_yes _ _ _ _ hb lb mb).mono ?_
  rintro e w' ⟨rfl, rfl⟩
  go_wp2_with fail
  refine (may_no _ _ _ _ hc lc mc).mono ?_
  rintro e w' ⟨rfl, rfl⟩
  go_wp2_with fail
  refine (known11 _).mono ?_
  rintro e w' ⟨rfl, hbel⟩
  go_wp2
  go_ret
  exact ⟨rfl, hbel⟩
set_option maxHeartbeats 4000000 in
set_option maxRecDepth 100000 in
theorem ring_main (a b c : Option Addr) (ca cb cc : Nat) (za zb zc : List Int) (w : World) (ha : Lie w a za) (hb : Lie w b zb) (hc : Lie w c zc) (la : za.length ≤ maxLen) (lb : zb.length ≤ maxLen) (lc : zc.length ≤ maxLen) (haa : (za.length : Int) ≤ 100) (hbb : (zb.length : Int) ≤ 100) (hcc : (zc.length : Int) ≤ 100) (ma : mayB za = true) (mb : mayB zb = true) (mc : mayB zc = true) (ra : Nt.Rng za) (rb : Nt.Rng zb) (rc : Nt.Rng zc) :
    Calls Try.prog 8 #[.slice a za.length ca, .slice b zb.length cb, .slice c zc.length cc] w fun e w' => e = .returned (.bool true) ∧ Below w.heap.size w w' := by
  obtain ⟨ua, hua⟩ : ∃ u, u = Nt.val za := ⟨_, rfl⟩
  have Ga : Good za ua := ⟨(may_can ra ma).1, (may_can ra ma).2, hua.symm⟩
  have Ta : Lt 100 ua := by rw [hua]; exact Lt.of ra (by omega)
  clear hua
  obtain ⟨ub, hub⟩ : ∃ u, u = Nt.val zb := ⟨_, rfl⟩
  have Gb : Good zb ub := ⟨(may_can rb mb).1, (may_can rb mb).2, hub.symm⟩
  have Tb : Lt 100 ub := by rw [hub]; exact Lt.of rb (by omega)
  clear hub
  obtain ⟨uc, huc⟩ : ∃ u, u = Nt.val zc := ⟨_, rfl⟩
  have Gc : Good zc uc := ⟨(may_can rc mc).1, (may_can rc mc).2, huc.symm⟩
  have Tc : Lt 100 uc := by rw [huc]; exact Lt.of rc (by omega)
  clear huc
  have L : Live w [(a, za), (b, zb), (c, zc)] := ⟨by simp [ha, hb, hc]⟩
  have HB : Below w.heap.size w w := Below.refl _ _
  go_enter Try.func8, Try.ntmps8
  go_wp2_with fail
  refine (long_no _ _ _ _ _ haa).mono ?_
  rintro e w' ⟨rfl, rfl⟩
  go_wp2_with fail
  refine (long_no _ _ _ _ _ hbb).mono ?_
  rintro e w' ⟨rfl, rfl⟩
  go_wp2_with fail
  refine (long_no _ _ _ _ _ hcc).mono ?_
  rintro e w' ⟨rfl, rfl⟩
  go_wp2_with fail
  refine (may_yes _ _ _ _ ha la ma).mono ?_
  rintro e w' ⟨rfl, rfl⟩
  go_wp2_with fail
  refine (may_yes _ _ _ _ hb lb mb).mono ?_
  rintro e w' ⟨rfl, rfl⟩
  go_wp2_with fail
  refine (may_yes _ _ _ _ hc lc mc).mono ?_
  rintro e w' ⟨rfl, rfl⟩
  clear ha hb hc la lb lc haa hbb hcc ma mb mc ra rb rc
  go_wp2_with fail
  refine (add_fit _ _ _ _ za zb _ (L.all (a, za) (by simp)) (L.all (b, zb) (by simp)) Ga Gb ((Ta.add Tb).mono (by decide))).mono ?_
  rintro e wab ⟨zab, aab, cab, rfl, hab, _⟩
  have Gab := hab.good
  replace L := L.push hab.lie hab.bel
  replace HB := below_then HB hab.bel
  clear hab
  go_wp2_with fail
  refine (add_fit _ _ _ _ zb za _ (L.all (b, zb) (by simp)) (L.all (a, za) (by simp)) Gb Ga ((Tb.add Ta).mono (by decide))).mono ?_
  rintro e wba ⟨zba, aba, cba, rfl, hba, _⟩
  have Gba := hba.good
  replace L := L.push hba.lie hba.bel
  replace HB := below_then HB hba.bel
  clear hba
  go_wp2_with fail
  refine (add_fit _ _ _ _ zb zc _ (L.all (b, zb) (by simp)) (L.all (c, zc) (by simp)) Gb Gc ((Tb.add Tc).mono (by decide))).mono ?_
  rintro e wbc ⟨zbc, abc, cbc, rfl, hbc, _⟩
  have Gbc := hbc.good
  replace L := L.push hbc.lie hbc.bel
  replace HB := below_then HB hbc.bel
  clear hbc
  go_wp2_with fail
  refine (add_fit _ _ _ _ zab zc _ (L.all (aab, zab) (by simp)) (L.all (c, zc) (by simp)) Gab Gc (((Ta.add Tb).add (Tc.mono (by decide))).mono (by decide))).mono ?_
  rintro e wone ⟨zone, aone, cone, rfl, hone, _⟩
  have Gone := hone.good
  replace L := L.push hone.lie hone.bel
  replace HB := below_then HB hone.bel
  clear hone
  go_wp2_with fail
  refine (add_fit _ _ _ _ za zbc _ (L.all (a, za) (by simp)) (L.all (abc, zbc) (by simp)) Ga Gbc (((Ta.mono (show 100 ≤ 101 by decide)).add (Tb.add Tc)).mono (by decide))).mono ?_
  rintro e wtwo ⟨ztwo, atwo, ctwo, rfl, htwo, _⟩
  have Gtwo := htwo.good
  replace L := L.push htwo.lie htwo.bel
  replace HB := below_then HB htwo.bel
  clear htwo
  go_wp2_with fail
  refine (same_yes _ _ _ _ zab zba _ (L.all (aab, zab) (by simp)) (L.all (aba, zba) (by simp)) Gab.len (Gab.same Gba (Int.add_comm _ _))).mono ?_
  rintro e v1 ⟨rfl, hs⟩
  replace L := L.keep hs
  replace HB := below_then HB hs
  clear hs
  go_wp2_with fail
  refine (same_yes _ _ _ _ zone ztwo _ (L.all (aone, zone) (by simp)) (L.all (atwo, ztwo) (by simp)) Gone.len (Gone.same Gtwo (Int.add_assoc _ _ _))).mono ?_
  rintro e v2 ⟨rfl, hs⟩
  replace L := L.keep hs
  replace HB := below_then HB hs
  clear hs
  go_wp2_with fail
  refine (mul_fit _ _ _ _ za zb _ (L.all (a, za) (by simp)) (L.all (b, zb) (by simp)) Ga Gb ((Ta.mul Tb).mono (by decide))).mono ?_
  rintro e wp ⟨zp, ap, cp, rfl, hp, _⟩
  have Gp := hp.good
  replace L := L.push hp.lie hp.bel
  replace HB := below_then HB hp.bel
  clear hp
  go_wp2_with fail
  refine (mul_fit _ _ _ _ zb za _ (L.all (b, zb) (by simp)) (L.all (a, za) (by simp)) Gb Ga ((Tb.mul Ta).mono (by decide))).mono ?_
  rintro e wq ⟨zq, aq, cq, rfl, hq, _⟩
  have Gq := hq.good
  replace L := L.push hq.lie hq.bel
  replace HB := below_then HB hq.bel
  clear hq
  go_wp2_with fail
  refine (mul_fit _ _ _ _ zb zc _ (L.all (b, zb) (by simp)) (L.all (c, zc) (by simp)) Gb Gc ((Tb.mul Tc).mono (by decide))).mono ?_
  rintro e wr ⟨zr, ar, cr, rfl, hr, _⟩
  have Gr := hr.good
  replace L := L.push hr.lie hr.bel
  replace HB := below_then HB hr.bel
  clear hr
  go_wp2_with fail
  refine (mul_fit _ _ _ _ zp zc _ (L.all (ap, zp) (by simp)) (L.all (c, zc) (by simp)) Gp Gc (((Ta.mul Tb).mul Tc).mono (by decide))).mono ?_
  rintro e wx ⟨zx, ax, cx, rfl, hx, _⟩
  have Gx := hx.good
  replace L := L.push hx.lie hx.bel
  replace HB := below_then HB hx.bel
  clear hx
  go_wp2_with fail
  refine (mul_fit _ _ _ _ za zr _ (L.all (a, za) (by simp)) (L.all (ar, zr) (by simp)) Ga Gr ((Ta.mul (Tb.mul Tc)).mono (by decide))).mono ?_
  rintro e wy ⟨zy, ay, cy, rfl, hy, _⟩
  have Gy := hy.good
  replace L := L.push hy.lie hy.bel
  replace HB := below_then HB hy.bel
  clear hy
  go_wp2_with fail
  refine (same_yes _ _ _ _ zp zq _ (L.all (ap, zp) (by simp)) (L.all (aq, zq) (by simp)) Gp.len (Gp.same Gq (Int.mul_comm _ _))).mono ?_
  rintro e v3 ⟨rfl, hs⟩
  replace L := L.keep hs
  replace HB := below_then HB hs
  clear hs
  go_wp2_with fail
  refine (same_yes _ _ _ _ zx zy _ (L.all (ax, zx) (by simp)) (L.all (ay, zy) (by simp)) Gx.len (Gx.same Gy (Int.mul_assoc _ _ _))).mono ?_
  rintro e v4 ⟨rfl, hs⟩
  replace L := L.keep hs
  replace HB := below_then HB hs
  clear hs
  go_wp2_with fail
  refine (mul_fit _ _ _ _ za zbc _ (L.all (a, za) (by simp)) (L.all (abc, zbc) (by simp)) Ga Gbc ((Ta.mul (Tb.add Tc)).mono (by decide))).mono ?_
  rintro e wsm ⟨zsm, asm, csm, rfl, hsm, _⟩
  have Gsm := hsm.good
  replace L := L.push hsm.lie hsm.bel
  replace HB := below_then HB hsm.bel
  clear hsm
  go_wp2_with fail
  refine (mul_fit _ _ _ _ za zc _ (L.all (a, za) (by simp)) (L.all (c, zc) (by simp)) Ga Gc ((Ta.mul Tc).mono (by decide))).mono ?_
  rintro e wtm ⟨ztm, atm, ctm, rfl, htm, _⟩
  have Gtm := htm.good
  replace L := L.push htm.lie htm.bel
  replace HB := below_then HB htm.bel
  clear htm
  go_wp2_with fail
  refine (add_fit _ _ _ _ zp ztm _ (L.all (ap, zp) (by simp)) (L.all (atm, ztm) (by simp)) Gp Gtm (((Ta.mul Tb).add (Ta.mul Tc)).mono (by decide))).mono ?_
  rintro e wum ⟨zum, aum, cum, rfl, hum, _⟩
  have Gum := hum.good
  replace L := L.push hum.lie hum.bel
  replace HB := below_then HB hum.bel
  clear hum
  go_wp2_with fail
  refine (sub_fit _ _ _ _ zab zb _ (L.all (aab, zab) (by simp)) (L.all (b, zb) (by simp)) Gab Gb (by have := Ta.1; omega)).mono ?_
  rintro e wback ⟨zback, aback, cback, rfl, hback, _⟩
  have Gback := hback.good
  replace L := L.push hback.lie hback.bel
  replace HB := below_then HB hback.bel
  clear hback
  go_wp2_with fail
  refine (same_yes _ _ _ _ zsm zum _ (L.all (asm, zsm) (by simp)) (L.all (aum, zum) (by simp)) Gsm.len (Gsm.same Gum (Int.mul_add _ _ _))).mono ?_
  rintro e v5 ⟨rfl, hs⟩
  replace L := L.keep hs
  replace HB := below_then HB hs
  clear hs
  go_wp2_with fail
  refine (same_yes _ _ _ _ zback za _ (L.all (aback, zback) (by simp)) (L.all (a, za) (by simp)) Gback.len (Gback.same Ga (by omega))).mono ?_
  rintro e v6 ⟨rfl, hs⟩
  replace L := L.keep hs
  replace HB := below_then HB hs
  clear hs
  go_wp2_with fail
  refine (known11 _).mono ?_
  rintro e w' ⟨rfl, hbel⟩
  go_wp2
  go_ret
  exact ⟨rfl, below_then HB hbel⟩

theorem ring8 (a b c : Option Addr) (ca cb cc : Nat) (za zb zc : List Int) (w : World) (ha : Lie w a za) (hb : Lie w b zb) (hc : Lie w c zc) (la : za.length ≤ maxLen) (lb : zb.length ≤ maxLen) (lc : zc.length ≤ maxLen) (ra : Nt.Rng za) (rb : Nt.Rng zb) (rc : Nt.Rng zc) :
    Calls Try.prog 8 #[.slice a za.length ca, .slice b zb.length cb, .slice c zc.length cc] w fun e w' => e = .returned (.bool true) ∧ Below w.heap.size w w' := by
  by_cases haa : (za.length : Int) ≤ 100
  · by_cases hbb : (zb.length : Int) ≤ 100
    · by_cases hcc : (zc.length : Int) ≤ 100
      · cases ma : mayB za
        · exact ring_e4 a b c ca cb cc za zb zc w ha hb hc la lb lc haa hbb hcc ma
        cases mb : mayB zb
        · exact ring_e5 a b c ca cb cc za zb zc w ha hb hc la lb lc haa hbb hcc ma mb
        cases mc : mayB zc
        · exact ring_e6 a b c ca cb cc za zb zc w ha hb hc la lb lc haa hbb hcc ma mb mc
        exact ring_main a b c ca cb cc za zb zc w ha hb hc la lb lc haa hbb hcc ma mb mc ra rb rc
      · exact ring_e3 a b c ca cb cc za zb zc w ha hb hc la lb lc haa hbb (by omega)
    · exact ring_e2 a b c ca cb cc za zb zc w ha hb hc la lb lc haa (by omega)
  · exact ring_e1 a b c ca cb cc za zb zc w ha hb hc la lb lc (by omega)
end Go.Proofs.Ytcjmamlffbhnlaa
