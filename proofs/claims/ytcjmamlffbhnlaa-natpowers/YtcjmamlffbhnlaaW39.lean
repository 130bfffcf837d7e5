import Derived.Test.YtcjmamlffbhnlaaW38
namespace Go.Proofs.Ytcjmamlffbhnlaa
open Go.RowKit
set_option linter.unusedVariables false
theorem BitInv.start {za zb : List Int} {A B L : Nat} (hA : Bits (Nt.val za) A) (hB : Bits (Nt.val zb) B) (h0 : 0 ≤ Nt.val za) (hL : A + 1 ≤ L + B) : BitInv za zb (List.replicate za.length 0) (Nt.val za / 2 ^ L) L := by
  have hz : Nt.val (List.replicate za.length (0 : Int)) = 0 := vp_rep _ _
  refine ⟨by simp, fun k => by rw [getD_rep]; decide, ⟨0, by rw [hz]; simp, by simp⟩, Int.ediv_nonneg h0 (Int.le_of_lt (p2pos L)), Int.ediv_lt_of_lt_mul (p2pos L) ?_⟩
  have h1 := hA.lt
  have h2 := hB.le
  have h3 := p2mono (show A + 1 ≤ L + B from hL)
  rw [Int.pow_succ, Int.pow_add] at h3
  have h4 : 2 ^ L * 2 ^ B ≤ 2 ^ L * (2 * Nt.val zb) := Int.mul_le_mul_of_nonneg_left h2 (Int.le_of_lt (p2pos L))
  have e : 2 ^ L * (2 * Nt.val zb) = 2 * (Nt.val zb * 2 ^ L) := by grind
  omega
theorem refUp_one (a : Option Addr) (ca : Nat) (za : List Int) (w : World) (ha : Lie w a za) (ra : Nt.Rng za) (hm : za.length ≤ 100000) :
    Calls Try.prog 47 #[.slice a za.length ca, .int .i64 1] w fun e w' => Made w w' (2 * Nt.val za) e := by
  have := refUp_any a ca za w 1 (by decide) ha ra hm
  rw [show Nt.val za * 2 ^ 1 = 2 * Nt.val za by omega] at this
  exact this
theorem own_set_low {B : Nat} {w : World} {v : Value} {zs : List Int} {g j : Nat} {x : Int} (h : Own B w v zs) (hg : g < B) : Own B (w.setCell ⟨g, j, none⟩ (.int .u32 x)) v zs := ownsRow_setCell_below h hg _
theorem Blk.drew {w : World} {g : Nat} {s : List Int} (h : Blk w g s) : Blk w.drew g s := h
theorem made_len {zs : List Int} {n : Nat} {x M : Int} (hc : Nt.Can zs) (hv : Nt.val zs = x) (hx : x < M) (hM : M ≤ 4294967296 ^ n) : zs.length ≤ n := (Nt.can_len hc n).1 (by rw [hv]; omega)

set_option maxHeartbeats 8000000 in
set_option maxRecDepth 100000 in
theorem refQuo29_long (a b : Option Addr) (ca cb : Nat) (za zb : List Int) (w : World) (ha : Lie w a za) (hb : Lie w b zb) (qa : Nt.Can za) (qb : Nt.Can zb) (hz : 2 ≤ zb.length) (hza : 0 < za.length) (hm : za.length ≤ 5000) (hmb : zb.length ≤ 5000) :
    Calls Try.prog 29 #[.slice a za.length ca, .slice b zb.length cb] w fun e w' => Divs w w' za zb two e := by
  obtain ⟨i0, hi, hz0, hz1, hz2⟩ := info_parts Try.info49
  have hne : ((zb.length : Int) == 1) = false := beq_eq_false_iff_ne.2 (by omega)
  have C1 := fun W (h : Below w.heap.size w W) => Hide.mk (refLen45 a ca za W (ha.below h (Nat.le_refl _)) qa hza (by omega))
  have C2 := fun W (h : Below w.heap.size w W) => Hide.mk (refLen45 b cb zb W (hb.below h (Nat.le_refl _)) qb (by omega) (by omega))
  have C3 := fun W (h : Below w.heap.size w W) n hn => Hide.mk (refDown46 a ca za W n hn (ha.below h (Nat.le_refl _)) qa hza (by omega))
  have C4 := fun W (h : Below w.heap.size w W) i hi => Hide.mk (refBit48 a ca za W i (ha.below h (Nat.le_refl _)) qa.1 (by omega) hi)
  have HBL := Hide.mk hb
  have QB := Hide.mk qb
  have VA := Hide.mk (Nt.val_bd qa.1)
  have VB := Hide.mk (Nt.val_bd qb.1)
  clear ha hb qa qb
  go_enter Try.func29, Try.ntmps29
  go_wp2_with (at_make; refine wpList_make_full _ rfl _ _ 22 rfl w.heap.size 49 i0 (.int .u32 0) 1 Try.underlying22 hi hz0 hz1 .i64 .i64 _ _ za.length rfl rfl (by omega) (by omega) (by rw [hz2]; omega) (by unfold maxLen; omega) (Nat.le_refl _) ?_; intro w1 hown hgrow; have hblk1 := Hide.mk (blk_made hown); have hbel1 := below_of_grown hgrow; clear hown hgrow)
  clear hi hz0 hz1 hz2 i0
  refine (C1 w1 hbel1).out.mono ?_
  rintro e w' ⟨rfl, A, rfl, hA, hA1, hA2⟩
  go_wp2_with fail
  refine (C2 w1 hbel1).out.mono ?_
  rintro e w' ⟨rfl, B, rfl, hB, hB1, hB2⟩
  obtain ⟨Lf, hLf⟩ : ∃ Lf : Nat, (Lf : Int) = max 0 ((A : Int) - (B : Int) + 1) := ⟨(max 0 ((A : Int) - (B : Int) + 1)).toNat, by omega⟩
  have hL0 : A + 1 ≤ Lf + B := by omega
  have hL1 : Lf ≤ A + 1 := by omega
  have HST := Hide.mk (BitInv.start hA hB VA.out.1 hL0)
  have hLw : Lf ≤ 32 * za.length := by omega
  have hmax : max 0 ((A : Int) - (B : Int) + 1) = (Lf : Int) := hLf.symm
  have C5 := C3 w1 hbel1 Lf (by omega)
  clear hA hB C1 C2 C3 hLf
  go_wp2_with fail
  refine C5.out.mono ?_
  rintro e w2 ⟨z1, a1, c1, rfl, o1, hc1, hv1, hb2⟩
  have hbw2 := below_then hbel1 hb2
  have HK2 := Hide.mk (hblk1.out.below hb2 hblk1.out.lt)
  have HO2 := Hide.mk (o1.mono (show w.heap.size + 1 ≤ w1.heap.size from hblk1.out.lt))
  have HC2 := Hide.mk hc1
  rw [← hv1] at HST
  clear C5 o1 hc1 hv1 hb2 hblk1 hbel1
  go_wp2
  go_loopw [8, 10] (fun v iv wr => ∃ (k : Nat) (q zr : List Int), k ≤ Lf ∧ iv = .int .i64 ((k : Int) - 1) ∧ Hide (Own (w.heap.size + 1) wr v zr) ∧ Hide (Nt.Can zr) ∧ Hide (Blk wr w.heap.size q) ∧ Hide (BitInv za zb q (Nt.val zr) k) ∧ Below w.heap.size w wr) (fun _ iv _ => (intOf iv + 1).toNat)
  case atStart => exact ⟨Lf, _, z1, Nat.le_refl _, rfl, HO2, HC2, HK2, HST, hbw2⟩
  case round =>
    obtain ⟨k, q, zr, hk, rfl, HO, HC, HK, HI, hbel⟩ := hrel
    clear HO2 HC2 HK2 HST hbw2
    have hlq : Hide (q.length = za.length) := ⟨HI.out.len⟩
    have HRQ := Hide.mk HI.out.rng
    obtain ⟨ar, cr, hve, hzc, hcm, hlr⟩ := HO.out.lie
    have hlzr : zr.length ≤ zb.length := by
      refine (Nt.can_len HC.out _).1 ?_
      have h1 := HI.out.r1
      have h2 := VB.out.2
      omega
    cases k with
    | succ m =>
      have hpi : ((m + 1 : Nat) : Int) - 1 = (m : Int) := by omega
      rw [hpi, hve]
      have C6 := Hide.mk (refUp_one ar cr zr wr hlr HC.out.1 (by omega))
      have hgq := HK.out.lt
      clear hpi HO hlr hzc hcm
      go_wp2_with fail
      refine C6.out.mono ?_
      rintro e w3 ⟨zu, au, cu, rfl, ou, hcu, hvu, hb3⟩
      have hbw3 := below_then hbel hb3
      have HK3 := Hide.mk (HK.out.below hb3 HK.out.lt)
      have C7 := C4 w3 hbw3 m (by omega)
      clear C6
      rcases (show Nt.val za / 2 ^ m % 2 = 0 ∨ Nt.val za / 2 ^ m % 2 = 1 by omega) with hbit | hbit
      · rw [hbit] at C7
        have HBIT := Hide.mk hbit
        clear hbit
        go_wp2_with fail
        refine C7.out.mono ?_
        rintro e w' ⟨rfl, rfl⟩
        have hvu2 : Nt.val zu = 2 * Nt.val zr + 0 := by rw [hvu]; omega
        have hbase : w.heap.size + 1 ≤ wr.heap.size := hgq
        have hvu' : Nt.val zu = 2 * Nt.val zr + Nt.val za / 2 ^ m % 2 := by rw [hvu2, HBIT.out]
        have hl2 : zu.length ≤ zb.length + 1 := by
          refine (Nt.can_len hcu _).1 ?_
          have h1 := HI.out.r1
          have h2 := VB.out.2
          have h3 := HI.out.r0
          have hbb : Nt.val za / 2 ^ m % 2 < 2 := Int.emod_lt_of_pos _ (by decide)
          rw [hvu', Nt.pw_succ]
          have := Nt.pw_pos zb.length
          omega
        have C8 := Hide.mk (refCmp22 au b cu cb zu zb w3 (ownLie ou) (HBL.out.below hbw3 (Nat.le_refl _)) hcu QB.out (by unfold maxLen; omega))
        have hgq4 := HK3.out.lt
        by_cases hge : Nt.val zb ≤ Nt.val zu
        · have hsg : 0 ≤ sgn (Nt.val zu) (Nt.val zb) := by unfold sgn; split <;> (try split) <;> omega
          have HY := Hide.mk (HI.out.yes (d := q.getD (m / 32) 0) (wh := m / 32) (p := m % 32) (by rw [← hvu']; exact hge) (by omega) (Nat.mod_lt _ (by decide)) (by omega) rfl)
          have C9 := fun W (h : Below w3.heap.size w3 W) => Hide.mk (refSub24 au b cu cb zu zb W ((ownLie ou).below h (Nat.le_refl _)) (HBL.out.below (below_then hbw3 h) (Nat.le_refl _)) hcu.1 QB.out.1 (by omega) ((Nt.can_len QB.out _).1 (by have := (Nt.val_bd hcu.1).2; omega)) hge)
          have HV2 := Hide.mk hvu'
          clear hge hcu hvu2 hvu' HI ou
          generalize sgn (Nt.val zu) (Nt.val zb) = sg at *
          go_wp2_with fail
          refine C8.out.mono ?_
          rintro e w5 ⟨rfl, hb5⟩
          have hbw5 := below_then hbw3 hb5
          have C10 := C9 w5 hb5
          have HK5 := Hide.mk (HK3.out.below hb5 HK3.out.lt)
          clear C8 C9 HK3 hb5
          go_wp2_with fail
          refine C10.out.mono ?_
          rintro e w6 ⟨z3, a3, c3, rfl, o3, hc3, hv3, hb6⟩
          have hbw6 := below_then hbw5 hb6
          have HK6 := Hide.mk (HK5.out.below hb6 HK5.out.lt)
          have hwl : m / 32 < q.length := by rw [hlq.out]; omega
          have hcq := HK6.out.cell hwl
          have hfq := HK6.out.frozen (m / 32)
          have hset := fun x => Hide.mk (HK6.out.set (m / 32) x)
          have hrq := HRQ.out (m / 32)
          have hor := or32_bit (q.getD (m / 32) 0) (m % 32) (Nat.mod_lt _ (by decide)) hrq.1 hrq.2 HY.out.2.1
          have htp := two_pow_le (m % 32) (Nat.mod_lt _ (by decide))
          have hup := HY.out.2.2
          have HC3 := Hide.mk hc3
          have HV3 : Hide (BitInv za zb (q.set (m / 32) (q.getD (m / 32) 0 + 2 ^ (m % 32))) (Nt.val z3) m) := ⟨by rw [hv3, HV2.out]; exact HY.out.1⟩
          have HSO : Hide (∀ x, Own (w.heap.size + 1) ((w6.setCell ⟨w.heap.size, m / 32, none⟩ (.int .u32 x)).drew) (.slice a3 z3.length c3) z3) := ⟨fun x => (own_set_low (o3.mono (show w.heap.size + 1 ≤ w5.heap.size from HK5.out.lt)) (Nat.lt_succ_self _)).below (Below.refl _ _).drew (Nat.le_refl _)⟩
          have hdq : (m : Int) / 32 = ((m / 32 : Nat) : Int) := by omega
          have hdm : (m : Int) % 32 = ((m % 32 : Nat) : Int) := by omega
          have hp32 : m % 32 < 32 := Nat.mod_lt _ (by decide)
          have hwz : m / 32 < za.length := by omega
          clear C10 o3 hc3 hv3 HK5 hb6 HY hwl HV2 HK6 hbw5
          generalize q.getD (m / 32) 0 = dq at *
          generalize m / 32 = wh at *
          generalize m % 32 = p at *
          have hone : (1 : Int) * 2 ^ p = 2 ^ p := Int.one_mul _
          go_wp2
          go_region
          all_goals go_wp2
          go_roundw
          case rel => exact ⟨m, _, z3, by omega, by go_num, ⟨HSO.out _⟩, HC3, ⟨(hset _).out.drew⟩, HV3, (hbw6.setCell (Nat.le_refl _) _).drew⟩
          case measure => simp [intOf]; try omega
        · have hlt2 : sgn (Nt.val zu) (Nt.val zb) = -1 := sgn_lt (by omega)
          rw [hlt2] at C8
          have HN : Hide (BitInv za zb q (Nt.val zu) m) := ⟨by rw [hvu']; exact HI.out.no (by rw [← hvu']; omega)⟩
          have HO2 := Hide.mk ((ou.mono hbase).below (Below.refl _ _) (Nat.le_refl _))
          have HC2 := Hide.mk hcu
          clear hlt2 hge hcu hvu2 hvu' HI ou
          go_wp2_with fail
          refine C8.out.mono ?_
          rintro e w5 ⟨rfl, hb5⟩
          have hbw5 := below_then hbw3 hb5
          have HK5 := Hide.mk (HK3.out.below hb5 HK3.out.lt)
          have HO5 := Hide.mk (HO2.out.below hb5 (Nat.le_refl _))
          clear C8 HK3 hb5
          go_wp2
          go_roundw
          case rel => exact ⟨m, q, zu, by omega, by go_num, HO5, HC2, HK5, HN, hbw5⟩
          case measure => simp [intOf]; try omega
      · rw [hbit] at C7
        have HBIT := Hide.mk hbit
        clear hbit
        have C7b := Hide.mk (refAdd23 au (some ⟨w3.heap.size, 0, none⟩) cu 1 zu [1] _ ((ownLie ou).below (below_alloc w3 (.cells #[.int .u32 1] 49)) (Nat.le_refl _)) (lie_new w3 [1]) hcu.1 (Nt.rng_mem (by simp)) (by
          have h1 : zu.length ≤ zb.length + 1 := by
            refine (Nt.can_len hcu _).1 ?_
            have h1 := HI.out.r1
            have h2 := VB.out.2
            rw [hvu, Nt.pw_succ]
            have := Nt.pw_pos zb.length
            omega
          omega) (by simp))
        rw [hvu, val_one] at C7b
        have hbw3a := below_then hbw3 (below_alloc w3 (.cells #[.int .u32 1] 49))
        have HK3a := Hide.mk (HK3.out.below (below_alloc w3 (.cells #[.int .u32 1] 49)) HK3.out.lt)
        clear ou hcu hvu
        go_wp2_with fail
        refine C7.out.mono ?_
        rintro e w' ⟨rfl, rfl⟩
        go_wp2_with fail
        refine C7b.out.mono ?_
        rintro e w4 ⟨z2, a2, c2, rfl, o2, hc2, hv2, hb4⟩
        have hbw4 := below_then hbw3a hb4
        have HK4 := Hide.mk (HK3a.out.below hb4 HK3a.out.lt)
        have hbase := HK3a.out.lt
        clear C7 C7b hb4 HK3 HK3a hbw3 hbw3a
        have hv2' : Nt.val z2 = 2 * Nt.val zr + Nt.val za / 2 ^ m % 2 := by rw [hv2, HBIT.out]
        have hl2 : z2.length ≤ zb.length + 1 := by
          refine (Nt.can_len hc2 _).1 ?_
          have h1 := HI.out.r1
          have h2 := VB.out.2
          have h3 := HI.out.r0
          have hbb : Nt.val za / 2 ^ m % 2 < 2 := Int.emod_lt_of_pos _ (by decide)
          rw [hv2', Nt.pw_succ]
          have := Nt.pw_pos zb.length
          omega
        have C8 := Hide.mk (refCmp22 a2 b c2 cb z2 zb w4 (ownLie o2) (HBL.out.below hbw4 (Nat.le_refl _)) hc2 QB.out (by unfold maxLen; omega))
        have hgq4 := HK4.out.lt
        by_cases hge : Nt.val zb ≤ Nt.val z2
        · have hsg : 0 ≤ sgn (Nt.val z2) (Nt.val zb) := by unfold sgn; split <;> (try split) <;> omega
          have HY := Hide.mk (HI.out.yes (d := q.getD (m / 32) 0) (wh := m / 32) (p := m % 32) (by rw [← hv2']; exact hge) (by omega) (Nat.mod_lt _ (by decide)) (by omega) rfl)
          have C9 := fun W (h : Below w4.heap.size w4 W) => Hide.mk (refSub24 a2 b c2 cb z2 zb W ((ownLie o2).below h (Nat.le_refl _)) (HBL.out.below (below_then hbw4 h) (Nat.le_refl _)) hc2.1 QB.out.1 (by omega) ((Nt.can_len QB.out _).1 (by have := (Nt.val_bd hc2.1).2; omega)) hge)
          have HV2 := Hide.mk hv2'
          clear hge hc2 hv2 hv2' HI o2
          generalize sgn (Nt.val z2) (Nt.val zb) = sg at *
          go_wp2_with fail
          refine C8.out.mono ?_
          rintro e w5 ⟨rfl, hb5⟩
          have hbw5 := below_then hbw4 hb5
          have C10 := C9 w5 hb5
          have HK5 := Hide.mk (HK4.out.below hb5 HK4.out.lt)
          clear C8 C9 HK4 hb5
          go_wp2_with fail
          refine C10.out.mono ?_
          rintro e w6 ⟨z3, a3, c3, rfl, o3, hc3, hv3, hb6⟩
          have hbw6 := below_then hbw5 hb6
          have HK6 := Hide.mk (HK5.out.below hb6 HK5.out.lt)
          have hwl : m / 32 < q.length := by rw [hlq.out]; omega
          have hcq := HK6.out.cell hwl
          have hfq := HK6.out.frozen (m / 32)
          have hset := fun x => Hide.mk (HK6.out.set (m / 32) x)
          have hrq := HRQ.out (m / 32)
          have hor := or32_bit (q.getD (m / 32) 0) (m % 32) (Nat.mod_lt _ (by decide)) hrq.1 hrq.2 HY.out.2.1
          have htp := two_pow_le (m % 32) (Nat.mod_lt _ (by decide))
          have hup := HY.out.2.2
          have HC3 := Hide.mk hc3
          have HV3 : Hide (BitInv za zb (q.set (m / 32) (q.getD (m / 32) 0 + 2 ^ (m % 32))) (Nt.val z3) m) := ⟨by rw [hv3, HV2.out]; exact HY.out.1⟩
          have HSO : Hide (∀ x, Own (w.heap.size + 1) ((w6.setCell ⟨w.heap.size, m / 32, none⟩ (.int .u32 x)).drew) (.slice a3 z3.length c3) z3) := ⟨fun x => (own_set_low (o3.mono (show w.heap.size + 1 ≤ w5.heap.size from HK5.out.lt)) (Nat.lt_succ_self _)).below (Below.refl _ _).drew (Nat.le_refl _)⟩
          have hdq : (m : Int) / 32 = ((m / 32 : Nat) : Int) := by omega
          have hdm : (m : Int) % 32 = ((m % 32 : Nat) : Int) := by omega
          have hp32 : m % 32 < 32 := Nat.mod_lt _ (by decide)
          have hwz : m / 32 < za.length := by omega
          clear C10 o3 hc3 hv3 HK5 hb6 HY hwl HV2 HK6 hbw5
          generalize q.getD (m / 32) 0 = dq at *
          generalize m / 32 = wh at *
          generalize m % 32 = p at *
          have hone : (1 : Int) * 2 ^ p = 2 ^ p := Int.one_mul _
          go_wp2
          go_region
          all_goals go_wp2
          go_roundw
          case rel => exact ⟨m, _, z3, by omega, by go_num, ⟨HSO.out _⟩, HC3, ⟨(hset _).out.drew⟩, HV3, (hbw6.setCell (Nat.le_refl _) _).drew⟩
          case measure => simp [intOf]; try omega
        · have hlt2 : sgn (Nt.val z2) (Nt.val zb) = -1 := sgn_lt (by omega)
          rw [hlt2] at C8
          have HN : Hide (BitInv za zb q (Nt.val z2) m) := ⟨by rw [hv2']; exact HI.out.no (by rw [← hv2']; omega)⟩
          have HOO := Hide.mk ((o2.mono hbase).below (Below.refl _ _) (Nat.le_refl _))
          have HC2 := Hide.mk hc2
          clear hlt2 hge hc2 hv2 hv2' HI o2
          go_wp2_with fail
          refine C8.out.mono ?_
          rintro e w5 ⟨rfl, hb5⟩
          have hbw5 := below_then hbw4 hb5
          have HK5 := Hide.mk (HK4.out.below hb5 HK4.out.lt)
          have HO5 := Hide.mk (HOO.out.below hb5 (Nat.le_refl _))
          clear C8 HK4 hb5
          go_wp2
          go_roundw
          case rel => exact ⟨m, q, z2, by omega, by go_num, HO5, HC2, HK5, HN, hbw5⟩
          case measure => simp [intOf]; try omega
    | zero =>
      have HF : Hide (Nt.val za = Nt.val q * Nt.val zb + Nt.val zr ∧ Nt.val zr < Nt.val zb) := ⟨by
        obtain ⟨Q, e1, e2⟩ := HI.out.ex
        rw [Int.pow_zero, Int.mul_one] at e1
        rw [Int.pow_zero, Int.ediv_one] at e2
        rw [e1, e2]
        exact ⟨rfl, HI.out.r1⟩⟩
      have HT := Hide.mk (fun hc hm => trim36 _ q.length q wr (HK.out.lie (n := 0)) hc hm)
      have HOW := fun n hn hm => Hide.mk (HK.out.own (B := w.heap.size) (n := n) (Nat.le_refl _) hn hm)
      rw [hlq.out] at HT HOW
      have HVE := Hide.mk hve
      have ho2 := HO.out
      rw [hve] at ho2
      have HO3 := Hide.mk (ho2.mono (Nat.le_succ w.heap.size))
      rw [hve]
      clear HI HK hlr hzc hcm HO ho2 hve
      go_wp2_with fail
      refine (HT.out (Nat.le_refl _) (by unfold maxLen; omega)).mono ?_
      rintro e w' ⟨rfl, n, hn, rfl, hz9, hd9⟩
      have HG : Hide (Divs w wr za zb two (.returned (two (.slice (some ⟨w.heap.size, 0, none⟩) n za.length) (.slice ar zr.length cr)))) := ⟨by
        have hln : (q.take n).length = n := by rw [List.length_take, hlq.out]; omega
        exact ⟨q.take n, zr, some ⟨w.heap.size, 0, none⟩, za.length, ar, cr, by rw [hln], by rw [hln]; exact (HOW n hn (by unfold maxLen; omega)).out, HO3.out, Nt.can_take HRQ.out (by rw [hlq.out]; exact hn) hd9, HC.out, by rw [Nt.val_take hz9 (by rw [hlq.out]; exact hn)]; exact HF.out.1, HF.out.2, hbel⟩⟩
      clear hz9 hd9 HT HOW
      go_wp2
      go_ret2
      exact HG.out
end Go.Proofs.Ytcjmamlffbhnlaa
