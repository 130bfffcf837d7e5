import Derived.Test.YtcjmamlffbhnlaaW26
namespace Go.Proofs.Ytcjmamlffbhnlaa
open Go.RowKit
set_option linter.unusedVariables false
theorem ownLie {B : Nat} {w : World} {a : Option Addr} {n c : Nat} {zs : List Int} (h : Own B w (.slice a n c) zs) : Lie w a zs := by
  obtain ⟨a', c', he, _, _, hl⟩ := h.lie
  simp only [Value.slice.injEq] at he
  rw [he.1]; exact hl
theorem pow2_split (n wh p : Nat) (h : n = 32 * wh + p) : (2 : Int) ^ n = 4294967296 ^ wh * 2 ^ p := by
  subst h
  rw [Int.pow_add, Int.pow_mul]
  rfl
theorem LongInv.start {zu zv za zb : List Int} {p n ee m : Nat} (cu : Nt.Can zu) (hv : Nt.val zu = Nt.val za * 2 ^ p) (hvv : Nt.val zv = Nt.val zb * 2 ^ p) (ca : Nt.Can za) (cb : Nt.Can zb) (hz : zb.length = m + 2) (he : za.length = m + 2 + ee) (hl : zu.length + n = za.length + 1) :
    LongInv (zu ++ List.replicate n 0) zv (zu ++ List.replicate n 0) (List.replicate (ee + 1) 0) (ee + 1) := by
  have hr := rng_app n cu.1
  refine ⟨rfl, hr, fun k => by rw [getD_rep]; decide, ?_, ?_⟩
  · rw [List.drop_eq_nil_of_le (by simp), Nt.val_nil]; omega
  · have hval : Nt.val (zu ++ List.replicate n 0) = Nt.val zu := by
      rw [val_append]
      have : Nt.val (List.replicate n (0 : Int)) = 0 := vp_rep _ _
      rw [this]; omega
    rw [val_drop_div hr (ee + 1) (by simp; omega), hval, hv, hvv]
    refine Int.ediv_lt_of_lt_mul (Nt.pw_pos _) ?_
    have h1 := (Nt.val_bd ca.1).2
    have h2 := can_ge cb (by omega)
    have hT : (0 : Int) < 2 ^ p := Int.pow_pos (by decide)
    have h3 : (4294967296 : Int) ^ (zb.length - 1) * 4294967296 ^ (ee + 1) ≤ Nt.val zb * 4294967296 ^ (ee + 1) := Int.mul_le_mul_of_nonneg_right h2 (Int.le_of_lt (Nt.pw_pos _))
    rw [← Nt.pw_add, hz, show m + 2 - 1 + (ee + 1) = za.length by omega] at h3
    have h4 : Nt.val za * 2 ^ p < Nt.val zb * 4294967296 ^ (ee + 1) * 2 ^ p := Int.mul_lt_mul_of_pos_right (by omega) hT
    have e : Nt.val zb * 2 ^ p * 4294967296 ^ (ee + 1) = Nt.val zb * 4294967296 ^ (ee + 1) * 2 ^ p := by grind
    rw [e]; exact h4
theorem splice_blk2 {w : World} {g n : Nat} {za : List Int} (hn : za.length ≤ n) (h : w.heap[g]? = some (.cells (splice ((List.replicate n (0 : Int)).map (Value.int .u32)) 0 (za.map (Value.int .u32))).toArray 49 (0, 0))) :
    Blk w g (za ++ List.replicate (n - za.length) 0) := by
  refine splice_blk (n := n - za.length) ?_
  rw [show za.length + (n - za.length) = n by omega]; exact h
theorem Lie.belowAt {w w' : World} {g o B : Nat} {zs : List Int} (h : Lie w (some ⟨g, o, none⟩) zs) (hb : Below B w w') (hg : g < B) : Lie w' (some ⟨g, o, none⟩) zs := by
  rcases h with h | ⟨b', o', he, hc⟩
  · exact .inl h
  · cases he
    refine .inr ⟨g, o, rfl, fun i hi => ?_⟩
    rw [hb.cell (p := ⟨g, o + i, none⟩) hg]; exact hc i hi
theorem blk_grown {w w' : World} {g g' : Nat} {s : List Int} (h : Blk w g s) (hg : w.grownBy w' (some g')) (hne : g ≠ g') : Blk w' g s := (hg.block g h.lt (by simpa using hne)).trans h

set_option maxHeartbeats 4000000 in
theorem long58 (a b : Option Addr) (ca cb m : Nat) (za zb : List Int) (w : World) (ha : Lie w a za) (hb : Lie w b zb) (qa : Nt.Can za) (qb : Nt.Can zb) (hz : zb.length = m + 2) (hle : m + 2 ≤ za.length) (hm : za.length ≤ 90000) :
    Calls Try.prog 58 #[.slice a za.length ca, .slice b zb.length cb] w fun e w' => ∃ zq zr aq cq ar cr, e = .returned (.tuple #[.slice aq zq.length cq, .slice ar zr.length cr]) ∧ Own w.heap.size w' (.slice aq zq.length cq) zq ∧ Own w.heap.size w' (.slice ar zr.length cr) zr ∧ Nt.Can zq ∧ Nt.Can zr ∧ Nt.val za = Nt.val zq * Nt.val zb + Nt.val zr ∧ Nt.val zr < Nt.val zb ∧ Below w.heap.size w w' := by
  obtain ⟨i0, hi, hz0, hz1, hz2⟩ := info_parts Try.info49
  obtain ⟨bb, bo, rfl⟩ := lie_some hb (by omega)
  obtain ⟨ee, hee⟩ : ∃ ee, za.length = m + 2 + ee := ⟨za.length - (m + 2), by omega⟩
  have HE := Hide.mk hee
  clear hee
  have hc1 : w.cell? ⟨bb, bo + (m + 1), none⟩ = _ := lie_cell hb rfl (i := m + 1) (by omega)
  have ht0 : zb.getD (m + 1) 0 ≠ 0 := by have := qb.2 (by omega); rw [hz] at this; exact this
  have htr := qb.1 (m + 1)
  obtain ⟨L, eL, hL1, hL2, hL3, hL4⟩ := bitLen32 (zb.getD (m + 1) 0) (by omega) htr.2
  obtain ⟨p, hp⟩ : ∃ p : Nat, p = 32 - L := ⟨_, rfl⟩
  have hpI : (32 : Int) - (L : Int) = (p : Int) := by omega
  have hp31 : p < 32 := by omega
  have C1 := Hide.mk (lz66 (zb.getD (m + 1) 0) w htr.1 (by omega) L eL hL2)
  have C2 := Hide.mk (shiftUp63 (some ⟨bb, bo, none⟩) cb zb w (p : Int) 0 p (by omega) (by omega) (by omega) (by omega) hp31 (by omega) hb qb.1 (by omega))
  have C3 := fun W (h : Below w.heap.size w W) => Hide.mk (shiftUp63 a ca za W (p : Int) 0 p (by omega) (by omega) (by omega) (by omega) hp31 (by omega) (ha.below h (Nat.le_refl _)) qa.1 (by omega))
  have ND := fun zv cv hv => Hide.mk (norm_div (zv := zv) qb hz hL1 hL2 hL3 hL4 cv hv)
  rw [← hp] at ND
  rw [hpI] at C1
  have QA := Hide.mk qa
  have QB := Hide.mk qb
  have HZ := Hide.mk hz
  rw [hz] at C2 ⊢
  clear ha hb qa qb hz eL hL3 hL4 hpI ht0 hp hL1 hL2
  generalize zb.getD (m + 1) 0 = tb at *
  go_enter Try.func58, Try.ntmps58
  go_wp2_with fail
  refine C1.out.mono ?_
  rintro e w' ⟨rfl, rfl⟩
  go_wp2_with fail
  refine C2.out.mono ?_
  rintro e w1 ⟨v, zv, rfl, hov, hcv, hvv, hb1⟩
  have hvv2 : Nt.val zv = Nt.val zb * 2 ^ p := by rw [hvv]; simp
  have HN := ND zv hcv hvv2
  have hlv := HN.out.1
  obtain ⟨av, cv, hve, _⟩ := hov.lie
  rw [hve] at hov
  obtain ⟨gv, hgv, hgB, hrw, _⟩ := hov.rw (by omega)
  have hLv : Lie w1 (some ⟨gv, 0, none⟩) zv := by have := ownLie hov; rw [hgv] at this; exact this
  have HVV := Hide.mk hvv2
  have HCV := Hide.mk hcv
  have HLV := Hide.mk hLv
  have HGV : gv < w1.heap.size := hLv.lt (by omega) _ rfl
  rw [hve, hgv, hlv]
  clear hov hve hgv hrw hvv hvv2 hcv hLv ND C1 C2
  go_wp2_with (at_make; refine wpList_make_full _ rfl _ _ 22 rfl w1.heap.size 49 i0 (.int .u32 0) 1 Try.underlying22 hi hz0 hz1 .i64 .i64 _ _ (za.length + 1) rfl rfl (by omega) (by omega) (by rw [hz2]; omega) (by unfold maxLen; omega) (Nat.le_refl _) ?_; intro w2 hown hgrow; have hblk2 := Hide.mk (blk_made hown); have hbel2 := below_of_grown hgrow; clear hown hgrow)
  refine (C3 w2 (below_then hb1 hbel2)).out.mono ?_
  rintro e w3 ⟨vu, zu, rfl, hou, hcu, hvu, hb3⟩
  have hvu2 : Nt.val zu = Nt.val za * 2 ^ p := by rw [hvu]; simp
  have hlu : zu.length ≤ za.length + 1 := by
    refine (Nt.can_len hcu _).1 ?_
    have h1 := Nt.val_bd QA.out.1
    have h2 := two_pow_le p hp31
    rw [hvu2, Nt.pw_succ]
    have h3 : Nt.val za * 2 ^ p ≤ Nt.val za * 2147483648 := Int.mul_le_mul_of_nonneg_left h2.2 h1.1
    have := Nt.pw_pos za.length
    omega
  obtain ⟨au, cu, hue, _⟩ := hou.lie
  rw [hue] at hou
  have HLU := Hide.mk (ownLie hou)
  have HVU := Hide.mk hvu2
  have HCU := Hide.mk hcu
  have HK3 := Hide.mk (hblk2.out.below hb3 hblk2.out.lt)
  have hb13 := below_then (below_then hb1 hbel2) hb3
  have HLV3 := Hide.mk (HLV.out.below (below_then hbel2 hb3) (Nat.le_refl _))
  have hsz3 : w1.heap.size < w3.heap.size := by have := hblk2.out.lt; have := hb3.size; omega
  have hcs : Hide ((zu.map (Value.int .u32)).length = Nat.min zu.length (za.length + 1)) := ⟨by simp [Nat.min_def]; omega⟩
  have hfit : Hide (0 + (zu.map (Value.int .u32)).length ≤ ((List.replicate (za.length + 1) (0 : Int)).map (Value.int .u32)).length) := ⟨by simp; omega⟩
  rw [hue]
  clear hue hou hvu hvu2 hcu hblk2 hbel2 hb3 C3 HLV
  go_wp2_with (first
    | ((with_reducible apply at_copy); refine wpList_copy_splice rfl (.tmp 25) (.tmp 28) 22 22 rfl 49 Try.underlying22 Try.size49 (some ⟨w1.heap.size, 0, none⟩) au (za.length + 1) (za.length + 1) zu.length cu rfl rfl w1.heap.size 0 ((List.replicate (za.length + 1) 0).map (Value.int .u32)) 49 HK3.out (zu.map (Value.int .u32)) hcs.out (fun hp => ⟨rfl, HLU.out.src (by simpa using hp)⟩) hfit.out (oneCell_ints zu) w1.heap.size w3 (Below.refl _ _) (Nat.le_refl _) ?_; intro w4 hblk4 hbel4)
    | (at_make; refine wpList_make_full _ rfl _ _ 22 rfl w4.heap.size 49 i0 (.int .u32 0) 1 Try.underlying22 hi hz0 hz1 .i64 .i64 _ _ (ee + 1) rfl rfl (by have := HE.out; omega) (by have := HE.out; omega) (by rw [hz2]; have := HE.out; omega) (by unfold maxLen; have := HE.out; omega) (Nat.le_refl _) ?_; intro w5 hown hgrow; have hblk5 := Hide.mk (blk_made hown); have hbel5 := below_of_grown hgrow; clear hown hgrow))
  have hblk4' := splice_blk2 (n := za.length + 1) hlu hblk4.out
  have hz4 : w1.heap.size < w4.heap.size := by have := hbel4.size; omega
  have HK5 := Hide.mk (hblk4'.below hbel5 hz4)
  have HLV5 := Hide.mk ((HLV3.out.belowAt hbel4 HGV).below hbel5 (Nat.le_refl _))
  have hsz1 : w.heap.size ≤ w1.heap.size := hb1.size
  have HB5 := Hide.mk ((hb13.trans (hbel4.mono hsz1)).trans (hbel5.mono (by have := hb13.size; have := hbel4.size; omega)))
  have HS := Hide.mk (LongInv.start (n := za.length + 1 - zu.length) HCU.out HVU.out HVV.out QA.out QB.out HZ.out HE.out (by omega))
  generalize hU0 : zu ++ List.replicate (za.length + 1 - zu.length) 0 = U0 at *
  have hlU : U0.length = za.length + 1 := by rw [← hU0]; simp; omega
  have hvU : Nt.val U0 = Nt.val za * 2 ^ p := by
    rw [← hU0, val_append, show Nt.val (List.replicate (za.length + 1 - zu.length) (0 : Int)) = 0 from vp_rep _ _, HVU.out]; omega
  have HLEN := Hide.mk hlU
  have HVAL := Hide.mk hvU
  clear hU0 hlU hvU hblk4 hblk4' hbel4 hbel5 hb13 HLV3 HK3 HLU HVU HCU hb1 hi hz0 hz1 hz2 hcs hfit
  have HGQ : Hide (gv < w1.heap.size ∧ w1.heap.size < w4.heap.size) := ⟨HGV, hz4⟩
  generalize w1.heap.size = gu at *
  generalize w4.heap.size = gq at *
  go_loopw [39] (fun i wr => ∃ (k : Nat) (U Q : List Int), k ≤ ee + 1 ∧ i = .int .i64 k ∧ Hide (Blk wr gu U) ∧ Hide (Blk wr gq Q) ∧ Hide (Q.length = ee + 1) ∧ Hide (LongInv U0 zv U Q (ee + 1 - k)) ∧ Hide (Lie wr (some ⟨gv, 0, none⟩) zv) ∧ Below w.heap.size w wr) (fun i _ => ee + 1 - (intOf i).toNat)
  case atStart => exact ⟨0, _, _, Nat.zero_le _, rfl, HK5, hblk5, ⟨by simp⟩, HS, HLV5, HB5.out⟩
  case round =>
    obtain ⟨k, U, Q, hk, rfl, HU, HQ, HQL, HI, HL, hbel⟩ := hrel
    clear HK5 hblk5 HS HLV5 HB5
    have hzl := HE.out
    have HEL := Hide.mk hzl
    have hUl : Hide (U.length = m + 2 + ee + 1) := ⟨by rw [HI.out.lu, HLEN.out]; omega⟩
    clear hzl
    by_cases hlt : k < ee + 1
    · obtain ⟨t, ht⟩ : ∃ t, ee = k + t := ⟨ee - k, by omega⟩
      have e1 : ee + 1 - k = t + 1 := by omega
      have e2 : ee + 1 - (k + 1) = t := by omega
      have E2 := Hide.mk e2
      have HT := Hide.mk ht
      have hi2 := HI.out
      rw [e1] at hi2
      have hpl : (U.take t).length = t := by rw [List.length_take, hUl.out]; omega
      have hdl : (U.drop t).length = m + 3 + k := by rw [List.length_drop, hUl.out]; omega
      have hw := hi2.window (m := m) (by rw [hUl.out]; omega) hlv HCV.out.1
      have htd : U.take t ++ U.drop t = U := List.take_append_drop t U
      have hn := fun c => Hide.mk (next67 gu t c gv 0 cv m (U.take t) (U.drop t) zv wr (by rw [htd]; exact HU.out) hpl hlv (by omega) (by rw [htd, hUl.out]; have := HEL.out; omega) HL.out (Nat.ne_of_lt HGQ.out.1) (rng_drop hi2.ru t) HCV.out.1 HN.out.2 (by rw [hw.1]; exact hw.2.2))
      have hstep := fun T q (h : Next (U.drop t) zv T q) => Hide.mk (hi2.step (m := m) (by rw [hUl.out]; omega) (by rw [HQL.out]; omega) hlv HCV.out.1 h)
      have hcapb : t + m + 3 ≤ za.length + 1 := by have := HEL.out; omega
      clear e1 e2 hi2 hpl hdl hw htd HI ht
      have hpi : (ee : Int) - (k : Int) = (t : Int) := by have := HT.out; omega
      have hb9 : ee ≤ 90000 := by have := HEL.out; omega
      have hti : (t : Int) < (ee : Int) + 1 := by have := HT.out; omega
      go_wp2_with fail
      rw [show t + (m + 2) + 1 - t = m + 3 by omega]
      refine (hn _).out.mono ?_
      rintro e w6 ⟨T, qd, rfl, hk6, hnx, hg6⟩
      have HK6 := Hide.mk hk6
      have HQ6 := Hide.mk (blk_grown HQ.out hg6 (Ne.symm (Nat.ne_of_lt HGQ.out.2)))
      have HI6 := hstep T qd hnx
      have hL6 := Hide.mk (HL.out.grown hg6 (fun _ x hx => by cases hx; exact Nat.ne_of_lt HGQ.out.1))
      have hB6 := hbel.grown hg6 (by have := hbel.size; omega) (fun j hj => by cases hj; exact hsz1)
      have hcq := HQ6.out.cell (j := t) (by rw [HQL.out]; have := HT.out; omega)
      have hfq := HQ6.out.frozen t
      have hsq := Hide.mk (HQ6.out.set t qd)
      have hsu : Hide (Blk (w6.setCell ⟨gq, t, none⟩ (.int .u32 qd)) gu (U.take t ++ T)) := ⟨(Below.heap_setCell w6 ⟨gq, t, none⟩ (.int .u32 qd) gu (Nat.ne_of_lt HGQ.out.2)).trans HK6.out⟩
      have hsl : Hide (Lie (w6.setCell ⟨gq, t, none⟩ (.int .u32 qd)) (some ⟨gv, 0, none⟩) zv) := ⟨hL6.out.grown (grown_set w6 gq t (.int .u32 qd)) (fun _ x hx => by cases hx; have := HGQ.out; show gv ≠ gq; omega)⟩
      clear hk6 hnx hg6 hn hstep HU HQ HL hbel HK6 HQ6 hL6
      generalize Q.getD t 0 = y at *
      go_wp2
      go_roundw
      case rel => exact ⟨k + 1, _, _, hlt, by go_num, hsu, hsq, ⟨by rw [List.length_set]; exact HQL.out⟩, ⟨by rw [E2.out]; exact HI6.out⟩, hsl, hB6.setCell (by have := HGQ.out; simp; omega) _⟩
      case measure => simp [intOf]; omega
    · have hi0 : LongInv U0 zv U Q 0 := by
        have e : ee + 1 - k = 0 := by omega
        have := HI.out
        rw [e] at this; exact this
      have hval : Nt.val za * 2 ^ p = Nt.val Q * (Nt.val zb * 2 ^ p) + Nt.val U := by
        have := hi0.eq
        rw [List.drop_zero, HVAL.out, HVV.out] at this
        rw [this]; simp
      have hlt2 : Nt.val U < Nt.val zb * 2 ^ p := by
        have := hi0.lt
        rw [List.drop_zero, HVV.out] at this; exact this
      have HF := Hide.mk (div_back (Int.pow_pos (by decide)) (Nt.val_bd hi0.ru).1 hval hlt2)
      have RQ := Hide.mk hi0.rq
      have HO := fun n hn hm => Hide.mk (HQ.out.own (B := w.heap.size) (n := n) (by have := HGQ.out; omega) hn hm)
      have HT1 := Hide.mk (fun hc hm => trim35 _ Q.length Q wr (HQ.out.lie (n := 0)) hc hm)
      have HSD := Hide.mk (shiftDown62 (some ⟨gu, 0, none⟩) (za.length + 1) U wr (p : Int) 0 p (by omega) (by omega) (by omega) (by omega) hp31 (by omega) (HU.out.lie (n := 0)) hi0.ru (by rw [hUl.out]; have := HEL.out; omega))
      have hul2 : U.length = za.length + 1 := by rw [hUl.out]; have := HEL.out; omega
      rw [hul2] at HSD
      rw [HQL.out] at HT1 HO
      clear hi0 hval hlt2 HU HQ HL HI hul2
      go_wp2_with fail
      refine (HT1.out (Nat.le_refl _) (by unfold maxLen; have := HEL.out; omega)).mono ?_
      rintro e w' ⟨rfl, n, hn, rfl, hzz, hdd⟩
      go_wp2_with fail
      refine HSD.out.mono ?_
      rintro e w7 ⟨vr, zr, rfl, hor, hcr, hvr, hb7⟩
      obtain ⟨ar, cr, hre, _⟩ := hor.lie
      have HFIN : Hide (∃ zq zr' aq cq ar' cr', Value.tuple #[Value.slice (some ⟨gq, 0, none⟩) n (ee + 1), vr] = .tuple #[.slice aq zq.length cq, .slice ar' zr'.length cr'] ∧ Own w.heap.size w7 (.slice aq zq.length cq) zq ∧ Own w.heap.size w7 (.slice ar' zr'.length cr') zr' ∧ Nt.Can zq ∧ Nt.Can zr' ∧ Nt.val za = Nt.val zq * Nt.val zb + Nt.val zr' ∧ Nt.val zr' < Nt.val zb ∧ Below w.heap.size w w7) := ⟨by
        have hlq : (Q.take n).length = n := by rw [List.length_take, HQL.out]; omega
        have hvr2 : Nt.val zr = Nt.val U / 2 ^ p := by rw [hvr]; simp
        have hvq : Nt.val (Q.take n) = Nt.val Q := Nt.val_take hzz (by rw [HQL.out]; exact hn)
        refine ⟨Q.take n, zr, some ⟨gq, 0, none⟩, ee + 1, ar, cr, by rw [hlq, hre], ?_, ?_, Nt.can_take RQ.out (by rw [HQL.out]; exact hn) hdd, hcr, ?_, ?_, below_then hbel hb7⟩
        · rw [hlq]; exact ((HO n hn (by unfold maxLen; have := HEL.out; omega)).out).below hb7 (Nat.le_refl _)
        · rw [← hre]; exact hor.mono hbel.size
        · rw [hvq, hvr2]; exact HF.out.1
        · rw [hvr2]; exact HF.out.2.2⟩
      clear hzz hdd hor hcr hvr hb7 HT1 HSD HO HF hre
      go_wp2
      go_ret2
      obtain ⟨zq, zr', aq, cq, ar', cr', h1, h2, h3, h4, h5, h6, h7, h8⟩ := HFIN.out
      exact ⟨zq, zr', aq, cq, ar', cr', congrArg Ending.returned h1, h2, h3, h4, h5, h6, h7, h8⟩
end Go.Proofs.Ytcjmamlffbhnlaa
