import Derived.Test.YtcjmamlffbhnlaaW30
namespace Go.Proofs.Ytcjmamlffbhnlaa
open Go.RowKit
set_option linter.unusedVariables false
theorem RootInv.start {n : Int} {BL c : Nat} (hb : Bits n BL) (hc : c = (BL - 1) / 2) (h1 : 1 ≤ BL) : RootInv n c 0 1 ∧ (2 : Int) ^ (2 * c) ≤ n := by
  obtain ⟨hlt, hle⟩ := hb
  have e1 : (2 : Int) ^ BL = 2 * 2 ^ (BL - 1) := by
    obtain ⟨k, rfl⟩ : ∃ k, BL = k + 1 := ⟨BL - 1, by omega⟩
    rw [Int.pow_succ, Nat.add_sub_cancel]; omega
  have lo : (2 : Int) ^ (2 * c) ≤ n := by
    have := p2mono (show 2 * c ≤ BL - 1 by omega)
    omega
  have hi : n < 2 ^ (2 * c) * 4 := by
    have := p2mono (show BL ≤ 2 * c + 2 by omega)
    rw [Int.pow_add] at this
    have e : (2 : Int) ^ 2 = 4 := by decide
    omega
  refine ⟨⟨by decide, ?_, ?_⟩, lo⟩
  · rw [Nat.sub_zero]
    have : 1 ≤ n / 2 ^ (2 * c) := Int.le_ediv_of_mul_le (p2pos _) (by omega)
    omega
  · rw [Nat.sub_zero]
    have : n / 2 ^ (2 * c) < 4 := Int.ediv_lt_of_lt_mul (p2pos _) (by omega)
    omega
theorem RootInv.len {n a : Int} {c d : Nat} (h : RootInv n c d a) (hn : 0 ≤ n) : a ≤ n + 1 := by
  have h1 := h.lo
  have h2 := h.one
  have h3 : n / 2 ^ (2 * (c - d)) ≤ n := Int.ediv_le_self _ hn
  have h4 : (a - 1) * 1 ≤ (a - 1) * (a - 1) ∨ a = 1 := by
    by_cases e : a = 1
    · exact .inr e
    · exact .inl (Int.mul_le_mul_of_nonneg_left (by omega) (by omega))
  rcases h4 with h4 | h4 <;> omega
theorem shr_div (c j : Nat) : (c : Int) / 2 ^ j = ((c / 2 ^ j : Nat) : Int) := by
  rw [Int.natCast_ediv]; simp
/-- The counts of one step. -/
theorem root_counts {c S k j : Nat} (hS : c < 2 ^ S) (hS2 : 2 ^ S ≤ 2 * c) (hj : S = k + 1 + j) : c / 2 ^ (S - k) < c / 2 ^ j ∧ c / 2 ^ j ≤ c ∧ c / 2 ^ j ≤ 2 * (c / 2 ^ (S - k)) + 1 := by
  have e : c / 2 ^ (S - k) = c / 2 ^ j / 2 := by
    rw [show S - k = j + 1 by omega, Nat.pow_succ, Nat.div_div_eq_div_mul]
  have h1 : 1 ≤ c / 2 ^ j := by
    refine (Nat.le_div_iff_mul_le (Nat.pow_pos (by decide))).2 ?_
    have : 2 ^ S = 2 ^ (k + 1) * 2 ^ j := by rw [hj, Nat.pow_add]
    have h2 : 2 * 2 ^ j ≤ 2 ^ (k + 1) * 2 ^ j := Nat.mul_le_mul_right _ (by
      rw [Nat.pow_succ]
      have : 1 ≤ 2 ^ k := Nat.pow_pos (by decide)
      omega)
    omega
  rw [e]
  exact ⟨by omega, Nat.div_le_self _ _, by omega⟩

theorem up_val (x : Int) (u : Nat) : x * 2 ^ (u % 32) * 4294967296 ^ (u / 32) = x * 2 ^ u := by
  rw [pow2_split u (u / 32) (u % 32) (by omega), Int.mul_assoc, Int.mul_comm (2 ^ (u % 32))]
theorem up_len {zu zr : List Int} {u : Nat} (ku : Nt.Can zu) (kr : Nt.Can zr) (hv : Nt.val zu = Nt.val zr * 2 ^ u) : zu.length ≤ zr.length + (u / 32 + 1) := by
  refine (Nt.can_len ku _).1 ?_
  have h1 := Nt.val_bd kr.1
  have h2 : (2 : Int) ^ u ≤ 4294967296 ^ (u / 32 + 1) := by
    have := p2mono (show u ≤ 32 * (u / 32 + 1) by omega)
    rw [Int.pow_mul, show (2 : Int) ^ 32 = 4294967296 by decide] at this
    exact this
  have a1 : Nt.val zr * 2 ^ u ≤ Nt.val zr * 4294967296 ^ (u / 32 + 1) := Int.mul_le_mul_of_nonneg_left h2 h1.1
  have a2 : Nt.val zr * 4294967296 ^ (u / 32 + 1) < 4294967296 ^ zr.length * 4294967296 ^ (u / 32 + 1) := Int.mul_lt_mul_of_pos_right h1.2 (Nt.pw_pos _)
  rw [← Nt.pw_add] at a2
  rw [hv]; omega

set_option maxHeartbeats 4000000 in
set_option maxRecDepth 100000 in
theorem near49 (a : Option Addr) (ca : Nat) (za : List Int) (w : World) (ha : Lie w a za) (ra : Nt.Rng za) (pa : mayB za = true) (hn : 0 < za.length) :
    Calls Try.prog 49 #[.slice a za.length ca] w fun e w' => ∃ v zr, e = .returned v ∧ Own w.heap.size w' v zr ∧ Nt.Can zr ∧ Below w.heap.size w w' ∧ 1 ≤ Nt.val zr ∧ (Nt.val zr - 1) * (Nt.val zr - 1) < Nt.val za ∧ Nt.val za < (Nt.val zr + 1) * (Nt.val zr + 1) := by
  obtain ⟨qa, la⟩ := may_can ra pa
  have C1 := Hide.mk (nlen60 a ca za w ha ra pa hn)
  have HA := Hide.mk ha
  have RA := Hide.mk ra
  have VA := Hide.mk (Nt.val_bd ra)
  clear ha ra pa qa
  go_enter Try.func49, Try.ntmps49
  go_wp2_with fail
  refine C1.out.mono ?_
  rintro e w' ⟨rfl, BL, rfl, hbits, hB1, hB2⟩
  obtain ⟨c, hc⟩ : ∃ c, c = (BL - 1) / 2 := ⟨_, rfl⟩
  have hst := RootInv.start hbits hc hB1
  have hci : ((BL : Int) - 1) / 2 = (c : Int) := by omega
  have HST := Hide.mk hst
  have hcb : 2 * c + 1 ≤ BL := by omega
  have hcb2 : c ≤ 65536 := by omega
  obtain ⟨S, hS⟩ : ∃ S, Lib.bitLen c = S := ⟨_, rfl⟩
  have hSb := bitLen_bd 17 c (by have e : (2 : Nat) ^ 17 = 131072 := by decide
                                 omega) (by decide)
  rw [hS] at hSb
  have HSB := Hide.mk hSb
  have hS17 : S ≤ 17 := hSb.2.2
  have C2 := Hide.mk (len61 (c : Int) w (by omega) (by omega) S (by rw [Int.toNat_natCast]; exact hS))
  have HS0 : Hide (c = 0 → S = 0) := ⟨fun e => by rw [← hS, e]; decide⟩
  clear hst hbits hc hSb hS C1
  go_wp2_with fail
  refine C2.out.mono ?_
  rintro e w' ⟨rfl, rfl⟩
  go_wp2_with fail
  refine (of16 1 (by decide) (by decide) w).mono ?_
  rintro e w1 ⟨z1, a1, c1, rfl, hnum, ho1⟩
  have HO1 := Hide.mk ho1
  have HN1 := Hide.mk hnum
  clear ho1 hnum C2
  go_wp2
  go_loopw [5, 6, 21] (fun r kn i wr => ∃ (k : Nat) (zr : List Int) (v : Value), k ≤ S ∧ i = .int .i64 k ∧ kn = .int .i64 ((c / 2 ^ (S - k) : Nat) : Int) ∧ r = v ∧ Hide (Own w.heap.size wr v zr) ∧ Hide (Nt.Can zr) ∧ Hide (RootInv (Nt.val za) c (c / 2 ^ (S - k)) (Nt.val zr)) ∧ Below w.heap.size w wr) (fun _ _ i _ => S - (intOf i).toNat)
  case atStart =>
    refine ⟨0, z1, _, Nat.zero_le _, rfl, ?_, rfl, ⟨HO1.out⟩, ⟨HN1.out.can⟩, ?_, HN1.out.bel⟩
    · rw [Nat.sub_zero, Nat.div_eq_of_lt HSB.out.1]; rfl
    · refine ⟨?_⟩
      rw [Nat.sub_zero, Nat.div_eq_of_lt HSB.out.1, HN1.out.val]; exact HST.out.1
  case round =>
    obtain ⟨k, zr, v, hk, rfl, rfl, rfl, HO, HC, HI, hbel⟩ := hrel
    clear HO1 HN1
    by_cases hlt : k < S
    · obtain ⟨j, hj⟩ : ∃ j, S = k + 1 + j := ⟨S - k - 1, by omega⟩
      have hc0 : c ≠ 0 := by
        intro e
        have := HS0.out e
        omega
      have hcnt := root_counts HSB.out.1 (HSB.out.2.1 hc0) hj
      have hji : (S : Int) - 1 - (k : Int) = (j : Int) := by omega
      have hsh := shr_div c j
      have e2 : S - (k + 1) = j := by omega
      have E2 := Hide.mk e2
      clear hj hc0 e2
      generalize hde : c / 2 ^ (S - k) = e at *
      generalize hdd : c / 2 ^ j = d at *
      have HDD := Hide.mk hdd
      clear hde hdd
      have hstep := Hide.mk (HI.out.step hcnt.1 hcnt.2.1 hcnt.2.2 HST.out.2)
      have hal := HI.out.len VA.out.1
      have hone := HI.out.one
      -- how many bits fall off
      obtain ⟨t, ht⟩ : ∃ t : Nat, t = 2 * c - e - d + 1 := ⟨_, rfl⟩
      have hti : 2 * (c : Int) - (e : Int) - (d : Int) + 1 = (t : Int) := by omega
      obtain ⟨u, hu⟩ : ∃ u : Nat, u = d - e - 1 := ⟨_, rfl⟩
      have hui : (d : Int) - (e : Int) - 1 = (u : Int) := by omega
      rw [← ht, ← hu] at hstep
      have ht32 : t / 32 ≤ za.length := by omega
      have htb : t ≤ 200000 := by omega
      have hub : u ≤ 70000 := by omega
      have C3 := Hide.mk (shiftDown62 a ca za wr (t : Int) (t / 32) (t % 32) (by omega) (by omega) (by omega) (by omega) (Nat.mod_lt _ (by decide)) ht32 (HA.out.below hbel (Nat.le_refl _)) RA.out (by omega))
      rw [← pow2_split t (t / 32) (t % 32) (by omega)] at C3
      obtain ⟨ar, cr, hve, hzc, hcm, hlr⟩ := HO.out.lie
      have hlr0 : 0 < zr.length := by
        by_cases g : zr.length = 0
        · have : zr = [] := List.length_eq_zero_iff.1 g
          subst this
          rw [Nt.val_nil] at hone
          omega
        · omega
      have hlr2 : zr.length ≤ za.length + 1 := by
        refine (Nt.can_len HC.out _).1 ?_
        have := VA.out.2
        rw [Nt.pw_succ]
        have := Nt.pw_pos za.length
        omega
      have C4 := fun W (h : Below wr.heap.size wr W) zp ap cp (hp : Lie W ap zp) kp (hlp : zp.length ≤ 90000) => Hide.mk (div43 ap ar cp cr zp zr W hp (hlr.below h (Nat.le_refl _)) kp HC.out hlr0 hlp)
      have C5 := fun W (h : Below wr.heap.size wr W) => Hide.mk (shiftUp63 ar cr zr W (u : Int) (u / 32) (u % 32) (by omega) (by omega) (by omega) (by omega) (Nat.mod_lt _ (by decide)) (by omega) (hlr.below h (Nat.le_refl _)) HC.out.1 (by omega))
      have VE := Hide.mk hve
      clear hcnt HI HO hlr hzc ht hu hal
      rw [VE.out]
      clear hve
      go_wp2_with fail
      refine C3.out.mono ?_
      rintro e w2 ⟨vp, zp, rfl, hop, hcp, hvp, hb2⟩
      have hlp : zp.length ≤ za.length := by
        refine (Nt.can_len hcp _).1 ?_
        have h1 := VA.out
        have h2 : Nt.val za / 2 ^ t ≤ Nt.val za := Int.ediv_le_self _ h1.1
        omega
      obtain ⟨ap, cp, hpe, _, _, hlpp⟩ := hop.lie
      have C6 := C4 w2 hb2 zp ap cp hlpp hcp (by omega)
      have HVP := Hide.mk hvp
      rw [hpe]
      clear C3 C4 hop hcp hvp hlpp hpe
      go_wp2_with fail
      refine C6.out.mono ?_
      rintro e w3 ⟨zq, zs, aq, cq, as1, cs1, rfl, oq, os1, kq, ks, heq, hlt3, hb3⟩
      have hb23 := below_then hb2 hb3
      have hq : Hide (Nt.val zq = Nt.val za / 2 ^ t / Nt.val zr) := ⟨by
        rw [HVP.out] at heq
        have h0 := (Nt.val_bd ks.1).1
        rw [heq, Int.add_comm, Int.mul_comm, Int.add_mul_ediv_left _ _ (by omega), Int.ediv_eq_zero_of_lt h0 hlt3]; omega⟩
      have hlq : zq.length ≤ za.length + 1 := by
        refine (Nt.can_len kq _).1 ?_
        have h1 := VA.out
        have h2 : Nt.val za / 2 ^ t ≤ Nt.val za := Int.ediv_le_self _ h1.1
        have h3 : Nt.val za / 2 ^ t / Nt.val zr ≤ Nt.val za / 2 ^ t := Int.ediv_le_self _ (Int.ediv_nonneg h1.1 (Int.le_of_lt (p2pos _)))
        rw [hq.out, Nt.pw_succ]
        have := Nt.pw_pos za.length
        omega
      have C7 := C5 w3 hb23
      have HLQ := Hide.mk (ownLie oq)
      have KQ := Hide.mk kq
      have hbw3 := below_then hbel hb23
      clear C5 C6 oq os1 kq ks heq hlt3 hb2 hb3 HVP
      unfold two
      go_wp2_with fail
      refine C7.out.mono ?_
      rintro e w4 ⟨vu, zu, rfl, ou, ku, hvu, hb4⟩
      obtain ⟨au, cu, hue, _, _, hlu⟩ := ou.lie
      have hvu2 : Nt.val zu = Nt.val zr * 2 ^ u := hvu.trans (up_val _ u)
      have hlenu : zu.length ≤ zr.length + (u / 32 + 1) := up_len ku HC.out hvu2
      have C8 := Hide.mk (sum40 au aq cu cq zu zq w4 hlu (HLQ.out.below hb4 (Nat.le_refl _)) ku.1 KQ.out.1 (by omega) (by omega))
      have HVU := Hide.mk hvu2
      have hbw4 := below_then hbw3 hb4
      rw [hue]
      clear C7 ou ku hvu hvu2 hue hlu hb4 hbw3 HLQ KQ
      go_wp2_with fail
      refine C8.out.mono ?_
      rintro e w5 ⟨vr, zn, rfl, on, kn, hvn, hb5⟩
      have HON := Hide.mk (on.mono hbw4.size)
      have HKN := Hide.mk kn
      have HINV : Hide (RootInv (Nt.val za) c d (Nt.val zn)) := ⟨by rw [hvn, HVU.out, hq.out]; exact hstep.out⟩
      have hbw5 := below_then hbw4 hb5
      clear C8 on kn hvn hb5 hbw4 hstep HVU
      go_wp2
      go_roundw
      case rel => exact ⟨k + 1, zn, _, hlt, by go_num, by rw [E2.out, HDD.out], rfl, HON, HKN, by rw [E2.out, HDD.out]; exact HINV, hbw5⟩
      case measure => simp [intOf]; omega
    · have hfin : RootInv (Nt.val za) c c (Nt.val zr) := by
        have e : S - k = 0 := by omega
        have := HI.out
        rw [e, Nat.pow_zero, Nat.div_one] at this; exact this
      have h1 := hfin.one
      have h2 := hfin.lo
      have h3 := hfin.hi
      rw [Nat.sub_self, Nat.mul_zero, Int.pow_zero, Int.ediv_one] at h2 h3
      have HF := Hide.mk (And.intro h2 h3)
      clear hfin h2 h3 HI
      go_wp2
      go_ret
      exact ⟨_, zr, rfl, HO.out, HC.out, hbel, h1, HF.out.1, HF.out.2⟩
end Go.Proofs.Ytcjmamlffbhnlaa
