import Derived.Test.YtcjmamlffbhnlaaW36
namespace Go.Proofs.Ytcjmamlffbhnlaa
open Go.RowKit
set_option linter.unusedVariables false
theorem or64_low2 (l t : Int) (p : Nat) (hp : p ≤ 32) (h0 : 0 ≤ l) (h1 : l < 2 ^ p) (ht : 0 ≤ t) (ht' : t < 18446744073709551616) (hm : t % 2 ^ p = 0) : bits .or .u64 l t = l + t := by
  have hb := p2mono hp
  have e32 : (2 : Int) ^ 32 = 4294967296 := by decide
  rw [u64_or l t h0 (by omega) ht ht']
  have e : ((2 ^ p : Nat) : Int) = (2 : Int) ^ p := by simp
  have := nat_join p t.toNat l.toNat (by
    have h1 : ((t.toNat % 2 ^ p : Nat) : Int) = t % 2 ^ p := by
      rw [Int.natCast_emod, e, Int.toNat_of_nonneg ht]
    rw [hm] at h1
    omega) (by omega)
  rw [Nat.or_comm, this]; omega
theorem split_shift (ab x : Int) (p q : Nat) (h : p + q = 32) : (ab * 4294967296 + x) / 2 ^ p = x / 2 ^ p + ab * 2 ^ q := by
  have e : (4294967296 : Int) = 2 ^ p * 2 ^ q := by rw [← Int.pow_add, h]; decide
  have : ab * 4294967296 + x = x + 2 ^ p * (ab * 2 ^ q) := by rw [e]; grind
  rw [this, Int.add_mul_ediv_left _ _ (by have := p2pos p; omega)]
/-- After k digits of the reference's Down. -/
structure RDnInv (za s : List Int) (wh p : Nat) : Prop where
  rng : Nt.Rng s
  eq : Nt.vp s s.length + 4294967296 ^ s.length * (Nt.val (za.drop (wh + s.length)) / 2 ^ p) = Nt.val (za.drop wh) / 2 ^ p
theorem RDnInv.step {za s : List Int} {wh p : Nat} {x ab d : Int} (h : RDnInv za s wh p) (hp : p < 32) (ra : Nt.Rng za) (hk : wh + s.length < za.length) (hx : x = za.getD (wh + s.length) 0) (hab : ab = za.getD (wh + s.length + 1) 0) (hd : d = (ab * 4294967296 + x) / 2 ^ p % 4294967296) :
    RDnInv za (s ++ [d]) wh p := by
  have hxr := ra (wh + s.length)
  rw [← hx] at hxr
  refine ⟨rng_snoc h.rng (by omega) (by omega), ?_⟩
  have e := h.eq
  have dd := down_digit (Nt.val (za.drop (wh + s.length + 1))) ab x p hp (by rw [hab, val_drop_mod ra]) hxr.1 hxr.2
  rw [val_drop_step hk, ← hx, ← dd, ← hd] at e
  rw [List.length_append, List.length_singleton, vp_snoc, Nt.pw_succ, ← e, show wh + (s.length + 1) = wh + s.length + 1 by omega]
  generalize Nt.val (za.drop (wh + s.length + 1)) / 2 ^ p = r
  generalize (4294967296 : Int) ^ s.length = P
  grind
theorem RDnInv.done {za s : List Int} {wh p : Nat} (h : RDnInv za s wh p) (ra : Nt.Rng za) (hl : wh + s.length = za.length) : Nt.val s = Nt.val za / 2 ^ (32 * wh + p) := by
  have e := h.eq
  rw [hl, List.drop_eq_nil_of_le (Nat.le_refl _), Nt.val_nil, Int.zero_ediv, Int.mul_zero, Int.add_zero] at e
  rw [pow2_split (32 * wh + p) wh p rfl, ← Int.ediv_ediv_of_nonneg (Int.le_of_lt (Nt.pw_pos _)), ← val_drop_div ra wh (by omega)]
  exact e
theorem low_lost {x : Int} {t n : Nat} (h : LowBit x t) : decide (t < n) = decide (x % 2 ^ n ≠ 0) := by
  have h1 := Int.emod_add_mul_ediv x (2 ^ t)
  rw [h.zero] at h1
  have ho := h.one
  by_cases c : t < n
  · have : x % 2 ^ n ≠ 0 := by
      intro e
      obtain ⟨m, hm⟩ := Int.dvd_of_emod_eq_zero e
      obtain ⟨k, rfl⟩ : ∃ k, n = t + (k + 1) := ⟨n - t - 1, by omega⟩
      have e2 : x / 2 ^ t = 2 * (2 ^ k * m) := by
        rw [hm, Int.pow_add, Int.mul_assoc, Int.mul_ediv_cancel_left _ (by have := p2pos t; omega), Int.pow_succ]; grind
      omega
    simp [this, c]
  · have : x % 2 ^ n = 0 := by
      obtain ⟨k, rfl⟩ : ∃ k, t = n + k := ⟨t - n, by omega⟩
      refine Int.emod_eq_zero_of_dvd ⟨2 ^ k * (x / 2 ^ (n + k)), ?_⟩
      rw [← Int.mul_assoc, ← Int.pow_add]; omega
    simp [this, c]

/-- What the reference's Down answers. -/
def Downs (w w' : World) (x : Int) (n : Nat) (e : Ending) : Prop := ∃ zs a' c, e = .returned (.tuple #[.slice a' zs.length c, .bool (decide (x % 2 ^ n ≠ 0))]) ∧ Own w.heap.size w' (.slice a' zs.length c) zs ∧ Nt.Can zs ∧ Nt.val zs = x / 2 ^ n ∧ Below w.heap.size w w'

set_option maxHeartbeats 4000000 in
theorem refDown46 (a : Option Addr) (ca : Nat) (za : List Int) (w : World) (n : Nat) (hn1 : n ≤ 1000000) (ha : Lie w a za) (qa : Nt.Can za) (hz : 0 < za.length) (hm : za.length ≤ 100000) :
    Calls Try.prog 46 #[.slice a za.length ca, .int .i64 (n : Int)] w fun e w' => Downs w w' (Nt.val za) n e := by
  obtain ⟨ba, oa, rfl⟩ := lie_some ha hz
  have C1 := Hide.mk (refLen45 (some ⟨ba, oa, none⟩) ca za w ha qa hz (by omega))
  have C2 := Hide.mk (refLow59 (some ⟨ba, oa, none⟩) ca za w ha qa hz hm)
  have HA := Hide.mk ha
  have QA := Hide.mk qa
  have hzi : (0 : Int) < (za.length : Int) := by omega
  clear ha qa
  obtain ⟨wh, hwh⟩ : ∃ wh, wh = n / 32 := ⟨_, rfl⟩
  obtain ⟨p, hpp⟩ : ∃ p, p = n % 32 := ⟨_, rfl⟩
  obtain ⟨q, hqq⟩ : ∃ q, q = 32 - p := ⟨_, rfl⟩
  have hq : (n : Int) / 32 = (wh : Int) := by omega
  have hr : (n : Int) % 32 = (p : Int) := by omega
  have hp : p < 32 := by omega
  have hqi : (32 : Int) - (p : Int) = (q : Int) := by omega
  have HNW := Hide.mk (show n = 32 * wh + p by omega)
  have HPQ := Hide.mk (show p + q = 32 by omega)
  have hq32 : q ≤ 32 := by omega
  clear hwh hpp hqq
  go_enter Try.func46, Try.ntmps46
  go_wp2_with fail
  refine C1.out.mono ?_
  rintro e w' ⟨rfl, BL, rfl, hbits, hB1, hB2⟩
  by_cases hge : BL ≤ n
  · have HF : Hide (Downs w w (Nt.val za) n (.returned (.tuple #[.slice none 0 0, .bool true]))) := ⟨by
      have h1 := hbits.lt
      have h2 := p2mono hge
      have h3 := Nt.val_bd QA.out.1
      have h4 := can_ge QA.out hz
      have h5 := Nt.pw_pos (za.length - 1)
      refine ⟨[], none, 0, ?_, Own.nil _ _, Nt.can_nil, by rw [Nt.val_nil, Int.ediv_eq_zero_of_lt h3.1 (by omega)], Below.refl _ _⟩
      have : Nt.val za % 2 ^ n ≠ 0 := by rw [Int.emod_eq_of_lt h3.1 (by omega)]; omega
      simp [this]⟩
    go_wp2
    go_ret2
    exact HF.out
  · have HBW := Hide.mk (show wh < za.length by have := HNW.out; omega)
    clear hbits C1
    go_wp2_with fail
    refine C2.out.mono ?_
    rintro e w' ⟨rfl, t, rfl, hlow, htl⟩
    have HLOW := Hide.mk (low_lost (n := n) hlow)
    clear hlow C2 hge
    generalize hlost : decide (Nt.val za % 2 ^ n ≠ 0) = lost at *
    have HLS := Hide.mk hlost
    clear hlost
    go_wp2
    rw [hr, HLOW.out]
    go_loopw [7, 9] (fun v iv wr => ∃ (s : List Int), wh + s.length ≤ za.length ∧ iv = .int .i64 ((wh + s.length : Nat) : Int) ∧ Hide (Own w.heap.size wr v s) ∧ Hide (RDnInv za s wh p) ∧ Below w.heap.size w wr) (fun _ iv _ => za.length - (intOf iv).toNat)
    case atStart => exact ⟨[], by have := HBW.out; simp; omega, rfl, ⟨Own.nil _ _⟩, ⟨⟨Nt.rng_nil, by simp [Nt.vp]⟩⟩, Below.refl _ _⟩
    case round =>
      obtain ⟨s, hk, rfl, HO, HI, hbel⟩ := hrel
      clear hr
      by_cases hlt : wh + s.length < za.length
      · have hca := lie_cell (HA.out.below hbel (Nat.le_refl _)) rfl hlt
        have hrx := QA.out.1 (wh + s.length)
        have hrab := QA.out.1 (wh + s.length + 1)
        have hstep := fun x ab d => Hide.mk (fun h1 h2 h3 => HI.out.step (x := x) (ab := ab) (d := d) hp QA.out.1 hlt h1 h2 h3)
        have hsl : Hide (s.length ≤ 100000) := ⟨by omega⟩
        have hxd : ∀ x : Int, 0 ≤ x → x < 4294967296 → 0 ≤ x / 2 ^ p ∧ x / 2 ^ p < 2 ^ q ∧ x / 2 ^ p < 4294967296 := fun x h0 h1 => by
          refine ⟨Int.ediv_nonneg h0 (Int.le_of_lt (p2pos p)), Int.ediv_lt_of_lt_mul (p2pos p) ?_, ?_⟩
          · rw [← Int.pow_add, show q + p = 32 by have := HPQ.out; omega]; exact h1
          · have : x / 2 ^ p ≤ x := Int.ediv_le_self _ h0
            omega
        have hxx := hxd _ hrx.1 hrx.2
        have hmq : ∀ y : Int, 0 ≤ y → y < 4294967296 → 0 ≤ y * 2 ^ q ∧ y * 2 ^ q ≤ 18446744069414584320 ∧ y * 2 ^ q % 2 ^ q = 0 := fun y h0 h1 => by
          have h2 := p2mono hq32
          have h3 := p2pos q
          have e32 : (2 : Int) ^ 32 = 4294967296 := by decide
          rw [e32] at h2
          have h4 : y * 2 ^ q ≤ 4294967295 * 4294967296 := Int.mul_le_mul (by omega) h2 (by omega) (by decide)
          exact ⟨Int.mul_nonneg h0 (by omega), by omega, Int.mul_emod_left _ _⟩
        have hab := hmq _ hrab.1 hrab.2
        have hor := or64_low2 (za.getD (wh + s.length) 0 / 2 ^ p) (za.getD (wh + s.length + 1) 0 * 2 ^ q) q hq32 hxx.1 hxx.2.1 hab.1 (by omega) hab.2.2
        have hsp := Hide.mk (split_shift (za.getD (wh + s.length + 1) 0) (za.getD (wh + s.length) 0) p q HPQ.out)
        clear HI hxd hmq
        by_cases hlt2 : wh + s.length + 1 < za.length
        · have hcb := lie_cell (HA.out.below hbel (Nat.le_refl _)) rfl hlt2
          generalize hm2 : wh + s.length = m at *
          have HM := Hide.mk hm2
          clear hm2
          generalize za.getD m 0 = x at *
          generalize za.getD (m + 1) 0 = ab at *
          go_wp2_with (at_builtin; refine app1 rfl (.tmp 55) (.tmp 58) rfl w.heap.size _ s ((x / 2 ^ p + ab * 2 ^ q) % 4294967296) wr.heap.size rfl rfl (own_alloc HO.out _) (cell_new1 _ _) (by have := hsl.out; omega) (by have := hbel.size; simp; omega) ?_; intro v2 w2 hown2 hgrow)
          have hb2 := own_push HO.out hgrow hbel (by have := hbel.size; omega)
          have HO2 := Hide.mk hown2
          clear hown2 hgrow
          go_wp2
          go_roundw
          case rel => exact ⟨_, by rw [List.length_append, List.length_singleton]; have := HM.out; omega, by rw [List.length_append, List.length_singleton]; have := HM.out; go_num, HO2, ⟨(hstep x ab _).out rfl rfl (by rw [hsp.out])⟩, hb2⟩
          case measure => simp [intOf]; omega
        · have hab0 : za.getD (wh + s.length + 1) 0 = 0 := getD_past (by omega)
          rw [hab0] at hsp hstep
          clear hor hab hrab
          generalize hm2 : wh + s.length = m at *
          have HM := Hide.mk hm2
          clear hm2 hab0
          generalize za.getD m 0 = x at *
          go_wp2_with (at_builtin; refine app1 rfl (.tmp 55) (.tmp 58) rfl w.heap.size _ s (x / 2 ^ p) wr.heap.size rfl rfl (own_alloc HO.out _) (cell_new1 _ _) (by have := hsl.out; omega) (by have := hbel.size; simp; omega) ?_; intro v2 w2 hown2 hgrow)
          have hb2 := own_push HO.out hgrow hbel (by have := hbel.size; omega)
          have HO2 := Hide.mk hown2
          clear hown2 hgrow
          go_wp2
          go_roundw
          case rel => exact ⟨_, by rw [List.length_append, List.length_singleton]; have := HM.out; omega, by rw [List.length_append, List.length_singleton]; have := HM.out; go_num, HO2, ⟨(hstep x 0 _).out rfl rfl (by rw [hsp.out, Int.zero_mul, Int.add_zero, Int.emod_eq_of_lt hxx.1 hxx.2.2])⟩, hb2⟩
          case measure => simp [intOf]; omega
      · have hv := HI.out.done QA.out.1 (by omega)
        rw [← HNW.out] at hv
        have HR := Hide.mk HI.out.rng
        obtain ⟨a2, c2, hve, h1, h2, hl2⟩ := HO.out.lie
        have HT := Hide.mk (trim36 a2 c2 s wr hl2 h1 h2)
        have HV := Hide.mk hv
        have HVE := Hide.mk hve
        clear hv h1 h2 hl2 HI
        generalize hm2 : wh + s.length = m at *
        rw [hve]
        clear hve hm2
        go_wp2_with fail
        refine HT.out.mono ?_
        rintro e w' ⟨rfl, m2, hm2, rfl, hz2, hd2⟩
        have HG : Hide (Downs w wr (Nt.val za) n (.returned (.tuple #[.slice a2 m2 c2, .bool lost]))) := ⟨by
          have hl : (s.take m2).length = m2 := by simp only [List.length_take]; omega
          have ho := HO.out
          rw [HVE.out] at ho
          exact ⟨s.take m2, a2, c2, by rw [hl, HLS.out], by rw [hl]; exact own_take ho hm2, Nt.can_take HR.out hm2 hd2, by rw [Nt.val_take hz2 hm2]; exact HV.out, hbel⟩⟩
        clear hz2 hd2 hm2 HT HO
        go_wp2
        go_ret2
        exact HG.out
end Go.Proofs.Ytcjmamlffbhnlaa
