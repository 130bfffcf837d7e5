import Derived.Test.YtcjmamlffbhnlaaW35
namespace Go.Proofs.Ytcjmamlffbhnlaa
open Go.RowKit
set_option linter.unusedVariables false
set_option maxHeartbeats 2000000 in
theorem refUp47 (a : Option Addr) (ca : Nat) (za : List Int) (w : World) (n : Int) (wh p : Nat) (hq : n / 32 = (wh : Int)) (hr : n % 32 = (p : Int)) (hn0 : 0 ≤ n) (hn1 : n ≤ 1000000) (hp : p < 32) (hw : wh ≤ 100000) (ha : Lie w a za) (ra : Nt.Rng za) (hz : 0 < za.length) (hm : za.length ≤ 100000) :
    Calls Try.prog 47 #[.slice a za.length ca, .int .i64 n] w fun e w' => Made w w' (Nt.val za * 2 ^ p * 4294967296 ^ wh) e := by
  obtain ⟨i0, hi, hz0, hz1, hz2⟩ := info_parts Try.info49
  obtain ⟨ba, oa, rfl⟩ := lie_some ha hz
  have HA := Hide.mk ha
  have RA := Hide.mk ra
  have hne : ((za.length : Int) == 0) = false := beq_eq_false_iff_ne.2 (by omega)
  clear ha ra
  go_enter Try.func47, Try.ntmps47
  go_wp2_with (at_make; refine wpList_make_full _ rfl _ _ 22 rfl w.heap.size 49 i0 (.int .u32 0) 1 Try.underlying22 hi hz0 hz1 .i64 .i64 _ _ wh rfl rfl (by omega) (by omega) (by rw [hz2]; omega) (by unfold maxLen; omega) (Nat.le_refl _) ?_; intro w1 hown hgrow; have hblk1 := blk_made hown; have hbel1 := below_of_grown hgrow; clear hown hgrow)
  have hown1 : Hide (Own w.heap.size w1 (.slice (some ⟨w.heap.size, 0, none⟩) wh wh) (List.replicate wh 0)) := ⟨by
    have := hblk1.own (B := w.heap.size) (n := wh) (Nat.le_refl _) (by simp) (by unfold maxLen; simp; omega)
    simpa using this⟩
  clear hblk1 hi hz0 hz1 hz2 i0
  rw [hr]
  go_loopw [5, 7, 8] (fun v lv iv wr => ∃ (k : Nat) (s : List Int) (l : Int), k ≤ za.length ∧ iv = .int .i64 k ∧ lv = .int .u64 l ∧ 0 ≤ l ∧ l < 2 ^ p ∧ Hide (Own w.heap.size wr v s) ∧ Hide (RUpInv za s wh p k l) ∧ Below w.heap.size w wr) (fun _ _ iv _ => za.length - (intOf iv).toNat)
  case atStart => exact ⟨0, _, 0, Nat.zero_le _, rfl, rfl, by decide, p2pos p, hown1, ⟨RUpInv.start⟩, hbel1⟩
  case round =>
    obtain ⟨k, s, l, hk, rfl, rfl, hl0, hl1, HO, HI, hbel⟩ := hrel
    clear hown1 hbel1
    have hls : Hide (s.length = wh + k) := ⟨HI.out.len⟩
    by_cases hlt : k < za.length
    · have hca := lie_cell (HA.out.below hbel (Nat.le_refl _)) rfl hlt
      have hrx := RA.out k
      have hstep := fun x t => Hide.mk (fun h1 h2 => HI.out.step (x := x) (t := t) h1 h2)
      have hsb := shl_bd hrx.1 hrx.2 hp
      have htp := two_pow_le p hp
      have hmm : za.getD k 0 * 2 ^ p % 2 ^ p = 0 := Int.mul_emod_left _ _
      have hor := or64_low l (za.getD k 0 * 2 ^ p) p hp hl0 hl1 hsb.1 (by omega) hmm
      clear HI hmm
      generalize za.getD k 0 = x at *
      have hnew : (l + x * 2 ^ p) / 4294967296 < 2 ^ p := by omega
      go_wp2_with (at_builtin; refine app1 rfl (.tmp 32) (.tmp 35) rfl w.heap.size _ s ((l + x * 2 ^ p) % 4294967296) wr.heap.size rfl rfl (own_alloc HO.out _) (cell_new1 _ _) (by have := hls.out; omega) (by have := hbel.size; simp; omega) ?_; intro v2 w2 hown2 hgrow)
      have hb2 := own_push HO.out hgrow hbel (by have := hbel.size; omega)
      have HO2 := Hide.mk hown2
      clear hown2 hgrow
      go_wp2
      go_roundw
      case rel => exact ⟨k + 1, _, _, hlt, by go_num, rfl, by omega, hnew, HO2, ⟨(hstep x _).out rfl rfl⟩, hb2⟩
      case measure => simp [intOf]; omega
    · have hkk : k = za.length := by omega
      have HF : Hide (Nt.val (s ++ [l]) = Nt.val za * 2 ^ p * 4294967296 ^ wh ∧ Nt.Rng (s ++ [l])) := ⟨by
        have e := HI.out.eq
        have htp := two_pow_le p hp
        have e2 := vp_snoc s l
        refine ⟨?_, rng_snoc HI.out.rng hl0 (by omega)⟩
        unfold Nt.val
        rw [List.length_append, List.length_singleton, e2, hls.out, e, hkk]⟩
      have htp := two_pow_le p hp
      have hlb : l % 4294967296 = l := by omega
      clear HI hkk hlb
      go_wp2_with (at_builtin; refine app1 rfl (.tmp 39) (.tmp 42) rfl w.heap.size _ s l wr.heap.size rfl rfl (own_alloc HO.out _) (cell_new1 _ _) (by have := hls.out; omega) (by have := hbel.size; simp; omega) ?_; intro v2 w2 hown2 hgrow)
      have hb2 := own_push HO.out hgrow hbel (by have := hbel.size; omega)
      obtain ⟨a2, c2, hv2, h1, h2, hl2⟩ := hown2.lie
      have HO2 := Hide.mk hown2
      have HT := Hide.mk (trim36 a2 c2 _ w2 hl2 h1 h2)
      have HV2 := Hide.mk hv2
      clear hown2 hgrow hl2 h1 h2
      rw [hv2]
      clear hv2
      refine HT.out.mono ?_
      rintro e w' ⟨rfl, m, hm2, rfl, hz, hd⟩
      have HG : Hide (Made w w2 (Nt.val za * 2 ^ p * 4294967296 ^ wh) (.returned (.slice a2 m c2))) := ⟨by
        have hl : ((s ++ [l]).take m).length = m := by simp only [List.length_take]; omega
        have ho := HO2.out
        rw [HV2.out] at ho
        exact ⟨(s ++ [l]).take m, a2, c2, by rw [hl], by rw [hl]; exact own_take ho hm2, Nt.can_take HF.out.2 hm2 hd, by rw [Nt.val_take hz hm2]; exact HF.out.1, hb2⟩⟩
      clear hz hd hm2 HT HO HO2 HF
      go_wp2
      go_ret
      exact HG.out
set_option maxHeartbeats 1000000 in
theorem refUp_nil (a : Option Addr) (ca : Nat) (w : World) (n : Int) :
    Calls Try.prog 47 #[.slice a 0 ca, .int .i64 n] w fun e w' => e = .returned (.slice none 0 0) ∧ w = w' := by
  go_enter Try.func47, Try.ntmps47
  go_wp2
  go_ret
  exact ⟨rfl, rfl⟩
theorem refUp_any (a : Option Addr) (ca : Nat) (za : List Int) (w : World) (n : Nat) (hn1 : n ≤ 1000000) (ha : Lie w a za) (ra : Nt.Rng za) (hm : za.length ≤ 100000) :
    Calls Try.prog 47 #[.slice a za.length ca, .int .i64 (n : Int)] w fun e w' => Made w w' (Nt.val za * 2 ^ n) e := by
  by_cases h : za.length = 0
  · have e : za = [] := List.length_eq_zero_iff.1 h
    subst e
    refine (refUp_nil a ca w n).mono ?_
    rintro e w' ⟨rfl, rfl⟩
    exact ⟨[], none, 0, rfl, Own.nil _ _, Nt.can_nil, by rw [Nt.val_nil]; simp, Below.refl _ _⟩
  · rw [← up_val]
    exact refUp47 a ca za w n (n / 32) (n % 32) (by omega) (by omega) (by omega) (by omega) (Nat.mod_lt _ (by decide)) (by omega) ha ra (by omega) hm

theorem mod_step {x : Int} {n : Nat} (h : x % 2 ^ n = 0) (hb : x / 2 ^ n % 2 = 0) : x % 2 ^ (n + 1) = 0 := by
  have h1 := Int.emod_add_mul_ediv x (2 ^ n)
  have h2 := Int.emod_add_mul_ediv (x / 2 ^ n) 2
  rw [h] at h1
  rw [hb] at h2
  rw [Int.pow_succ]
  refine Int.emod_eq_zero_of_dvd ⟨x / 2 ^ n / 2, ?_⟩
  generalize x / 2 ^ n = q at *
  generalize (2 : Int) ^ n = X at *
  generalize q / 2 = r at *
  grind
theorem mod_jump {za : List Int} (ra : Nt.Rng za) {wh : Nat} (hw : wh < za.length) (h : Nt.val za % 2 ^ (32 * wh) = 0) (hd : za.getD wh 0 = 0) : Nt.val za % 2 ^ (32 * wh + 32) = 0 := by
  have e1 : (2 : Int) ^ (32 * wh) = 4294967296 ^ wh := by rw [Int.pow_mul]; rfl
  have e2 : (2 : Int) ^ (32 * wh + 32) = 4294967296 ^ wh * 4294967296 := by rw [Int.pow_add, e1]; rfl
  rw [e1] at h
  rw [e2]
  have h1 := Int.emod_add_mul_ediv (Nt.val za) (4294967296 ^ wh)
  rw [h, ← val_drop_div ra wh (by omega), val_drop_step hw, hd] at h1
  refine Int.emod_eq_zero_of_dvd ⟨Nt.val (za.drop (wh + 1)), ?_⟩
  generalize (4294967296 : Int) ^ wh = X at *
  generalize Nt.val (za.drop (wh + 1)) = r at *
  grind

/-- The place of the lowest bit that is 1. -/
structure LowBit (x : Int) (t : Nat) : Prop where
  zero : x % 2 ^ t = 0
  one : x / 2 ^ t % 2 = 1

set_option maxHeartbeats 2000000 in
theorem refLow59 (a : Option Addr) (ca : Nat) (za : List Int) (w : World) (ha : Lie w a za) (qa : Nt.Can za) (hz : 0 < za.length) (hm : za.length ≤ 100000) :
    Calls Try.prog 59 #[.slice a za.length ca] w fun e w' => w = w' ∧ ∃ t : Nat, e = .returned (.int .i64 t) ∧ LowBit (Nt.val za) t ∧ t < 32 * za.length := by
  obtain ⟨ba, oa, rfl⟩ := lie_some ha hz
  have HA := Hide.mk ha
  have QA := Hide.mk qa
  have C1 := fun i hi => Hide.mk (refBit48 (some ⟨ba, oa, none⟩) ca za w i ha qa.1 (by omega) hi)
  clear ha qa
  go_enter Try.func59, Try.ntmps59
  go_wp2
  go_loop [3] (fun nv => ∃ n : Nat, nv = .int .i64 n ∧ n ≤ 32 * za.length ∧ Hide (Nt.val za % 2 ^ n = 0) ∧ Hide (n % 32 ≠ 0 → za.getD (n / 32) 0 ≠ 0)) (fun nv => 32 * za.length - (intOf nv).toNat)
  case atStart => exact ⟨0, rfl, by omega, ⟨by simp⟩, ⟨fun h => absurd rfl h⟩⟩
  case round =>
    obtain ⟨n, rfl, hn, HZ, HD⟩ := hrel
    by_cases hlt : n < 32 * za.length
    · have hw : n / 32 < za.length := by omega
      have hcell : w.cell? ⟨ba, oa + n / 32, none⟩ = _ := lie_cell HA.out rfl hw
      have C2 := C1 n (by omega)
      have hq : (n : Int) / 32 = ((n / 32 : Nat) : Int) := by omega
      have hlti : (n : Int) < 32 * (za.length : Int) := by omega
      have hr := QA.out.1 (n / 32)
      by_cases hb : Nt.val za / 2 ^ n % 2 = 0
      · rw [hb] at C2
        have HS := Hide.mk (mod_step HZ.out hb)
        have hbe := bit_eq QA.out.1 (n / 32) (n % 32) (Nat.mod_lt _ (by decide)) hw
        rw [show 32 * (n / 32) + n % 32 = n by omega, hb] at hbe
        have HBE := Hide.mk hbe
        clear hb hbe C1
        by_cases hd : za.getD (n / 32) 0 = 0
        · have hn32 : n % 32 = 0 := by
            by_cases c : n % 32 = 0
            · exact c
            · exact absurd hd (HD.out c)
          have HJ : Hide (Nt.val za % 2 ^ (n + 32) = 0) := ⟨by
            have h1 : 32 * (n / 32) = n := by omega
            have := mod_jump QA.out.1 hw (by rw [h1]; exact HZ.out) hd
            rw [h1] at this; exact this⟩
          rw [hd] at hcell
          have HN := Hide.mk hn32
          clear hn32 hd hr HD
          generalize n / 32 = wh at *
          go_wp2_with fail
          refine C2.out.mono ?_
          rintro e w' ⟨rfl, rfl⟩
          go_wp2
          go_round
          case rel => exact ⟨n + 32, by go_num, by have := HN.out; omega, HJ, ⟨fun c => absurd (by have := HN.out; omega) c⟩⟩
          case measure => simp [intOf]; omega
        · have hd2 : (za.getD (n / 32) 0 == 0) = false := beq_eq_false_iff_ne.2 hd
          have HD2 : Hide ((n + 1) % 32 ≠ 0 → za.getD ((n + 1) / 32) 0 ≠ 0) := ⟨fun c => by rw [show (n + 1) / 32 = n / 32 by omega]; exact hd⟩
          clear hd HD HBE
          generalize za.getD (n / 32) 0 = x at *
          generalize n / 32 = wh at *
          go_wp2_with fail
          refine C2.out.mono ?_
          rintro e w' ⟨rfl, rfl⟩
          go_wp2
          go_round
          case rel => exact ⟨n + 1, by go_num, by omega, HS, HD2⟩
          case measure => simp [intOf]; omega
      · have hb1 : Nt.val za / 2 ^ n % 2 = 1 := by omega
        rw [hb1] at C2
        have HB1 := Hide.mk hb1
        have hne : ((n : Int) == 32 * (za.length : Int)) = false := beq_eq_false_iff_ne.2 (by omega)
        clear hb hb1 C1 hcell hq hw hr HD
        go_wp2_with fail
        refine C2.out.mono ?_
        rintro e w' ⟨rfl, rfl⟩
        go_wp2
        go_ret
        exact ⟨rfl, n, rfl, ⟨HZ.out, HB1.out⟩, hlt⟩
    · exfalso
      have hnn : n = 32 * za.length := by omega
      have h1 := HZ.out
      have h2 := Nt.val_bd QA.out.1
      have h3 := can_ge QA.out hz
      have h4 := Nt.pw_pos (za.length - 1)
      rw [hnn, Int.pow_mul, show (2 : Int) ^ 32 = 4294967296 by decide, Int.emod_eq_of_lt h2.1 h2.2] at h1
      omega
end Go.Proofs.Ytcjmamlffbhnlaa
