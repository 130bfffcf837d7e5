import Derived.Test.YtdnghibkagcbcaaGreatDoorM4
set_option maxHeartbeats 8000000
namespace Go.Proofs.YtdnghibkagcbcaaGreatDoor
open Go.RowKit
set_option linter.unusedVariables false
set_option maxRecDepth 3000
def colp (a b : List Int) (k : Nat) : Nat → Int
  | 0 => 0
  | i + 1 => colp a b k i + a.getD i 0 * b.getD (k - i) 0
def cols (a b : List Int) : Nat → Int
  | 0 => 0
  | k + 1 => cols a b k + colp a b k (k + 1) * 4294967296 ^ k
def rows (a b : List Int) (n : Nat) : Nat → Int
  | 0 => 0
  | i + 1 => rows a b n i + a.getD i 0 * 4294967296 ^ i * Nt.vp b (n - i)
structure MulInv (a b s : List Int) (l : Int) : Prop where
  rng : Nt.Rng s
  eq : Nt.vp s s.length + l * 4294967296 ^ s.length = cols a b s.length
  l0 : 0 ≤ l
def twoW : Int := 18446744073709551616
def Made (w w' : World) (x : Int) (e : Ending) : Prop := ∃ zs a' c, e = .returned (.slice a' zs.length c) ∧ Own w.heap.size w' (.slice a' zs.length c) zs ∧ Nt.Can zs ∧ Nt.val zs = x ∧ Below w.heap.size w w'
theorem refLen45 (a : Option Addr) (ca : Nat) (za : List Int) (w : World) (ha : Lie w a za) (qa : Nt.Can za) (hn : 0 < za.length) (hm : za.length ≤ 3000000) :
    Calls Tryz.prog 89 #[.slice a za.length ca] w fun e w' => w = w' ∧ ∃ BL : Nat, e = .returned (.int .i64 BL) ∧ Bits (Nt.val za) BL ∧ 1 ≤ BL ∧ BL ≤ 32 * za.length := by
  obtain ⟨k, hk⟩ : ∃ k, za.length = k + 1 := ⟨za.length - 1, by omega⟩
  have ht0 : za.getD k 0 ≠ 0 := by have := qa.2 (by omega); rw [hk] at this; exact this
  have htr := qa.1 k
  obtain ⟨L, eL, hL1, hL2, hL3, hL4⟩ := bitLen32 (za.getD k 0) (by omega) htr.2
  obtain ⟨b, o, rfl⟩ := lie_some ha hn
  have hc : w.cell? ⟨b, o + k, none⟩ = _ := lie_cell ha rfl (i := k) (by omega)
  have HB := Hide.mk (bits_top qa.1 hk hL3 hL4)
  have hne : (((k : Int) + 1) == 0) = false := beq_eq_false_iff_ne.2 (by omega)
  rw [hk]
  have hkb : k ≤ 3000000 := by omega
  have EL := Hide.mk eL
  clear ha qa ht0 hL3 hL4 eL hk hn hm
  generalize za.getD k 0 = x at *
  go_enter Tryz.func89, Tryz.ntmps89
  go_wp2
  go_loop [3, 4] (fun nv xv => ∃ (j : Nat) (y : Int), nv = .int .i64 (32 * (k : Int) + j) ∧ xv = .int .u32 y ∧ 0 ≤ y ∧ y < 4294967296 ∧ j ≤ 32 ∧ Hide (L = j + Lib.bitLen y.toNat)) (fun _ xv => (intOf xv).toNat)
  case atStart => exact ⟨0, x, by go_num, rfl, htr.1, htr.2, by omega, ⟨by rw [EL.out]; omega⟩⟩
  case round =>
    obtain ⟨j, y, rfl, rfl, hy0, hy1, hj, HL⟩ := hrel
    by_cases hp : 0 < y
    · have hh := Lib.bitLen_half y.toNat (by omega) (by omega)
      have hl := HL.out
      have hj2 : j + 1 ≤ 32 := by omega
      have HL2 : Hide (L = j + 1 + Lib.bitLen (y / 2).toNat) := ⟨by rw [hl, hh, show (y / 2).toNat = y.toNat / 2 by omega]; omega⟩
      clear hh hl HL
      go_wp2
      go_round
      case rel => exact ⟨j + 1, y / 2, by go_num, rfl, by omega, by omega, hj2, HL2⟩
      case measure => simp [intOf]; omega
    · have hy : y = 0 := by omega
      have hfin : Hide (L = j) := ⟨by
        have := HL.out
        rw [hy] at this
        have e : Lib.bitLen (0 : Int).toNat = 0 := by decide
        omega⟩
      clear hy HL
      go_wp2
      go_ret
      exact ⟨rfl, 32 * k + L, by rw [hfin.out]; go_num, HB.out, by omega, by omega⟩
theorem bit_eq {za : List Int} (ra : Nt.Rng za) (wh p : Nat) (hp : p < 32) (hw : wh < za.length) : Nt.val za / 2 ^ (32 * wh + p) % 2 = za.getD wh 0 / 2 ^ p % 2 := by
  rw [pow2_split (32 * wh + p) wh p rfl, ← Int.ediv_ediv_of_nonneg (Int.le_of_lt (Nt.pw_pos _)), ← val_drop_div ra wh (by omega), val_drop_step hw]
  obtain ⟨q, hq⟩ : ∃ q, p + 1 + q = 32 := ⟨31 - p, by omega⟩
  have e : (4294967296 : Int) = 2 ^ p * (2 * 2 ^ q) := by
    rw [show (4294967296 : Int) = 2 ^ (p + 1 + q) by rw [hq]; decide, Int.pow_add, Int.pow_succ]; grind
  have hpos := p2pos p
  rw [e, Int.mul_assoc (2 ^ p), Int.add_mul_ediv_left _ _ (by omega), Int.mul_assoc, Int.add_mul_emod_self_left]
theorem and32_one (x : Int) (h0 : 0 ≤ x) (h1 : x < 4294967296) : bits .and .u32 x 1 = x % 2 := by
  rw [u32_and x 1 h0 h1 (by decide) (by decide)]
  have : x.toNat &&& (1 : Int).toNat = x.toNat % 2 := nat_mask1 x.toNat
  rw [this]; omega
theorem refBit48 (a : Option Addr) (ca : Nat) (za : List Int) (w : World) (i : Nat) (ha : Lie w a za) (ra : Nt.Rng za) (hm : za.length ≤ 3000000) (hi : i ≤ 100000000) :
    Calls Tryz.prog 122 #[.slice a za.length ca, .int .i64 (i : Int)] w fun e w' => e = .returned (.int .u32 (Nt.val za / 2 ^ i % 2)) ∧ w = w' := by
  by_cases hw : i / 32 < za.length
  · obtain ⟨b, o, rfl⟩ := lie_some ha (by omega)
    have hc : w.cell? ⟨b, o + i / 32, none⟩ = _ := lie_cell ha rfl hw
    have hr := ra (i / 32)
    have hp : i % 32 < 32 := Nat.mod_lt _ (by decide)
    have he := bit_eq ra (i / 32) (i % 32) hp hw
    rw [show 32 * (i / 32) + i % 32 = i by omega] at he
    rw [he]
    have hq : (i : Int) / 32 = ((i / 32 : Nat) : Int) := by omega
    have hr2 : (i : Int) % 32 = ((i % 32 : Nat) : Int) := by omega
    clear ha ra he
    generalize za.getD (i / 32) 0 = x at *
    have hx0 : 0 ≤ x / 2 ^ (i % 32) := Int.ediv_nonneg hr.1 (Int.le_of_lt (p2pos _))
    have hx1 : x / 2 ^ (i % 32) < 4294967296 := by
      have : x / 2 ^ (i % 32) ≤ x := Int.ediv_le_self _ hr.1
      omega
    have hand := and32_one _ hx0 hx1
    generalize i / 32 = wh at *
    generalize i % 32 = p at *
    go_enter Tryz.func122, Tryz.ntmps122
    go_wp2
    go_ret
    exact ⟨rfl, rfl⟩
  · have hz : Nt.val za / 2 ^ i % 2 = 0 := by
      have h1 := Nt.val_bd ra
      have h2 : (4294967296 : Int) ^ za.length ≤ 2 ^ i := by
        have := p2mono (show 32 * za.length ≤ i by omega)
        rw [Int.pow_mul, show (2 : Int) ^ 32 = 4294967296 by decide] at this
        exact this
      rw [Int.ediv_eq_zero_of_lt h1.1 (by omega)]; rfl
    rw [hz]
    have hq : (i : Int) / 32 = ((i / 32 : Nat) : Int) := by omega
    clear ha ra hz
    generalize i / 32 = wh at *
    go_enter Tryz.func122, Tryz.ntmps122
    go_wp2
    go_ret
    exact ⟨rfl, rfl⟩
structure RUpInv (za s : List Int) (wh p k : Nat) (l : Int) : Prop where
  len : s.length = wh + k
  rng : Nt.Rng s
  eq : Nt.vp s (wh + k) + l * 4294967296 ^ (wh + k) = Nt.vp za k * 2 ^ p * 4294967296 ^ wh
theorem RUpInv.start {za : List Int} {wh p : Nat} : RUpInv za (List.replicate wh 0) wh p 0 0 :=
  ⟨by simp, fun k => by rw [getD_rep]; decide, by rw [vp_rep]; simp [Nt.vp]⟩
theorem RUpInv.step {za s : List Int} {wh p k : Nat} {l x t : Int} (h : RUpInv za s wh p k l) (hx : x = za.getD k 0) (ht : t = l + x * 2 ^ p) : RUpInv za (s ++ [t % 4294967296]) wh p (k + 1) (t / 4294967296) := by
  have hl := h.len
  refine ⟨by rw [List.length_append, List.length_singleton, hl]; omega, rng_snoc h.rng (by omega) (by omega), ?_⟩
  have e := h.eq
  have hn : t % 4294967296 + t / 4294967296 * 4294967296 = t := by omega
  have e2 := vp_snoc s (t % 4294967296)
  rw [hl] at e2
  rw [show wh + (k + 1) = wh + k + 1 by omega, e2, Nt.vp_step, Nt.pw_succ, ← hx]
  rw [Nt.pw_add] at *
  generalize t % 4294967296 = n at *
  generalize t / 4294967296 = c at *
  generalize (4294967296 : Int) ^ wh = P at *
  generalize (4294967296 : Int) ^ k = K at *
  generalize (2 : Int) ^ p = T at *
  grind
theorem or64_low (l t : Int) (p : Nat) (hp : p < 32) (h0 : 0 ≤ l) (h1 : l < 2 ^ p) (ht : 0 ≤ t) (ht' : t < 18446744073709551616) (hm : t % 2 ^ p = 0) : bits .or .u64 l t = l + t := by
  have hb := two_pow_le p hp
  rw [u64_or l t h0 (by omega) ht ht']
  have e : ((2 ^ p : Nat) : Int) = (2 : Int) ^ p := by simp
  have := nat_join p t.toNat l.toNat (by
    have h1 : ((t.toNat % 2 ^ p : Nat) : Int) = t % 2 ^ p := by
      rw [Int.natCast_emod, e, Int.toNat_of_nonneg ht]
    rw [hm] at h1
    omega) (by omega)
  rw [Nat.or_comm, this]; omega
theorem refUp47 (a : Option Addr) (ca : Nat) (za : List Int) (w : World) (n : Int) (wh p : Nat) (hq : n / 32 = (wh : Int)) (hr : n % 32 = (p : Int)) (hn0 : 0 ≤ n) (hn1 : n ≤ 120000000) (hp : p < 32) (hw : wh ≤ 4000000) (ha : Lie w a za) (ra : Nt.Rng za) (hz : 0 < za.length) (hm : za.length + wh ≤ 4000000) :
    Calls Tryz.prog 94 #[.slice a za.length ca, .int .i64 n] w fun e w' => Made w w' (Nt.val za * 2 ^ p * 4294967296 ^ wh) e := by
  obtain ⟨i0, hi, hz0, hz1, hz2⟩ := info_parts Tryz.info49
  obtain ⟨ba, oa, rfl⟩ := lie_some ha hz
  have HA := Hide.mk ha
  have RA := Hide.mk ra
  have hne : ((za.length : Int) == 0) = false := beq_eq_false_iff_ne.2 (by omega)
  clear ha ra
  go_enter Tryz.func94, Tryz.ntmps94
  go_wp2_with (at_make; refine wpList_make_full _ rfl _ _ 24 rfl w.heap.size 108 i0 (.int .u32 0) 1 Tryz.underlying24 hi hz0 hz1 .i64 .i64 _ _ wh rfl rfl (by omega) (by omega) (by rw [hz2]; omega) (by unfold maxLen; omega) (Nat.le_refl _) ?_; intro w1 hown hgrow; have hblk1 := blk_made hown; have hbel1 := below_of_grown hgrow; clear hown hgrow)
  have hown1 : Hide (Own w.heap.size w1 (.slice (some ⟨w.heap.size, 0, none⟩) wh wh) (List.replicate wh 0)) := ⟨by
    have := hblk1.own (B := w.heap.size) (n := wh) (Nat.le_refl _) (by simp) (by unfold maxLen; simp; omega)
    simpa using this⟩
  clear hblk1 hi hz0 hz1 hz2 i0
  rw [hr]
  go_loopw [5, 7, 8] (fun v lv iv wr => ∃ (k : Nat) (s : List Int) (l : Int), k ≤ za.length ∧ iv = .int .i64 k ∧ lv = .int .u64 l ∧ 0 ≤ l ∧ l < 2 ^ p ∧ Hide (Own w.heap.size wr v s) ∧ Hide (RUpInv za s wh p k l) ∧ Below w.heap.size w wr) (fun _ _ iv _ => za.length - (intOf iv).toNat)
  case atStart => exact ⟨0, _, 0, Nat.zero_le _, rfl, rfl, by decide, p2pos p, hown1, ⟨RUpInv.start⟩, hbel1⟩
  case round =>
    obtain ⟨k, s, l, hk, rfl, rfl, hl0, hl1, HO, HI, hbel⟩ := hrel
    clear hown1 hbel1
    have hls : Hide (s.length = wh + k) := ⟨HI.out.len⟩
    by_cases hlt : k < za.length
    · have hca := lie_cell (HA.out.below hbel (Nat.le_refl _)) rfl hlt
      have hrx := RA.out k
      have hstep := fun x t => Hide.mk (fun h1 h2 => HI.out.step (x := x) (t := t) h1 h2)
      have hsb := shl_bd hrx.1 hrx.2 hp
      have htp := two_pow_le p hp
      have hmm : za.getD k 0 * 2 ^ p % 2 ^ p = 0 := Int.mul_emod_left _ _
      have hor := or64_low l (za.getD k 0 * 2 ^ p) p hp hl0 hl1 hsb.1 (by omega) hmm
      clear HI hmm
      generalize za.getD k 0 = x at *
      have hnew : (l + x * 2 ^ p) / 4294967296 < 2 ^ p := by omega
      go_wp2_with (at_builtin; refine app1 rfl (.tmp 32) (.tmp 35) rfl w.heap.size _ s ((l + x * 2 ^ p) % 4294967296) wr.heap.size rfl rfl (own_alloc HO.out _) (cell_new1 _ _) (by have := hls.out; omega) (by have := hbel.size; simp; omega) ?_; intro v2 w2 hown2 hgrow)
      have hb2 := own_push HO.out hgrow hbel (by have := hbel.size; omega)
      have HO2 := Hide.mk hown2
      clear hown2 hgrow
      go_wp2
      go_roundw
      case rel => exact ⟨k + 1, _, _, hlt, by go_num, rfl, by omega, hnew, HO2, ⟨(hstep x _).out rfl rfl⟩, hb2⟩
      case measure => simp [intOf]; omega
    · have hkk : k = za.length := by omega
      have HF : Hide (Nt.val (s ++ [l]) = Nt.val za * 2 ^ p * 4294967296 ^ wh ∧ Nt.Rng (s ++ [l])) := ⟨by
        have e := HI.out.eq
        have htp := two_pow_le p hp
        have e2 := vp_snoc s l
        refine ⟨?_, rng_snoc HI.out.rng hl0 (by omega)⟩
        unfold Nt.val
        rw [List.length_append, List.length_singleton, e2, hls.out, e, hkk]⟩
      have htp := two_pow_le p hp
      have hlb : l % 4294967296 = l := by omega
      clear HI hkk hlb
      go_wp2_with (at_builtin; refine app1 rfl (.tmp 39) (.tmp 42) rfl w.heap.size _ s l wr.heap.size rfl rfl (own_alloc HO.out _) (cell_new1 _ _) (by have := hls.out; omega) (by have := hbel.size; simp; omega) ?_; intro v2 w2 hown2 hgrow)
      have hb2 := own_push HO.out hgrow hbel (by have := hbel.size; omega)
      obtain ⟨a2, c2, hv2, h1, h2, hl2⟩ := hown2.lie
      have HO2 := Hide.mk hown2
      have HT := Hide.mk (trim36 a2 c2 _ w2 hl2 h1 h2)
      have HV2 := Hide.mk hv2
      clear hown2 hgrow hl2 h1 h2
      rw [hv2]
      clear hv2
      refine HT.out.mono ?_
      rintro e w' ⟨rfl, m, hm2, rfl, hz, hd⟩
      have HG : Hide (Made w w2 (Nt.val za * 2 ^ p * 4294967296 ^ wh) (.returned (.slice a2 m c2))) := ⟨by
        have hl : ((s ++ [l]).take m).length = m := by simp only [List.length_take]; omega
        have ho := HO2.out
        rw [HV2.out] at ho
        exact ⟨(s ++ [l]).take m, a2, c2, by rw [hl], by rw [hl]; exact own_take ho hm2, Nt.can_take HF.out.2 hm2 hd, by rw [Nt.val_take hz hm2]; exact HF.out.1, hb2⟩⟩
      clear hz hd hm2 HT HO HO2 HF
      go_wp2
      go_ret
      exact HG.out
theorem refUp_nil (a : Option Addr) (ca : Nat) (w : World) (n : Int) :
    Calls Tryz.prog 94 #[.slice a 0 ca, .int .i64 n] w fun e w' => e = .returned (.slice none 0 0) ∧ w = w' := by
  go_enter Tryz.func94, Tryz.ntmps94
  go_wp2
  go_ret
  exact ⟨rfl, rfl⟩
theorem refUp_long (a : Option Addr) (ca : Nat) (za : List Int) (w : World) (n : Nat) (hn1 : 32 * za.length + n ≤ 90000000) (ha : Lie w a za) (ra : Nt.Rng za) :
    Calls Tryz.prog 94 #[.slice a za.length ca, .int .i64 (n : Int)] w fun e w' => Made w w' (Nt.val za * 2 ^ n) e := by
  by_cases h : za.length = 0
  · have e : za = [] := List.length_eq_zero_iff.1 h
    subst e
    refine (refUp_nil a ca w n).mono ?_
    rintro e w' ⟨rfl, rfl⟩
    exact ⟨[], none, 0, rfl, Own.nil _ _, Nt.can_nil, by rw [Nt.val_nil]; simp, Below.refl _ _⟩
  · rw [← up_val]
    exact refUp47 a ca za w n (n / 32) (n % 32) (by omega) (by omega) (by omega) (by omega) (Nat.mod_lt _ (by decide)) (by omega) ha ra (by omega) (by omega)
theorem refUp_any (a : Option Addr) (ca : Nat) (za : List Int) (w : World) (n : Nat) (hn1 : n ≤ 1000000) (ha : Lie w a za) (ra : Nt.Rng za) (hm : za.length ≤ 100000) :
    Calls Tryz.prog 94 #[.slice a za.length ca, .int .i64 (n : Int)] w fun e w' => Made w w' (Nt.val za * 2 ^ n) e := refUp_long a ca za w n (by omega) ha ra
theorem mod_step {x : Int} {n : Nat} (h : x % 2 ^ n = 0) (hb : x / 2 ^ n % 2 = 0) : x % 2 ^ (n + 1) = 0 := by
  have h1 := Int.emod_add_mul_ediv x (2 ^ n)
  have h2 := Int.emod_add_mul_ediv (x / 2 ^ n) 2
  rw [h] at h1
  rw [hb] at h2
  rw [Int.pow_succ]
  refine Int.emod_eq_zero_of_dvd ⟨x / 2 ^ n / 2, ?_⟩
  generalize x / 2 ^ n = q at *
  generalize (2 : Int) ^ n = X at *
  generalize q / 2 = r at *
  grind
theorem mod_jump {za : List Int} (ra : Nt.Rng za) {wh : Nat} (hw : wh < za.length) (h : Nt.val za % 2 ^ (32 * wh) = 0) (hd : za.getD wh 0 = 0) : Nt.val za % 2 ^ (32 * wh + 32) = 0 := by
  have e1 : (2 : Int) ^ (32 * wh) = 4294967296 ^ wh := by rw [Int.pow_mul]; rfl
  have e2 : (2 : Int) ^ (32 * wh + 32) = 4294967296 ^ wh * 4294967296 := by rw [Int.pow_add, e1]; rfl
  rw [e1] at h
  rw [e2]
  have h1 := Int.emod_add_mul_ediv (Nt.val za) (4294967296 ^ wh)
  rw [h, ← val_drop_div ra wh (by omega), val_drop_step hw, hd] at h1
  refine Int.emod_eq_zero_of_dvd ⟨Nt.val (za.drop (wh + 1)), ?_⟩
  generalize (4294967296 : Int) ^ wh = X at *
  generalize Nt.val (za.drop (wh + 1)) = r at *
  grind
structure LowBit (x : Int) (t : Nat) : Prop where
  zero : x % 2 ^ t = 0
  one : x / 2 ^ t % 2 = 1
theorem refLow59 (a : Option Addr) (ca : Nat) (za : List Int) (w : World) (ha : Lie w a za) (qa : Nt.Can za) (hz : 0 < za.length) (hm : za.length ≤ 3000000) :
    Calls Tryz.prog 103 #[.slice a za.length ca] w fun e w' => w = w' ∧ ∃ t : Nat, e = .returned (.int .i64 t) ∧ LowBit (Nt.val za) t ∧ t < 32 * za.length := by
  obtain ⟨ba, oa, rfl⟩ := lie_some ha hz
  have HA := Hide.mk ha
  have QA := Hide.mk qa
  have C1 := fun i hi => Hide.mk (refBit48 (some ⟨ba, oa, none⟩) ca za w i ha qa.1 (by omega) hi)
  clear ha qa
  go_enter Tryz.func103, Tryz.ntmps103
  go_wp2
  go_loop [3] (fun nv => ∃ n : Nat, nv = .int .i64 n ∧ n ≤ 32 * za.length ∧ Hide (Nt.val za % 2 ^ n = 0) ∧ Hide (n % 32 ≠ 0 → za.getD (n / 32) 0 ≠ 0)) (fun nv => 32 * za.length - (intOf nv).toNat)
  case atStart => exact ⟨0, rfl, by omega, ⟨by simp⟩, ⟨fun h => absurd rfl h⟩⟩
  case round =>
    obtain ⟨n, rfl, hn, HZ, HD⟩ := hrel
    by_cases hlt : n < 32 * za.length
    · have hw : n / 32 < za.length := by omega
      have hcell : w.cell? ⟨ba, oa + n / 32, none⟩ = _ := lie_cell HA.out rfl hw
      have C2 := C1 n (by omega)
      have hq : (n : Int) / 32 = ((n / 32 : Nat) : Int) := by omega
      have hlti : (n : Int) < 32 * (za.length : Int) := by omega
      have hr := QA.out.1 (n / 32)
      by_cases hb : Nt.val za / 2 ^ n % 2 = 0
      · rw [hb] at C2
        have HS := Hide.mk (mod_step HZ.out hb)
        have hbe := bit_eq QA.out.1 (n / 32) (n % 32) (Nat.mod_lt _ (by decide)) hw
        rw [show 32 * (n / 32) + n % 32 = n by omega, hb] at hbe
        have HBE := Hide.mk hbe
        clear hb hbe C1
        by_cases hd : za.getD (n / 32) 0 = 0
        · have hn32 : n % 32 = 0 := by
            by_cases c : n % 32 = 0
            · exact c
            · exact absurd hd (HD.out c)
          have HJ : Hide (Nt.val za % 2 ^ (n + 32) = 0) := ⟨by
            have h1 : 32 * (n / 32) = n := by omega
            have := mod_jump QA.out.1 hw (by rw [h1]; exact HZ.out) hd
            rw [h1] at this; exact this⟩
          rw [hd] at hcell
          have HN := Hide.mk hn32
          clear hn32 hd hr HD
          generalize n / 32 = wh at *
          go_wp2_with fail
          refine C2.out.mono ?_
          rintro e w' ⟨rfl, rfl⟩
          go_wp2
          go_round
          case rel => exact ⟨n + 32, by go_num, by have := HN.out; omega, HJ, ⟨fun c => absurd (by have := HN.out; omega) c⟩⟩
          case measure => simp [intOf]; omega
        · have hd2 : (za.getD (n / 32) 0 == 0) = false := beq_eq_false_iff_ne.2 hd
          have HD2 : Hide ((n + 1) % 32 ≠ 0 → za.getD ((n + 1) / 32) 0 ≠ 0) := ⟨fun c => by rw [show (n + 1) / 32 = n / 32 by omega]; exact hd⟩
          clear hd HD HBE
          generalize za.getD (n / 32) 0 = x at *
          generalize n / 32 = wh at *
          go_wp2_with fail
          refine C2.out.mono ?_
          rintro e w' ⟨rfl, rfl⟩
          go_wp2
          go_round
          case rel => exact ⟨n + 1, by go_num, by omega, HS, HD2⟩
          case measure => simp [intOf]; omega
      · have hb1 : Nt.val za / 2 ^ n % 2 = 1 := by omega
        rw [hb1] at C2
        have HB1 := Hide.mk hb1
        have hne : ((n : Int) == 32 * (za.length : Int)) = false := beq_eq_false_iff_ne.2 (by omega)
        clear hb hb1 C1 hcell hq hw hr HD
        go_wp2_with fail
        refine C2.out.mono ?_
        rintro e w' ⟨rfl, rfl⟩
        go_wp2
        go_ret
        exact ⟨rfl, n, rfl, ⟨HZ.out, HB1.out⟩, hlt⟩
    · exfalso
      have hnn : n = 32 * za.length := by omega
      have h1 := HZ.out
      have h2 := Nt.val_bd QA.out.1
      have h3 := can_ge QA.out hz
      have h4 := Nt.pw_pos (za.length - 1)
      rw [hnn, Int.pow_mul, show (2 : Int) ^ 32 = 4294967296 by decide, Int.emod_eq_of_lt h2.1 h2.2] at h1
      omega
theorem or64_low2 (l t : Int) (p : Nat) (hp : p ≤ 32) (h0 : 0 ≤ l) (h1 : l < 2 ^ p) (ht : 0 ≤ t) (ht' : t < 18446744073709551616) (hm : t % 2 ^ p = 0) : bits .or .u64 l t = l + t := by
  have hb := p2mono hp
  have e32 : (2 : Int) ^ 32 = 4294967296 := by decide
  rw [u64_or l t h0 (by omega) ht ht']
  have e : ((2 ^ p : Nat) : Int) = (2 : Int) ^ p := by simp
  have := nat_join p t.toNat l.toNat (by
    have h1 : ((t.toNat % 2 ^ p : Nat) : Int) = t % 2 ^ p := by
      rw [Int.natCast_emod, e, Int.toNat_of_nonneg ht]
    rw [hm] at h1
    omega) (by omega)
  rw [Nat.or_comm, this]; omega
theorem split_shift (ab x : Int) (p q : Nat) (h : p + q = 32) : (ab * 4294967296 + x) / 2 ^ p = x / 2 ^ p + ab * 2 ^ q := by
  have e : (4294967296 : Int) = 2 ^ p * 2 ^ q := by rw [← Int.pow_add, h]; decide
  have : ab * 4294967296 + x = x + 2 ^ p * (ab * 2 ^ q) := by rw [e]; grind
  rw [this, Int.add_mul_ediv_left _ _ (by have := p2pos p; omega)]
structure RDnInv (za s : List Int) (wh p : Nat) : Prop where
  rng : Nt.Rng s
  eq : Nt.vp s s.length + 4294967296 ^ s.length * (Nt.val (za.drop (wh + s.length)) / 2 ^ p) = Nt.val (za.drop wh) / 2 ^ p
theorem RDnInv.step {za s : List Int} {wh p : Nat} {x ab d : Int} (h : RDnInv za s wh p) (hp : p < 32) (ra : Nt.Rng za) (hk : wh + s.length < za.length) (hx : x = za.getD (wh + s.length) 0) (hab : ab = za.getD (wh + s.length + 1) 0) (hd : d = (ab * 4294967296 + x) / 2 ^ p % 4294967296) :
    RDnInv za (s ++ [d]) wh p := by
  have hxr := ra (wh + s.length)
  rw [← hx] at hxr
  refine ⟨rng_snoc h.rng (by omega) (by omega), ?_⟩
  have e := h.eq
  have dd := down_digit (Nt.val (za.drop (wh + s.length + 1))) ab x p hp (by rw [hab, val_drop_mod ra]) hxr.1 hxr.2
  rw [val_drop_step hk, ← hx, ← dd, ← hd] at e
  rw [List.length_append, List.length_singleton, vp_snoc, Nt.pw_succ, ← e, show wh + (s.length + 1) = wh + s.length + 1 by omega]
  generalize Nt.val (za.drop (wh + s.length + 1)) / 2 ^ p = r
  generalize (4294967296 : Int) ^ s.length = P
  grind
theorem RDnInv.done {za s : List Int} {wh p : Nat} (h : RDnInv za s wh p) (ra : Nt.Rng za) (hl : wh + s.length = za.length) : Nt.val s = Nt.val za / 2 ^ (32 * wh + p) := by
  have e := h.eq
  rw [hl, List.drop_eq_nil_of_le (Nat.le_refl _), Nt.val_nil, Int.zero_ediv, Int.mul_zero, Int.add_zero] at e
  rw [pow2_split (32 * wh + p) wh p rfl, ← Int.ediv_ediv_of_nonneg (Int.le_of_lt (Nt.pw_pos _)), ← val_drop_div ra wh (by omega)]
  exact e
theorem low_lost {x : Int} {t n : Nat} (h : LowBit x t) : decide (t < n) = decide (x % 2 ^ n ≠ 0) := by
  have h1 := Int.emod_add_mul_ediv x (2 ^ t)
  rw [h.zero] at h1
  have ho := h.one
  by_cases c : t < n
  · have : x % 2 ^ n ≠ 0 := by
      intro e
      obtain ⟨m, hm⟩ := Int.dvd_of_emod_eq_zero e
      obtain ⟨k, rfl⟩ : ∃ k, n = t + (k + 1) := ⟨n - t - 1, by omega⟩
      have e2 : x / 2 ^ t = 2 * (2 ^ k * m) := by
        rw [hm, Int.pow_add, Int.mul_assoc, Int.mul_ediv_cancel_left _ (by have := p2pos t; omega), Int.pow_succ]; grind
      omega
    simp [this, c]
  · have : x % 2 ^ n = 0 := by
      obtain ⟨k, rfl⟩ : ∃ k, t = n + k := ⟨t - n, by omega⟩
      refine Int.emod_eq_zero_of_dvd ⟨2 ^ k * (x / 2 ^ (n + k)), ?_⟩
      rw [← Int.mul_assoc, ← Int.pow_add]; omega
    simp [this, c]
def Downs (w w' : World) (x : Int) (n : Nat) (e : Ending) : Prop := ∃ zs a' c, e = .returned (.tuple #[.slice a' zs.length c, .bool (decide (x % 2 ^ n ≠ 0))]) ∧ Own w.heap.size w' (.slice a' zs.length c) zs ∧ Nt.Can zs ∧ Nt.val zs = x / 2 ^ n ∧ Below w.heap.size w w'
theorem refDown46 (a : Option Addr) (ca : Nat) (za : List Int) (w : World) (n : Nat) (hn1 : n ≤ 120000000) (ha : Lie w a za) (qa : Nt.Can za) (hz : 0 < za.length) (hm : za.length ≤ 3000000) :
    Calls Tryz.prog 104 #[.slice a za.length ca, .int .i64 (n : Int)] w fun e w' => Downs w w' (Nt.val za) n e := by
  obtain ⟨ba, oa, rfl⟩ := lie_some ha hz
  have C1 := Hide.mk (refLen45 (some ⟨ba, oa, none⟩) ca za w ha qa hz (by omega))
  have C2 := Hide.mk (refLow59 (some ⟨ba, oa, none⟩) ca za w ha qa hz hm)
  have HA := Hide.mk ha
  have QA := Hide.mk qa
  have hzi : (0 : Int) < (za.length : Int) := by omega
  clear ha qa
  obtain ⟨wh, hwh⟩ : ∃ wh, wh = n / 32 := ⟨_, rfl⟩
  obtain ⟨p, hpp⟩ : ∃ p, p = n % 32 := ⟨_, rfl⟩
  obtain ⟨q, hqq⟩ : ∃ q, q = 32 - p := ⟨_, rfl⟩
  have hq : (n : Int) / 32 = (wh : Int) := by omega
  have hr : (n : Int) % 32 = (p : Int) := by omega
  have hp : p < 32 := by omega
  have hqi : (32 : Int) - (p : Int) = (q : Int) := by omega
  have HNW := Hide.mk (show n = 32 * wh + p by omega)
  have HPQ := Hide.mk (show p + q = 32 by omega)
  have hq32 : q ≤ 32 := by omega
  clear hwh hpp hqq
  go_enter Tryz.func104, Tryz.ntmps104
  go_wp2_with fail
  refine C1.out.mono ?_
  rintro e w' ⟨rfl, BL, rfl, hbits, hB1, hB2⟩
  by_cases hge : BL ≤ n
  · have HF : Hide (Downs w w (Nt.val za) n (.returned (.tuple #[.slice none 0 0, .bool true]))) := ⟨by
      have h1 := hbits.lt
      have h2 := p2mono hge
      have h3 := Nt.val_bd QA.out.1
      have h4 := can_ge QA.out hz
      have h5 := Nt.pw_pos (za.length - 1)
      refine ⟨[], none, 0, ?_, Own.nil _ _, Nt.can_nil, by rw [Nt.val_nil, Int.ediv_eq_zero_of_lt h3.1 (by omega)], Below.refl _ _⟩
      have : Nt.val za % 2 ^ n ≠ 0 := by rw [Int.emod_eq_of_lt h3.1 (by omega)]; omega
      simp [this]⟩
    go_wp2
    go_ret2
    exact HF.out
  · have HBW := Hide.mk (show wh < za.length by have := HNW.out; omega)
    clear hbits C1
    go_wp2_with fail
    refine C2.out.mono ?_
    rintro e w' ⟨rfl, t, rfl, hlow, htl⟩
    have HLOW := Hide.mk (low_lost (n := n) hlow)
    clear hlow C2 hge
    generalize hlost : decide (Nt.val za % 2 ^ n ≠ 0) = lost at *
    have HLS := Hide.mk hlost
    clear hlost
    go_wp2
    rw [hr, HLOW.out]
    go_loopw [7, 9] (fun v iv wr => ∃ (s : List Int), wh + s.length ≤ za.length ∧ iv = .int .i64 ((wh + s.length : Nat) : Int) ∧ Hide (Own w.heap.size wr v s) ∧ Hide (RDnInv za s wh p) ∧ Below w.heap.size w wr) (fun _ iv _ => za.length - (intOf iv).toNat)
    case atStart => exact ⟨[], by have := HBW.out; simp; omega, rfl, ⟨Own.nil _ _⟩, ⟨⟨Nt.rng_nil, by simp [Nt.vp]⟩⟩, Below.refl _ _⟩
    case round =>
      obtain ⟨s, hk, rfl, HO, HI, hbel⟩ := hrel
      clear hr
      by_cases hlt : wh + s.length < za.length
      · have hca := lie_cell (HA.out.below hbel (Nat.le_refl _)) rfl hlt
        have hrx := QA.out.1 (wh + s.length)
        have hrab := QA.out.1 (wh + s.length + 1)
        have hstep := fun x ab d => Hide.mk (fun h1 h2 h3 => HI.out.step (x := x) (ab := ab) (d := d) hp QA.out.1 hlt h1 h2 h3)
        have hsl : Hide (s.length ≤ 3000000) := ⟨by omega⟩
        have hxd : ∀ x : Int, 0 ≤ x → x < 4294967296 → 0 ≤ x / 2 ^ p ∧ x / 2 ^ p < 2 ^ q ∧ x / 2 ^ p < 4294967296 := fun x h0 h1 => by
          refine ⟨Int.ediv_nonneg h0 (Int.le_of_lt (p2pos p)), Int.ediv_lt_of_lt_mul (p2pos p) ?_, ?_⟩
          · rw [← Int.pow_add, show q + p = 32 by have := HPQ.out; omega]; exact h1
          · have : x / 2 ^ p ≤ x := Int.ediv_le_self _ h0
            omega
        have hxx := hxd _ hrx.1 hrx.2
        have hmq : ∀ y : Int, 0 ≤ y → y < 4294967296 → 0 ≤ y * 2 ^ q ∧ y * 2 ^ q ≤ 18446744069414584320 ∧ y * 2 ^ q % 2 ^ q = 0 := fun y h0 h1 => by
          have h2 := p2mono hq32
          have h3 := p2pos q
          have e32 : (2 : Int) ^ 32 = 4294967296 := by decide
          rw [e32] at h2
          have h4 : y * 2 ^ q ≤ 4294967295 * 4294967296 := Int.mul_le_mul (by omega) h2 (by omega) (by decide)
          exact ⟨Int.mul_nonneg h0 (by omega), by omega, Int.mul_emod_left _ _⟩
        have hab := hmq _ hrab.1 hrab.2
        have hor := or64_low2 (za.getD (wh + s.length) 0 / 2 ^ p) (za.getD (wh + s.length + 1) 0 * 2 ^ q) q hq32 hxx.1 hxx.2.1 hab.1 (by omega) hab.2.2
        have hsp := Hide.mk (split_shift (za.getD (wh + s.length + 1) 0) (za.getD (wh + s.length) 0) p q HPQ.out)
        clear HI hxd hmq
        by_cases hlt2 : wh + s.length + 1 < za.length
        · have hcb := lie_cell (HA.out.below hbel (Nat.le_refl _)) rfl hlt2
          generalize hm2 : wh + s.length = m at *
          have HM := Hide.mk hm2
          clear hm2
          generalize za.getD m 0 = x at *
          generalize za.getD (m + 1) 0 = ab at *
          go_wp2_with (at_builtin; refine app1 rfl (.tmp 55) (.tmp 58) rfl w.heap.size _ s ((x / 2 ^ p + ab * 2 ^ q) % 4294967296) wr.heap.size rfl rfl (own_alloc HO.out _) (cell_new1 _ _) (by have := hsl.out; omega) (by have := hbel.size; simp; omega) ?_; intro v2 w2 hown2 hgrow)
          have hb2 := own_push HO.out hgrow hbel (by have := hbel.size; omega)
          have HO2 := Hide.mk hown2
          clear hown2 hgrow
          go_wp2
          go_roundw
          case rel => exact ⟨_, by rw [List.length_append, List.length_singleton]; have := HM.out; omega, by rw [List.length_append, List.length_singleton]; have := HM.out; go_num, HO2, ⟨(hstep x ab _).out rfl rfl (by rw [hsp.out])⟩, hb2⟩
          case measure => simp [intOf]; omega
        · have hab0 : za.getD (wh + s.length + 1) 0 = 0 := getD_past (by omega)
          rw [hab0] at hsp hstep
          clear hor hab hrab
          generalize hm2 : wh + s.length = m at *
          have HM := Hide.mk hm2
          clear hm2 hab0
          generalize za.getD m 0 = x at *
          go_wp2_with (at_builtin; refine app1 rfl (.tmp 55) (.tmp 58) rfl w.heap.size _ s (x / 2 ^ p) wr.heap.size rfl rfl (own_alloc HO.out _) (cell_new1 _ _) (by have := hsl.out; omega) (by have := hbel.size; simp; omega) ?_; intro v2 w2 hown2 hgrow)
          have hb2 := own_push HO.out hgrow hbel (by have := hbel.size; omega)
          have HO2 := Hide.mk hown2
          clear hown2 hgrow
          go_wp2
          go_roundw
          case rel => exact ⟨_, by rw [List.length_append, List.length_singleton]; have := HM.out; omega, by rw [List.length_append, List.length_singleton]; have := HM.out; go_num, HO2, ⟨(hstep x 0 _).out rfl rfl (by rw [hsp.out, Int.zero_mul, Int.add_zero, Int.emod_eq_of_lt hxx.1 hxx.2.2])⟩, hb2⟩
          case measure => simp [intOf]; omega
      · have hv := HI.out.done QA.out.1 (by omega)
        rw [← HNW.out] at hv
        have HR := Hide.mk HI.out.rng
        obtain ⟨a2, c2, hve, h1, h2, hl2⟩ := HO.out.lie
        have HT := Hide.mk (trim36 a2 c2 s wr hl2 h1 h2)
        have HV := Hide.mk hv
        have HVE := Hide.mk hve
        clear hv h1 h2 hl2 HI
        generalize hm2 : wh + s.length = m at *
        rw [hve]
        clear hve hm2
        go_wp2_with fail
        refine HT.out.mono ?_
        rintro e w' ⟨rfl, m2, hm2, rfl, hz2, hd2⟩
        have HG : Hide (Downs w wr (Nt.val za) n (.returned (.tuple #[.slice a2 m2 c2, .bool lost]))) := ⟨by
          have hl : (s.take m2).length = m2 := by simp only [List.length_take]; omega
          have ho := HO.out
          rw [HVE.out] at ho
          exact ⟨s.take m2, a2, c2, by rw [hl, HLS.out], by rw [hl]; exact own_take ho hm2, Nt.can_take HR.out hm2 hd2, by rw [Nt.val_take hz2 hm2]; exact HV.out, hbel⟩⟩
        clear hz2 hd2 hm2 HT HO
        go_wp2
        go_ret2
        exact HG.out
structure ByInv (za q : List Int) (d : Int) (m : Nat) (l : Int) : Prop where
  len : q.length = za.length
  rng : Nt.Rng q
  eq : Nt.val (za.drop m) = d * Nt.val (q.drop m) + l
  l0 : 0 ≤ l
  l1 : l < d
theorem ByInv.start {za : List Int} {d : Int} (hd : 0 < d) : ByInv za (List.replicate za.length 0) d za.length 0 :=
  ⟨by simp, fun k => by rw [getD_rep]; decide, by rw [List.drop_eq_nil_of_le (Nat.le_refl _), List.drop_eq_nil_of_le (by simp), Nt.val_nil]; omega, Int.le_refl _, hd⟩
theorem ByInv.step {za q : List Int} {d l : Int} {m : Nat} (h : ByInv za q d (m + 1) l) (hm : m < za.length) (ra : Nt.Rng za) (x : Int) (hx : x = za.getD m 0) :
    ByInv za (q.set m ((l * 4294967296 + x) / d)) d m ((l * 4294967296 + x) % d) := by
  have hl := h.len
  have hxr := ra m
  rw [← hx] at hxr
  have hq := quo_bd h.l0 h.l1 hxr.1 hxr.2
  refine ⟨by rw [List.length_set]; exact hl, Nt.rng_set h.rng hq.1 hq.2.1, ?_, hq.2.2.1, hq.2.2.2⟩
  have e5 : (q.set m ((l * 4294967296 + x) / d)).drop (m + 1) = q.drop (m + 1) := List.drop_set_of_lt (by omega)
  rw [val_drop_step (s := za) hm, val_drop_step (s := q.set m _) (m := m) (by rw [List.length_set]; omega), Nt.getD_set_self (by omega), e5, h.eq, ← hx]
  have := Int.emod_add_mul_ediv (l * 4294967296 + x) d
  generalize (l * 4294967296 + x) % d = r at *
  generalize (l * 4294967296 + x) / d = y at *
  grind
theorem byDigit44 (a : Option Addr) (ca : Nat) (za : List Int) (d : Int) (w : World) (ha : Lie w a za) (ra : Nt.Rng za) (hm : za.length ≤ 100000) (hd : 0 < d) (hd' : d < 4294967296) :
    Calls Tryz.prog 121 #[.slice a za.length ca, .int .u32 d] w fun e w' => ∃ zq zr aq cq ar cr, e = .returned (two (.slice aq zq.length cq) (.slice ar zr.length cr)) ∧ Own w.heap.size w' (.slice aq zq.length cq) zq ∧ Own w.heap.size w' (.slice ar zr.length cr) zr ∧ Nt.Can zq ∧ Nt.Can zr ∧ Nt.val za = Nt.val zq * d + Nt.val zr ∧ Nt.val zr < d ∧ Below w.heap.size w w' := by
  obtain ⟨i0, hi, hz0, hz1, hz2⟩ := info_parts Tryz.info49
  have HA := Hide.mk ha
  have RA := Hide.mk ra
  have hne : (d == 0) = false := beq_eq_false_iff_ne.2 (by omega)
  clear ha ra
  go_enter Tryz.func121, Tryz.ntmps121
  go_wp2_with (at_make; refine wpList_make_full _ rfl _ _ 24 rfl w.heap.size 108 i0 (.int .u32 0) 1 Tryz.underlying24 hi hz0 hz1 .i64 .i64 _ _ za.length rfl rfl (by omega) (by omega) (by rw [hz2]; omega) (by unfold maxLen; omega) (Nat.le_refl _) ?_; intro w1 hown hgrow; have hblk1 := Hide.mk (blk_made hown); have hbel1 := below_of_grown hgrow; clear hown hgrow)
  clear hi hz0 hz1 hz2 i0
  go_loopw [7, 8] (fun lv iv wr => ∃ (k : Nat) (q : List Int) (l : Int), k ≤ za.length ∧ iv = .int .i64 ((k : Int) - 1) ∧ lv = .int .u64 l ∧ 0 ≤ l ∧ l < d ∧ Hide (Blk wr w.heap.size q) ∧ Hide (ByInv za q d k l) ∧ Below w.heap.size w wr) (fun _ iv _ => (intOf iv + 1).toNat)
  case atStart => exact ⟨za.length, _, 0, Nat.le_refl _, rfl, rfl, by decide, hd, hblk1, ⟨ByInv.start hd⟩, hbel1⟩
  case round =>
    obtain ⟨k, q, l, hk, rfl, rfl, hl0, hl1, HK, HI, hbel⟩ := hrel
    clear hblk1 hbel1
    have hlq : Hide (q.length = za.length) := ⟨HI.out.len⟩
    cases k with
    | succ m =>
      have hml : m < za.length := by omega
      obtain ⟨ba, oa, rfl⟩ := lie_some HA.out (by omega)
      have hca := lie_cell (HA.out.below hbel (Nat.le_refl _)) rfl hml
      have hrx := RA.out m
      have hstep := fun x => Hide.mk (fun h => HI.out.step hml RA.out x h)
      have hc1 := HK.out.cell (j := m) (by rw [hlq.out]; exact hml)
      have hf1 := HK.out.frozen m
      have hset := fun x => Hide.mk (HK.out.set m x)
      have hpi : ((m + 1 : Nat) : Int) - 1 = (m : Int) := by omega
      rw [hpi]
      clear HI HK hpi
      generalize za.getD m 0 = x at *
      generalize q.getD m 0 = y at *
      have hor := or64_hi l x hrx.1 hrx.2 hl0 (by omega)
      have hqb := quo_bd hl0 hl1 hrx.1 hrx.2
      go_wp2
      go_roundw
      case rel => exact ⟨m, _, _, by omega, rfl, rfl, hqb.2.2.1, hqb.2.2.2, hset _, ⟨(hstep x).out rfl⟩, hbel.setCell (Nat.le_refl _) _⟩
      case measure => simp [intOf]; try omega
    | zero =>
      have HF : Hide (Nt.val za = Nt.val q * d + l) := ⟨by have := HI.out.eq; simp only [List.drop_zero] at this; rw [this, Int.mul_comm]⟩
      have HR := Hide.mk HI.out.rng
      have HT := Hide.mk (fun hc hm => trim36 _ q.length q wr (HK.out.lie (n := 0)) hc hm)
      have HO := fun n hn hm => Hide.mk (HK.out.own (B := w.heap.size) (n := n) (Nat.le_refl _) hn hm)
      rw [hlq.out] at HT HO
      clear HI HK
      go_wp2_with fail
      refine (HT.out (Nat.le_refl _) (by unfold maxLen; omega)).mono ?_
      rintro e w' ⟨rfl, n, hn, rfl, hz, hdd⟩
      have HZ := Hide.mk (And.intro hz hdd)
      clear hz hdd HT
      go_wp2_with fail
      refine (of17 l hl0 (by omega) wr).mono ?_
      rintro e w4 ⟨zr, ar, cr, rfl, hnum, hor⟩
      have HG : Hide (∃ zq zr' aq cq ar' cr', two (Value.slice (some ⟨w.heap.size, 0, none⟩) n za.length) (.slice ar zr.length cr) = two (.slice aq zq.length cq) (.slice ar' zr'.length cr') ∧ Own w.heap.size w4 (.slice aq zq.length cq) zq ∧ Own w.heap.size w4 (.slice ar' zr'.length cr') zr' ∧ Nt.Can zq ∧ Nt.Can zr' ∧ Nt.val za = Nt.val zq * d + Nt.val zr' ∧ Nt.val zr' < d ∧ Below w.heap.size w w4) := ⟨by
        have hln : (q.take n).length = n := by rw [List.length_take, hlq.out]; omega
        refine ⟨q.take n, zr, some ⟨w.heap.size, 0, none⟩, za.length, ar, cr, by rw [hln], ?_, hor.mono hbel.size, Nt.can_take HR.out (by rw [hlq.out]; exact hn) HZ.out.2, hnum.can, ?_, by rw [hnum.val]; exact hl1, below_then hbel hnum.bel⟩
        · rw [hln]; exact ((HO n hn (by unfold maxLen; omega)).out).below hnum.bel (Nat.le_refl _)
        · rw [Nt.val_take HZ.out.1 (by rw [hlq.out]; exact hn), hnum.val]; exact HF.out⟩
      clear hnum hor HO HZ
      go_wp2
      go_ret2
      obtain ⟨zq, zr', aq, cq, ar', cr', h1, h2⟩ := HG.out
      exact ⟨zq, zr', aq, cq, ar', cr', congrArg Ending.returned h1, h2⟩
theorem val_set {q : List Int} {j : Nat} (x : Int) (hj : j < q.length) : Nt.val (q.set j x) = Nt.val q + (x - q.getD j 0) * 4294967296 ^ j := by
  have h : ∀ n, Nt.vp (q.set j x) n = Nt.vp q n + (if j < n then (x - q.getD j 0) * 4294967296 ^ j else 0) := by
    intro n
    induction n with
    | zero => simp [Nt.vp]
    | succ n ih =>
      rw [Nt.vp_step, Nt.vp_step, ih]
      by_cases e : j = n
      · subst e
        rw [Nt.getD_set_self hj, if_neg (Nat.lt_irrefl _), if_pos (Nat.lt_succ_self _)]
        generalize (4294967296 : Int) ^ j = X
        grind
      · rw [Nt.getD_set_ne e]
        by_cases c : j < n
        · rw [if_pos c, if_pos (by omega)]; omega
        · rw [if_neg c, if_neg (by omega)]; omega
  unfold Nt.val
  rw [List.length_set, h, if_pos hj]
structure BitInv (za zb q : List Int) (r : Int) (i : Nat) : Prop where
  len : q.length = za.length
  rng : Nt.Rng q
  ex : ∃ Q, Nt.val q = Q * 2 ^ i ∧ Nt.val za / 2 ^ i = Q * Nt.val zb + r
  r0 : 0 ≤ r
  r1 : r < Nt.val zb
theorem bits_next (x : Int) (i : Nat) : x / 2 ^ i = 2 * (x / 2 ^ (i + 1)) + x / 2 ^ i % 2 := by
  rw [Int.pow_succ, ← Int.ediv_ediv_of_nonneg (Int.le_of_lt (p2pos i))]
  omega
theorem BitInv.no {za zb q : List Int} {r : Int} {i : Nat} (h : BitInv za zb q r (i + 1)) (hc : 2 * r + Nt.val za / 2 ^ i % 2 < Nt.val zb) : BitInv za zb q (2 * r + Nt.val za / 2 ^ i % 2) i := by
  obtain ⟨Q, e1, e2⟩ := h.ex
  have hr := h.r0
  refine ⟨h.len, h.rng, ⟨2 * Q, by rw [e1, Int.pow_succ]; grind, ?_⟩, by omega, hc⟩
  have := bits_next (Nt.val za) i
  rw [e2] at this
  generalize Nt.val za / 2 ^ i % 2 = b at *
  rw [this]; grind
theorem BitInv.yes {za zb q : List Int} {r d : Int} {i wh p : Nat} (h : BitInv za zb q r (i + 1)) (hc : Nt.val zb ≤ 2 * r + Nt.val za / 2 ^ i % 2) (hi : i = 32 * wh + p) (hp : p < 32) (hw : wh < za.length) (hd : d = q.getD wh 0) :
    BitInv za zb (q.set wh (d + 2 ^ p)) (2 * r + Nt.val za / 2 ^ i % 2 - Nt.val zb) i ∧ d % 2 ^ (p + 1) = 0 ∧ d + 2 ^ p < 4294967296 := by
  obtain ⟨Q, e1, e2⟩ := h.ex
  have hr := h.r1
  have hl := h.len
  have hdr := h.rng wh
  rw [← hd] at hdr
  have hmod : d % 2 ^ (p + 1) = 0 := by
    have e3 := val_drop_div h.rng wh (by omega)
    rw [e1, hi, show 32 * wh + p + 1 = 32 * wh + (p + 1) by omega, pow2_split (32 * wh + (p + 1)) wh (p + 1) rfl, show Q * (4294967296 ^ wh * 2 ^ (p + 1)) = 4294967296 ^ wh * (Q * 2 ^ (p + 1)) by grind, Int.mul_ediv_cancel_left _ (by have := Nt.pw_pos wh; omega), val_drop_step (by omega), ← hd] at e3
    have e4 : (4294967296 : Int) = 2 ^ (p + 1) * 2 ^ (31 - p) := by rw [← Int.pow_add, show p + 1 + (31 - p) = 32 by omega]; decide
    have e5 : d = 2 ^ (p + 1) * (Q - 2 ^ (31 - p) * Nt.val (q.drop (wh + 1))) := by
      rw [e4] at e3
      generalize (2 : Int) ^ (p + 1) = X at *
      generalize (2 : Int) ^ (31 - p) = Y at *
      grind
    rw [e5]; exact Int.mul_emod_right _ _
  have hup : d + 2 ^ p < 4294967296 := by
    have e4 : (4294967296 : Int) = 2 ^ (p + 1) * 2 ^ (31 - p) := by rw [← Int.pow_add, show p + 1 + (31 - p) = 32 by omega]; decide
    obtain ⟨m, hm⟩ := Int.dvd_of_emod_eq_zero hmod
    have hp1 := p2pos (p + 1)
    have hm1 : m < 2 ^ (31 - p) := by
      by_cases c : m < 2 ^ (31 - p)
      · exact c
      · have : 2 ^ (p + 1) * 2 ^ (31 - p) ≤ 2 ^ (p + 1) * m := Int.mul_le_mul_of_nonneg_left (by omega) (by omega)
        omega
    have : 2 ^ (p + 1) * (m + 1) ≤ 2 ^ (p + 1) * 2 ^ (31 - p) := Int.mul_le_mul_of_nonneg_left (by omega) (by omega)
    rw [Int.mul_add, ← hm, ← e4] at this
    rw [Int.pow_succ] at this
    have := p2pos p
    omega
  have hpp := p2pos p
  refine ⟨⟨by rw [List.length_set]; exact hl, Nt.rng_set h.rng (by omega) hup, ⟨2 * Q + 1, ?_, ?_⟩, by omega, by have := Int.emod_lt_of_pos (Nt.val za / 2 ^ i) (show (0 : Int) < 2 by decide); omega⟩, hmod, hup⟩
  · rw [val_set _ (by omega), ← hd, e1, show d + 2 ^ p - d = 2 ^ p by omega]
    have e6 : (2 : Int) ^ i = 4294967296 ^ wh * 2 ^ p := pow2_split i wh p hi
    rw [Int.pow_succ, e6]
    generalize (4294967296 : Int) ^ wh = X
    generalize (2 : Int) ^ p = Y
    grind
  · have := bits_next (Nt.val za) i
    rw [e2] at this
    generalize Nt.val za / 2 ^ i % 2 = b at *
    rw [this]; grind
theorem or32_bit (d : Int) (p : Nat) (hp : p < 32) (h0 : 0 ≤ d) (h1 : d < 4294967296) (hm : d % 2 ^ (p + 1) = 0) : bits .or .u32 d (2 ^ p) = d + 2 ^ p := by
  have hb := two_pow_le p hp
  rw [u32_or d _ h0 h1 (by omega) (by omega)]
  have e : ((2 ^ (p + 1) : Nat) : Int) = (2 : Int) ^ (p + 1) := by simp
  have hs : (2 : Int) ^ (p + 1) = 2 ^ p * 2 := Int.pow_succ _ _
  have := nat_join (p + 1) d.toNat ((2 : Int) ^ p).toNat (by
    have h1 : ((d.toNat % 2 ^ (p + 1) : Nat) : Int) = d % 2 ^ (p + 1) := by
      rw [Int.natCast_emod, e, Int.toNat_of_nonneg h0]
    rw [hm] at h1
    omega) (by omega)
  rw [this]; omega
theorem BitInv.start {za zb : List Int} {A B L : Nat} (hA : Bits (Nt.val za) A) (hB : Bits (Nt.val zb) B) (h0 : 0 ≤ Nt.val za) (hL : A + 1 ≤ L + B) : BitInv za zb (List.replicate za.length 0) (Nt.val za / 2 ^ L) L := by
  have hz : Nt.val (List.replicate za.length (0 : Int)) = 0 := vp_rep _ _
  refine ⟨by simp, fun k => by rw [getD_rep]; decide, ⟨0, by rw [hz]; simp, by simp⟩, Int.ediv_nonneg h0 (Int.le_of_lt (p2pos L)), Int.ediv_lt_of_lt_mul (p2pos L) ?_⟩
  have h1 := hA.lt
  have h2 := hB.le
  have h3 := p2mono (show A + 1 ≤ L + B from hL)
  rw [Int.pow_succ, Int.pow_add] at h3
  have h4 : 2 ^ L * 2 ^ B ≤ 2 ^ L * (2 * Nt.val zb) := Int.mul_le_mul_of_nonneg_left h2 (Int.le_of_lt (p2pos L))
  have e : 2 ^ L * (2 * Nt.val zb) = 2 * (Nt.val zb * 2 ^ L) := by grind
  omega
theorem refUp_one (a : Option Addr) (ca : Nat) (za : List Int) (w : World) (ha : Lie w a za) (ra : Nt.Rng za) (hm : za.length ≤ 100000) :
    Calls Tryz.prog 94 #[.slice a za.length ca, .int .i64 1] w fun e w' => Made w w' (2 * Nt.val za) e := by
  have := refUp_any a ca za w 1 (by decide) ha ra hm
  rw [show Nt.val za * 2 ^ 1 = 2 * Nt.val za by omega] at this
  exact this
theorem own_set_low {B : Nat} {w : World} {v : Value} {zs : List Int} {g j : Nat} {x : Int} (h : Own B w v zs) (hg : g < B) : Own B (w.setCell ⟨g, j, none⟩ (.int .u32 x)) v zs := ownsRow_setCell_below h hg _
theorem Blk.drew {w : World} {g : Nat} {s : List Int} (h : Blk w g s) : Blk w.drew g s := h
set_option maxRecDepth 100000 in
theorem refQuo29_long (a b : Option Addr) (ca cb : Nat) (za zb : List Int) (w : World) (ha : Lie w a za) (hb : Lie w b zb) (qa : Nt.Can za) (qb : Nt.Can zb) (hz : 2 ≤ zb.length) (hza : 0 < za.length) (hm : za.length ≤ 5000) (hmb : zb.length ≤ 5000) :
    Calls Tryz.prog 96 #[.slice a za.length ca, .slice b zb.length cb] w fun e w' => Divs w w' za zb two e := by
  obtain ⟨i0, hi, hz0, hz1, hz2⟩ := info_parts Tryz.info49
  have hne : ((zb.length : Int) == 1) = false := beq_eq_false_iff_ne.2 (by omega)
  have C1 := fun W (h : Below w.heap.size w W) => Hide.mk (refLen45 a ca za W (ha.below h (Nat.le_refl _)) qa hza (by omega))
  have C2 := fun W (h : Below w.heap.size w W) => Hide.mk (refLen45 b cb zb W (hb.below h (Nat.le_refl _)) qb (by omega) (by omega))
  have C3 := fun W (h : Below w.heap.size w W) n hn => Hide.mk (refDown46 a ca za W n hn (ha.below h (Nat.le_refl _)) qa hza (by omega))
  have C4 := fun W (h : Below w.heap.size w W) i hi => Hide.mk (refBit48 a ca za W i (ha.below h (Nat.le_refl _)) qa.1 (by omega) hi)
  have HBL := Hide.mk hb
  have QB := Hide.mk qb
  have VA := Hide.mk (Nt.val_bd qa.1)
  have VB := Hide.mk (Nt.val_bd qb.1)
  clear ha hb qa qb
  go_enter Tryz.func96, Tryz.ntmps96
  go_wp2_with (at_make; refine wpList_make_full _ rfl _ _ 24 rfl w.heap.size 108 i0 (.int .u32 0) 1 Tryz.underlying24 hi hz0 hz1 .i64 .i64 _ _ za.length rfl rfl (by omega) (by omega) (by rw [hz2]; omega) (by unfold maxLen; omega) (Nat.le_refl _) ?_; intro w1 hown hgrow; have hblk1 := Hide.mk (blk_made hown); have hbel1 := below_of_grown hgrow; clear hown hgrow)
  clear hi hz0 hz1 hz2 i0
  refine (C1 w1 hbel1).out.mono ?_
  rintro e w' ⟨rfl, A, rfl, hA, hA1, hA2⟩
  go_wp2_with fail
  refine (C2 w1 hbel1).out.mono ?_
  rintro e w' ⟨rfl, B, rfl, hB, hB1, hB2⟩
  obtain ⟨Lf, hLf⟩ : ∃ Lf : Nat, (Lf : Int) = max 0 ((A : Int) - (B : Int) + 1) := ⟨(max 0 ((A : Int) - (B : Int) + 1)).toNat, by omega⟩
  have hL0 : A + 1 ≤ Lf + B := by omega
  have hL1 : Lf ≤ A + 1 := by omega
  have HST := Hide.mk (BitInv.start hA hB VA.out.1 hL0)
  have hLw : Lf ≤ 32 * za.length := by omega
  have hmax : max 0 ((A : Int) - (B : Int) + 1) = (Lf : Int) := hLf.symm
  have C5 := C3 w1 hbel1 Lf (by omega)
  clear hA hB C1 C2 C3 hLf
  go_wp2_with fail
  refine C5.out.mono ?_
  rintro e w2 ⟨z1, a1, c1, rfl, o1, hc1, hv1, hb2⟩
  have hbw2 := below_then hbel1 hb2
  have HK2 := Hide.mk (hblk1.out.below hb2 hblk1.out.lt)
  have HO2 := Hide.mk (o1.mono (show w.heap.size + 1 ≤ w1.heap.size from hblk1.out.lt))
  have HC2 := Hide.mk hc1
  rw [← hv1] at HST
  clear C5 o1 hc1 hv1 hb2 hblk1 hbel1
  go_wp2
  go_loopw [8, 10] (fun v iv wr => ∃ (k : Nat) (q zr : List Int), k ≤ Lf ∧ iv = .int .i64 ((k : Int) - 1) ∧ Hide (Own (w.heap.size + 1) wr v zr) ∧ Hide (Nt.Can zr) ∧ Hide (Blk wr w.heap.size q) ∧ Hide (BitInv za zb q (Nt.val zr) k) ∧ Below w.heap.size w wr) (fun _ iv _ => (intOf iv + 1).toNat)
  case atStart => exact ⟨Lf, _, z1, Nat.le_refl _, rfl, HO2, HC2, HK2, HST, hbw2⟩
  case round =>
    obtain ⟨k, q, zr, hk, rfl, HO, HC, HK, HI, hbel⟩ := hrel
    clear HO2 HC2 HK2 HST hbw2
    have hlq : Hide (q.length = za.length) := ⟨HI.out.len⟩
    have HRQ := Hide.mk HI.out.rng
    obtain ⟨ar, cr, hve, hzc, hcm, hlr⟩ := HO.out.lie
    have hlzr : zr.length ≤ zb.length := by
      refine (Nt.can_len HC.out _).1 ?_
      have h1 := HI.out.r1
      have h2 := VB.out.2
      omega
    cases k with
    | succ m =>
      have hpi : ((m + 1 : Nat) : Int) - 1 = (m : Int) := by omega
      rw [hpi, hve]
      have C6 := Hide.mk (refUp_one ar cr zr wr hlr HC.out.1 (by omega))
      have hgq := HK.out.lt
      clear hpi HO hlr hzc hcm
      go_wp2_with fail
      refine C6.out.mono ?_
      rintro e w3 ⟨zu, au, cu, rfl, ou, hcu, hvu, hb3⟩
      have hbw3 := below_then hbel hb3
      have HK3 := Hide.mk (HK.out.below hb3 HK.out.lt)
      have C7 := C4 w3 hbw3 m (by omega)
      clear C6
      rcases (show Nt.val za / 2 ^ m % 2 = 0 ∨ Nt.val za / 2 ^ m % 2 = 1 by omega) with hbit | hbit
      · rw [hbit] at C7
        have HBIT := Hide.mk hbit
        clear hbit
        go_wp2_with fail
        refine C7.out.mono ?_
        rintro e w' ⟨rfl, rfl⟩
        have hvu2 : Nt.val zu = 2 * Nt.val zr + 0 := by rw [hvu]; omega
        have hbase : w.heap.size + 1 ≤ wr.heap.size := hgq
        have hvu' : Nt.val zu = 2 * Nt.val zr + Nt.val za / 2 ^ m % 2 := by rw [hvu2, HBIT.out]
        have hl2 : zu.length ≤ zb.length + 1 := by
          refine (Nt.can_len hcu _).1 ?_
          have h1 := HI.out.r1
          have h2 := VB.out.2
          have h3 := HI.out.r0
          have hbb : Nt.val za / 2 ^ m % 2 < 2 := Int.emod_lt_of_pos _ (by decide)
          rw [hvu', Nt.pw_succ]
          have := Nt.pw_pos zb.length
          omega
        have C8 := Hide.mk (refCmp22 au b cu cb zu zb w3 (ownLie ou) (HBL.out.below hbw3 (Nat.le_refl _)) hcu QB.out (by unfold maxLen; omega))
        have hgq4 := HK3.out.lt
        by_cases hge : Nt.val zb ≤ Nt.val zu
        · have hsg : 0 ≤ sgn (Nt.val zu) (Nt.val zb) := by unfold sgn; split <;> (try split) <;> omega
          have HY := Hide.mk (HI.out.yes (d := q.getD (m / 32) 0) (wh := m / 32) (p := m % 32) (by rw [← hvu']; exact hge) (by omega) (Nat.mod_lt _ (by decide)) (by omega) rfl)
          have C9 := fun W (h : Below w3.heap.size w3 W) => Hide.mk (refSub24 au b cu cb zu zb W ((ownLie ou).below h (Nat.le_refl _)) (HBL.out.below (below_then hbw3 h) (Nat.le_refl _)) hcu.1 QB.out.1 (by omega) ((Nt.can_len QB.out _).1 (by have := (Nt.val_bd hcu.1).2; omega)) hge)
          have HV2 := Hide.mk hvu'
          clear hge hcu hvu2 hvu' HI ou
          generalize sgn (Nt.val zu) (Nt.val zb) = sg at *
          go_wp2_with fail
          refine C8.out.mono ?_
          rintro e w5 ⟨rfl, hb5⟩
          have hbw5 := below_then hbw3 hb5
          have C10 := C9 w5 hb5
          have HK5 := Hide.mk (HK3.out.below hb5 HK3.out.lt)
          clear C8 C9 HK3 hb5
          go_wp2_with fail
          refine C10.out.mono ?_
          rintro e w6 ⟨z3, a3, c3, rfl, o3, hc3, hv3, hb6⟩
          have hbw6 := below_then hbw5 hb6
          have HK6 := Hide.mk (HK5.out.below hb6 HK5.out.lt)
          have hwl : m / 32 < q.length := by rw [hlq.out]; omega
          have hcq := HK6.out.cell hwl
          have hfq := HK6.out.frozen (m / 32)
          have hset := fun x => Hide.mk (HK6.out.set (m / 32) x)
          have hrq := HRQ.out (m / 32)
          have hor := or32_bit (q.getD (m / 32) 0) (m % 32) (Nat.mod_lt _ (by decide)) hrq.1 hrq.2 HY.out.2.1
          have htp := two_pow_le (m % 32) (Nat.mod_lt _ (by decide))
          have hup := HY.out.2.2
          have HC3 := Hide.mk hc3
          have HV3 : Hide (BitInv za zb (q.set (m / 32) (q.getD (m / 32) 0 + 2 ^ (m % 32))) (Nt.val z3) m) := ⟨by rw [hv3, HV2.out]; exact HY.out.1⟩
          have HSO : Hide (∀ x, Own (w.heap.size + 1) ((w6.setCell ⟨w.heap.size, m / 32, none⟩ (.int .u32 x)).drew) (.slice a3 z3.length c3) z3) := ⟨fun x => (own_set_low (o3.mono (show w.heap.size + 1 ≤ w5.heap.size from HK5.out.lt)) (Nat.lt_succ_self _)).below (Below.refl _ _).drew (Nat.le_refl _)⟩
          have hdq : (m : Int) / 32 = ((m / 32 : Nat) : Int) := by omega
          have hdm : (m : Int) % 32 = ((m % 32 : Nat) : Int) := by omega
          have hp32 : m % 32 < 32 := Nat.mod_lt _ (by decide)
          have hwz : m / 32 < za.length := by omega
          clear C10 o3 hc3 hv3 HK5 hb6 HY hwl HV2 HK6 hbw5
          generalize q.getD (m / 32) 0 = dq at *
          generalize m / 32 = wh at *
          generalize m % 32 = p at *
          have hone : (1 : Int) * 2 ^ p = 2 ^ p := Int.one_mul _
          go_wp2
          go_region
          all_goals go_wp2
          go_roundw
          case rel => exact ⟨m, _, z3, by omega, by go_num, ⟨HSO.out _⟩, HC3, ⟨(hset _).out.drew⟩, HV3, (hbw6.setCell (Nat.le_refl _) _).drew⟩
          case measure => simp [intOf]; try omega
        · have hlt2 : sgn (Nt.val zu) (Nt.val zb) = -1 := sgn_lt (by omega)
          rw [hlt2] at C8
          have HN : Hide (BitInv za zb q (Nt.val zu) m) := ⟨by rw [hvu']; exact HI.out.no (by rw [← hvu']; omega)⟩
          have HO2 := Hide.mk ((ou.mono hbase).below (Below.refl _ _) (Nat.le_refl _))
          have HC2 := Hide.mk hcu
          clear hlt2 hge hcu hvu2 hvu' HI ou
          go_wp2_with fail
          refine C8.out.mono ?_
          rintro e w5 ⟨rfl, hb5⟩
          have hbw5 := below_then hbw3 hb5
          have HK5 := Hide.mk (HK3.out.below hb5 HK3.out.lt)
          have HO5 := Hide.mk (HO2.out.below hb5 (Nat.le_refl _))
          clear C8 HK3 hb5
          go_wp2
          go_roundw
          case rel => exact ⟨m, q, zu, by omega, by go_num, HO5, HC2, HK5, HN, hbw5⟩
          case measure => simp [intOf]; try omega
      · rw [hbit] at C7
        have HBIT := Hide.mk hbit
        clear hbit
        have C7b := Hide.mk (refAdd23 au (some ⟨w3.heap.size, 0, none⟩) cu 1 zu [1] _ ((ownLie ou).below (below_alloc w3 (.cells #[.int .u32 1] 108)) (Nat.le_refl _)) (lie_new w3 [1]) hcu.1 (Nt.rng_mem (by simp)) (by
          have h1 : zu.length ≤ zb.length + 1 := by
            refine (Nt.can_len hcu _).1 ?_
            have h1 := HI.out.r1
            have h2 := VB.out.2
            rw [hvu, Nt.pw_succ]
            have := Nt.pw_pos zb.length
            omega
          omega) (by simp))
        rw [hvu, val_one] at C7b
        have hbw3a := below_then hbw3 (below_alloc w3 (.cells #[.int .u32 1] 108))
        have HK3a := Hide.mk (HK3.out.below (below_alloc w3 (.cells #[.int .u32 1] 108)) HK3.out.lt)
        clear ou hcu hvu
        go_wp2_with fail
        refine C7.out.mono ?_
        rintro e w' ⟨rfl, rfl⟩
        go_wp2_with fail
        refine C7b.out.mono ?_
        rintro e w4 ⟨z2, a2, c2, rfl, o2, hc2, hv2, hb4⟩
        have hbw4 := below_then hbw3a hb4
        have HK4 := Hide.mk (HK3a.out.below hb4 HK3a.out.lt)
        have hbase := HK3a.out.lt
        clear C7 C7b hb4 HK3 HK3a hbw3 hbw3a
        have hv2' : Nt.val z2 = 2 * Nt.val zr + Nt.val za / 2 ^ m % 2 := by rw [hv2, HBIT.out]
        have hl2 : z2.length ≤ zb.length + 1 := by
          refine (Nt.can_len hc2 _).1 ?_
          have h1 := HI.out.r1
          have h2 := VB.out.2
          have h3 := HI.out.r0
          have hbb : Nt.val za / 2 ^ m % 2 < 2 := Int.emod_lt_of_pos _ (by decide)
          rw [hv2', Nt.pw_succ]
          have := Nt.pw_pos zb.length
          omega
        have C8 := Hide.mk (refCmp22 a2 b c2 cb z2 zb w4 (ownLie o2) (HBL.out.below hbw4 (Nat.le_refl _)) hc2 QB.out (by unfold maxLen; omega))
        have hgq4 := HK4.out.lt
        by_cases hge : Nt.val zb ≤ Nt.val z2
        · have hsg : 0 ≤ sgn (Nt.val z2) (Nt.val zb) := by unfold sgn; split <;> (try split) <;> omega
          have HY := Hide.mk (HI.out.yes (d := q.getD (m / 32) 0) (wh := m / 32) (p := m % 32) (by rw [← hv2']; exact hge) (by omega) (Nat.mod_lt _ (by decide)) (by omega) rfl)
          have C9 := fun W (h : Below w4.heap.size w4 W) => Hide.mk (refSub24 a2 b c2 cb z2 zb W ((ownLie o2).below h (Nat.le_refl _)) (HBL.out.below (below_then hbw4 h) (Nat.le_refl _)) hc2.1 QB.out.1 (by omega) ((Nt.can_len QB.out _).1 (by have := (Nt.val_bd hc2.1).2; omega)) hge)
          have HV2 := Hide.mk hv2'
          clear hge hc2 hv2 hv2' HI o2
          generalize sgn (Nt.val z2) (Nt.val zb) = sg at *
          go_wp2_with fail
          refine C8.out.mono ?_
          rintro e w5 ⟨rfl, hb5⟩
          have hbw5 := below_then hbw4 hb5
          have C10 := C9 w5 hb5
          have HK5 := Hide.mk (HK4.out.below hb5 HK4.out.lt)
          clear C8 C9 HK4 hb5
          go_wp2_with fail
          refine C10.out.mono ?_
          rintro e w6 ⟨z3, a3, c3, rfl, o3, hc3, hv3, hb6⟩
          have hbw6 := below_then hbw5 hb6
          have HK6 := Hide.mk (HK5.out.below hb6 HK5.out.lt)
          have hwl : m / 32 < q.length := by rw [hlq.out]; omega
          have hcq := HK6.out.cell hwl
          have hfq := HK6.out.frozen (m / 32)
          have hset := fun x => Hide.mk (HK6.out.set (m / 32) x)
          have hrq := HRQ.out (m / 32)
          have hor := or32_bit (q.getD (m / 32) 0) (m % 32) (Nat.mod_lt _ (by decide)) hrq.1 hrq.2 HY.out.2.1
          have htp := two_pow_le (m % 32) (Nat.mod_lt _ (by decide))
          have hup := HY.out.2.2
          have HC3 := Hide.mk hc3
          have HV3 : Hide (BitInv za zb (q.set (m / 32) (q.getD (m / 32) 0 + 2 ^ (m % 32))) (Nt.val z3) m) := ⟨by rw [hv3, HV2.out]; exact HY.out.1⟩
          have HSO : Hide (∀ x, Own (w.heap.size + 1) ((w6.setCell ⟨w.heap.size, m / 32, none⟩ (.int .u32 x)).drew) (.slice a3 z3.length c3) z3) := ⟨fun x => (own_set_low (o3.mono (show w.heap.size + 1 ≤ w5.heap.size from HK5.out.lt)) (Nat.lt_succ_self _)).below (Below.refl _ _).drew (Nat.le_refl _)⟩
          have hdq : (m : Int) / 32 = ((m / 32 : Nat) : Int) := by omega
          have hdm : (m : Int) % 32 = ((m % 32 : Nat) : Int) := by omega
          have hp32 : m % 32 < 32 := Nat.mod_lt _ (by decide)
          have hwz : m / 32 < za.length := by omega
          clear C10 o3 hc3 hv3 HK5 hb6 HY hwl HV2 HK6 hbw5
          generalize q.getD (m / 32) 0 = dq at *
          generalize m / 32 = wh at *
          generalize m % 32 = p at *
          have hone : (1 : Int) * 2 ^ p = 2 ^ p := Int.one_mul _
          go_wp2
          go_region
          all_goals go_wp2
          go_roundw
          case rel => exact ⟨m, _, z3, by omega, by go_num, ⟨HSO.out _⟩, HC3, ⟨(hset _).out.drew⟩, HV3, (hbw6.setCell (Nat.le_refl _) _).drew⟩
          case measure => simp [intOf]; try omega
        · have hlt2 : sgn (Nt.val z2) (Nt.val zb) = -1 := sgn_lt (by omega)
          rw [hlt2] at C8
          have HN : Hide (BitInv za zb q (Nt.val z2) m) := ⟨by rw [hv2']; exact HI.out.no (by rw [← hv2']; omega)⟩
          have HOO := Hide.mk ((o2.mono hbase).below (Below.refl _ _) (Nat.le_refl _))
          have HC2 := Hide.mk hc2
          clear hlt2 hge hc2 hv2 hv2' HI o2
          go_wp2_with fail
          refine C8.out.mono ?_
          rintro e w5 ⟨rfl, hb5⟩
          have hbw5 := below_then hbw4 hb5
          have HK5 := Hide.mk (HK4.out.below hb5 HK4.out.lt)
          have HO5 := Hide.mk (HOO.out.below hb5 (Nat.le_refl _))
          clear C8 HK4 hb5
          go_wp2
          go_roundw
          case rel => exact ⟨m, q, z2, by omega, by go_num, HO5, HC2, HK5, HN, hbw5⟩
          case measure => simp [intOf]; try omega
    | zero =>
      have HF : Hide (Nt.val za = Nt.val q * Nt.val zb + Nt.val zr ∧ Nt.val zr < Nt.val zb) := ⟨by
        obtain ⟨Q, e1, e2⟩ := HI.out.ex
        rw [Int.pow_zero, Int.mul_one] at e1
        rw [Int.pow_zero, Int.ediv_one] at e2
        rw [e1, e2]
        exact ⟨rfl, HI.out.r1⟩⟩
      have HT := Hide.mk (fun hc hm => trim36 _ q.length q wr (HK.out.lie (n := 0)) hc hm)
      have HOW := fun n hn hm => Hide.mk (HK.out.own (B := w.heap.size) (n := n) (Nat.le_refl _) hn hm)
      rw [hlq.out] at HT HOW
      have HVE := Hide.mk hve
      have ho2 := HO.out
      rw [hve] at ho2
      have HO3 := Hide.mk (ho2.mono (Nat.le_succ w.heap.size))
      rw [hve]
      clear HI HK hlr hzc hcm HO ho2 hve
      go_wp2_with fail
      refine (HT.out (Nat.le_refl _) (by unfold maxLen; omega)).mono ?_
      rintro e w' ⟨rfl, n, hn, rfl, hz9, hd9⟩
      have HG : Hide (Divs w wr za zb two (.returned (two (.slice (some ⟨w.heap.size, 0, none⟩) n za.length) (.slice ar zr.length cr)))) := ⟨by
        have hln : (q.take n).length = n := by rw [List.length_take, hlq.out]; omega
        exact ⟨q.take n, zr, some ⟨w.heap.size, 0, none⟩, za.length, ar, cr, by rw [hln], by rw [hln]; exact (HOW n hn (by unfold maxLen; omega)).out, HO3.out, Nt.can_take HRQ.out (by rw [hlq.out]; exact hn) hd9, HC.out, by rw [Nt.val_take hz9 (by rw [hlq.out]; exact hn)]; exact HF.out.1, HF.out.2, hbel⟩⟩
      clear hz9 hd9 HT HOW
      go_wp2
      go_ret2
      exact HG.out
theorem refLen_nil (a : Option Addr) (ca : Nat) (w : World) : Calls Tryz.prog 89 #[.slice a 0 ca] w fun e w' => e = .returned (.int .i64 0) ∧ w = w' := by
  go_enter Tryz.func89, Tryz.ntmps89
  go_wp2
  go_ret
  exact ⟨rfl, rfl⟩
theorem refDown_nil (a : Option Addr) (ca : Nat) (w : World) (n : Int) (hn : 0 ≤ n) : Calls Tryz.prog 104 #[.slice a 0 ca, .int .i64 n] w fun e w' => e = .returned (.tuple #[.slice none 0 0, .bool false]) ∧ w = w' := by
  go_enter Tryz.func104, Tryz.ntmps104
  go_wp2_with fail
  refine (refLen_nil a ca w).mono ?_
  rintro e w' ⟨rfl, rfl⟩
  go_wp2
  go_ret2
  exact ⟨rfl, rfl⟩
theorem refQuo_nil (a b : Option Addr) (ca cb : Nat) (zb : List Int) (w : World) (hb : Lie w b zb) (qb : Nt.Can zb) (hz : 2 ≤ zb.length) (hmb : zb.length ≤ 5000) :
    Calls Tryz.prog 96 #[.slice a 0 ca, .slice b zb.length cb] w fun e w' => Divs w w' [] zb two e := by
  obtain ⟨i0, hi, hz0, hz1, hz2⟩ := info_parts Tryz.info49
  have hne : ((zb.length : Int) == 1) = false := beq_eq_false_iff_ne.2 (by omega)
  have C2 := fun W (h : Below w.heap.size w W) => Hide.mk (refLen45 b cb zb W (hb.below h (Nat.le_refl _)) qb (by omega) (by omega))
  have VB : Hide (0 < Nt.val zb) := ⟨by have h1 := can_ge qb (by omega); have h2 := Nt.pw_pos (zb.length - 1); omega⟩
  clear hb qb
  go_enter Tryz.func96, Tryz.ntmps96
  go_wp2_with (at_make; refine wpList_make_full _ rfl _ _ 24 rfl w.heap.size 108 i0 (.int .u32 0) 1 Tryz.underlying24 hi hz0 hz1 .i64 .i64 _ _ 0 rfl rfl (by omega) (by omega) (by rw [hz2]; omega) (by unfold maxLen; omega) (Nat.le_refl _) ?_; intro w1 hown hgrow; have hblk1 := Hide.mk (blk_made hown); have hbel1 := below_of_grown hgrow; clear hown hgrow)
  clear hi hz0 hz1 hz2 i0
  refine (refLen_nil a ca w1).mono ?_
  rintro e w' ⟨rfl, rfl⟩
  go_wp2_with fail
  refine (C2 w1 hbel1).out.mono ?_
  rintro e w' ⟨rfl, B, rfl, hB, hB1, hB2⟩
  have hmax : max 0 (0 - (B : Int) + 1) = 0 := by omega
  have hmax2 : max 0 (-(B : Int) + 1) = 0 := by omega
  clear hB C2
  go_wp2_with fail
  refine (refDown_nil a ca w1 0 (by decide)).mono ?_
  rintro e w' ⟨rfl, rfl⟩
  go_wp2
  refine wp_loop_rounds 1 ?_
  rw [rounds_succ]
  go_wp2_with fail
  refine (trim36 (some ⟨w.heap.size, 0, none⟩) 0 [] w1 (.inl rfl) (by simp) (by unfold maxLen; omega)).mono ?_
  rintro e w' ⟨rfl, n, hn, rfl, _, _⟩
  have hn0 : n = 0 := by simpa using hn
  subst hn0
  have HG : Hide (Divs w w1 [] zb two (.returned (two (.slice (some ⟨w.heap.size, 0, none⟩) 0 0) (.slice none 0 0)))) := ⟨by
    have ho := hblk1.out.own (B := w.heap.size) (n := 0) (Nat.le_refl _) (by simp) (by unfold maxLen; simp)
    exact ⟨[], [], some ⟨w.heap.size, 0, none⟩, 0, none, 0, rfl, by simpa using ho, Own.nil _ _, Nt.can_nil, Nt.can_nil, by rw [Nt.val_nil]; simp, by rw [Nt.val_nil]; exact VB.out, hbel1⟩⟩
  go_wp2
  go_ret2
  exact HG.out
theorem refQuo_one (a : Option Addr) (ca cb bb bo : Nat) (za : List Int) (d : Int) (w : World) (ha : Lie w a za) (hb : Lie w (some ⟨bb, bo, none⟩) [d]) (ra : Nt.Rng za) (qb : Nt.Can [d]) (hm : za.length ≤ 100000) :
    Calls Tryz.prog 96 #[.slice a za.length ca, .slice (some ⟨bb, bo, none⟩) 1 cb] w fun e w' => Divs w w' za [d] two e := by
  have hd0 : d ≠ 0 := by have := qb.2 (by simp); simpa using this
  have hdr := qb.1 0
  simp only [List.getD_cons_zero] at hdr
  have hc : w.cell? ⟨bb, bo, none⟩ = some (.int .u32 d) := lie_cell hb rfl (i := 0) (by simp)
  have C1 := Hide.mk (byDigit44 a ca za d w ha ra hm (by omega) hdr.2)
  clear ha hb ra qb
  go_enter Tryz.func96, Tryz.ntmps96
  go_wp2_with fail
  refine C1.out.mono ?_
  rintro e w2 ⟨zq, zr, aq, cq, ar, cr, rfl, h1, h2, h3, h4, h5, h6, h7⟩
  have HF : Hide (Divs w w2 za [d] two (.returned (two (.slice aq zq.length cq) (.slice ar zr.length cr)))) := ⟨⟨zq, zr, aq, cq, ar, cr, rfl, h1, h2, h3, h4, by rw [val_one]; exact h5, by rw [val_one]; exact h6, h7⟩⟩
  clear h1 h2 h3 h4 h5 h6 h7 C1
  unfold two
  go_wp2
  go_ret2
  exact HF.out
theorem refQuo_any (a b : Option Addr) (ca cb : Nat) (za zb : List Int) (w : World) (ha : Lie w a za) (hb : Lie w b zb) (qa : Nt.Can za) (qb : Nt.Can zb) (hz : 0 < zb.length) (hm : za.length ≤ 5000) (hmb : zb.length ≤ 5000) :
    Calls Tryz.prog 96 #[.slice a za.length ca, .slice b zb.length cb] w fun e w' => Divs w w' za zb two e := by
  match zb, hz with
  | [d], _ =>
    obtain ⟨bb, bo, rfl⟩ := lie_some hb (by simp)
    exact refQuo_one a ca cb bb bo za d w ha hb qa.1 qb (by omega)
  | d :: e :: r, _ =>
    by_cases h : za.length = 0
    · have : za = [] := List.length_eq_zero_iff.1 h
      subst this
      exact refQuo_nil a b ca cb _ w hb qb (by simp) hmb
    · exact refQuo29_long a b ca cb za (d :: e :: r) w ha hb qa qb (by simp) (by omega) hm hmb

def Wr (B : Nat) (w : World) (v : Value) : Prop := v = .slice none 0 0 ∨ ∃ g n cap cur, v = .slice (some ⟨g, 0, none⟩) n cap ∧ B ≤ g ∧ w.heap[g]? = some (.cells cur 108 (0, 0)) ∧ n ≤ cur.size ∧ n ≤ 1000000
structure RtInv (x r s : Int) : Prop where
  r0 : 0 ≤ r
  s0 : 0 ≤ s
  eq : x = r * r + s
  le : s ≤ 2 * r
def PowEnd (w w' : World) (x M : Int) (e : Ending) : Prop :=
  (x < M ∧ ∃ zs a c, e = .returned (.tuple #[.slice a zs.length c, .int .i64 0]) ∧ Lie w' a zs ∧ Good zs x ∧ Below w.heap.size w w') ∨
  (M ≤ x ∧ e = .returned (.tuple #[.slice none 0 0, .int .i64 3]) ∧ Below w.heap.size w w')
def IsRow (k : IntKind) (w : World) (a : Option Addr) (len cap : Nat) (zs : List Int) : Prop :=
  (a = none ∧ len = 0 ∧ cap = 0 ∧ zs = []) ∨
  ∃ x, a = some x ∧ len ≤ cap ∧ cap ≤ maxLen ∧ zs.length = cap ∧ (∀ i, i < zs.length → w.cell? (x.add i) = some (.int k (zs.getD i 0))) ∧ ∀ n ∈ zs, (Lit.int k n).wf = true
theorem wf_u32 {n : Int} (h : (Lit.int .u32 n).wf = true) : 0 ≤ n ∧ n < 4294967296 := by
  have e : ∀ n, (Lit.int .u32 n).wf = (decide (IntKind.u32.min ≤ n) && decide (n ≤ IntKind.u32.max)) := fun _ => rfl
  rw [e] at h
  have e1 : IntKind.u32.min = 0 := rfl
  have e2 : IntKind.u32.max = 4294967295 := rfl
  rw [e1, e2] at h
  simp at h
  omega
theorem row_lie {w : World} {a : Option Addr} {len cap : Nat} {zs : List Int} (h : IsRow .u32 w a len cap zs) : ∃ ys, ys.length = len ∧ Lie w a ys ∧ Nt.Rng ys ∧ len ≤ maxLen := by
  rcases h with ⟨rfl, rfl, rfl, rfl⟩ | ⟨x, rfl, hl, hm, hz, hc, hw⟩
  · exact ⟨[], rfl, .inl rfl, Nt.rng_nil, Nat.zero_le _⟩
  · have hr : Nt.Rng zs := Nt.rng_mem (fun z hz => wf_u32 (hw z hz))
    refine ⟨zs.take len, by simp; omega, ?_, Nt.rng_take hr len, by omega⟩
    by_cases h0 : len = 0
    · subst h0
      exact .inl (by simp)
    · obtain ⟨b, o, sp⟩ := x
      have hc0 := hc 0 (by omega)
      have hsp : sp = none := by simpa [Addr.add] using World.cell?_spot hc0
      subst hsp
      refine .inr ⟨b, o, rfl, fun i hi => ?_⟩
      have hi' : i < len := by simp at hi; omega
      have := hc i (by omega)
      have ea : (⟨b, o, none⟩ : Addr).add i = ⟨b, o + i, none⟩ := by unfold Addr.add; split <;> simp_all
      rw [ea] at this
      rw [this, Nt.getD_take hi']
theorem row_lie2 {w : World} {a : Option Addr} {len cap : Nat} {zs : List Int} (h : IsRow .u32 w a len cap zs) : ∃ ys, ys.length = len ∧ Lie w a ys ∧ Nt.Rng ys ∧ len ≤ maxLen ∧ (a = none → cap = 0) := by
  have hn : a = none → cap = 0 := by
    intro e
    rcases h with ⟨_, _, h, _⟩ | ⟨x, h, _⟩
    · exact h
    · rw [h] at e; cases e
  obtain ⟨ys, h1, h2, h3, h4⟩ := row_lie h
  exact ⟨ys, h1, h2, h3, h4, hn⟩
end Go.Proofs.YtdnghibkagcbcaaGreatDoor
