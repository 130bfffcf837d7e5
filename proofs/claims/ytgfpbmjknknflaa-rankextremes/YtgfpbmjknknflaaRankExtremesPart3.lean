import Derived.Test.YtgfpbmjknknflaaRankExtremesPart2
import Derived.Shelf.Spec.TrailingZeros
import Derived.OwnWalk
import Derived.RegionTactic
import Derived.Below
namespace Go.Proofs.Ytgfpbmjknknflaa
open Go.RowKit
set_option linter.unusedVariables false
set_option maxRecDepth 3000
/-- The first i products of column k. -/
def colp (a b : List Int) (k : Nat) : Nat → Int
  | 0 => 0
  | i + 1 => colp a b k i + a.getD i 0 * b.getD (k - i) 0
/-- The first n columns. -/
def cols (a b : List Int) : Nat → Int
  | 0 => 0
  | k + 1 => cols a b k + colp a b k (k + 1) * 4294967296 ^ k
/-- Row by row: digit i of a by as much of b as lies below column n. -/
def rows (a b : List Int) (n : Nat) : Nat → Int
  | 0 => 0
  | i + 1 => rows a b n i + a.getD i 0 * 4294967296 ^ i * Nt.vp b (n - i)
theorem rows_succ (a b : List Int) (n i : Nat) (hi : i ≤ n + 1) : rows a b (n + 1) i = rows a b n i + colp a b n i * 4294967296 ^ n := by
  induction i with
  | zero => simp [rows, colp]
  | succ i ih =>
    rw [rows, rows, colp, ih (by omega), show n + 1 - i = (n - i) + 1 by omega, Nt.vp_step]
    have e : (4294967296 : Int) ^ n = 4294967296 ^ i * 4294967296 ^ (n - i) := by rw [← Nt.pw_add, show i + (n - i) = n by omega]
    rw [e]
    generalize (4294967296 : Int) ^ i = X
    generalize (4294967296 : Int) ^ (n - i) = Y
    grind
theorem cols_rows (a b : List Int) (n : Nat) : cols a b n = rows a b n n := by
  induction n with
  | zero => rfl
  | succ n ih =>
    rw [cols, ih, rows_succ a b n (n + 1) (by omega), rows]
    rw [Nat.sub_self, show Nt.vp b 0 = 0 from rfl]
    omega
theorem rows_full (a b : List Int) (n i : Nat) (hn : a.length + b.length ≤ n) : rows a b n i = Nt.vp a i * Nt.val b := by
  induction i with
  | zero => simp [rows, Nt.vp]
  | succ i ih =>
    rw [rows, ih, Nt.vp_step]
    by_cases c : i < a.length
    · rw [← Nt.val_vp (s := b) (k := n - i) (by omega)]
      grind
    · rw [getD_past (by omega)]; grind
theorem cols_full (a b : List Int) (n : Nat) (hn : a.length + b.length ≤ n) : cols a b n = Nt.val a * Nt.val b := by
  rw [cols_rows, rows_full a b n n hn, ← Nt.val_vp (s := a) (by omega)]
/-- Columns below k are told: s; l is what goes on. -/
structure MulInv (a b s : List Int) (l : Int) : Prop where
  rng : Nt.Rng s
  eq : Nt.vp s s.length + l * 4294967296 ^ s.length = cols a b s.length
  l0 : 0 ≤ l
theorem MulInv.step {a b s : List Int} {l t : Int} (h : MulInv a b s l) (ht : t = l + colp a b s.length (s.length + 1)) (h0 : 0 ≤ t) : MulInv a b (s ++ [t % 4294967296]) (t / 4294967296) := by
  refine ⟨rng_snoc h.rng (by omega) (by omega), ?_, by omega⟩
  have e := h.eq
  have hn : t % 4294967296 + t / 4294967296 * 4294967296 = t := by omega
  rw [List.length_append, List.length_singleton, vp_snoc, Nt.pw_succ, cols, ← e]
  generalize t % 4294967296 = n at *
  generalize t / 4294967296 = c at *
  generalize (4294967296 : Int) ^ s.length = P at *
  generalize colp a b s.length (s.length + 1) = C at *
  grind
theorem MulInv.done {a b s : List Int} {l : Int} (h : MulInv a b s l) (ha : Nt.Rng a) (hb : Nt.Rng b) (hl : s.length = a.length + b.length) : Nt.val s = Nt.val a * Nt.val b := by
  have e := h.eq
  rw [cols_full a b s.length (by omega)] at e
  have h1 := Nt.val_bd ha
  have h2 := Nt.val_bd hb
  have h3 := Nt.val_bd h.rng
  have hp := Nt.pw_pos s.length
  have hlt : Nt.val a * Nt.val b < 4294967296 ^ s.length := by
    rw [hl, Nt.pw_add]
    have a1 : Nt.val a * Nt.val b ≤ Nt.val a * 4294967296 ^ b.length := Int.mul_le_mul_of_nonneg_left (by omega) h1.1
    have a2 : Nt.val a * 4294967296 ^ b.length < 4294967296 ^ a.length * 4294967296 ^ b.length := Int.mul_lt_mul_of_pos_right h1.2 (Nt.pw_pos _)
    omega
  have hl0 : l = 0 := by
    by_cases c : l = 0
    · exact c
    · exfalso
      have : 1 * 4294967296 ^ s.length ≤ l * 4294967296 ^ s.length := Int.mul_le_mul_of_nonneg_right (by have := h.l0; omega) (by omega)
      have h4 : 0 ≤ Nt.vp s s.length := h3.1
      omega
  subst hl0
  show Nt.vp s s.length = _
  omega

/-- 2^64, kept from the walk. -/
def twoW : Int := 18446744073709551616
/-- A new number that the reference answers. -/
def Made (w w' : World) (x : Int) (e : Ending) : Prop := ∃ zs a' c, e = .returned (.slice a' zs.length c) ∧ Own w.heap.size w' (.slice a' zs.length c) zs ∧ Nt.Can zs ∧ Nt.val zs = x ∧ Below w.heap.size w w'
set_option maxHeartbeats 1000000 in
theorem refLen45 (a : Option Addr) (ca : Nat) (za : List Int) (w : World) (ha : Lie w a za) (qa : Nt.Can za) (hn : 0 < za.length) (hm : za.length ≤ 3000000) :
    Calls Try.prog 73 #[.slice a za.length ca] w fun e w' => w = w' ∧ ∃ BL : Nat, e = .returned (.int .i64 BL) ∧ Bits (Nt.val za) BL ∧ 1 ≤ BL ∧ BL ≤ 32 * za.length := by
  obtain ⟨k, hk⟩ : ∃ k, za.length = k + 1 := ⟨za.length - 1, by omega⟩
  have ht0 : za.getD k 0 ≠ 0 := by have := qa.2 (by omega); rw [hk] at this; exact this
  have htr := qa.1 k
  obtain ⟨L, eL, hL1, hL2, hL3, hL4⟩ := bitLen32 (za.getD k 0) (by omega) htr.2
  obtain ⟨b, o, rfl⟩ := lie_some ha hn
  have hc : w.cell? ⟨b, o + k, none⟩ = _ := lie_cell ha rfl (i := k) (by omega)
  have HB := Hide.mk (bits_top qa.1 hk hL3 hL4)
  have hne : (((k : Int) + 1) == 0) = false := beq_eq_false_iff_ne.2 (by omega)
  rw [hk]
  have hkb : k ≤ 3000000 := by omega
  have EL := Hide.mk eL
  clear ha qa ht0 hL3 hL4 eL hk hn hm
  generalize za.getD k 0 = x at *
  go_enter Try.func73, Try.ntmps73
  go_wp2
  go_loop [3, 4] (fun nv xv => ∃ (j : Nat) (y : Int), nv = .int .i64 (32 * (k : Int) + j) ∧ xv = .int .u32 y ∧ 0 ≤ y ∧ y < 4294967296 ∧ j ≤ 32 ∧ Hide (L = j + Lib.bitLen y.toNat)) (fun _ xv => (intOf xv).toNat)
  case atStart => exact ⟨0, x, by go_num, rfl, htr.1, htr.2, by omega, ⟨by rw [EL.out]; omega⟩⟩
  case round =>
    obtain ⟨j, y, rfl, rfl, hy0, hy1, hj, HL⟩ := hrel
    by_cases hp : 0 < y
    · have hh := Lib.bitLen_half y.toNat (by omega) (by omega)
      have hl := HL.out
      have hj2 : j + 1 ≤ 32 := by omega
      have HL2 : Hide (L = j + 1 + Lib.bitLen (y / 2).toNat) := ⟨by rw [hl, hh, show (y / 2).toNat = y.toNat / 2 by omega]; omega⟩
      clear hh hl HL
      go_wp2
      go_round
      case rel => exact ⟨j + 1, y / 2, by go_num, rfl, by omega, by omega, hj2, HL2⟩
      case measure => simp [intOf]; omega
    · have hy : y = 0 := by omega
      have hfin : Hide (L = j) := ⟨by
        have := HL.out
        rw [hy] at this
        have e : Lib.bitLen (0 : Int).toNat = 0 := by decide
        omega⟩
      clear hy HL
      go_wp2
      go_ret
      exact ⟨rfl, 32 * k + L, by rw [hfin.out]; go_num, HB.out, by omega, by omega⟩

theorem bit_eq {za : List Int} (ra : Nt.Rng za) (wh p : Nat) (hp : p < 32) (hw : wh < za.length) : Nt.val za / 2 ^ (32 * wh + p) % 2 = za.getD wh 0 / 2 ^ p % 2 := by
  rw [pow2_split (32 * wh + p) wh p rfl, ← Int.ediv_ediv_of_nonneg (Int.le_of_lt (Nt.pw_pos _)), ← val_drop_div ra wh (by omega), val_drop_step hw]
  obtain ⟨q, hq⟩ : ∃ q, p + 1 + q = 32 := ⟨31 - p, by omega⟩
  have e : (4294967296 : Int) = 2 ^ p * (2 * 2 ^ q) := by
    rw [show (4294967296 : Int) = 2 ^ (p + 1 + q) by rw [hq]; decide, Int.pow_add, Int.pow_succ]; grind
  have hpos := p2pos p
  rw [e, Int.mul_assoc (2 ^ p), Int.add_mul_ediv_left _ _ (by omega), Int.mul_assoc, Int.add_mul_emod_self_left]
theorem and32_one (x : Int) (h0 : 0 ≤ x) (h1 : x < 4294967296) : bits .and .u32 x 1 = x % 2 := by
  rw [u32_and x 1 h0 h1 (by decide) (by decide)]
  have : x.toNat &&& (1 : Int).toNat = x.toNat % 2 := nat_mask1 x.toNat
  rw [this]; omega

set_option maxHeartbeats 1000000 in
theorem refBit48 (a : Option Addr) (ca : Nat) (za : List Int) (w : World) (i : Nat) (ha : Lie w a za) (ra : Nt.Rng za) (hm : za.length ≤ 3000000) (hi : i ≤ 100000000) :
    Calls Try.prog 103 #[.slice a za.length ca, .int .i64 (i : Int)] w fun e w' => e = .returned (.int .u32 (Nt.val za / 2 ^ i % 2)) ∧ w = w' := by
  by_cases hw : i / 32 < za.length
  · obtain ⟨b, o, rfl⟩ := lie_some ha (by omega)
    have hc : w.cell? ⟨b, o + i / 32, none⟩ = _ := lie_cell ha rfl hw
    have hr := ra (i / 32)
    have hp : i % 32 < 32 := Nat.mod_lt _ (by decide)
    have he := bit_eq ra (i / 32) (i % 32) hp hw
    rw [show 32 * (i / 32) + i % 32 = i by omega] at he
    rw [he]
    have hq : (i : Int) / 32 = ((i / 32 : Nat) : Int) := by omega
    have hr2 : (i : Int) % 32 = ((i % 32 : Nat) : Int) := by omega
    clear ha ra he
    generalize za.getD (i / 32) 0 = x at *
    have hx0 : 0 ≤ x / 2 ^ (i % 32) := Int.ediv_nonneg hr.1 (Int.le_of_lt (p2pos _))
    have hx1 : x / 2 ^ (i % 32) < 4294967296 := by
      have : x / 2 ^ (i % 32) ≤ x := Int.ediv_le_self _ hr.1
      omega
    have hand := and32_one _ hx0 hx1
    generalize i / 32 = wh at *
    generalize i % 32 = p at *
    go_enter Try.func103, Try.ntmps103
    go_wp2
    go_ret
    exact ⟨rfl, rfl⟩
  · have hz : Nt.val za / 2 ^ i % 2 = 0 := by
      have h1 := Nt.val_bd ra
      have h2 : (4294967296 : Int) ^ za.length ≤ 2 ^ i := by
        have := p2mono (show 32 * za.length ≤ i by omega)
        rw [Int.pow_mul, show (2 : Int) ^ 32 = 4294967296 by decide] at this
        exact this
      rw [Int.ediv_eq_zero_of_lt h1.1 (by omega)]; rfl
    rw [hz]
    have hq : (i : Int) / 32 = ((i / 32 : Nat) : Int) := by omega
    clear ha ra hz
    generalize i / 32 = wh at *
    go_enter Try.func103, Try.ntmps103
    go_wp2
    go_ret
    exact ⟨rfl, rfl⟩

/-- After k digits of the reference's Up. -/
structure RUpInv (za s : List Int) (wh p k : Nat) (l : Int) : Prop where
  len : s.length = wh + k
  rng : Nt.Rng s
  eq : Nt.vp s (wh + k) + l * 4294967296 ^ (wh + k) = Nt.vp za k * 2 ^ p * 4294967296 ^ wh
theorem RUpInv.start {za : List Int} {wh p : Nat} : RUpInv za (List.replicate wh 0) wh p 0 0 :=
  ⟨by simp, fun k => by rw [getD_rep]; decide, by rw [vp_rep]; simp [Nt.vp]⟩
theorem RUpInv.step {za s : List Int} {wh p k : Nat} {l x t : Int} (h : RUpInv za s wh p k l) (hx : x = za.getD k 0) (ht : t = l + x * 2 ^ p) : RUpInv za (s ++ [t % 4294967296]) wh p (k + 1) (t / 4294967296) := by
  have hl := h.len
  refine ⟨by rw [List.length_append, List.length_singleton, hl]; omega, rng_snoc h.rng (by omega) (by omega), ?_⟩
  have e := h.eq
  have hn : t % 4294967296 + t / 4294967296 * 4294967296 = t := by omega
  have e2 := vp_snoc s (t % 4294967296)
  rw [hl] at e2
  rw [show wh + (k + 1) = wh + k + 1 by omega, e2, Nt.vp_step, Nt.pw_succ, ← hx]
  rw [Nt.pw_add] at *
  generalize t % 4294967296 = n at *
  generalize t / 4294967296 = c at *
  generalize (4294967296 : Int) ^ wh = P at *
  generalize (4294967296 : Int) ^ k = K at *
  generalize (2 : Int) ^ p = T at *
  grind
theorem or64_low (l t : Int) (p : Nat) (hp : p < 32) (h0 : 0 ≤ l) (h1 : l < 2 ^ p) (ht : 0 ≤ t) (ht' : t < 18446744073709551616) (hm : t % 2 ^ p = 0) : bits .or .u64 l t = l + t := by
  have hb := two_pow_le p hp
  rw [u64_or l t h0 (by omega) ht ht']
  have e : ((2 ^ p : Nat) : Int) = (2 : Int) ^ p := by simp
  have := nat_join p t.toNat l.toNat (by
    have h1 : ((t.toNat % 2 ^ p : Nat) : Int) = t % 2 ^ p := by
      rw [Int.natCast_emod, e, Int.toNat_of_nonneg ht]
    rw [hm] at h1
    omega) (by omega)
  rw [Nat.or_comm, this]; omega

set_option maxHeartbeats 2000000 in
theorem refUp47 (a : Option Addr) (ca : Nat) (za : List Int) (w : World) (n : Int) (wh p : Nat) (hq : n / 32 = (wh : Int)) (hr : n % 32 = (p : Int)) (hn0 : 0 ≤ n) (hn1 : n ≤ 120000000) (hp : p < 32) (hw : wh ≤ 4000000) (ha : Lie w a za) (ra : Nt.Rng za) (hz : 0 < za.length) (hm : za.length + wh ≤ 4000000) :
    Calls Try.prog 99 #[.slice a za.length ca, .int .i64 n] w fun e w' => Made w w' (Nt.val za * 2 ^ p * 4294967296 ^ wh) e := by
  obtain ⟨i0, hi, hz0, hz1, hz2⟩ := info_parts Try.info49
  obtain ⟨ba, oa, rfl⟩ := lie_some ha hz
  have HA := Hide.mk ha
  have RA := Hide.mk ra
  have hne : ((za.length : Int) == 0) = false := beq_eq_false_iff_ne.2 (by omega)
  clear ha ra
  go_enter Try.func99, Try.ntmps99
  go_wp2_with (at_make; refine wpList_make_full _ rfl _ _ 65 rfl w.heap.size 112 i0 (.int .u32 0) 1 Try.underlying65 hi hz0 hz1 .i64 .i64 _ _ wh rfl rfl (by omega) (by omega) (by rw [hz2]; omega) (by unfold maxLen; omega) (Nat.le_refl _) ?_; intro w1 hown hgrow; have hblk1 := blk_made hown; have hbel1 := below_of_grown hgrow; clear hown hgrow)
  have hown1 : Hide (Own w.heap.size w1 (.slice (some ⟨w.heap.size, 0, none⟩) wh wh) (List.replicate wh 0)) := ⟨by
    have := hblk1.own (B := w.heap.size) (n := wh) (Nat.le_refl _) (by simp) (by unfold maxLen; simp; omega)
    simpa using this⟩
  clear hblk1 hi hz0 hz1 hz2 i0
  rw [hr]
  go_loopw [5, 7, 8] (fun v lv iv wr => ∃ (k : Nat) (s : List Int) (l : Int), k ≤ za.length ∧ iv = .int .i64 k ∧ lv = .int .u64 l ∧ 0 ≤ l ∧ l < 2 ^ p ∧ Hide (Own w.heap.size wr v s) ∧ Hide (RUpInv za s wh p k l) ∧ Below w.heap.size w wr) (fun _ _ iv _ => za.length - (intOf iv).toNat)
  case atStart => exact ⟨0, _, 0, Nat.zero_le _, rfl, rfl, by decide, p2pos p, hown1, ⟨RUpInv.start⟩, hbel1⟩
  case round =>
    obtain ⟨k, s, l, hk, rfl, rfl, hl0, hl1, HO, HI, hbel⟩ := hrel
    clear hown1 hbel1
    have hls : Hide (s.length = wh + k) := ⟨HI.out.len⟩
    by_cases hlt : k < za.length
    · have hca := lie_cell (HA.out.below hbel (Nat.le_refl _)) rfl hlt
      have hrx := RA.out k
      have hstep := fun x t => Hide.mk (fun h1 h2 => HI.out.step (x := x) (t := t) h1 h2)
      have hsb := shl_bd hrx.1 hrx.2 hp
      have htp := two_pow_le p hp
      have hmm : za.getD k 0 * 2 ^ p % 2 ^ p = 0 := Int.mul_emod_left _ _
      have hor := or64_low l (za.getD k 0 * 2 ^ p) p hp hl0 hl1 hsb.1 (by omega) hmm
      clear HI hmm
      generalize za.getD k 0 = x at *
      have hnew : (l + x * 2 ^ p) / 4294967296 < 2 ^ p := by omega
      go_wp2_with (at_builtin; refine app1 rfl (.tmp 32) (.tmp 35) rfl w.heap.size _ s ((l + x * 2 ^ p) % 4294967296) wr.heap.size rfl rfl (own_alloc HO.out _) (cell_new1 _ _) (by have := hls.out; omega) (by have := hbel.size; simp; omega) ?_; intro v2 w2 hown2 hgrow)
      have hb2 := own_push HO.out hgrow hbel (by have := hbel.size; omega)
      have HO2 := Hide.mk hown2
      clear hown2 hgrow
      go_wp2
      go_roundw
      case rel => exact ⟨k + 1, _, _, hlt, by go_num, rfl, by omega, hnew, HO2, ⟨(hstep x _).out rfl rfl⟩, hb2⟩
      case measure => simp [intOf]; omega
    · have hkk : k = za.length := by omega
      have HF : Hide (Nt.val (s ++ [l]) = Nt.val za * 2 ^ p * 4294967296 ^ wh ∧ Nt.Rng (s ++ [l])) := ⟨by
        have e := HI.out.eq
        have htp := two_pow_le p hp
        have e2 := vp_snoc s l
        refine ⟨?_, rng_snoc HI.out.rng hl0 (by omega)⟩
        unfold Nt.val
        rw [List.length_append, List.length_singleton, e2, hls.out, e, hkk]⟩
      have htp := two_pow_le p hp
      have hlb : l % 4294967296 = l := by omega
      clear HI hkk hlb
      go_wp2_with (at_builtin; refine app1 rfl (.tmp 39) (.tmp 42) rfl w.heap.size _ s l wr.heap.size rfl rfl (own_alloc HO.out _) (cell_new1 _ _) (by have := hls.out; omega) (by have := hbel.size; simp; omega) ?_; intro v2 w2 hown2 hgrow)
      have hb2 := own_push HO.out hgrow hbel (by have := hbel.size; omega)
      obtain ⟨a2, c2, hv2, h1, h2, hl2⟩ := hown2.lie
      have HO2 := Hide.mk hown2
      have HT := Hide.mk (trim36 a2 c2 _ w2 hl2 h1 h2)
      have HV2 := Hide.mk hv2
      clear hown2 hgrow hl2 h1 h2
      rw [hv2]
      clear hv2
      refine HT.out.mono ?_
      rintro e w' ⟨rfl, m, hm2, rfl, hz, hd⟩
      have HG : Hide (Made w w2 (Nt.val za * 2 ^ p * 4294967296 ^ wh) (.returned (.slice a2 m c2))) := ⟨by
        have hl : ((s ++ [l]).take m).length = m := by simp only [List.length_take]; omega
        have ho := HO2.out
        rw [HV2.out] at ho
        exact ⟨(s ++ [l]).take m, a2, c2, by rw [hl], by rw [hl]; exact own_take ho hm2, Nt.can_take HF.out.2 hm2 hd, by rw [Nt.val_take hz hm2]; exact HF.out.1, hb2⟩⟩
      clear hz hd hm2 HT HO HO2 HF
      go_wp2
      go_ret
      exact HG.out
set_option maxHeartbeats 1000000 in
theorem refUp_nil (a : Option Addr) (ca : Nat) (w : World) (n : Int) :
    Calls Try.prog 99 #[.slice a 0 ca, .int .i64 n] w fun e w' => e = .returned (.slice none 0 0) ∧ w = w' := by
  go_enter Try.func99, Try.ntmps99
  go_wp2
  go_ret
  exact ⟨rfl, rfl⟩
theorem refUp_long (a : Option Addr) (ca : Nat) (za : List Int) (w : World) (n : Nat) (hn1 : 32 * za.length + n ≤ 90000000) (ha : Lie w a za) (ra : Nt.Rng za) :
    Calls Try.prog 99 #[.slice a za.length ca, .int .i64 (n : Int)] w fun e w' => Made w w' (Nt.val za * 2 ^ n) e := by
  by_cases h : za.length = 0
  · have e : za = [] := List.length_eq_zero_iff.1 h
    subst e
    refine (refUp_nil a ca w n).mono ?_
    rintro e w' ⟨rfl, rfl⟩
    exact ⟨[], none, 0, rfl, Own.nil _ _, Nt.can_nil, by rw [Nt.val_nil]; simp, Below.refl _ _⟩
  · rw [← up_val]
    exact refUp47 a ca za w n (n / 32) (n % 32) (by omega) (by omega) (by omega) (by omega) (Nat.mod_lt _ (by decide)) (by omega) ha ra (by omega) (by omega)
theorem mod_step {x : Int} {n : Nat} (h : x % 2 ^ n = 0) (hb : x / 2 ^ n % 2 = 0) : x % 2 ^ (n + 1) = 0 := by
  have h1 := Int.emod_add_mul_ediv x (2 ^ n)
  have h2 := Int.emod_add_mul_ediv (x / 2 ^ n) 2
  rw [h] at h1
  rw [hb] at h2
  rw [Int.pow_succ]
  refine Int.emod_eq_zero_of_dvd ⟨x / 2 ^ n / 2, ?_⟩
  generalize x / 2 ^ n = q at *
  generalize (2 : Int) ^ n = X at *
  generalize q / 2 = r at *
  grind
theorem mod_jump {za : List Int} (ra : Nt.Rng za) {wh : Nat} (hw : wh < za.length) (h : Nt.val za % 2 ^ (32 * wh) = 0) (hd : za.getD wh 0 = 0) : Nt.val za % 2 ^ (32 * wh + 32) = 0 := by
  have e1 : (2 : Int) ^ (32 * wh) = 4294967296 ^ wh := by rw [Int.pow_mul]; rfl
  have e2 : (2 : Int) ^ (32 * wh + 32) = 4294967296 ^ wh * 4294967296 := by rw [Int.pow_add, e1]; rfl
  rw [e1] at h
  rw [e2]
  have h1 := Int.emod_add_mul_ediv (Nt.val za) (4294967296 ^ wh)
  rw [h, ← val_drop_div ra wh (by omega), val_drop_step hw, hd] at h1
  refine Int.emod_eq_zero_of_dvd ⟨Nt.val (za.drop (wh + 1)), ?_⟩
  generalize (4294967296 : Int) ^ wh = X at *
  generalize Nt.val (za.drop (wh + 1)) = r at *
  grind

/-- The place of the lowest bit that is 1. -/
structure LowBit (x : Int) (t : Nat) : Prop where
  zero : x % 2 ^ t = 0
  one : x / 2 ^ t % 2 = 1

set_option maxHeartbeats 2000000 in
theorem refLow59 (a : Option Addr) (ca : Nat) (za : List Int) (w : World) (ha : Lie w a za) (qa : Nt.Can za) (hz : 0 < za.length) (hm : za.length ≤ 3000000) :
    Calls Try.prog 76 #[.slice a za.length ca] w fun e w' => w = w' ∧ ∃ t : Nat, e = .returned (.int .i64 t) ∧ LowBit (Nt.val za) t ∧ t < 32 * za.length := by
  obtain ⟨ba, oa, rfl⟩ := lie_some ha hz
  have HA := Hide.mk ha
  have QA := Hide.mk qa
  have C1 := fun i hi => Hide.mk (refBit48 (some ⟨ba, oa, none⟩) ca za w i ha qa.1 (by omega) hi)
  clear ha qa
  go_enter Try.func76, Try.ntmps76
  go_wp2
  go_loop [3] (fun nv => ∃ n : Nat, nv = .int .i64 n ∧ n ≤ 32 * za.length ∧ Hide (Nt.val za % 2 ^ n = 0) ∧ Hide (n % 32 ≠ 0 → za.getD (n / 32) 0 ≠ 0)) (fun nv => 32 * za.length - (intOf nv).toNat)
  case atStart => exact ⟨0, rfl, by omega, ⟨by simp⟩, ⟨fun h => absurd rfl h⟩⟩
  case round =>
    obtain ⟨n, rfl, hn, HZ, HD⟩ := hrel
    by_cases hlt : n < 32 * za.length
    · have hw : n / 32 < za.length := by omega
      have hcell : w.cell? ⟨ba, oa + n / 32, none⟩ = _ := lie_cell HA.out rfl hw
      have C2 := C1 n (by omega)
      have hq : (n : Int) / 32 = ((n / 32 : Nat) : Int) := by omega
      have hlti : (n : Int) < 32 * (za.length : Int) := by omega
      have hr := QA.out.1 (n / 32)
      by_cases hb : Nt.val za / 2 ^ n % 2 = 0
      · rw [hb] at C2
        have HS := Hide.mk (mod_step HZ.out hb)
        have hbe := bit_eq QA.out.1 (n / 32) (n % 32) (Nat.mod_lt _ (by decide)) hw
        rw [show 32 * (n / 32) + n % 32 = n by omega, hb] at hbe
        have HBE := Hide.mk hbe
        clear hb hbe C1
        by_cases hd : za.getD (n / 32) 0 = 0
        · have hn32 : n % 32 = 0 := by
            by_cases c : n % 32 = 0
            · exact c
            · exact absurd hd (HD.out c)
          have HJ : Hide (Nt.val za % 2 ^ (n + 32) = 0) := ⟨by
            have h1 : 32 * (n / 32) = n := by omega
            have := mod_jump QA.out.1 hw (by rw [h1]; exact HZ.out) hd
            rw [h1] at this; exact this⟩
          rw [hd] at hcell
          have HN := Hide.mk hn32
          clear hn32 hd hr HD
          generalize n / 32 = wh at *
          go_wp2_with fail
          refine C2.out.mono ?_
          rintro e w' ⟨rfl, rfl⟩
          go_wp2
          go_round
          case rel => exact ⟨n + 32, by go_num, by have := HN.out; omega, HJ, ⟨fun c => absurd (by have := HN.out; omega) c⟩⟩
          case measure => simp [intOf]; omega
        · have hd2 : (za.getD (n / 32) 0 == 0) = false := beq_eq_false_iff_ne.2 hd
          have HD2 : Hide ((n + 1) % 32 ≠ 0 → za.getD ((n + 1) / 32) 0 ≠ 0) := ⟨fun c => by rw [show (n + 1) / 32 = n / 32 by omega]; exact hd⟩
          clear hd HD HBE
          generalize za.getD (n / 32) 0 = x at *
          generalize n / 32 = wh at *
          go_wp2_with fail
          refine C2.out.mono ?_
          rintro e w' ⟨rfl, rfl⟩
          go_wp2
          go_round
          case rel => exact ⟨n + 1, by go_num, by omega, HS, HD2⟩
          case measure => simp [intOf]; omega
      · have hb1 : Nt.val za / 2 ^ n % 2 = 1 := by omega
        rw [hb1] at C2
        have HB1 := Hide.mk hb1
        have hne : ((n : Int) == 32 * (za.length : Int)) = false := beq_eq_false_iff_ne.2 (by omega)
        clear hb hb1 C1 hcell hq hw hr HD
        go_wp2_with fail
        refine C2.out.mono ?_
        rintro e w' ⟨rfl, rfl⟩
        go_wp2
        go_ret
        exact ⟨rfl, n, rfl, ⟨HZ.out, HB1.out⟩, hlt⟩
    · exfalso
      have hnn : n = 32 * za.length := by omega
      have h1 := HZ.out
      have h2 := Nt.val_bd QA.out.1
      have h3 := can_ge QA.out hz
      have h4 := Nt.pw_pos (za.length - 1)
      rw [hnn, Int.pow_mul, show (2 : Int) ^ 32 = 4294967296 by decide, Int.emod_eq_of_lt h2.1 h2.2] at h1
      omega

theorem or64_low2 (l t : Int) (p : Nat) (hp : p ≤ 32) (h0 : 0 ≤ l) (h1 : l < 2 ^ p) (ht : 0 ≤ t) (ht' : t < 18446744073709551616) (hm : t % 2 ^ p = 0) : bits .or .u64 l t = l + t := by
  have hb := p2mono hp
  have e32 : (2 : Int) ^ 32 = 4294967296 := by decide
  rw [u64_or l t h0 (by omega) ht ht']
  have e : ((2 ^ p : Nat) : Int) = (2 : Int) ^ p := by simp
  have := nat_join p t.toNat l.toNat (by
    have h1 : ((t.toNat % 2 ^ p : Nat) : Int) = t % 2 ^ p := by
      rw [Int.natCast_emod, e, Int.toNat_of_nonneg ht]
    rw [hm] at h1
    omega) (by omega)
  rw [Nat.or_comm, this]; omega
theorem split_shift (ab x : Int) (p q : Nat) (h : p + q = 32) : (ab * 4294967296 + x) / 2 ^ p = x / 2 ^ p + ab * 2 ^ q := by
  have e : (4294967296 : Int) = 2 ^ p * 2 ^ q := by rw [← Int.pow_add, h]; decide
  have : ab * 4294967296 + x = x + 2 ^ p * (ab * 2 ^ q) := by rw [e]; grind
  rw [this, Int.add_mul_ediv_left _ _ (by have := p2pos p; omega)]
/-- After k digits of the reference's Down. -/
structure RDnInv (za s : List Int) (wh p : Nat) : Prop where
  rng : Nt.Rng s
  eq : Nt.vp s s.length + 4294967296 ^ s.length * (Nt.val (za.drop (wh + s.length)) / 2 ^ p) = Nt.val (za.drop wh) / 2 ^ p
theorem RDnInv.step {za s : List Int} {wh p : Nat} {x ab d : Int} (h : RDnInv za s wh p) (hp : p < 32) (ra : Nt.Rng za) (hk : wh + s.length < za.length) (hx : x = za.getD (wh + s.length) 0) (hab : ab = za.getD (wh + s.length + 1) 0) (hd : d = (ab * 4294967296 + x) / 2 ^ p % 4294967296) :
    RDnInv za (s ++ [d]) wh p := by
  have hxr := ra (wh + s.length)
  rw [← hx] at hxr
  refine ⟨rng_snoc h.rng (by omega) (by omega), ?_⟩
  have e := h.eq
  have dd := down_digit (Nt.val (za.drop (wh + s.length + 1))) ab x p hp (by rw [hab, val_drop_mod ra]) hxr.1 hxr.2
  rw [val_drop_step hk, ← hx, ← dd, ← hd] at e
  rw [List.length_append, List.length_singleton, vp_snoc, Nt.pw_succ, ← e, show wh + (s.length + 1) = wh + s.length + 1 by omega]
  generalize Nt.val (za.drop (wh + s.length + 1)) / 2 ^ p = r
  generalize (4294967296 : Int) ^ s.length = P
  grind
theorem RDnInv.done {za s : List Int} {wh p : Nat} (h : RDnInv za s wh p) (ra : Nt.Rng za) (hl : wh + s.length = za.length) : Nt.val s = Nt.val za / 2 ^ (32 * wh + p) := by
  have e := h.eq
  rw [hl, List.drop_eq_nil_of_le (Nat.le_refl _), Nt.val_nil, Int.zero_ediv, Int.mul_zero, Int.add_zero] at e
  rw [pow2_split (32 * wh + p) wh p rfl, ← Int.ediv_ediv_of_nonneg (Int.le_of_lt (Nt.pw_pos _)), ← val_drop_div ra wh (by omega)]
  exact e
theorem low_lost {x : Int} {t n : Nat} (h : LowBit x t) : decide (t < n) = decide (x % 2 ^ n ≠ 0) := by
  have h1 := Int.emod_add_mul_ediv x (2 ^ t)
  rw [h.zero] at h1
  have ho := h.one
  by_cases c : t < n
  · have : x % 2 ^ n ≠ 0 := by
      intro e
      obtain ⟨m, hm⟩ := Int.dvd_of_emod_eq_zero e
      obtain ⟨k, rfl⟩ : ∃ k, n = t + (k + 1) := ⟨n - t - 1, by omega⟩
      have e2 : x / 2 ^ t = 2 * (2 ^ k * m) := by
        rw [hm, Int.pow_add, Int.mul_assoc, Int.mul_ediv_cancel_left _ (by have := p2pos t; omega), Int.pow_succ]; grind
      omega
    simp [this, c]
  · have : x % 2 ^ n = 0 := by
      obtain ⟨k, rfl⟩ : ∃ k, t = n + k := ⟨t - n, by omega⟩
      refine Int.emod_eq_zero_of_dvd ⟨2 ^ k * (x / 2 ^ (n + k)), ?_⟩
      rw [← Int.mul_assoc, ← Int.pow_add]; omega
    simp [this, c]

/-- What the reference's Down answers. -/
def Downs (w w' : World) (x : Int) (n : Nat) (e : Ending) : Prop := ∃ zs a' c, e = .returned (.tuple #[.slice a' zs.length c, .bool (decide (x % 2 ^ n ≠ 0))]) ∧ Own w.heap.size w' (.slice a' zs.length c) zs ∧ Nt.Can zs ∧ Nt.val zs = x / 2 ^ n ∧ Below w.heap.size w w'

set_option maxHeartbeats 4000000 in
theorem refDown46 (a : Option Addr) (ca : Nat) (za : List Int) (w : World) (n : Nat) (hn1 : n ≤ 120000000) (ha : Lie w a za) (qa : Nt.Can za) (hz : 0 < za.length) (hm : za.length ≤ 3000000) :
    Calls Try.prog 77 #[.slice a za.length ca, .int .i64 (n : Int)] w fun e w' => Downs w w' (Nt.val za) n e := by
  obtain ⟨ba, oa, rfl⟩ := lie_some ha hz
  have C1 := Hide.mk (refLen45 (some ⟨ba, oa, none⟩) ca za w ha qa hz (by omega))
  have C2 := Hide.mk (refLow59 (some ⟨ba, oa, none⟩) ca za w ha qa hz hm)
  have HA := Hide.mk ha
  have QA := Hide.mk qa
  have hzi : (0 : Int) < (za.length : Int) := by omega
  clear ha qa
  obtain ⟨wh, hwh⟩ : ∃ wh, wh = n / 32 := ⟨_, rfl⟩
  obtain ⟨p, hpp⟩ : ∃ p, p = n % 32 := ⟨_, rfl⟩
  obtain ⟨q, hqq⟩ : ∃ q, q = 32 - p := ⟨_, rfl⟩
  have hq : (n : Int) / 32 = (wh : Int) := by omega
  have hr : (n : Int) % 32 = (p : Int) := by omega
  have hp : p < 32 := by omega
  have hqi : (32 : Int) - (p : Int) = (q : Int) := by omega
  have HNW := Hide.mk (show n = 32 * wh + p by omega)
  have HPQ := Hide.mk (show p + q = 32 by omega)
  have hq32 : q ≤ 32 := by omega
  clear hwh hpp hqq
  go_enter Try.func77, Try.ntmps77
  go_wp2_with fail
  refine C1.out.mono ?_
  rintro e w' ⟨rfl, BL, rfl, hbits, hB1, hB2⟩
  by_cases hge : BL ≤ n
  · have HF : Hide (Downs w w (Nt.val za) n (.returned (.tuple #[.slice none 0 0, .bool true]))) := ⟨by
      have h1 := hbits.lt
      have h2 := p2mono hge
      have h3 := Nt.val_bd QA.out.1
      have h4 := can_ge QA.out hz
      have h5 := Nt.pw_pos (za.length - 1)
      refine ⟨[], none, 0, ?_, Own.nil _ _, Nt.can_nil, by rw [Nt.val_nil, Int.ediv_eq_zero_of_lt h3.1 (by omega)], Below.refl _ _⟩
      have : Nt.val za % 2 ^ n ≠ 0 := by rw [Int.emod_eq_of_lt h3.1 (by omega)]; omega
      simp [this]⟩
    go_wp2
    go_ret2
    exact HF.out
  · have HBW := Hide.mk (show wh < za.length by have := HNW.out; omega)
    clear hbits C1
    go_wp2_with fail
    refine C2.out.mono ?_
    rintro e w' ⟨rfl, t, rfl, hlow, htl⟩
    have HLOW := Hide.mk (low_lost (n := n) hlow)
    clear hlow C2 hge
    generalize hlost : decide (Nt.val za % 2 ^ n ≠ 0) = lost at *
    have HLS := Hide.mk hlost
    clear hlost
    go_wp2
    rw [hr, HLOW.out]
    go_loopw [7, 9] (fun v iv wr => ∃ (s : List Int), wh + s.length ≤ za.length ∧ iv = .int .i64 ((wh + s.length : Nat) : Int) ∧ Hide (Own w.heap.size wr v s) ∧ Hide (RDnInv za s wh p) ∧ Below w.heap.size w wr) (fun _ iv _ => za.length - (intOf iv).toNat)
    case atStart => exact ⟨[], by have := HBW.out; simp; omega, rfl, ⟨Own.nil _ _⟩, ⟨⟨Nt.rng_nil, by simp [Nt.vp]⟩⟩, Below.refl _ _⟩
    case round =>
      obtain ⟨s, hk, rfl, HO, HI, hbel⟩ := hrel
      clear hr
      by_cases hlt : wh + s.length < za.length
      · have hca := lie_cell (HA.out.below hbel (Nat.le_refl _)) rfl hlt
        have hrx := QA.out.1 (wh + s.length)
        have hrab := QA.out.1 (wh + s.length + 1)
        have hstep := fun x ab d => Hide.mk (fun h1 h2 h3 => HI.out.step (x := x) (ab := ab) (d := d) hp QA.out.1 hlt h1 h2 h3)
        have hsl : Hide (s.length ≤ 3000000) := ⟨by omega⟩
        have hxd : ∀ x : Int, 0 ≤ x → x < 4294967296 → 0 ≤ x / 2 ^ p ∧ x / 2 ^ p < 2 ^ q ∧ x / 2 ^ p < 4294967296 := fun x h0 h1 => by
          refine ⟨Int.ediv_nonneg h0 (Int.le_of_lt (p2pos p)), Int.ediv_lt_of_lt_mul (p2pos p) ?_, ?_⟩
          · rw [← Int.pow_add, show q + p = 32 by have := HPQ.out; omega]; exact h1
          · have : x / 2 ^ p ≤ x := Int.ediv_le_self _ h0
            omega
        have hxx := hxd _ hrx.1 hrx.2
        have hmq : ∀ y : Int, 0 ≤ y → y < 4294967296 → 0 ≤ y * 2 ^ q ∧ y * 2 ^ q ≤ 18446744069414584320 ∧ y * 2 ^ q % 2 ^ q = 0 := fun y h0 h1 => by
          have h2 := p2mono hq32
          have h3 := p2pos q
          have e32 : (2 : Int) ^ 32 = 4294967296 := by decide
          rw [e32] at h2
          have h4 : y * 2 ^ q ≤ 4294967295 * 4294967296 := Int.mul_le_mul (by omega) h2 (by omega) (by decide)
          exact ⟨Int.mul_nonneg h0 (by omega), by omega, Int.mul_emod_left _ _⟩
        have hab := hmq _ hrab.1 hrab.2
        have hor := or64_low2 (za.getD (wh + s.length) 0 / 2 ^ p) (za.getD (wh + s.length + 1) 0 * 2 ^ q) q hq32 hxx.1 hxx.2.1 hab.1 (by omega) hab.2.2
        have hsp := Hide.mk (split_shift (za.getD (wh + s.length + 1) 0) (za.getD (wh + s.length) 0) p q HPQ.out)
        clear HI hxd hmq
        by_cases hlt2 : wh + s.length + 1 < za.length
        · have hcb := lie_cell (HA.out.below hbel (Nat.le_refl _)) rfl hlt2
          generalize hm2 : wh + s.length = m at *
          have HM := Hide.mk hm2
          clear hm2
          generalize za.getD m 0 = x at *
          generalize za.getD (m + 1) 0 = ab at *
          go_wp2_with (at_builtin; refine app1 rfl (.tmp 55) (.tmp 58) rfl w.heap.size _ s ((x / 2 ^ p + ab * 2 ^ q) % 4294967296) wr.heap.size rfl rfl (own_alloc HO.out _) (cell_new1 _ _) (by have := hsl.out; omega) (by have := hbel.size; simp; omega) ?_; intro v2 w2 hown2 hgrow)
          have hb2 := own_push HO.out hgrow hbel (by have := hbel.size; omega)
          have HO2 := Hide.mk hown2
          clear hown2 hgrow
          go_wp2
          go_roundw
          case rel => exact ⟨_, by rw [List.length_append, List.length_singleton]; have := HM.out; omega, by rw [List.length_append, List.length_singleton]; have := HM.out; go_num, HO2, ⟨(hstep x ab _).out rfl rfl (by rw [hsp.out])⟩, hb2⟩
          case measure => simp [intOf]; omega
        · have hab0 : za.getD (wh + s.length + 1) 0 = 0 := getD_past (by omega)
          rw [hab0] at hsp hstep
          clear hor hab hrab
          generalize hm2 : wh + s.length = m at *
          have HM := Hide.mk hm2
          clear hm2 hab0
          generalize za.getD m 0 = x at *
          go_wp2_with (at_builtin; refine app1 rfl (.tmp 55) (.tmp 58) rfl w.heap.size _ s (x / 2 ^ p) wr.heap.size rfl rfl (own_alloc HO.out _) (cell_new1 _ _) (by have := hsl.out; omega) (by have := hbel.size; simp; omega) ?_; intro v2 w2 hown2 hgrow)
          have hb2 := own_push HO.out hgrow hbel (by have := hbel.size; omega)
          have HO2 := Hide.mk hown2
          clear hown2 hgrow
          go_wp2
          go_roundw
          case rel => exact ⟨_, by rw [List.length_append, List.length_singleton]; have := HM.out; omega, by rw [List.length_append, List.length_singleton]; have := HM.out; go_num, HO2, ⟨(hstep x 0 _).out rfl rfl (by rw [hsp.out, Int.zero_mul, Int.add_zero, Int.emod_eq_of_lt hxx.1 hxx.2.2])⟩, hb2⟩
          case measure => simp [intOf]; omega
      · have hv := HI.out.done QA.out.1 (by omega)
        rw [← HNW.out] at hv
        have HR := Hide.mk HI.out.rng
        obtain ⟨a2, c2, hve, h1, h2, hl2⟩ := HO.out.lie
        have HT := Hide.mk (trim36 a2 c2 s wr hl2 h1 h2)
        have HV := Hide.mk hv
        have HVE := Hide.mk hve
        clear hv h1 h2 hl2 HI
        generalize hm2 : wh + s.length = m at *
        rw [hve]
        clear hve hm2
        go_wp2_with fail
        refine HT.out.mono ?_
        rintro e w' ⟨rfl, m2, hm2, rfl, hz2, hd2⟩
        have HG : Hide (Downs w wr (Nt.val za) n (.returned (.tuple #[.slice a2 m2 c2, .bool lost]))) := ⟨by
          have hl : (s.take m2).length = m2 := by simp only [List.length_take]; omega
          have ho := HO.out
          rw [HVE.out] at ho
          exact ⟨s.take m2, a2, c2, by rw [hl, HLS.out], by rw [hl]; exact own_take ho hm2, Nt.can_take HR.out hm2 hd2, by rw [Nt.val_take hz2 hm2]; exact HV.out, hbel⟩⟩
        clear hz2 hd2 hm2 HT HO
        go_wp2
        go_ret2
        exact HG.out

/-- Digits from m on are divided: q. -/
structure ByInv (za q : List Int) (d : Int) (m : Nat) (l : Int) : Prop where
  len : q.length = za.length
  rng : Nt.Rng q
  eq : Nt.val (za.drop m) = d * Nt.val (q.drop m) + l
  l0 : 0 ≤ l
  l1 : l < d
theorem ByInv.start {za : List Int} {d : Int} (hd : 0 < d) : ByInv za (List.replicate za.length 0) d za.length 0 :=
  ⟨by simp, fun k => by rw [getD_rep]; decide, by rw [List.drop_eq_nil_of_le (Nat.le_refl _), List.drop_eq_nil_of_le (by simp), Nt.val_nil]; omega, Int.le_refl _, hd⟩
theorem ByInv.step {za q : List Int} {d l : Int} {m : Nat} (h : ByInv za q d (m + 1) l) (hm : m < za.length) (ra : Nt.Rng za) (x : Int) (hx : x = za.getD m 0) :
    ByInv za (q.set m ((l * 4294967296 + x) / d)) d m ((l * 4294967296 + x) % d) := by
  have hl := h.len
  have hxr := ra m
  rw [← hx] at hxr
  have hq := quo_bd h.l0 h.l1 hxr.1 hxr.2
  refine ⟨by rw [List.length_set]; exact hl, Nt.rng_set h.rng hq.1 hq.2.1, ?_, hq.2.2.1, hq.2.2.2⟩
  have e5 : (q.set m ((l * 4294967296 + x) / d)).drop (m + 1) = q.drop (m + 1) := List.drop_set_of_lt (by omega)
  rw [val_drop_step (s := za) hm, val_drop_step (s := q.set m _) (m := m) (by rw [List.length_set]; omega), Nt.getD_set_self (by omega), e5, h.eq, ← hx]
  have := Int.emod_add_mul_ediv (l * 4294967296 + x) d
  generalize (l * 4294967296 + x) % d = r at *
  generalize (l * 4294967296 + x) / d = y at *
  grind

/-- Bits of the quotient from i on are told. -/
structure BitInv (za zb q : List Int) (r : Int) (i : Nat) : Prop where
  len : q.length = za.length
  rng : Nt.Rng q
  ex : ∃ Q, Nt.val q = Q * 2 ^ i ∧ Nt.val za / 2 ^ i = Q * Nt.val zb + r
  r0 : 0 ≤ r
  r1 : r < Nt.val zb
theorem bits_next (x : Int) (i : Nat) : x / 2 ^ i = 2 * (x / 2 ^ (i + 1)) + x / 2 ^ i % 2 := by
  rw [Int.pow_succ, ← Int.ediv_ediv_of_nonneg (Int.le_of_lt (p2pos i))]
  omega
theorem BitInv.no {za zb q : List Int} {r : Int} {i : Nat} (h : BitInv za zb q r (i + 1)) (hc : 2 * r + Nt.val za / 2 ^ i % 2 < Nt.val zb) : BitInv za zb q (2 * r + Nt.val za / 2 ^ i % 2) i := by
  obtain ⟨Q, e1, e2⟩ := h.ex
  have hr := h.r0
  refine ⟨h.len, h.rng, ⟨2 * Q, by rw [e1, Int.pow_succ]; grind, ?_⟩, by omega, hc⟩
  have := bits_next (Nt.val za) i
  rw [e2] at this
  generalize Nt.val za / 2 ^ i % 2 = b at *
  rw [this]; grind
theorem BitInv.start {za zb : List Int} {A B L : Nat} (hA : Bits (Nt.val za) A) (hB : Bits (Nt.val zb) B) (h0 : 0 ≤ Nt.val za) (hL : A + 1 ≤ L + B) : BitInv za zb (List.replicate za.length 0) (Nt.val za / 2 ^ L) L := by
  have hz : Nt.val (List.replicate za.length (0 : Int)) = 0 := vp_rep _ _
  refine ⟨by simp, fun k => by rw [getD_rep]; decide, ⟨0, by rw [hz]; simp, by simp⟩, Int.ediv_nonneg h0 (Int.le_of_lt (p2pos L)), Int.ediv_lt_of_lt_mul (p2pos L) ?_⟩
  have h1 := hA.lt
  have h2 := hB.le
  have h3 := p2mono (show A + 1 ≤ L + B from hL)
  rw [Int.pow_succ, Int.pow_add] at h3
  have h4 : 2 ^ L * 2 ^ B ≤ 2 ^ L * (2 * Nt.val zb) := Int.mul_le_mul_of_nonneg_left h2 (Int.le_of_lt (p2pos L))
  have e : 2 ^ L * (2 * Nt.val zb) = 2 * (Nt.val zb * 2 ^ L) := by grind
  omega
theorem Blk.drew {w : World} {g : Nat} {s : List Int} (h : Blk w g s) : Blk w.drew g s := h
set_option maxHeartbeats 1000000 in
theorem refLen_nil (a : Option Addr) (ca : Nat) (w : World) : Calls Try.prog 73 #[.slice a 0 ca] w fun e w' => e = .returned (.int .i64 0) ∧ w = w' := by
  go_enter Try.func73, Try.ntmps73
  go_wp2
  go_ret
  exact ⟨rfl, rfl⟩
set_option maxHeartbeats 1000000 in
theorem refDown_nil (a : Option Addr) (ca : Nat) (w : World) (n : Int) (hn : 0 ≤ n) : Calls Try.prog 77 #[.slice a 0 ca, .int .i64 n] w fun e w' => e = .returned (.tuple #[.slice none 0 0, .bool false]) ∧ w = w' := by
  go_enter Try.func77, Try.ntmps77
  go_wp2_with fail
  refine (refLen_nil a ca w).mono ?_
  rintro e w' ⟨rfl, rfl⟩
  go_wp2
  go_ret2
  exact ⟨rfl, rfl⟩

end Go.Proofs.Ytgfpbmjknknflaa

namespace Go.Proofs.Ytgfpbmjknknflaa
open Go.RowKit
set_option linter.unusedVariables false
set_option maxRecDepth 3000
/-- Memory of the call's own, which may be written. -/
def Wr (B : Nat) (w : World) (v : Value) : Prop := v = .slice none 0 0 ∨ ∃ g n cap cur, v = .slice (some ⟨g, 0, none⟩) n cap ∧ B ≤ g ∧ w.heap[g]? = some (.cells cur 112 (0, 0)) ∧ n ≤ cur.size ∧ n ≤ 1000000
theorem Own.wr {B : Nat} {w : World} {v : Value} {zs : List Int} (h : Own B w v zs) (hl : zs.length ≤ 1000000) : Wr B w v := by
  rcases h.blk with ⟨h, _⟩ | ⟨g, cap, cur, hv, hB, hg, hn⟩
  · exact .inl h
  · exact .inr ⟨g, zs.length, cap, cur, hv, hB, hg, hn, hl⟩
theorem Wr.below {B B' : Nat} {w w' : World} {v : Value} (h : Wr B w v) (hb : Below B' w w') (hB : w.heap.size ≤ B') : Wr B w' v := by
  rcases h with h | ⟨g, n, cap, cur, hv, h1, hg, r⟩
  · exact .inl h
  · exact .inr ⟨g, n, cap, cur, hv, h1, (hb.block g (by have := (Array.getElem?_eq_some_iff.1 hg).1; omega)).trans hg, r⟩

/-- r is the whole root of x, s what is left. -/
structure RtInv (x r s : Int) : Prop where
  r0 : 0 ≤ r
  s0 : 0 ≤ s
  eq : x = r * r + s
  le : s ≤ 2 * r
theorem RtInv.no {x y r s b : Int} (h : RtInv x r s) (hy : y = 4 * x + b) (hb : 0 ≤ b) (hb3 : b ≤ 3) (hc : 4 * s + b < 4 * r + 1) : RtInv y (2 * r) (4 * s + b) := by
  obtain ⟨h1, h2, h3, h4⟩ := h
  refine ⟨by omega, by omega, ?_, by omega⟩
  have e : 2 * r * (2 * r) = 4 * (r * r) := by grind
  rw [e]; omega
/-- What a power answers: its digits, or that they are too many. -/
def PowEnd (w w' : World) (x M : Int) (e : Ending) : Prop :=
  (x < M ∧ ∃ zs a c, e = .returned (.tuple #[.slice a zs.length c, .int .i64 0]) ∧ Lie w' a zs ∧ Good zs x ∧ Below w.heap.size w w') ∨
  (M ≤ x ∧ e = .returned (.tuple #[.slice none 0 0, .int .i64 3]) ∧ Below w.heap.size w w')
/-- What is told of a slice of integers that came in: it is nil; or it leads to a row of cap cells, the numbers zs (the first len are its elements), each fitting its kind. -/
def IsRow (k : IntKind) (w : World) (a : Option Addr) (len cap : Nat) (zs : List Int) : Prop :=
  (a = none ∧ len = 0 ∧ cap = 0 ∧ zs = []) ∨
  ∃ x, a = some x ∧ len ≤ cap ∧ cap ≤ maxLen ∧ zs.length = cap ∧ (∀ i, i < zs.length → w.cell? (x.add i) = some (.int k (zs.getD i 0))) ∧ ∀ n ∈ zs, (Lit.int k n).wf = true

theorem wf_u64 {n : Int} (h : (Lit.int .u64 n).wf = true) : 0 ≤ n ∧ n < 18446744073709551616 := by
  have e : ∀ n, (Lit.int .u64 n).wf = (decide (IntKind.u64.min ≤ n) && decide (n ≤ IntKind.u64.max)) := fun _ => rfl
  rw [e] at h
  have e1 : IntKind.u64.min = 0 := rfl
  have e2 : IntKind.u64.max = 18446744073709551615 := rfl
  rw [e1, e2] at h
  simp at h
  omega
theorem wf_i64 {n : Int} (h : (Lit.int .i64 n).wf = true) : -9223372036854775808 ≤ n ∧ n ≤ 9223372036854775807 := by
  have e : ∀ n, (Lit.int .i64 n).wf = (decide (IntKind.i64.min ≤ n) && decide (n ≤ IntKind.i64.max)) := fun _ => rfl
  rw [e] at h
  have e1 : IntKind.i64.min = -9223372036854775808 := rfl
  have e2 : IntKind.i64.max = 9223372036854775807 := rfl
  rw [e1, e2] at h
  simp at h
  omega
end Go.Proofs.Ytgfpbmjknknflaa

namespace Go.Proofs.Ytgfpbmjknknflaa
open Go.RowKit
set_option linter.unusedVariables false
set_option maxRecDepth 3000
/-- The library's table lies at its variable (block 0). -/
def Tab (w : World) : Prop := TabAt 0 Lib.deBruijn32tab w
theorem Tab.below {w w' : World} {B : Nat} (h : Tab w) (hb : Below B w w') (hB : w.heap.size ≤ B) : Tab w' := by
  intro j hj
  have := h j hj
  rw [hb.cell (p := ⟨0, j, none⟩) (by have h1 := World.block_lt_of_cell? w _ this; simpa using Nat.lt_of_lt_of_le h1 hB)]
  exact this
theorem p2lt {i j : Nat} (h : (2 : Int) ^ i < 2 ^ j) : i < j := by
  by_cases c : i < j
  · exact c
  · have := p2mono (show j ≤ i by omega)
    omega
theorem p2succ (i : Nat) : (2 : Int) ^ (i + 1) = 2 * 2 ^ i := by rw [Int.pow_succ, Int.mul_comm]
theorem Bits.unique {x : Int} {B C : Nat} (h : Bits x B) (k : Bits x C) : B = C := by
  have h1 := h.lt
  have h2 := h.le
  have k1 := k.lt
  have k2 := k.le
  have e1 := p2succ B
  have e2 := p2succ C
  have := p2lt (i := B) (j := C + 1) (by omega)
  have := p2lt (i := C) (j := B + 1) (by omega)
  omega
theorem isNum_nil (w : World) {x : Int} (h : x = 0) : IsNum w w none [] x := ⟨Nt.can_nil, by simp, by rw [h]; rfl, .inl rfl, Below.refl _ _⟩

/-- How many bits a number has. -/
def BitLen (x : Int) (B : Nat) : Prop := (x = 0 ∧ B = 0) ∨ (0 < x ∧ Bits x B)
theorem BitLen.unique {x : Int} {B C : Nat} (h : BitLen x B) (k : BitLen x C) : B = C := by
  rcases h with ⟨h1, h2⟩ | ⟨h1, h2⟩ <;> rcases k with ⟨k1, k2⟩ | ⟨k1, k2⟩
  · omega
  · omega
  · omega
  · exact h2.unique k2
theorem Good.pos {z : List Int} {x : Int} (h : Good z x) (hz : 0 < z.length) : 0 < x := by
  have h1 := can_ge h.can hz
  have := Nt.pw_pos (z.length - 1)
  rw [← h.val]; omega
theorem Good.nonneg {z : List Int} {x : Int} (h : Good z x) : 0 ≤ x := by rw [← h.val]; exact (Nt.val_bd h.can.1).1
theorem Good.nil {z : List Int} {x : Int} (h : Good z x) (hz : z.length = 0) : z = [] ∧ x = 0 := by
  have e := List.length_eq_zero_iff.1 hz
  subst e
  exact ⟨rfl, by rw [← h.val]; rfl⟩
theorem Good.ne {z : List Int} {x : Int} (h : Good z x) (hx : 0 < x) : 0 < z.length := by
  by_cases c : z.length = 0
  · have := (h.nil c).2; omega
  · omega
theorem bits_ex {x : Int} (h : 0 < x) : ∃ B, Bits x B := by
  have key : ∀ f : Nat, ∀ x : Int, 0 < x → x < 2 ^ f → ∃ B, Bits x B := by
    intro f
    induction f with
    | zero => intro x h0 h1; simp at h1; omega
    | succ f ih =>
      intro x h0 h1
      by_cases c : x < 2 ^ f
      · exact ih x h0 c
      · exact ⟨f + 1, h1, by have := p2succ f; omega⟩
  refine key x.toNat x h ?_
  have h2 : x.toNat < 2 ^ x.toNat := Nat.lt_two_pow_self
  have e : ((2 ^ x.toNat : Nat) : Int) = (2 : Int) ^ x.toNat := by simp
  omega
theorem bitLen_ex {x : Int} (h : 0 ≤ x) : ∃ B, BitLen x B := by
  by_cases c : x = 0
  · exact ⟨0, .inl ⟨c, rfl⟩⟩
  · obtain ⟨B, hB⟩ := bits_ex (x := x) (by omega)
    exact ⟨B, .inr ⟨by omega, hB⟩⟩
theorem pw32 : (4294967296 : Int) ^ 4096 = 2 ^ 131072 := by
  rw [show (131072 : Nat) = 32 * 4096 from rfl, Int.pow_mul]
  rfl
theorem Bits.up {x : Int} {B : Nat} (h : Bits x B) (n : Nat) : Bits (x * 2 ^ n) (B + n) := by
  have hp := p2pos n
  refine ⟨?_, ?_⟩
  · rw [Int.pow_add]; exact Int.mul_lt_mul_of_pos_right h.lt hp
  · rw [Int.pow_add, ← Int.mul_assoc]; exact Int.mul_le_mul_of_nonneg_right h.le (by omega)
theorem Bits.fits {x : Int} {B n : Nat} (h : Bits x B) (hf : x * 2 ^ n < 4294967296 ^ 4096) : n + B ≤ 131072 := by
  have h1 := (h.up n).le
  rw [pw32] at hf
  have := p2succ 131072
  have := p2lt (i := B + n) (j := 131072 + 1) (by omega)
  omega
theorem BitLen.up {x : Int} {B : Nat} (h : BitLen x B) (hx : 0 < x) (n : Nat) : BitLen (x * 2 ^ n) (B + n) := by
  rcases h with ⟨h1, h2⟩ | ⟨h1, h2⟩
  · omega
  · exact .inr ⟨Int.mul_pos hx (p2pos n), h2.up n⟩
theorem Live.one {w : World} {a : Option Addr} {zs : List Int} (h : Lie w a zs) : Live w [(a, zs)] := ⟨by simp [h]⟩
theorem LowBit.unique {x : Int} {t u : Nat} (h : LowBit x t) (k : LowBit x u) : t = u := by
  have h1 := low_lost (n := u) h
  have h2 := low_lost (n := t) k
  have e1 := k.zero
  have e2 := h.zero
  simp only [e1, ne_eq, not_true_eq_false, decide_false, decide_eq_false_iff_not] at h1
  simp only [e2, ne_eq, not_true_eq_false, decide_false, decide_eq_false_iff_not] at h2
  omega
theorem refLenN (a : Option Addr) (ca : Nat) (za : List Int) (w : World) {x : Int} (ha : Lie w a za) (ga : Good za x) :
    Calls Try.prog 73 #[.slice a za.length ca] w fun e w' => w = w' ∧ ∃ B : Nat, e = .returned (.int .i64 B) ∧ BitLen x B ∧ B ≤ 131072 := by
  by_cases hz : 0 < za.length
  · refine (refLen45 a ca za w ha ga.can hz (by have := ga.len; omega)).mono ?_
    rintro e w' ⟨rfl, B, rfl, h1, h2, h3⟩
    exact ⟨rfl, B, rfl, .inr ⟨ga.pos hz, by rw [← ga.val]; exact h1⟩, by have := ga.len; omega⟩
  · obtain ⟨rfl, h0⟩ := ga.nil (by omega)
    refine (refLen_nil a ca w).mono ?_
    rintro e w' ⟨rfl, rfl⟩
    exact ⟨rfl, 0, rfl, .inl ⟨h0, rfl⟩, by omega⟩
theorem refLowN (a : Option Addr) (ca : Nat) (za : List Int) (w : World) {x : Int} (ha : Lie w a za) (ga : Good za x) (hz : 0 < za.length) :
    Calls Try.prog 76 #[.slice a za.length ca] w fun e w' => w = w' ∧ ∃ t : Nat, e = .returned (.int .i64 t) ∧ LowBit x t ∧ t < 131072 := by
  refine (refLow59 a ca za w ha ga.can hz (by have := ga.len; omega)).mono ?_
  rintro e w' ⟨rfl, t, rfl, h1, h2⟩
  exact ⟨rfl, t, rfl, by rw [← ga.val]; exact h1, by have := ga.len; omega⟩
theorem refDownN (a : Option Addr) (ca : Nat) (za : List Int) (w : World) {x : Int} (ha : Lie w a za) (ga : Good za x) (M : Int) (n : Nat) (hM : M = (n : Int)) (hn : n ≤ 1000000) (q : Bool) (hq : decide (x % 2 ^ n ≠ 0) = q) :
    Calls Try.prog 77 #[.slice a za.length ca, .int .i64 M] w fun e w' => ∃ zs a' c, e = .returned (.tuple #[.slice a' zs.length c, .bool q]) ∧ IsNum w w' a' zs (x / 2 ^ n) ∧ Own w.heap.size w' (.slice a' zs.length c) zs := by
  subst hM
  subst hq
  by_cases hz : 0 < za.length
  · refine (refDown46 a ca za w n (by omega) ha ga.can hz (by have := ga.len; omega)).mono ?_
    rintro e w' ⟨zs, a', c, h1, h2, h3, h4, h5⟩
    rw [ga.val] at h1 h4
    obtain ⟨a2, c2, he, _, _, hl⟩ := h2.lie
    simp only [Value.slice.injEq, true_and] at he
    obtain ⟨rfl, rfl⟩ := he
    refine ⟨zs, a', c, h1, ⟨h3, ?_, h4, hl, h5⟩, h2⟩
    refine (Nt.can_len h3 4096).1 ?_
    rw [h4]
    have h6 := ga.lt
    have h7 : x / 2 ^ n ≤ x := Int.ediv_le_self _ h6.1
    have := h6.2
    omega
  · obtain ⟨rfl, rfl⟩ := ga.nil (by omega)
    refine (refDown_nil a ca w _ (by omega)).mono ?_
    rintro e w' ⟨rfl, rfl⟩
    exact ⟨[], none, 0, by simp, isNum_nil _ (by simp), Own.nil _ _⟩
end Go.Proofs.Ytgfpbmjknknflaa

/-
  A region that draws its order, where what it reads stays as it is: the reads may be taken first. I tells what every world on the way keeps.
-/
set_option linter.unusedVariables false
namespace Go.Drawn
open Go
section
variable {P : Program} {ops : Array Oper} {Q : Exit → Act → World → Prop} {md : Region.Mode} {I : World → Prop}
/-- Whatever order: the end holds, and each world on the way keeps I. -/
def wpIn (P : Program) (md : Region.Mode) (ops : Array Oper) (Q : Exit → Act → World → Prop) (I : World → Prop) : Nat → Array Bool → Act → World → Prop
  | 0, listed, a, w => Region.ready md ops listed = [] ∧ Q .normal a w
  | n + 1, listed, a, w => (Region.ready md ops listed = [] → Q .normal a w) ∧
      ∀ i ∈ Region.ready md ops listed, wpOp P ops Q i (fun a' w' => I w' ∧ wpIn P md ops Q I n (listed.setIfInBounds i true) a' w') a w
theorem wpIn.any : ∀ {n : Nat} {listed : Array Bool} {a : Act} {w : World}, wpIn P md ops Q I n listed a w → wpAny P md ops Q n listed a w
  | 0, _, _, _, h => h
  | n + 1, _, _, _, h => ⟨h.1, fun i hi => wpOp_mono (fun _ _ hh => wpIn.any hh.2) (h.2 i hi)⟩
/-- What an operation leaves of the frame. -/
theorem wpOp_acts {j : Nat} {o : Oper} (hj : ops[j]? = some o) {K : Act → World → Prop} {a : Act} {w : World} (h : wpOp P ops Q j K a w) :
    wpOp P ops Q j (fun a' w' => (∃ u ds, a' = { a.put o.dst u with defers := ds }) ∧ K a' w') a w := by
  unfold wpOp at *
  simp only [hj] at *
  by_cases hw : Region.wanted o (yielded ops a.tmps) = true
  · rw [if_pos hw] at h ⊢
    refine h.imp (fun hh => ?_) id
    unfold Oper.wp at *
    cases hr : (execOp a.eval o).run P w with
    | ok n w' =>
      rw [hr] at hh
      cases n <;> simp only [Oper.upon] at hh ⊢
      case value u => exact ⟨⟨u, _, rfl⟩, hh⟩
      case skip => exact ⟨⟨undef, _, rfl⟩, hh⟩
      case defer d => exact ⟨⟨undef, d :: a.defers, by cases o.dst <;> rfl⟩, hh⟩
      case enter f args =>
        refine Calls.mono hh fun e w'' he => ?_
        cases e with
        | returned u => exact ⟨⟨u, _, rfl⟩, he⟩
        | panicked c => exact he
        | outgrown => exact he
      case row r args => exact Rows.mono hh fun u w'' he => ⟨⟨u, _, rfl⟩, he⟩
    | halt x w' =>
      rw [hr] at hh
      cases x <;> first | exact hh | (simp only [Oper.upon] at hh ⊢; exact hh)
  · rw [if_neg hw] at h ⊢
    exact ⟨⟨undef, _, rfl⟩, h⟩
/-- In every world that keeps I the operation yields v, or it is not wanted. -/
def YieldsIn (P : Program) (ops : Array Oper) (I : World → Prop) (o : Oper) (v : Value) (a : Act) : Prop :=
  (Region.wanted o (yielded ops a.tmps) = true ∧ ∀ w, I w → (execOp a.eval o).run P w = .ok (.value v) w) ∨ (Region.wanted o (yielded ops a.tmps) = false ∧ v = undef)
theorem YieldsIn.op {i : Nat} {o : Oper} {v : Value} {a : Act} {w : World} (hi : ops[i]? = some o) (hy : YieldsIn P ops I o v a) (hI : I w) {K : Act → World → Prop} (h : K (a.put o.dst v) w) : wpOp P ops Q i K a w := by
  unfold wpOp
  rcases hy with hy | ⟨hy, rfl⟩
  · simp only [hi, hy.1, if_true]
    refine .inl ?_
    unfold Oper.wp
    rw [hy.2 w hI]
    exact h
  · simp only [hi, hy]
    exact h
/-- The same place, filled by a constant. -/
def still (o : Oper) (v : Value) : Oper := { o with op := .move (.const v), guard := none }
theorem still_yields (o : Oper) (v : Value) (a : Act) : Yields P ops (still o v) v a := .inl ⟨rfl, fun _ => rfl⟩
theorem still_apart {o oj : Oper} (v : Value) (h : o.apart ops oj = true) : (still o v).apart ops oj = true := by
  unfold Oper.apart at *
  rw [Bool.and_eq_true] at h ⊢
  refine ⟨h.1, ?_⟩
  have e : (still o v).looksAt ops = [] := rfl
  rw [e]
  cases oj.dst <;> rfl
theorem take_first {i : Nat} {oi : Oper} {v : Value} (hi : ops[i]? = some oi) (hsel : ∀ (j : Nat) (o : Oper) cs b, ops[j]? = some o → o.op ≠ .select cs b)
    (hQ : ∀ c a w, Q (.panic c) (a.put oi.dst v) w → Q (.panic c) a w) :
    ∀ (n : Nat) (listed : Array Bool) (a : Act) (w : World),
      (∀ j oj, ops[j]? = some oj → j ≠ i → listed.getD j true = false → (∀ e ∈ oj.after, Region.binds md e = true → e.on ≠ i) → oi.apart ops oj = true) →
      i ∈ Region.ready md ops listed → YieldsIn P ops I oi v a → I w →
      wpIn P md ops Q I n (listed.setIfInBounds i true) (a.put oi.dst v) w → wpIn P md ops Q I (n + 1) listed a w := by
  intro n
  induction n with
  | zero =>
    intro listed a w _ hr hy hI H
    refine ⟨fun h => by rw [h] at hr; exact absurd hr (by simp), fun j hj => ?_⟩
    by_cases c : j = i
    · subst c; exact hy.op hi hI ⟨hI, H⟩
    · have := ready_mono hj c
      rw [H.1] at this
      exact absurd this (by simp)
  | succ n ih =>
    intro listed a w hfree hr hy hI H
    refine ⟨fun h => by rw [h] at hr; exact absurd hr (by simp), fun j hj => ?_⟩
    by_cases c : j = i
    · subst c; exact hy.op hi hI ⟨hI, H⟩
    · obtain ⟨hjun, oj, hoj, hall⟩ := mem_ready.1 hj
      have hnot : ∀ e ∈ oj.after, Region.binds md e = true → e.on ≠ i := by
        intro e he hb heq
        have h1 := hall e he hb
        have h0 := (mem_ready.1 hr).1
        rw [heq] at h1
        simp only [Array.getD_eq_getD_getElem?] at h0 h1
        cases hx : listed[i]? with
        | none => rw [hx] at h1; simp at h1
        | some q => rw [hx] at h0 h1; simp at h0 h1; rw [h0] at h1; cases h1
      have hap := hfree j oj hoj c hjun hnot
      have h2 := wpOp_acts hoj (wpOp_put (oi := still oi v) hoj (still_apart v hap) (fun cs b h => by cases h) (fun cs b => hsel j oj cs b hoj) hQ (still_yields oi v a) (H.2 j (ready_mono hj c)))
      refine wpOp_mono (fun a' w' h3 => ?_) h2
      obtain ⟨⟨u, ds, rfl⟩, _, hI', H'⟩ := h3
      obtain ⟨_, _, h5⟩ := Oper.apart_spec hap
      refine ⟨hI', ih _ _ _ ?_ (ready_mono hr (Ne.symm c)) ?_ hI' ?_⟩
      · intro k ok hk hki hun hno
        refine hfree k ok hk hki ?_ hno
        by_cases e : j = k
        · subst e; exact hjun
        · rw [getD_set_ne true e] at hun; exact hun
      · rcases hy with hy | ⟨hy, hv⟩
        · refine .inl ⟨?_, fun w'' hw'' => ?_⟩
          · have := wanted_put oi a oj.dst u h5
            rw [← hy.1]; exact this
          · have e : execOp (Act.eval { a.put oj.dst u with defers := ds }) oi = execOp a.eval oi := execOp_put oi (fun cs b => hsel i oi cs b hi) a oj.dst u h5
            rw [e]; exact hy.2 w'' hw''
        · have := wanted_put oi a oj.dst u h5
          exact .inr ⟨by rw [← hy]; exact this, hv⟩
      · rw [Array.setIfInBounds_comm _ _ c]
        exact H'
/-- A read that is ready is taken. -/
theorem take {i : Nat} {oi : Oper} {v : Value} {n : Nat} {listed : Array Bool} {a : Act} {w : World} (hi : ops[i]? = some oi)
    (hs : Region.noSelect ops = true) (hf : Region.free md ops listed i = true) (hr : (Region.ready md ops listed).contains i = true)
    (hQ : ∀ c a w, Q (.panic c) (a.put oi.dst v) w → Q (.panic c) a w) (hw : Region.wanted oi (yielded ops a.tmps) = true) (hy : ∀ w, I w → (execOp a.eval oi).run P w = .ok (.value v) w) (hI : I w)
    (h : wpIn P md ops Q I n (listed.setIfInBounds i true) (a.put oi.dst v) w) : wpIn P md ops Q I (n + 1) listed a w :=
  take_first hi (Region.noSelect_spec hs) hQ n listed a w (Region.free_spec hi hf) (by simpa using hr) (.inl ⟨hw, hy⟩) hI h
/-- An operation that is ready and not wanted is passed by. -/
theorem skip {i : Nat} {oi : Oper} {n : Nat} {listed : Array Bool} {a : Act} {w : World} (hi : ops[i]? = some oi)
    (hs : Region.noSelect ops = true) (hf : Region.free md ops listed i = true) (hr : (Region.ready md ops listed).contains i = true)
    (hQ : ∀ c a w, Q (.panic c) (a.put oi.dst undef) w → Q (.panic c) a w) (hw : Region.wanted oi (yielded ops a.tmps) = false) (hI : I w)
    (h : wpIn P md ops Q I n (listed.setIfInBounds i true) (a.put oi.dst undef) w) : wpIn P md ops Q I (n + 1) listed a w :=
  take_first hi (Region.noSelect_spec hs) hQ n listed a w (Region.free_spec hi hf) (by simpa using hr) (.inr ⟨hw, rfl⟩) hI h
/-- As take and skip, what the kernel sees by itself left out. -/
theorem tk {i : Nat} {oi : Oper} {v : Value} {n : Nat} {listed : Array Bool} {a : Act} {w : World} (hi : ops[i]? = some oi)
    (hy : ∀ w, I w → (execOp a.eval oi).run P w = .ok (.value v) w) (hI : I w) (h : wpIn P md ops Q I n (listed.setIfInBounds i true) (a.put oi.dst v) w)
    (hs : Region.noSelect ops = true := by kernel_rfl) (hf : Region.free md ops listed i = true := by kernel_rfl) (hr : (Region.ready md ops listed).contains i = true := by kernel_rfl)
    (hQ : ∀ c a w, Q (.panic c) (a.put oi.dst v) w → Q (.panic c) a w := by exact fun _ _ _ h => h) (hw : Region.wanted oi (yielded ops a.tmps) = true := by kernel_rfl) : wpIn P md ops Q I (n + 1) listed a w :=
  take hi hs hf hr hQ hw hy hI h
theorem sk {i : Nat} {oi : Oper} {n : Nat} {listed : Array Bool} {a : Act} {w : World} (hi : ops[i]? = some oi) (hI : I w)
    (h : wpIn P md ops Q I n (listed.setIfInBounds i true) (a.put oi.dst undef) w)
    (hs : Region.noSelect ops = true := by kernel_rfl) (hf : Region.free md ops listed i = true := by kernel_rfl) (hr : (Region.ready md ops listed).contains i = true := by kernel_rfl)
    (hQ : ∀ c a w, Q (.panic c) (a.put oi.dst undef) w → Q (.panic c) a w := by exact fun _ _ _ h => h) (hw : Region.wanted oi (yielded ops a.tmps) = false := by kernel_rfl) : wpIn P md ops Q I (n + 1) listed a w :=
  skip hi hs hf hr hQ hw hI h
/-- The one operation that is ready. -/
theorem one {j : Nat} {o : Oper} {n : Nat} {listed : Array Bool} {a : Act} {w : World} (hr : Region.ready md ops listed = [j]) (hj : ops[j]? = some o)
    (h : ∀ K : Act → World → Prop, (∀ a w, I w → wpIn P md ops Q I n (listed.setIfInBounds j true) a w → K a w) → if Region.wanted o (yielded ops a.tmps) = true then Oper.wp P o a w K Q else K (a.put o.dst undef) w) :
    wpIn P md ops Q I (n + 1) listed a w := by
  refine ⟨fun h0 => absurd (hr.symm.trans h0) (by simp), fun i hi => ?_⟩
  rw [hr] at hi
  obtain rfl := List.mem_singleton.1 hi
  exact wpOp_step hj (fun K hK => h K fun a w h1 h2 => hK a w ⟨h1, h2⟩)
theorem done {n : Nat} {listed : Array Bool} {a : Act} {w : World} (hr : Region.ready md ops listed = []) (h : Q .normal a w) : wpIn P md ops Q I n listed a w := by
  cases n with
  | zero => exact ⟨hr, h⟩
  | succ n => exact ⟨fun _ => h, fun i hi => by rw [hr] at hi; cases hi⟩
theorem enter {id : Nat} {a : Act} {w : World} (I : World → Prop) (hm : P.follows .mixedOrders = true)
    (h : wpIn P .any ops Q I ops.size (Array.replicate ops.size false) a w.drew) : (Code.region id ops true).wp P Q a w := wp_region_any hm h.any
end
end Go.Drawn
