import Derived.Test.YtcjmamlffbhnlaaW37
namespace Go.Proofs.Ytcjmamlffbhnlaa
open Go.RowKit
set_option linter.unusedVariables false
/-- Digits from m on are divided: q. -/
structure ByInv (za q : List Int) (d : Int) (m : Nat) (l : Int) : Prop where
  len : q.length = za.length
  rng : Nt.Rng q
  eq : Nt.val (za.drop m) = d * Nt.val (q.drop m) + l
  l0 : 0 ≤ l
  l1 : l < d
theorem ByInv.start {za : List Int} {d : Int} (hd : 0 < d) : ByInv za (List.replicate za.length 0) d za.length 0 :=
  ⟨by simp, fun k => by rw [getD_rep]; decide, by rw [List.drop_eq_nil_of_le (Nat.le_refl _), List.drop_eq_nil_of_le (by simp), Nt.val_nil]; omega, Int.le_refl _, hd⟩
theorem ByInv.step {za q : List Int} {d l : Int} {m : Nat} (h : ByInv za q d (m + 1) l) (hm : m < za.length) (ra : Nt.Rng za) (x : Int) (hx : x = za.getD m 0) :
    ByInv za (q.set m ((l * 4294967296 + x) / d)) d m ((l * 4294967296 + x) % d) := by
  have hl := h.len
  have hxr := ra m
  rw [← hx] at hxr
  have hq := quo_bd h.l0 h.l1 hxr.1 hxr.2
  refine ⟨by rw [List.length_set]; exact hl, Nt.rng_set h.rng hq.1 hq.2.1, ?_, hq.2.2.1, hq.2.2.2⟩
  have e5 : (q.set m ((l * 4294967296 + x) / d)).drop (m + 1) = q.drop (m + 1) := List.drop_set_of_lt (by omega)
  rw [val_drop_step (s := za) hm, val_drop_step (s := q.set m _) (m := m) (by rw [List.length_set]; omega), Nt.getD_set_self (by omega), e5, h.eq, ← hx]
  have := Int.emod_add_mul_ediv (l * 4294967296 + x) d
  generalize (l * 4294967296 + x) % d = r at *
  generalize (l * 4294967296 + x) / d = y at *
  grind

set_option maxHeartbeats 2000000 in
theorem byDigit44 (a : Option Addr) (ca : Nat) (za : List Int) (d : Int) (w : World) (ha : Lie w a za) (ra : Nt.Rng za) (hm : za.length ≤ 100000) (hd : 0 < d) (hd' : d < 4294967296) :
    Calls Try.prog 44 #[.slice a za.length ca, .int .u32 d] w fun e w' => ∃ zq zr aq cq ar cr, e = .returned (two (.slice aq zq.length cq) (.slice ar zr.length cr)) ∧ Own w.heap.size w' (.slice aq zq.length cq) zq ∧ Own w.heap.size w' (.slice ar zr.length cr) zr ∧ Nt.Can zq ∧ Nt.Can zr ∧ Nt.val za = Nt.val zq * d + Nt.val zr ∧ Nt.val zr < d ∧ Below w.heap.size w w' := by
  obtain ⟨i0, hi, hz0, hz1, hz2⟩ := info_parts Try.info49
  have HA := Hide.mk ha
  have RA := Hide.mk ra
  have hne : (d == 0) = false := beq_eq_false_iff_ne.2 (by omega)
  clear ha ra
  go_enter Try.func44, Try.ntmps44
  go_wp2_with (at_make; refine wpList_make_full _ rfl _ _ 22 rfl w.heap.size 49 i0 (.int .u32 0) 1 Try.underlying22 hi hz0 hz1 .i64 .i64 _ _ za.length rfl rfl (by omega) (by omega) (by rw [hz2]; omega) (by unfold maxLen; omega) (Nat.le_refl _) ?_; intro w1 hown hgrow; have hblk1 := Hide.mk (blk_made hown); have hbel1 := below_of_grown hgrow; clear hown hgrow)
  clear hi hz0 hz1 hz2 i0
  go_loopw [7, 8] (fun lv iv wr => ∃ (k : Nat) (q : List Int) (l : Int), k ≤ za.length ∧ iv = .int .i64 ((k : Int) - 1) ∧ lv = .int .u64 l ∧ 0 ≤ l ∧ l < d ∧ Hide (Blk wr w.heap.size q) ∧ Hide (ByInv za q d k l) ∧ Below w.heap.size w wr) (fun _ iv _ => (intOf iv + 1).toNat)
  case atStart => exact ⟨za.length, _, 0, Nat.le_refl _, rfl, rfl, by decide, hd, hblk1, ⟨ByInv.start hd⟩, hbel1⟩
  case round =>
    obtain ⟨k, q, l, hk, rfl, rfl, hl0, hl1, HK, HI, hbel⟩ := hrel
    clear hblk1 hbel1
    have hlq : Hide (q.length = za.length) := ⟨HI.out.len⟩
    cases k with
    | succ m =>
      have hml : m < za.length := by omega
      obtain ⟨ba, oa, rfl⟩ := lie_some HA.out (by omega)
      have hca := lie_cell (HA.out.below hbel (Nat.le_refl _)) rfl hml
      have hrx := RA.out m
      have hstep := fun x => Hide.mk (fun h => HI.out.step hml RA.out x h)
      have hc1 := HK.out.cell (j := m) (by rw [hlq.out]; exact hml)
      have hf1 := HK.out.frozen m
      have hset := fun x => Hide.mk (HK.out.set m x)
      have hpi : ((m + 1 : Nat) : Int) - 1 = (m : Int) := by omega
      rw [hpi]
      clear HI HK hpi
      generalize za.getD m 0 = x at *
      generalize q.getD m 0 = y at *
      have hor := or64_hi l x hrx.1 hrx.2 hl0 (by omega)
      have hqb := quo_bd hl0 hl1 hrx.1 hrx.2
      go_wp2
      go_roundw
      case rel => exact ⟨m, _, _, by omega, rfl, rfl, hqb.2.2.1, hqb.2.2.2, hset _, ⟨(hstep x).out rfl⟩, hbel.setCell (Nat.le_refl _) _⟩
      case measure => simp [intOf]; try omega
    | zero =>
      have HF : Hide (Nt.val za = Nt.val q * d + l) := ⟨by have := HI.out.eq; simp only [List.drop_zero] at this; rw [this, Int.mul_comm]⟩
      have HR := Hide.mk HI.out.rng
      have HT := Hide.mk (fun hc hm => trim36 _ q.length q wr (HK.out.lie (n := 0)) hc hm)
      have HO := fun n hn hm => Hide.mk (HK.out.own (B := w.heap.size) (n := n) (Nat.le_refl _) hn hm)
      rw [hlq.out] at HT HO
      clear HI HK
      go_wp2_with fail
      refine (HT.out (Nat.le_refl _) (by unfold maxLen; omega)).mono ?_
      rintro e w' ⟨rfl, n, hn, rfl, hz, hdd⟩
      have HZ := Hide.mk (And.intro hz hdd)
      clear hz hdd HT
      go_wp2_with fail
      refine (of17 l hl0 (by omega) wr).mono ?_
      rintro e w4 ⟨zr, ar, cr, rfl, hnum, hor⟩
      have HG : Hide (∃ zq zr' aq cq ar' cr', two (Value.slice (some ⟨w.heap.size, 0, none⟩) n za.length) (.slice ar zr.length cr) = two (.slice aq zq.length cq) (.slice ar' zr'.length cr') ∧ Own w.heap.size w4 (.slice aq zq.length cq) zq ∧ Own w.heap.size w4 (.slice ar' zr'.length cr') zr' ∧ Nt.Can zq ∧ Nt.Can zr' ∧ Nt.val za = Nt.val zq * d + Nt.val zr' ∧ Nt.val zr' < d ∧ Below w.heap.size w w4) := ⟨by
        have hln : (q.take n).length = n := by rw [List.length_take, hlq.out]; omega
        refine ⟨q.take n, zr, some ⟨w.heap.size, 0, none⟩, za.length, ar, cr, by rw [hln], ?_, hor.mono hbel.size, Nt.can_take HR.out (by rw [hlq.out]; exact hn) HZ.out.2, hnum.can, ?_, by rw [hnum.val]; exact hl1, below_then hbel hnum.bel⟩
        · rw [hln]; exact ((HO n hn (by unfold maxLen; omega)).out).below hnum.bel (Nat.le_refl _)
        · rw [Nt.val_take HZ.out.1 (by rw [hlq.out]; exact hn), hnum.val]; exact HF.out⟩
      clear hnum hor HO HZ
      go_wp2
      go_ret2
      obtain ⟨zq, zr', aq, cq, ar', cr', h1, h2⟩ := HG.out
      exact ⟨zq, zr', aq, cq, ar', cr', congrArg Ending.returned h1, h2⟩

theorem val_set {q : List Int} {j : Nat} (x : Int) (hj : j < q.length) : Nt.val (q.set j x) = Nt.val q + (x - q.getD j 0) * 4294967296 ^ j := by
  have h : ∀ n, Nt.vp (q.set j x) n = Nt.vp q n + (if j < n then (x - q.getD j 0) * 4294967296 ^ j else 0) := by
    intro n
    induction n with
    | zero => simp [Nt.vp]
    | succ n ih =>
      rw [Nt.vp_step, Nt.vp_step, ih]
      by_cases e : j = n
      · subst e
        rw [Nt.getD_set_self hj, if_neg (Nat.lt_irrefl _), if_pos (Nat.lt_succ_self _)]
        generalize (4294967296 : Int) ^ j = X
        grind
      · rw [Nt.getD_set_ne e]
        by_cases c : j < n
        · rw [if_pos c, if_pos (by omega)]; omega
        · rw [if_neg c, if_neg (by omega)]; omega
  unfold Nt.val
  rw [List.length_set, h, if_pos hj]
/-- Bits of the quotient from i on are told. -/
structure BitInv (za zb q : List Int) (r : Int) (i : Nat) : Prop where
  len : q.length = za.length
  rng : Nt.Rng q
  ex : ∃ Q, Nt.val q = Q * 2 ^ i ∧ Nt.val za / 2 ^ i = Q * Nt.val zb + r
  r0 : 0 ≤ r
  r1 : r < Nt.val zb
theorem bits_next (x : Int) (i : Nat) : x / 2 ^ i = 2 * (x / 2 ^ (i + 1)) + x / 2 ^ i % 2 := by
  rw [Int.pow_succ, ← Int.ediv_ediv_of_nonneg (Int.le_of_lt (p2pos i))]
  omega
theorem BitInv.no {za zb q : List Int} {r : Int} {i : Nat} (h : BitInv za zb q r (i + 1)) (hc : 2 * r + Nt.val za / 2 ^ i % 2 < Nt.val zb) : BitInv za zb q (2 * r + Nt.val za / 2 ^ i % 2) i := by
  obtain ⟨Q, e1, e2⟩ := h.ex
  have hr := h.r0
  refine ⟨h.len, h.rng, ⟨2 * Q, by rw [e1, Int.pow_succ]; grind, ?_⟩, by omega, hc⟩
  have := bits_next (Nt.val za) i
  rw [e2] at this
  generalize Nt.val za / 2 ^ i % 2 = b at *
  rw [this]; grind
theorem BitInv.yes {za zb q : List Int} {r d : Int} {i wh p : Nat} (h : BitInv za zb q r (i + 1)) (hc : Nt.val zb ≤ 2 * r + Nt.val za / 2 ^ i % 2) (hi : i = 32 * wh + p) (hp : p < 32) (hw : wh < za.length) (hd : d = q.getD wh 0) :
    BitInv za zb (q.set wh (d + 2 ^ p)) (2 * r + Nt.val za / 2 ^ i % 2 - Nt.val zb) i ∧ d % 2 ^ (p + 1) = 0 ∧ d + 2 ^ p < 4294967296 := by
  obtain ⟨Q, e1, e2⟩ := h.ex
  have hr := h.r1
  have hl := h.len
  have hdr := h.rng wh
  rw [← hd] at hdr
  have hmod : d % 2 ^ (p + 1) = 0 := by
    have e3 := val_drop_div h.rng wh (by omega)
    rw [e1, hi, show 32 * wh + p + 1 = 32 * wh + (p + 1) by omega, pow2_split (32 * wh + (p + 1)) wh (p + 1) rfl, show Q * (4294967296 ^ wh * 2 ^ (p + 1)) = 4294967296 ^ wh * (Q * 2 ^ (p + 1)) by grind, Int.mul_ediv_cancel_left _ (by have := Nt.pw_pos wh; omega), val_drop_step (by omega), ← hd] at e3
    have e4 : (4294967296 : Int) = 2 ^ (p + 1) * 2 ^ (31 - p) := by rw [← Int.pow_add, show p + 1 + (31 - p) = 32 by omega]; decide
    have e5 : d = 2 ^ (p + 1) * (Q - 2 ^ (31 - p) * Nt.val (q.drop (wh + 1))) := by
      rw [e4] at e3
      generalize (2 : Int) ^ (p + 1) = X at *
      generalize (2 : Int) ^ (31 - p) = Y at *
      grind
    rw [e5]; exact Int.mul_emod_right _ _
  have hup : d + 2 ^ p < 4294967296 := by
    have e4 : (4294967296 : Int) = 2 ^ (p + 1) * 2 ^ (31 - p) := by rw [← Int.pow_add, show p + 1 + (31 - p) = 32 by omega]; decide
    obtain ⟨m, hm⟩ := Int.dvd_of_emod_eq_zero hmod
    have hp1 := p2pos (p + 1)
    have hm1 : m < 2 ^ (31 - p) := by
      by_cases c : m < 2 ^ (31 - p)
      · exact c
      · have : 2 ^ (p + 1) * 2 ^ (31 - p) ≤ 2 ^ (p + 1) * m := Int.mul_le_mul_of_nonneg_left (by omega) (by omega)
        omega
    have : 2 ^ (p + 1) * (m + 1) ≤ 2 ^ (p + 1) * 2 ^ (31 - p) := Int.mul_le_mul_of_nonneg_left (by omega) (by omega)
    rw [Int.mul_add, ← hm, ← e4] at this
    rw [Int.pow_succ] at this
    have := p2pos p
    omega
  have hpp := p2pos p
  refine ⟨⟨by rw [List.length_set]; exact hl, Nt.rng_set h.rng (by omega) hup, ⟨2 * Q + 1, ?_, ?_⟩, by omega, by have := Int.emod_lt_of_pos (Nt.val za / 2 ^ i) (show (0 : Int) < 2 by decide); omega⟩, hmod, hup⟩
  · rw [val_set _ (by omega), ← hd, e1, show d + 2 ^ p - d = 2 ^ p by omega]
    have e6 : (2 : Int) ^ i = 4294967296 ^ wh * 2 ^ p := pow2_split i wh p hi
    rw [Int.pow_succ, e6]
    generalize (4294967296 : Int) ^ wh = X
    generalize (2 : Int) ^ p = Y
    grind
  · have := bits_next (Nt.val za) i
    rw [e2] at this
    generalize Nt.val za / 2 ^ i % 2 = b at *
    rw [this]; grind
theorem or32_bit (d : Int) (p : Nat) (hp : p < 32) (h0 : 0 ≤ d) (h1 : d < 4294967296) (hm : d % 2 ^ (p + 1) = 0) : bits .or .u32 d (2 ^ p) = d + 2 ^ p := by
  have hb := two_pow_le p hp
  rw [u32_or d _ h0 h1 (by omega) (by omega)]
  have e : ((2 ^ (p + 1) : Nat) : Int) = (2 : Int) ^ (p + 1) := by simp
  have hs : (2 : Int) ^ (p + 1) = 2 ^ p * 2 := Int.pow_succ _ _
  have := nat_join (p + 1) d.toNat ((2 : Int) ^ p).toNat (by
    have h1 : ((d.toNat % 2 ^ (p + 1) : Nat) : Int) = d % 2 ^ (p + 1) := by
      rw [Int.natCast_emod, e, Int.toNat_of_nonneg h0]
    rw [hm] at h1
    omega) (by omega)
  rw [this]; omega
end Go.Proofs.Ytcjmamlffbhnlaa
