import Derived.Test.YtcjmamlffbhnlaaW34
namespace Go.Proofs.Ytcjmamlffbhnlaa
open Go.RowKit
set_option linter.unusedVariables false
/-- A new number that the reference answers. -/
def Made (w w' : World) (x : Int) (e : Ending) : Prop := ∃ zs a' c, e = .returned (.slice a' zs.length c) ∧ Own w.heap.size w' (.slice a' zs.length c) zs ∧ Nt.Can zs ∧ Nt.val zs = x ∧ Below w.heap.size w w'
set_option maxHeartbeats 1000000 in
theorem refMul_nil (a b : Option Addr) (ca cb : Nat) (za zb : List Int) (w : World) (h : za.length = 0 ∨ zb.length = 0) :
    Calls Try.prog 28 #[.slice a za.length ca, .slice b zb.length cb] w fun e w' => e = .returned (.slice none 0 0) ∧ w = w' := by
  by_cases c : za.length = 0
  · have h1 : ((za.length : Int) == 0) = true := by rw [c]; rfl
    go_enter Try.func28, Try.ntmps28
    go_wp2
    go_ret
    exact ⟨rfl, rfl⟩
  · have h1 : ((za.length : Int) == 0) = false := beq_eq_false_iff_ne.2 (by omega)
    have h2 : ((zb.length : Int) == 0) = true := by rw [show zb.length = 0 by omega]; rfl
    go_enter Try.func28, Try.ntmps28
    go_wp2
    go_ret
    exact ⟨rfl, rfl⟩
theorem refMul_any (a b : Option Addr) (ca cb : Nat) (za zb : List Int) (w : World) (ha : Lie w a za) (hb : Lie w b zb) (ra : Nt.Rng za) (rb : Nt.Rng zb) (hna : za.length ≤ 100000) (hnb : zb.length ≤ 100000) :
    Calls Try.prog 28 #[.slice a za.length ca, .slice b zb.length cb] w fun e w' => Made w w' (Nt.val za * Nt.val zb) e := by
  by_cases h : za.length = 0 ∨ zb.length = 0
  · refine (refMul_nil a b ca cb za zb w h).mono ?_
    rintro e w' ⟨rfl, rfl⟩
    refine ⟨[], none, 0, rfl, Own.nil _ _, Nt.can_nil, ?_, Below.refl _ _⟩
    rcases h with h | h
    · rw [List.length_eq_zero_iff.1 h, Nt.val_nil]; simp
    · rw [List.length_eq_zero_iff.1 h, Nt.val_nil]; simp
  · exact refMul28 a b ca cb za zb w ha hb ra rb (by omega) (by omega) hna hnb

set_option maxHeartbeats 1000000 in
theorem refLen45 (a : Option Addr) (ca : Nat) (za : List Int) (w : World) (ha : Lie w a za) (qa : Nt.Can za) (hn : 0 < za.length) (hm : za.length ≤ 1000000) :
    Calls Try.prog 45 #[.slice a za.length ca] w fun e w' => w = w' ∧ ∃ BL : Nat, e = .returned (.int .i64 BL) ∧ Bits (Nt.val za) BL ∧ 1 ≤ BL ∧ BL ≤ 32 * za.length := by
  obtain ⟨k, hk⟩ : ∃ k, za.length = k + 1 := ⟨za.length - 1, by omega⟩
  have ht0 : za.getD k 0 ≠ 0 := by have := qa.2 (by omega); rw [hk] at this; exact this
  have htr := qa.1 k
  obtain ⟨L, eL, hL1, hL2, hL3, hL4⟩ := bitLen32 (za.getD k 0) (by omega) htr.2
  obtain ⟨b, o, rfl⟩ := lie_some ha hn
  have hc : w.cell? ⟨b, o + k, none⟩ = _ := lie_cell ha rfl (i := k) (by omega)
  have HB := Hide.mk (bits_top qa.1 hk hL3 hL4)
  have hne : (((k : Int) + 1) == 0) = false := beq_eq_false_iff_ne.2 (by omega)
  rw [hk]
  have hkb : k ≤ 1000000 := by omega
  have EL := Hide.mk eL
  clear ha qa ht0 hL3 hL4 eL hk hn hm
  generalize za.getD k 0 = x at *
  go_enter Try.func45, Try.ntmps45
  go_wp2
  go_loop [3, 4] (fun nv xv => ∃ (j : Nat) (y : Int), nv = .int .i64 (32 * (k : Int) + j) ∧ xv = .int .u32 y ∧ 0 ≤ y ∧ y < 4294967296 ∧ j ≤ 32 ∧ Hide (L = j + Lib.bitLen y.toNat)) (fun _ xv => (intOf xv).toNat)
  case atStart => exact ⟨0, x, by go_num, rfl, htr.1, htr.2, by omega, ⟨by rw [EL.out]; omega⟩⟩
  case round =>
    obtain ⟨j, y, rfl, rfl, hy0, hy1, hj, HL⟩ := hrel
    by_cases hp : 0 < y
    · have hh := Lib.bitLen_half y.toNat (by omega) (by omega)
      have hl := HL.out
      have hj2 : j + 1 ≤ 32 := by omega
      have HL2 : Hide (L = j + 1 + Lib.bitLen (y / 2).toNat) := ⟨by rw [hl, hh, show (y / 2).toNat = y.toNat / 2 by omega]; omega⟩
      clear hh hl HL
      go_wp2
      go_round
      case rel => exact ⟨j + 1, y / 2, by go_num, rfl, by omega, by omega, hj2, HL2⟩
      case measure => simp [intOf]; omega
    · have hy : y = 0 := by omega
      have hfin : Hide (L = j) := ⟨by
        have := HL.out
        rw [hy] at this
        have e : Lib.bitLen (0 : Int).toNat = 0 := by decide
        omega⟩
      clear hy HL
      go_wp2
      go_ret
      exact ⟨rfl, 32 * k + L, by rw [hfin.out]; go_num, HB.out, by omega, by omega⟩

theorem bit_eq {za : List Int} (ra : Nt.Rng za) (wh p : Nat) (hp : p < 32) (hw : wh < za.length) : Nt.val za / 2 ^ (32 * wh + p) % 2 = za.getD wh 0 / 2 ^ p % 2 := by
  rw [pow2_split (32 * wh + p) wh p rfl, ← Int.ediv_ediv_of_nonneg (Int.le_of_lt (Nt.pw_pos _)), ← val_drop_div ra wh (by omega), val_drop_step hw]
  obtain ⟨q, hq⟩ : ∃ q, p + 1 + q = 32 := ⟨31 - p, by omega⟩
  have e : (4294967296 : Int) = 2 ^ p * (2 * 2 ^ q) := by
    rw [show (4294967296 : Int) = 2 ^ (p + 1 + q) by rw [hq]; decide, Int.pow_add, Int.pow_succ]; grind
  have hpos := p2pos p
  rw [e, Int.mul_assoc (2 ^ p), Int.add_mul_ediv_left _ _ (by omega), Int.mul_assoc, Int.add_mul_emod_self_left]
theorem and32_one (x : Int) (h0 : 0 ≤ x) (h1 : x < 4294967296) : bits .and .u32 x 1 = x % 2 := by
  rw [u32_and x 1 h0 h1 (by decide) (by decide)]
  have : x.toNat &&& (1 : Int).toNat = x.toNat % 2 := nat_mask1 x.toNat
  rw [this]; omega

set_option maxHeartbeats 1000000 in
theorem refBit48 (a : Option Addr) (ca : Nat) (za : List Int) (w : World) (i : Nat) (ha : Lie w a za) (ra : Nt.Rng za) (hm : za.length ≤ 1000000) (hi : i ≤ 100000000) :
    Calls Try.prog 48 #[.slice a za.length ca, .int .i64 (i : Int)] w fun e w' => e = .returned (.int .u32 (Nt.val za / 2 ^ i % 2)) ∧ w = w' := by
  by_cases hw : i / 32 < za.length
  · obtain ⟨b, o, rfl⟩ := lie_some ha (by omega)
    have hc : w.cell? ⟨b, o + i / 32, none⟩ = _ := lie_cell ha rfl hw
    have hr := ra (i / 32)
    have hp : i % 32 < 32 := Nat.mod_lt _ (by decide)
    have he := bit_eq ra (i / 32) (i % 32) hp hw
    rw [show 32 * (i / 32) + i % 32 = i by omega] at he
    rw [he]
    have hq : (i : Int) / 32 = ((i / 32 : Nat) : Int) := by omega
    have hr2 : (i : Int) % 32 = ((i % 32 : Nat) : Int) := by omega
    clear ha ra he
    generalize za.getD (i / 32) 0 = x at *
    have hx0 : 0 ≤ x / 2 ^ (i % 32) := Int.ediv_nonneg hr.1 (Int.le_of_lt (p2pos _))
    have hx1 : x / 2 ^ (i % 32) < 4294967296 := by
      have : x / 2 ^ (i % 32) ≤ x := Int.ediv_le_self _ hr.1
      omega
    have hand := and32_one _ hx0 hx1
    generalize i / 32 = wh at *
    generalize i % 32 = p at *
    go_enter Try.func48, Try.ntmps48
    go_wp2
    go_ret
    exact ⟨rfl, rfl⟩
  · have hz : Nt.val za / 2 ^ i % 2 = 0 := by
      have h1 := Nt.val_bd ra
      have h2 : (4294967296 : Int) ^ za.length ≤ 2 ^ i := by
        have := p2mono (show 32 * za.length ≤ i by omega)
        rw [Int.pow_mul, show (2 : Int) ^ 32 = 4294967296 by decide] at this
        exact this
      rw [Int.ediv_eq_zero_of_lt h1.1 (by omega)]; rfl
    rw [hz]
    have hq : (i : Int) / 32 = ((i / 32 : Nat) : Int) := by omega
    clear ha ra hz
    generalize i / 32 = wh at *
    go_enter Try.func48, Try.ntmps48
    go_wp2
    go_ret
    exact ⟨rfl, rfl⟩

/-- After k digits of the reference's Up. -/
structure RUpInv (za s : List Int) (wh p k : Nat) (l : Int) : Prop where
  len : s.length = wh + k
  rng : Nt.Rng s
  eq : Nt.vp s (wh + k) + l * 4294967296 ^ (wh + k) = Nt.vp za k * 2 ^ p * 4294967296 ^ wh
theorem RUpInv.start {za : List Int} {wh p : Nat} : RUpInv za (List.replicate wh 0) wh p 0 0 :=
  ⟨by simp, fun k => by rw [getD_rep]; decide, by rw [vp_rep]; simp [Nt.vp]⟩
theorem RUpInv.step {za s : List Int} {wh p k : Nat} {l x t : Int} (h : RUpInv za s wh p k l) (hx : x = za.getD k 0) (ht : t = l + x * 2 ^ p) : RUpInv za (s ++ [t % 4294967296]) wh p (k + 1) (t / 4294967296) := by
  have hl := h.len
  refine ⟨by rw [List.length_append, List.length_singleton, hl]; omega, rng_snoc h.rng (by omega) (by omega), ?_⟩
  have e := h.eq
  have hn : t % 4294967296 + t / 4294967296 * 4294967296 = t := by omega
  have e2 := vp_snoc s (t % 4294967296)
  rw [hl] at e2
  rw [show wh + (k + 1) = wh + k + 1 by omega, e2, Nt.vp_step, Nt.pw_succ, ← hx]
  rw [Nt.pw_add] at *
  generalize t % 4294967296 = n at *
  generalize t / 4294967296 = c at *
  generalize (4294967296 : Int) ^ wh = P at *
  generalize (4294967296 : Int) ^ k = K at *
  generalize (2 : Int) ^ p = T at *
  grind
theorem or64_low (l t : Int) (p : Nat) (hp : p < 32) (h0 : 0 ≤ l) (h1 : l < 2 ^ p) (ht : 0 ≤ t) (ht' : t < 18446744073709551616) (hm : t % 2 ^ p = 0) : bits .or .u64 l t = l + t := by
  have hb := two_pow_le p hp
  rw [u64_or l t h0 (by omega) ht ht']
  have e : ((2 ^ p : Nat) : Int) = (2 : Int) ^ p := by simp
  have := nat_join p t.toNat l.toNat (by
    have h1 : ((t.toNat % 2 ^ p : Nat) : Int) = t % 2 ^ p := by
      rw [Int.natCast_emod, e, Int.toNat_of_nonneg ht]
    rw [hm] at h1
    omega) (by omega)
  rw [Nat.or_comm, this]; omega
end Go.Proofs.Ytcjmamlffbhnlaa
