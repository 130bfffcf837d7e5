import Derived.Test.YtdnghibkagcbcaaGreatDoorRoundSquaresPart6
import Derived.Shelf.Spec.TrailingZeros
import Derived.OwnWalk
import Derived.RegionTactic
import Derived.Below
namespace Go.Proofs.YtdnghibkagcbcaaGreatDoor
open Go.RowKit
set_option linter.unusedVariables false
set_option maxRecDepth 3000
set_option maxHeartbeats 1000000 in
theorem tz_core (x k idx : Nat) (w : World) (hx0 : ((x : Int) == 0) = false)
    (key : bits BinOp.and IntKind.u32 (x : Int) (-(x : Int) % 4294967296) * 125613361 % 4294967296 / 134217728 = (idx : Int))
    (hi : idx < 32) (hk : k < 32) (hcell : w.cell? ⟨0, idx, none⟩ = some (.int .u8 k)) :
    Calls Tryz.prog 152 #[.int .u32 x] w fun e w' => e = .returned (.int .i64 k) ∧ w = w' := by
  go_enter Tryz.func152, Tryz.ntmps152
  go_wp2_with (simp only [key])
  go_ret
  exact ⟨rfl, rfl⟩
/-- The library's table lies at its variable (block 0). -/
def Tab (w : World) : Prop := TabAt 0 Lib.deBruijn32tab w
theorem Tab.below {w w' : World} {B : Nat} (h : Tab w) (hb : Below B w w') (hB : w.heap.size ≤ B) : Tab w' := by
  intro j hj
  have := h j hj
  rw [hb.cell (p := ⟨0, j, none⟩) (by have h1 := World.block_lt_of_cell? w _ this; simpa using Nat.lt_of_lt_of_le h1 hB)]
  exact this
theorem tz81 (x : Nat) (hx : x < 4294967296) (hx0 : x ≠ 0) (w : World) (hT : Tab w) :
    Calls Tryz.prog 152 #[.int .u32 x] w fun e w' => e = .returned (.int .i64 (Lib.ctz 32 x)) ∧ w = w' := by
  obtain ⟨hlow, hk⟩ := Lib.lowest_bit 32 x hx0 hx
  obtain ⟨hi, htab⟩ := Lib.deBruijn32_at _ hk
  have hcell := hT _ hi
  rw [htab] at hcell
  exact tz_core x _ _ w (by simp; omega) (tz32_key x _ hx hx0 hlow) hi hk hcell

theorem ctz_int (d : Int) (h0 : 0 < d) (h1 : d < 4294967296) : ∃ m : Int, d = 2 ^ (Lib.ctz 32 d.toNat) * (2 * m + 1) ∧ Lib.ctz 32 d.toNat < 32 ∧ 0 ≤ m := by
  have e32 : (2 : Nat) ^ 32 = 4294967296 := by decide
  obtain ⟨m, hm, hk⟩ := Lib.ctzFrom_spec 32 d.toNat (by omega) (by omega)
  have e : Lib.ctz 32 d.toNat = Lib.ctzFrom 32 d.toNat := by
    have : d.toNat ≠ 0 := by omega
    simp [Lib.ctz, this]
  rw [e]
  refine ⟨m, ?_, hk, by omega⟩
  have h2 : ((d.toNat : Nat) : Int) = d := Int.toNat_of_nonneg (by omega)
  generalize Lib.ctzFrom 32 d.toNat = c at *
  rw [← h2, hm]
  simp
theorem vp_noughts {s : List Int} {k : Nat} (h : ∀ j, j < k → s.getD j 0 = 0) : Nt.vp s k = 0 := by
  induction k with
  | zero => rfl
  | succ k ih => rw [Nt.vp_step, ih (fun j hj => h j (by omega)), h k (by omega)]; simp
theorem low_at {za : List Int} {k c : Nat} {m : Int} (hk : k < za.length) (hz : ∀ j, j < k → za.getD j 0 = 0) (hc : c < 32) (hd : za.getD k 0 = 2 ^ c * (2 * m + 1)) : LowBit (Nt.val za) (32 * k + c) := by
  have e1 := val_drop_split k (Nat.le_of_lt hk)
  rw [vp_noughts hz, Int.zero_add, val_drop_step hk, hd] at e1
  obtain ⟨q, hq⟩ : ∃ q, c + 1 + q = 32 := ⟨31 - c, by omega⟩
  have e : (4294967296 : Int) = 2 ^ c * (2 * 2 ^ q) := by
    rw [← Int.mul_assoc, show (2 : Int) ^ c * 2 = 2 ^ (c + 1) from (Int.pow_succ _ _).symm, ← Int.pow_add, hq]; decide
  have e2 : Nt.val za = 2 ^ (32 * k + c) * (2 * (m + 2 ^ q * Nt.val (za.drop (k + 1))) + 1) := by
    have e3 : (4294967296 : Int) ^ k = 2 ^ (32 * k) := by rw [Int.pow_mul]; rfl
    rw [e1, e3, Int.pow_add]
    generalize Nt.val (za.drop (k + 1)) = r
    have e4 : (4294967296 : Int) * r = 2 ^ c * (2 * 2 ^ q) * r := by rw [← e]
    rw [e4]
    generalize (2 : Int) ^ (32 * k) = P
    generalize (2 : Int) ^ c = C
    generalize (2 : Int) ^ q = Q
    grind
  have hp : (0 : Int) < 2 ^ (32 * k + c) := Int.pow_pos (by decide)
  rw [e2]
  refine ⟨Int.mul_emod_right _ _, ?_⟩
  rw [Int.mul_ediv_cancel_left _ (by omega)]
  omega
set_option maxHeartbeats 1000000 in
theorem low22 (a : Option Addr) (ca : Nat) (za : List Int) (w : World) (ha : Lie w a za) (ra : Nt.Rng za) (pa : mayB za = true) (hz : 0 < za.length) (hT : Tab w) :
    Calls Tryz.prog 141 #[.slice a za.length ca] w fun e w' => w = w' ∧ ∃ t : Nat, e = .returned (.int .i64 t) ∧ LowBit (Nt.val za) t ∧ t < 32 * za.length := by
  obtain ⟨qa, la⟩ := may_can ra pa
  have HM := Hide.mk (may_yes a ca za w ha (by unfold maxLen; omega) pa)
  obtain ⟨ba, oa, rfl⟩ := lie_some ha hz
  have HA := Hide.mk ha
  have RA := Hide.mk ra
  have QA := Hide.mk (qa.2 (by omega))
  have HT := Hide.mk hT
  clear ha ra pa qa hT
  go_enter Tryz.func141, Tryz.ntmps141
  go_wp2_with fail
  refine HM.out.mono ?_
  rintro e w' ⟨rfl, rfl⟩
  go_wp2
  go_loop [10] (fun i => ∃ k : Nat, k ≤ za.length ∧ i = .int .i64 k ∧ Hide (∀ j, j < k → za.getD j 0 = 0)) (fun i => za.length - (intOf i).toNat)
  case atStart => exact ⟨0, Nat.zero_le _, rfl, ⟨fun j hj => by omega⟩⟩
  case round =>
    obtain ⟨k, hk, rfl, HZ⟩ := hrel
    have hlt : k < za.length := by
      by_cases c : k < za.length
      · exact c
      · exact absurd (HZ.out (za.length - 1) (by omega)) QA.out
    have hcell : w.cell? ⟨ba, oa + k, none⟩ = _ := lie_cell HA.out rfl hlt
    have hr := RA.out k
    by_cases h0 : za.getD k 0 = 0
    · have HZ2 : Hide (∀ j, j < k + 1 → za.getD j 0 = 0) := ⟨fun j hj => by
        by_cases e : j = k
        · subst e; exact h0
        · exact HZ.out j (by omega)⟩
      rw [h0] at hcell
      clear h0 hr
      go_wp2
      go_round
      case rel => exact ⟨k + 1, hlt, by go_num, HZ2⟩
      case measure => simp [intOf]; omega
    · have hne : (za.getD k 0 != 0) = true := bne_iff_ne.2 h0
      obtain ⟨m, hm, hc, _⟩ := ctz_int (za.getD k 0) (by omega) hr.2
      have HF := Hide.mk (low_at hlt HZ.out hc hm)
      have HC := Hide.mk (tz81 (za.getD k 0).toNat (by omega) (by omega) w HT.out)
      have e1 : (((za.getD k 0).toNat : Nat) : Int) = za.getD k 0 := Int.toNat_of_nonneg hr.1
      rw [e1] at HC
      clear hm e1 h0
      generalize Lib.ctz 32 (za.getD k 0).toNat = c at *
      generalize za.getD k 0 = x at *
      go_wp2_with fail
      refine HC.out.mono ?_
      rintro e w' ⟨rfl, rfl⟩
      go_wp2
      go_ret
      exact ⟨rfl, 32 * k + c, by go_num, HF.out, by omega⟩

theorem p2lt {i j : Nat} (h : (2 : Int) ^ i < 2 ^ j) : i < j := by
  by_cases c : i < j
  · exact c
  · have := p2mono (show j ≤ i by omega)
    omega
theorem p2succ (i : Nat) : (2 : Int) ^ (i + 1) = 2 * 2 ^ i := by rw [Int.pow_succ, Int.mul_comm]
theorem Bits.unique {x : Int} {B C : Nat} (h : Bits x B) (k : Bits x C) : B = C := by
  have h1 := h.lt
  have h2 := h.le
  have k1 := k.lt
  have k2 := k.le
  have e1 := p2succ B
  have e2 := p2succ C
  have := p2lt (i := B) (j := C + 1) (by omega)
  have := p2lt (i := C) (j := B + 1) (by omega)
  omega
theorem Own.of_made {w w' : World} {v : Value} {zs : List Int} {x : Int} (ho : Own w.heap.size w' v zs) (hc : Nt.Can zs) (hv : Nt.val zs = x) (hl : zs.length ≤ 4096) (hb : Below w.heap.size w w') :
    ∃ a c, v = .slice a zs.length c ∧ IsNum w w' a zs x ∧ Own w.heap.size w' (.slice a zs.length c) zs := by
  obtain ⟨a, c, h1, _, _, h2⟩ := ho.lie
  exact ⟨a, c, h1, ⟨hc, hl, hv, h2, hb⟩, by rw [← h1]; exact ho⟩
theorem isNum_nil (w : World) {x : Int} (h : x = 0) : IsNum w w none [] x := ⟨Nt.can_nil, by simp, by rw [h]; rfl, .inl rfl, Below.refl _ _⟩

theorem len_nil (a : Option Addr) (ca : Nat) (w : World) :
    Calls Tryz.prog 119 #[.slice a 0 ca] w fun e w' => e = .returned (.int .i64 0) ∧ w = w' := by
  have HM := Hide.mk (may_yes a ca [] w (.inl rfl) (by unfold maxLen; simp) rfl)
  go_enter Tryz.func119, Tryz.ntmps119
  go_wp2_with fail
  refine HM.out.mono ?_
  rintro e w' ⟨rfl, rfl⟩
  go_wp2
  go_ret
  exact ⟨rfl, rfl⟩
theorem shift_nil (a : Option Addr) (ca : Nat) (w : World) (n : Int) :
    Calls Tryz.prog 123 #[.slice a 0 ca, .int .i64 n] w fun e w' => e = .returned (.tuple #[.slice none 0 0, .bool false, .int .i64 0]) ∧ w = w' := by
  have HM := Hide.mk (may_yes a ca [] w (.inl rfl) (by unfold maxLen; simp) rfl)
  go_enter Tryz.func123, Tryz.ntmps123
  go_wp2_with fail
  refine HM.out.mono ?_
  rintro e w' ⟨rfl, rfl⟩
  go_wp2_with fail
  refine (len_nil a ca _).mono ?_
  rintro e w' ⟨rfl, rfl⟩
  go_wp2
  go_ret3
  exact ⟨rfl, rfl⟩

theorem shift_up (a : Option Addr) (ca : Nat) (za : List Int) (w : World) (ha : Lie w a za) (ra : Nt.Rng za) (pa : mayB za = true) (hz : 0 < za.length) {BL : Nat} (hB : Bits (Nt.val za) BL) (n : Nat) (hn : n + BL ≤ 131072) :
    Calls Tryz.prog 123 #[.slice a za.length ca, .int .i64 n] w fun e w' => ∃ zs a' c, e = .returned (.tuple #[.slice a' zs.length c, .bool false, .int .i64 0]) ∧ IsNum w w' a' zs (Nt.val za * 2 ^ n) ∧ Own w.heap.size w' (.slice a' zs.length c) zs := by
  have la := (may_can ra pa).2
  have HM := Hide.mk (may_yes a ca za w ha (by unfold maxLen; omega) pa)
  have HL := Hide.mk (nlen60 a ca za w ha ra pa hz)
  have HB := Hide.mk hB
  have HS := Hide.mk (shiftUp63 a ca za w (n : Int) (n / 32) (n % 32) (by omega) (by omega) (by omega) (by omega) (by omega) (by omega) ha ra (by omega))
  clear ha ra pa hB
  go_enter Tryz.func123, Tryz.ntmps123
  go_wp2_with fail
  refine HM.out.mono ?_
  rintro e w' ⟨rfl, rfl⟩
  go_wp2_with fail
  refine HL.out.mono ?_
  rintro e w' ⟨rfl, B2, rfl, hb2, h1, h2⟩
  obtain rfl := hb2.unique HB.out
  have h0 : ((B2 : Int) == 0) = false := by simp; omega
  clear hb2
  have HN := Hide.mk hn
  generalize hx : (B2 : Int) = x at *
  have hx1 : (n : Int) ≤ 131072 - x := by omega
  have hx2 : 1 ≤ x := by omega
  have hx3 : x ≤ 131072 := by omega
  clear h1 h2 hn hx
  go_wp2_with fail
  refine HS.out.mono ?_
  rintro e w' ⟨v, zs, rfl, hown, hcan, hval, hbel⟩
  have HF : Hide (∃ a c, v = .slice a zs.length c ∧ IsNum w w' a zs (Nt.val za * 2 ^ n) ∧ Own w.heap.size w' (.slice a zs.length c) zs) := ⟨by
    refine hown.of_made hcan ?_ ?_ hbel
    · rw [hval, pow2_split n (n / 32) (n % 32) (by omega), Int.mul_assoc, Int.mul_comm (2 ^ _)]
    · refine (Nt.can_len hcan 4096).1 ?_
      have e : Nt.val zs = Nt.val za * 2 ^ n := by rw [hval, pow2_split n (n / 32) (n % 32) (by omega), Int.mul_assoc, Int.mul_comm (2 ^ _)]
      rw [e]
      have h1 := HB.out.lt
      have h3 : Nt.val za * 2 ^ n < 2 ^ B2 * 2 ^ n := Int.mul_lt_mul_of_pos_right h1 (p2pos n)
      rw [← Int.pow_add] at h3
      have h4 := p2mono (show B2 + n ≤ 32 * 4096 by have := HN.out; omega)
      rw [Int.pow_mul, show (2 : Int) ^ 32 = 4294967296 by decide] at h4
      omega⟩
  clear hown hcan hval hbel HS
  obtain ⟨a2, c2, hv, _⟩ := HF.out
  rw [hv]
  have HV := Hide.mk hv
  clear hv
  go_wp2
  go_ret3
  obtain ⟨a3, c3, hv3, h5, h6⟩ := HF.out
  exact ⟨zs, a3, c3, by rw [← hv3, HV.out]; rfl, h5, h6⟩
theorem shift_past (a : Option Addr) (ca : Nat) (za : List Int) (w : World) (ha : Lie w a za) (ra : Nt.Rng za) (pa : mayB za = true) (hz : 0 < za.length) {BL : Nat} (hB : Bits (Nt.val za) BL) (n : Int) (hn : n + BL ≤ 0) (hn2 : -9223372036854775808 ≤ n) :
    Calls Tryz.prog 123 #[.slice a za.length ca, .int .i64 n] w fun e w' => e = .returned (.tuple #[.slice none 0 0, .bool true, .int .i64 0]) ∧ w = w' := by
  have la := (may_can ra pa).2
  have HM := Hide.mk (may_yes a ca za w ha (by unfold maxLen; omega) pa)
  have HL := Hide.mk (nlen60 a ca za w ha ra pa hz)
  have HB := Hide.mk hB
  clear ha ra pa hB
  go_enter Tryz.func123, Tryz.ntmps123
  go_wp2_with fail
  refine HM.out.mono ?_
  rintro e w' ⟨rfl, rfl⟩
  go_wp2_with fail
  refine HL.out.mono ?_
  rintro e w' ⟨rfl, B2, rfl, hb2, h1, h2⟩
  obtain rfl := hb2.unique HB.out
  have h0 : ((B2 : Int) == 0) = false := by simp; omega
  clear hb2
  generalize hx : (B2 : Int) = x at *
  have hx1 : n ≤ -x := by omega
  have hx2 : 1 ≤ x := by omega
  have hx3 : x ≤ 131072 := by omega
  clear h1 h2 hn hx
  go_wp2
  go_ret3
  exact ⟨rfl, rfl⟩
set_option maxHeartbeats 1000000 in
theorem shift_in (a : Option Addr) (ca : Nat) (za : List Int) (w : World) (ha : Lie w a za) (ra : Nt.Rng za) (pa : mayB za = true) (hz : 0 < za.length) {BL : Nat} (hB : Bits (Nt.val za) BL) (n : Nat) (h1n : 1 ≤ n) (hn : n < BL) (hT : Tab w) :
    Calls Tryz.prog 123 #[.slice a za.length ca, .int .i64 (-(n : Int))] w fun e w' => ∃ zs a' c, e = .returned (.tuple #[.slice a' zs.length c, .bool (decide (Nt.val za % 2 ^ n ≠ 0)), .int .i64 0]) ∧ IsNum w w' a' zs (Nt.val za / 2 ^ n) ∧ Own w.heap.size w' (.slice a' zs.length c) zs := by
  have la := (may_can ra pa).2
  have HM := Hide.mk (may_yes a ca za w ha (by unfold maxLen; omega) pa)
  have HL := Hide.mk (nlen60 a ca za w ha ra pa hz)
  have HB := Hide.mk hB
  have hle : n ≤ 32 * za.length := by
    have h3 := (Nt.val_bd ra).2
    have h4 := hB.le
    rw [show (4294967296 : Int) = 2 ^ 32 by decide, ← Int.pow_mul] at h3
    have := p2succ (32 * za.length)
    have := p2lt (i := BL) (j := 32 * za.length + 1) (by omega)
    omega
  have HS := Hide.mk (shiftDown62 a ca za w (n : Int) (n / 32) (n % 32) (by omega) (by omega) (by omega) (by omega) (by omega) (by omega) ha ra (by omega))
  have HW := fun W (h : Below w.heap.size w W) => Hide.mk (low22 a ca za W (ha.below h (Nat.le_refl _)) ra pa hz (hT.below h (Nat.le_refl _)))
  have HR := Hide.mk ra
  clear ha ra pa hB hT
  go_enter Tryz.func123, Tryz.ntmps123
  go_wp2_with fail
  refine HM.out.mono ?_
  rintro e w' ⟨rfl, rfl⟩
  go_wp2_with fail
  refine HL.out.mono ?_
  rintro e w' ⟨rfl, B2, rfl, hb2, h1, h2⟩
  obtain rfl := hb2.unique HB.out
  have h0 : ((B2 : Int) == 0) = false := by simp; omega
  clear hb2
  generalize hx : (B2 : Int) = x at *
  have hx1 : -x < -(n : Int) := by omega
  have hx2 : 1 ≤ x := by omega
  have hx3 : x ≤ 131072 := by omega
  have hx4 : -(n : Int) < 0 := by omega
  clear h1 h2 hn hx
  go_wp2_with fail
  refine HS.out.mono ?_
  rintro e w' ⟨v, zs, rfl, hown, hcan, hval, hbel⟩
  have HF : Hide (∃ a c, v = .slice a zs.length c ∧ IsNum w w' a zs (Nt.val za / 2 ^ n) ∧ Own w.heap.size w' (.slice a zs.length c) zs) := ⟨by
    have e : Nt.val zs = Nt.val za / 2 ^ n := by rw [hval, pow2_split n (n / 32) (n % 32) (by omega)]
    refine hown.of_made hcan e ?_ hbel
    refine (Nt.can_len hcan 4096).1 ?_
    rw [e]
    have h3 := Lt.of HR.out la
    have h5 : Nt.val za / 2 ^ n ≤ Nt.val za := Int.ediv_le_self _ h3.1
    have := h3.2
    omega⟩
  have HW2 := HW w' hbel
  clear hown hcan hval hbel HS HW
  obtain ⟨a2, c2, hv, _⟩ := HF.out
  rw [hv]
  have HV := Hide.mk hv
  clear hv
  go_wp2_with fail
  refine HW2.out.mono ?_
  rintro e w2 ⟨rfl, t, rfl, hlow, htl⟩
  have HD := Hide.mk (low_lost (n := n) hlow)
  clear hlow
  go_wp2
  go_ret3
  obtain ⟨a3, c3, hv3, h5, h6⟩ := HF.out
  refine ⟨zs, a3, c3, ?_, h5, h6⟩
  rw [← HD.out, ← hv3, HV.out]
  simp

/-- How many bits a number has. -/
def BitLen (x : Int) (B : Nat) : Prop := (x = 0 ∧ B = 0) ∨ (0 < x ∧ Bits x B)
theorem BitLen.unique {x : Int} {B C : Nat} (h : BitLen x B) (k : BitLen x C) : B = C := by
  rcases h with ⟨h1, h2⟩ | ⟨h1, h2⟩ <;> rcases k with ⟨k1, k2⟩ | ⟨k1, k2⟩
  · omega
  · omega
  · omega
  · exact h2.unique k2
theorem Good.pos {z : List Int} {x : Int} (h : Good z x) (hz : 0 < z.length) : 0 < x := by
  have h1 := can_ge h.can hz
  have := Nt.pw_pos (z.length - 1)
  rw [← h.val]; omega
theorem Good.nonneg {z : List Int} {x : Int} (h : Good z x) : 0 ≤ x := by rw [← h.val]; exact (Nt.val_bd h.can.1).1
theorem Good.nil {z : List Int} {x : Int} (h : Good z x) (hz : z.length = 0) : z = [] ∧ x = 0 := by
  have e := List.length_eq_zero_iff.1 hz
  subst e
  exact ⟨rfl, by rw [← h.val]; rfl⟩
theorem Good.ne {z : List Int} {x : Int} (h : Good z x) (hx : 0 < x) : 0 < z.length := by
  by_cases c : z.length = 0
  · have := (h.nil c).2; omega
  · omega
theorem bits_ex {x : Int} (h : 0 < x) : ∃ B, Bits x B := by
  have key : ∀ f : Nat, ∀ x : Int, 0 < x → x < 2 ^ f → ∃ B, Bits x B := by
    intro f
    induction f with
    | zero => intro x h0 h1; simp at h1; omega
    | succ f ih =>
      intro x h0 h1
      by_cases c : x < 2 ^ f
      · exact ih x h0 c
      · exact ⟨f + 1, h1, by have := p2succ f; omega⟩
  refine key x.toNat x h ?_
  have h2 : x.toNat < 2 ^ x.toNat := Nat.lt_two_pow_self
  have e : ((2 ^ x.toNat : Nat) : Int) = (2 : Int) ^ x.toNat := by simp
  omega
theorem bitLen_ex {x : Int} (h : 0 ≤ x) : ∃ B, BitLen x B := by
  by_cases c : x = 0
  · exact ⟨0, .inl ⟨c, rfl⟩⟩
  · obtain ⟨B, hB⟩ := bits_ex (x := x) (by omega)
    exact ⟨B, .inr ⟨by omega, hB⟩⟩
theorem pw32 : (4294967296 : Int) ^ 4096 = 2 ^ 131072 := by
  rw [show (131072 : Nat) = 32 * 4096 from rfl, Int.pow_mul]
  rfl
theorem Bits.up {x : Int} {B : Nat} (h : Bits x B) (n : Nat) : Bits (x * 2 ^ n) (B + n) := by
  have hp := p2pos n
  refine ⟨?_, ?_⟩
  · rw [Int.pow_add]; exact Int.mul_lt_mul_of_pos_right h.lt hp
  · rw [Int.pow_add, ← Int.mul_assoc]; exact Int.mul_le_mul_of_nonneg_right h.le (by omega)
theorem Bits.down {x : Int} {B n : Nat} (h : Bits x B) (hn : n < B) : Bits (x / 2 ^ n) (B - n) := by
  have hp := p2pos n
  obtain ⟨k, rfl⟩ : ∃ k, B = n + (k + 1) := ⟨B - n - 1, by omega⟩
  have h1 := h.lt
  have h2 := h.le
  rw [Int.pow_add] at h1 h2
  rw [show n + (k + 1) - n = k + 1 by omega]
  have e := p2succ k
  rw [e] at h1 h2
  refine ⟨?_, ?_⟩
  · rw [e]; exact Int.ediv_lt_of_lt_mul hp (by rw [Int.mul_comm]; exact h1)
  · rw [e]
    have h3 : 2 ^ k ≤ x / 2 ^ n := by
      rw [Int.le_ediv_iff_mul_le hp]
      have : (2 : Int) ^ n * (2 * 2 ^ k) = 2 * (2 ^ k * 2 ^ n) := by grind
      omega
    omega
theorem Bits.fits {x : Int} {B n : Nat} (h : Bits x B) (hf : x * 2 ^ n < 4294967296 ^ 4096) : n + B ≤ 131072 := by
  have h1 := (h.up n).le
  rw [pw32] at hf
  have := p2succ 131072
  have := p2lt (i := B + n) (j := 131072 + 1) (by omega)
  omega
theorem BitLen.up {x : Int} {B : Nat} (h : BitLen x B) (hx : 0 < x) (n : Nat) : BitLen (x * 2 ^ n) (B + n) := by
  rcases h with ⟨h1, h2⟩ | ⟨h1, h2⟩
  · omega
  · exact .inr ⟨Int.mul_pos hx (p2pos n), h2.up n⟩
theorem BitLen.down {x : Int} {B : Nat} (h : BitLen x B) (n : Nat) : BitLen (x / 2 ^ n) (B - n) := by
  rcases h with ⟨h1, h2⟩ | ⟨h1, h2⟩
  · exact .inl ⟨by rw [h1]; simp, by omega⟩
  · by_cases c : n < B
    · have hp := p2pos n
      refine .inr ⟨?_, h2.down c⟩
      have h3 := (h2.down c).le
      have := p2pos (B - n)
      omega
    · refine .inl ⟨Int.ediv_eq_zero_of_lt (by omega) ?_, by omega⟩
      have := h2.lt
      have := p2mono (show B ≤ n by omega)
      omega

theorem lenN (a : Option Addr) (ca : Nat) (za : List Int) (w : World) {x : Int} (ha : Lie w a za) (ga : Good za x) :
    Calls Tryz.prog 119 #[.slice a za.length ca] w fun e w' => w = w' ∧ ∃ B : Nat, e = .returned (.int .i64 B) ∧ BitLen x B ∧ B ≤ 131072 := by
  by_cases hz : 0 < za.length
  · refine (nlen60 a ca za w ha ga.can.1 ga.may hz).mono ?_
    rintro e w' ⟨rfl, B, rfl, h1, h2, h3⟩
    exact ⟨rfl, B, rfl, .inr ⟨ga.pos hz, by rw [← ga.val]; exact h1⟩, by have := ga.len; omega⟩
  · obtain ⟨rfl, h0⟩ := ga.nil (by omega)
    refine (len_nil a ca w).mono ?_
    rintro e w' ⟨rfl, rfl⟩
    exact ⟨rfl, 0, rfl, .inl ⟨h0, rfl⟩, by omega⟩
theorem lowN (a : Option Addr) (ca : Nat) (za : List Int) (w : World) {x : Int} (ha : Lie w a za) (ga : Good za x) (hz : 0 < za.length) (hT : Tab w) :
    Calls Tryz.prog 141 #[.slice a za.length ca] w fun e w' => w = w' ∧ ∃ t : Nat, e = .returned (.int .i64 t) ∧ LowBit x t ∧ t < 131072 := by
  refine (low22 a ca za w ha ga.can.1 ga.may hz hT).mono ?_
  rintro e w' ⟨rfl, t, rfl, h1, h2⟩
  exact ⟨rfl, t, rfl, by rw [← ga.val]; exact h1, by have := ga.len; omega⟩
/-- Up by n, where that fits. -/
theorem shiftU (a : Option Addr) (ca : Nat) (za : List Int) (w : World) {x : Int} (ha : Lie w a za) (ga : Good za x) (n : Nat) (hf : x * 2 ^ n < 4294967296 ^ 4096) :
    Calls Tryz.prog 123 #[.slice a za.length ca, .int .i64 n] w fun e w' => ∃ zs a' c, e = .returned (.tuple #[.slice a' zs.length c, .bool false, .int .i64 0]) ∧ IsNum w w' a' zs (x * 2 ^ n) ∧ Own w.heap.size w' (.slice a' zs.length c) zs := by
  by_cases hz : 0 < za.length
  · obtain ⟨B, hB⟩ := bits_ex (ga.pos hz)
    have := shift_up a ca za w ha ga.can.1 ga.may hz (by rw [ga.val]; exact hB) n (hB.fits hf)
    rw [ga.val] at this
    exact this
  · obtain ⟨rfl, rfl⟩ := ga.nil (by omega)
    refine (shift_nil a ca w _).mono ?_
    rintro e w' ⟨rfl, rfl⟩
    exact ⟨[], none, 0, rfl, isNum_nil _ (by simp), Own.nil _ _⟩
/-- Down by n. -/
theorem shiftD (a : Option Addr) (ca : Nat) (za : List Int) (w : World) {x : Int} (ha : Lie w a za) (ga : Good za x) (n : Nat) (hn : n ≤ 9223372036854775808) (hT : Tab w) :
    Calls Tryz.prog 123 #[.slice a za.length ca, .int .i64 (-(n : Int))] w fun e w' => ∃ zs a' c, e = .returned (.tuple #[.slice a' zs.length c, .bool (decide (x % 2 ^ n ≠ 0)), .int .i64 0]) ∧ IsNum w w' a' zs (x / 2 ^ n) ∧ Own w.heap.size w' (.slice a' zs.length c) zs := by
  by_cases h0 : n = 0
  · subst h0
    have := shiftU a ca za w ha ga 0 (by have := ga.lt.2; rw [Int.pow_zero, Int.mul_one]; exact this)
    simpa using this
  · by_cases hz : 0 < za.length
    · obtain ⟨B, hB⟩ := bits_ex (ga.pos hz)
      have hB' : Bits (Nt.val za) B := by rw [ga.val]; exact hB
      by_cases hlt : n < B
      · have := shift_in a ca za w ha ga.can.1 ga.may hz hB' n (by omega) hlt hT
        rw [ga.val] at this
        exact this
      · refine (shift_past a ca za w ha ga.can.1 ga.may hz hB' (-(n : Int)) (by omega) (by omega)).mono ?_
        rintro e w' ⟨rfl, rfl⟩
        have h1 := hB.lt
        have h2 := p2mono (show B ≤ n by omega)
        have h3 := ga.pos hz
        have h4 : x % 2 ^ n ≠ 0 := by rw [Int.emod_eq_of_lt (by omega) (by omega)]; omega
        exact ⟨[], none, 0, by simp [h4], isNum_nil _ (Int.ediv_eq_zero_of_lt (by omega) (by omega)), Own.nil _ _⟩
    · obtain ⟨rfl, rfl⟩ := ga.nil (by omega)
      refine (shift_nil a ca w _).mono ?_
      rintro e w' ⟨rfl, rfl⟩
      exact ⟨[], none, 0, by simp, isNum_nil _ (by simp), Own.nil _ _⟩

theorem shiftUi (a : Option Addr) (ca : Nat) (za : List Int) (w : World) {x : Int} (ha : Lie w a za) (ga : Good za x) (M : Int) (n : Nat) (hM : M = (n : Int)) (hf : x * 2 ^ n < 4294967296 ^ 4096) :
    Calls Tryz.prog 123 #[.slice a za.length ca, .int .i64 M] w fun e w' => ∃ zs a' c, e = .returned (.tuple #[.slice a' zs.length c, .bool false, .int .i64 0]) ∧ IsNum w w' a' zs (x * 2 ^ n) ∧ Own w.heap.size w' (.slice a' zs.length c) zs := by
  subst hM; exact shiftU a ca za w ha ga n hf
theorem shiftDi (a : Option Addr) (ca : Nat) (za : List Int) (w : World) {x : Int} (ha : Lie w a za) (ga : Good za x) (M : Int) (n : Nat) (hM : M = -(n : Int)) (hn : n ≤ 9223372036854775808) (hT : Tab w) (q : Bool) (hq : decide (x % 2 ^ n ≠ 0) = q) :
    Calls Tryz.prog 123 #[.slice a za.length ca, .int .i64 M] w fun e w' => ∃ zs a' c, e = .returned (.tuple #[.slice a' zs.length c, .bool q, .int .i64 0]) ∧ IsNum w w' a' zs (x / 2 ^ n) ∧ Own w.heap.size w' (.slice a' zs.length c) zs := by
  subst hM; subst hq; exact shiftD a ca za w ha ga n hn hT
theorem cmp_good (a b : Option Addr) (ca cb : Nat) (za zb : List Int) (w : World) {x y : Int} (ha : Lie w a za) (hb : Lie w b zb) (ga : Good za x) (gb : Good zb y) (s : Int) (hs : sgn x y = s) :
    Calls Tryz.prog 150 #[.slice a za.length ca, .slice b zb.length cb] w fun e w' => e = .returned (.tuple #[.int .i64 s, .int .i64 0]) ∧ Below w.heap.size w w' := by
  have := cmp19 a b ca cb za zb w ha hb ga.can.1 gb.can.1 ga.may gb.may
  rw [ga.val, gb.val, hs] at this
  exact this
theorem Live.one {w : World} {a : Option Addr} {zs : List Int} (h : Lie w a zs) : Live w [(a, zs)] := ⟨by simp [h]⟩
theorem LowBit.unique {x : Int} {t u : Nat} (h : LowBit x t) (k : LowBit x u) : t = u := by
  have h1 := low_lost (n := u) h
  have h2 := low_lost (n := t) k
  have e1 := k.zero
  have e2 := h.zero
  simp only [e1, ne_eq, not_true_eq_false, decide_false, decide_eq_false_iff_not] at h1
  simp only [e2, ne_eq, not_true_eq_false, decide_false, decide_eq_false_iff_not] at h2
  omega
theorem refLowN (a : Option Addr) (ca : Nat) (za : List Int) (w : World) {x : Int} (ha : Lie w a za) (ga : Good za x) (hz : 0 < za.length) :
    Calls Tryz.prog 103 #[.slice a za.length ca] w fun e w' => w = w' ∧ ∃ t : Nat, e = .returned (.int .i64 t) ∧ LowBit x t ∧ t < 131072 := by
  refine (refLow59 a ca za w ha ga.can hz (by have := ga.len; omega)).mono ?_
  rintro e w' ⟨rfl, t, rfl, h1, h2⟩
  exact ⟨rfl, t, rfl, by rw [← ga.val]; exact h1, by have := ga.len; omega⟩
theorem refDownN (a : Option Addr) (ca : Nat) (za : List Int) (w : World) {x : Int} (ha : Lie w a za) (ga : Good za x) (M : Int) (n : Nat) (hM : M = (n : Int)) (hn : n ≤ 1000000) (q : Bool) (hq : decide (x % 2 ^ n ≠ 0) = q) :
    Calls Tryz.prog 104 #[.slice a za.length ca, .int .i64 M] w fun e w' => ∃ zs a' c, e = .returned (.tuple #[.slice a' zs.length c, .bool q]) ∧ IsNum w w' a' zs (x / 2 ^ n) ∧ Own w.heap.size w' (.slice a' zs.length c) zs := by
  subst hM
  subst hq
  by_cases hz : 0 < za.length
  · refine (refDown46 a ca za w n (by omega) ha ga.can hz (by have := ga.len; omega)).mono ?_
    rintro e w' ⟨zs, a', c, h1, h2, h3, h4, h5⟩
    rw [ga.val] at h1 h4
    obtain ⟨a2, c2, he, _, _, hl⟩ := h2.lie
    simp only [Value.slice.injEq, true_and] at he
    obtain ⟨rfl, rfl⟩ := he
    refine ⟨zs, a', c, h1, ⟨h3, ?_, h4, hl, h5⟩, h2⟩
    refine (Nt.can_len h3 4096).1 ?_
    rw [h4]
    have h6 := ga.lt
    have h7 : x / 2 ^ n ≤ x := Int.ediv_le_self _ h6.1
    have := h6.2
    omega
  · obtain ⟨rfl, rfl⟩ := ga.nil (by omega)
    refine (refDown_nil a ca w _ (by omega)).mono ?_
    rintro e w' ⟨rfl, rfl⟩
    exact ⟨[], none, 0, by simp, isNum_nil _ (by simp), Own.nil _ _⟩
end Go.Proofs.YtdnghibkagcbcaaGreatDoor

namespace Go.Proofs.YtdnghibkagcbcaaGreatDoor
set_option linter.unusedVariables false
/-- The whole part of x by y, times 2^i, and whether there is more. -/
def qf (x y i : Int) : Int := x * 2 ^ i.toNat / (y * 2 ^ (-i).toNat)
def qg (x y i : Int) : Bool := decide (x * 2 ^ i.toNat % (y * 2 ^ (-i).toNat) ≠ 0)
theorem cut_div {N D : Int} (hD : 0 < D) (d : Nat) : N / (D * 2 ^ d) = N / D / 2 ^ d := (Int.ediv_ediv_of_nonneg (by omega)).symm
theorem dec_or {a b c : Int} (hD : 0 < a) (hb : 0 ≤ b) (hc : 0 ≤ c) : decide (a * b + c ≠ 0) = (decide (b ≠ 0) || decide (c ≠ 0)) := by
  by_cases h1 : b = 0
  · subst h1; simp
  · have : 0 < a * b := Int.mul_pos hD (by omega)
    have e1 : decide (a * b + c ≠ 0) = true := decide_eq_true (by omega)
    have e2 : decide (b ≠ 0) = true := decide_eq_true h1
    rw [e1, e2]; rfl
theorem mod_split {N D : Int} (hD : 0 < D) (d : Nat) : N % (D * 2 ^ d) = D * (N / D % 2 ^ d) + N % D := by
  have hp := p2pos d
  have h1 := Int.emod_nonneg (N / D) (show (2 : Int) ^ d ≠ 0 by omega)
  have h2 := Int.emod_lt_of_pos (N / D) hp
  have h3 := Int.emod_nonneg N (show D ≠ 0 by omega)
  have h4 := Int.emod_lt_of_pos N hD
  have e1 := Int.mul_ediv_add_emod N D
  have e2 := Int.mul_ediv_add_emod (N / D) (2 ^ d)
  generalize N / D = q at *
  generalize N % D = r at *
  generalize q % 2 ^ d = u at *
  generalize q / 2 ^ d = v at *
  have e3 : N = (D * u + r) + D * 2 ^ d * v := by rw [← e1, ← e2, Int.mul_add, ← Int.mul_assoc]; omega
  rw [e3, Int.add_mul_emod_self_left]
  refine Int.emod_eq_of_lt (by have := Int.mul_nonneg (show 0 ≤ D by omega) h1; omega) ?_
  have : D * u + D ≤ D * 2 ^ d := by
    have := Int.mul_le_mul_of_nonneg_left (show u + 1 ≤ 2 ^ d by omega) (show 0 ≤ D by omega)
    rw [Int.mul_add, Int.mul_one] at this; exact this
  omega
theorem cut_mod {N D : Int} (hD : 0 < D) (d : Nat) : decide (N % (D * 2 ^ d) ≠ 0) = (decide (N / D % 2 ^ d ≠ 0) || decide (N % D ≠ 0)) := by
  rw [mod_split hD]
  exact dec_or hD (Int.emod_nonneg _ (by have := p2pos d; omega)) (Int.emod_nonneg _ (by omega))
theorem q_split (x y i : Int) (d : Nat) : ∃ c : Nat, x * 2 ^ i.toNat = x * 2 ^ (i - d).toNat * 2 ^ c ∧ y * 2 ^ (-i).toNat * 2 ^ d = y * 2 ^ (-(i - d)).toNat * 2 ^ c := by
  refine ⟨i.toNat - (i - d).toNat, ?_, ?_⟩
  · rw [Int.mul_assoc, ← Int.pow_add]; congr 2; omega
  · rw [Int.mul_assoc, Int.mul_assoc, ← Int.pow_add, ← Int.pow_add]; congr 2; omega
theorem qf_down (x y : Int) (hy : 0 < y) (i : Int) (d : Nat) : qf x y (i - d) = qf x y i / 2 ^ d := by
  obtain ⟨c, h1, h2⟩ := q_split x y i d
  unfold qf
  rw [← cut_div (Int.mul_pos hy (p2pos _)), h1, h2, Int.mul_ediv_mul_of_pos_left _ _ (p2pos c)]
theorem qg_down (x y : Int) (hy : 0 < y) (i : Int) (d : Nat) : qg x y (i - d) = (decide (qf x y i % 2 ^ d ≠ 0) || qg x y i) := by
  obtain ⟨c, h1, h2⟩ := q_split x y i d
  unfold qf qg
  rw [← cut_mod (Int.mul_pos hy (p2pos _)), h1, h2, Int.mul_comm (x * 2 ^ (i - d).toNat), Int.mul_comm (y * 2 ^ (-(i - d)).toNat), Int.mul_emod_mul_of_pos _ _ (p2pos c)]
  have hp := p2pos c
  generalize x * 2 ^ (i - d).toNat % (y * 2 ^ (-(i - d)).toNat) = u
  by_cases h : u = 0
  · subst h; simp
  · have e1 : decide (u ≠ 0) = true := decide_eq_true h
    have e2 : decide (2 ^ c * u ≠ 0) = true := decide_eq_true (Int.mul_ne_zero (by omega) h)
    rw [e1, e2]
theorem p2le {a b : Nat} (h : a ≤ b) : (2 : Int) ^ a ≤ 2 ^ b := by
  obtain ⟨c, rfl⟩ : ∃ c, b = a + c := ⟨b - a, by omega⟩
  rw [Int.pow_add]
  have h1 := p2pos a
  have h2 := p2pos c
  have := Int.mul_le_mul_of_nonneg_left (show 1 ≤ (2 : Int) ^ c by omega) (show 0 ≤ (2 : Int) ^ a by omega)
  omega
theorem qf_ge {x y : Int} {La Lb : Nat} (hx : Bits x La) (hy : Bits y Lb) (hy0 : 0 < y) (k : Nat) (i : Int) (h : (Lb : Int) + k + 1 ≤ La + i) : 2 ^ k ≤ qf x y i := by
  unfold qf
  rw [Int.le_ediv_iff_mul_le (Int.mul_pos hy0 (p2pos _))]
  have h1 := (hy.up (-i).toNat).lt
  have h2 := (hx.up i.toNat).le
  have h3 := Int.mul_le_mul_of_nonneg_left (Int.le_of_lt h1) (Int.le_of_lt (p2pos k))
  rw [← Int.pow_add] at h3
  have h4 := p2le (show k + (Lb + (-i).toNat) + 1 ≤ La + i.toNat by omega)
  rw [Int.pow_succ] at h4
  omega
theorem qf_lt {x y : Int} {La Lb : Nat} (hx : Bits x La) (hy : Bits y Lb) (hy0 : 0 < y) (k : Nat) (i : Int) (h : (La : Int) + i + 1 ≤ Lb + k) : qf x y i < 2 ^ k := by
  unfold qf
  refine Int.ediv_lt_of_lt_mul (Int.mul_pos hy0 (p2pos _)) ?_
  have h1 := (hy.up (-i).toNat).le
  have h2 := (hx.up i.toNat).lt
  have h3 := Int.mul_le_mul_of_nonneg_left h1 (Int.le_of_lt (p2pos k))
  rw [← Int.pow_add] at h3
  have h4 := p2le (show La + i.toNat + 1 ≤ k + (Lb + (-i).toNat) by omega)
  rw [Int.pow_succ] at h4
  have e : (2 : Int) ^ k * (2 * (y * 2 ^ (-i).toNat)) = 2 * (2 ^ k * (y * 2 ^ (-i).toNat)) := by grind
  omega
theorem bl_ge {x : Int} {B k : Nat} (h : BitLen x B) (h1 : 2 ^ k ≤ x) : k < B := by
  have := p2pos k
  rcases h with ⟨h, rfl⟩ | ⟨h0, h⟩
  · omega
  · refine Classical.byContradiction fun c => ?_
    have := p2le (show B ≤ k by omega)
    have := h.lt
    omega
theorem bl_le {x : Int} {B k : Nat} (h : BitLen x B) (h1 : x < 2 ^ k) : B ≤ k := by
  rcases h with ⟨h, rfl⟩ | ⟨h0, h⟩
  · omega
  · refine Classical.byContradiction fun c => ?_
    have := p2le (show k + 1 ≤ B by omega)
    rw [Int.pow_succ] at this
    have := h.le
    omega
/-- Numbers cut at every place: what is cut at one is what is cut at a finer one, cut again. -/
structure Fam (P : Int → Int → Bool → Prop) : Prop where
  down : ∀ i r g (d : Nat), P i r g → P (i - d) (r / 2 ^ d) (decide (r % 2 ^ d ≠ 0) || g)
  uniq : ∀ i r g s h, P i r g → P i s h → r = s ∧ g = h
theorem Fam.idx {P : Int → Int → Bool → Prop} (F : Fam P) {i j r s : Int} {g h : Bool} {B : Nat} (p1 : P i r g) (p2 : P j s h) (b1 : BitLen r B) (b2 : BitLen s B) (hB : 0 < B) : i = j := by
  have key : ∀ {i j r s : Int} {g h : Bool}, P i r g → P j s h → BitLen r B → BitLen s B → ¬ i < j := by
    intro i j r s g h p1 p2 b1 b2 hlt
    obtain ⟨d, hd⟩ : ∃ d : Nat, i = j - d := ⟨(j - i).toNat, by omega⟩
    have p3 := F.down j s h d p2
    rw [← hd] at p3
    have e := (F.uniq _ _ _ _ _ p1 p3).1
    subst e
    have := b1.unique (b2.down d)
    omega
  have h1 := key p1 p2 b1 b2
  have h2 := key p2 p1 b2 b1
  omega
theorem qFam (x y : Int) (hy : 0 < y) : Fam fun i r g => r = qf x y i ∧ g = qg x y i :=
  ⟨fun i r g d ⟨h1, h2⟩ => ⟨by rw [h1, qf_down x y hy], by rw [h1, h2, qg_down x y hy]⟩, fun i r g s h ⟨h1, h2⟩ ⟨k1, k2⟩ => ⟨by rw [h1, k1], by rw [h2, k2]⟩⟩
/-- The whole root of x times 2^(e + 2 i), and whether there is more. -/
structure RtAt (x e i r : Int) (g : Bool) : Prop where
  nn : 0 ≤ r
  le : r * r * 2 ^ (-(e + 2 * i)).toNat ≤ x * 2 ^ (e + 2 * i).toNat
  lt : x * 2 ^ (e + 2 * i).toNat < (r + 1) * (r + 1) * 2 ^ (-(e + 2 * i)).toNat
  fl : g = decide (r * r * 2 ^ (-(e + 2 * i)).toNat ≠ x * 2 ^ (e + 2 * i).toNat)
theorem sq_mono {a b : Int} (h0 : 0 ≤ a) (h : a ≤ b) : a * a ≤ b * b := Int.mul_le_mul h h h0 (by omega)
theorem sq_ltI {a b : Int} (h0 : 0 ≤ a) (h : a < b) : a * a < b * b := by
  have h1 := Int.mul_le_mul_of_nonneg_left (Int.le_of_lt h) h0
  have h2 := Int.mul_lt_mul_of_pos_right h (show 0 < b by omega)
  omega
theorem rt_uniq {x D r s : Int} (hD : 0 < D) (r0 : 0 ≤ r) (s0 : 0 ≤ s) (h1 : r * r * D ≤ x) (h2 : x < (r + 1) * (r + 1) * D) (k1 : s * s * D ≤ x) (k2 : x < (s + 1) * (s + 1) * D) : r = s := by
  have key : ∀ {r s : Int}, 0 ≤ r → 0 ≤ s → x < (r + 1) * (r + 1) * D → s * s * D ≤ x → ¬ r < s := by
    intro r s r0 s0 h k c
    have := Int.mul_le_mul_of_nonneg_right (sq_mono (show 0 ≤ r + 1 by omega) (show r + 1 ≤ s by omega)) (show 0 ≤ D by omega)
    omega
  have a := key r0 s0 h2 k1
  have b := key s0 r0 k2 h1
  omega
theorem rtFam (x e : Int) : Fam (RtAt x e) := by
  refine ⟨?_, ?_⟩
  · intro i r g d h
    obtain ⟨c, e1, e2⟩ : ∃ c : Nat, (e + 2 * i).toNat = (e + 2 * (i - d)).toNat + c ∧ (-(e + 2 * i)).toNat + (d + d) = (-(e + 2 * (i - d))).toNat + c := ⟨(e + 2 * i).toNat - (e + 2 * (i - d)).toNat, by omega, by omega⟩
    have hp := p2pos d
    have hc := p2pos c
    have hn := h.nn
    have d1 := Int.mul_ediv_add_emod r (2 ^ d)
    have d2 := Int.emod_nonneg r (show (2 : Int) ^ d ≠ 0 by omega)
    have d3 := Int.emod_lt_of_pos r hp
    have d4 := Int.ediv_nonneg hn (show (0 : Int) ≤ 2 ^ d by omega)
    have hle := h.le
    have hlt := h.lt
    have hfl := h.fl
    rw [e1, Int.pow_add, ← Int.mul_assoc] at hle hlt hfl
    have e3 : (2 : Int) ^ (-(e + 2 * i)).toNat * (2 ^ d * 2 ^ d) = 2 ^ (-(e + 2 * (i - d))).toNat * 2 ^ c := by rw [← Int.pow_add, ← Int.pow_add, ← Int.pow_add, e2]
    have hN := p2pos (-(e + 2 * i)).toNat
    generalize (2 : Int) ^ (-(e + 2 * i)).toNat = N at *
    generalize hM : (2 : Int) ^ (-(e + 2 * (i - d))).toNat = M at *
    generalize hX : x * 2 ^ (e + 2 * (i - d)).toNat = X at *
    generalize (2 : Int) ^ d = D at *
    generalize (2 : Int) ^ c = C at *
    generalize hq : r / D = q at *
    generalize hu : r % D = u at *
    have f1 : q * q * M * C = (D * q) * (D * q) * N := by
      have : q * q * M * C = q * q * (M * C) := by grind
      rw [this, ← e3]; grind
    have f2 : (q + 1) * (q + 1) * M * C = (D * q + D) * (D * q + D) * N := by
      have : (q + 1) * (q + 1) * M * C = (q + 1) * (q + 1) * (M * C) := by grind
      rw [this, ← e3]; grind
    have hDq : 0 ≤ D * q := Int.mul_nonneg (by omega) d4
    have g1 := Int.mul_le_mul_of_nonneg_right (sq_mono hDq (show D * q ≤ r by omega)) (show 0 ≤ N by omega)
    have g2 := Int.mul_le_mul_of_nonneg_right (sq_mono (show 0 ≤ r + 1 by omega) (show r + 1 ≤ D * q + D by omega)) (show 0 ≤ N by omega)
    refine ⟨d4, ?_, ?_, ?_⟩
    · rw [hM, hX]
      exact Int.le_of_mul_le_mul_right (show q * q * M * C ≤ X * C by rw [f1]; omega) hc
    · rw [hM, hX]
      exact Int.lt_of_mul_lt_mul_right (show X * C < (q + 1) * (q + 1) * M * C by rw [f2]; omega) (by omega)
    · rw [hM, hX, hfl]
      by_cases hu0 : u = 0
      · have er : r = D * q := by omega
        have : (decide (u ≠ 0)) = false := by simp [hu0]
        rw [this, Bool.false_or]
        refine decide_eq_decide.2 (not_congr ⟨fun k => ?_, fun k => ?_⟩)
        · rw [er, ← f1] at k
          exact Int.eq_of_mul_eq_mul_right (by omega) k
        · rw [er, ← f1, k]
      · rw [decide_eq_true hu0, Bool.true_or]
        refine (decide_eq_true ?_).symm
        intro k
        have s1 := Int.mul_lt_mul_of_pos_right (sq_ltI hDq (show D * q < r by omega)) hN
        rw [← f1, k] at s1
        omega
  · intro i r g s h p q
    have e := rt_uniq (p2pos _) p.nn q.nn p.le p.lt q.le q.lt
    subst e
    exact ⟨rfl, by rw [p.fl, q.fl]⟩
end Go.Proofs.YtdnghibkagcbcaaGreatDoor

/-
  A region that draws its order, where what it reads stays as it is: the reads may be taken first. I tells what every world on the way keeps.
-/
set_option linter.unusedVariables false
namespace Go.Drawn
open Go
section
variable {P : Program} {ops : Array Oper} {Q : Exit → Act → World → Prop} {md : Region.Mode} {I : World → Prop}
/-- Whatever order: the end holds, and each world on the way keeps I. -/
def wpIn (P : Program) (md : Region.Mode) (ops : Array Oper) (Q : Exit → Act → World → Prop) (I : World → Prop) : Nat → Array Bool → Act → World → Prop
  | 0, listed, a, w => Region.ready md ops listed = [] ∧ Q .normal a w
  | n + 1, listed, a, w => (Region.ready md ops listed = [] → Q .normal a w) ∧
      ∀ i ∈ Region.ready md ops listed, wpOp P ops Q i (fun a' w' => I w' ∧ wpIn P md ops Q I n (listed.setIfInBounds i true) a' w') a w
theorem wpIn.any : ∀ {n : Nat} {listed : Array Bool} {a : Act} {w : World}, wpIn P md ops Q I n listed a w → wpAny P md ops Q n listed a w
  | 0, _, _, _, h => h
  | n + 1, _, _, _, h => ⟨h.1, fun i hi => wpOp_mono (fun _ _ hh => wpIn.any hh.2) (h.2 i hi)⟩
/-- What an operation leaves of the frame. -/
theorem wpOp_acts {j : Nat} {o : Oper} (hj : ops[j]? = some o) {K : Act → World → Prop} {a : Act} {w : World} (h : wpOp P ops Q j K a w) :
    wpOp P ops Q j (fun a' w' => (∃ u ds, a' = { a.put o.dst u with defers := ds }) ∧ K a' w') a w := by
  unfold wpOp at *
  simp only [hj] at *
  by_cases hw : Region.wanted o (yielded ops a.tmps) = true
  · rw [if_pos hw] at h ⊢
    refine h.imp (fun hh => ?_) id
    unfold Oper.wp at *
    cases hr : (execOp a.eval o).run P w with
    | ok n w' =>
      rw [hr] at hh
      cases n <;> simp only [Oper.upon] at hh ⊢
      case value u => exact ⟨⟨u, _, rfl⟩, hh⟩
      case skip => exact ⟨⟨undef, _, rfl⟩, hh⟩
      case defer d => exact ⟨⟨undef, d :: a.defers, by cases o.dst <;> rfl⟩, hh⟩
      case enter f args =>
        refine Calls.mono hh fun e w'' he => ?_
        cases e with
        | returned u => exact ⟨⟨u, _, rfl⟩, he⟩
        | panicked c => exact he
        | outgrown => exact he
      case row r args => exact Rows.mono hh fun u w'' he => ⟨⟨u, _, rfl⟩, he⟩
    | halt x w' =>
      rw [hr] at hh
      cases x <;> first | exact hh | (simp only [Oper.upon] at hh ⊢; exact hh)
  · rw [if_neg hw] at h ⊢
    exact ⟨⟨undef, _, rfl⟩, h⟩
/-- In every world that keeps I the operation yields v, or it is not wanted. -/
def YieldsIn (P : Program) (ops : Array Oper) (I : World → Prop) (o : Oper) (v : Value) (a : Act) : Prop :=
  (Region.wanted o (yielded ops a.tmps) = true ∧ ∀ w, I w → (execOp a.eval o).run P w = .ok (.value v) w) ∨ (Region.wanted o (yielded ops a.tmps) = false ∧ v = undef)
theorem YieldsIn.op {i : Nat} {o : Oper} {v : Value} {a : Act} {w : World} (hi : ops[i]? = some o) (hy : YieldsIn P ops I o v a) (hI : I w) {K : Act → World → Prop} (h : K (a.put o.dst v) w) : wpOp P ops Q i K a w := by
  unfold wpOp
  rcases hy with hy | ⟨hy, rfl⟩
  · simp only [hi, hy.1, if_true]
    refine .inl ?_
    unfold Oper.wp
    rw [hy.2 w hI]
    exact h
  · simp only [hi, hy]
    exact h
/-- The same place, filled by a constant. -/
def still (o : Oper) (v : Value) : Oper := { o with op := .move (.const v), guard := none }
theorem still_yields (o : Oper) (v : Value) (a : Act) : Yields P ops (still o v) v a := .inl ⟨rfl, fun _ => rfl⟩
theorem still_apart {o oj : Oper} (v : Value) (h : o.apart ops oj = true) : (still o v).apart ops oj = true := by
  unfold Oper.apart at *
  rw [Bool.and_eq_true] at h ⊢
  refine ⟨h.1, ?_⟩
  have e : (still o v).looksAt ops = [] := rfl
  rw [e]
  cases oj.dst <;> rfl
theorem take_first {i : Nat} {oi : Oper} {v : Value} (hi : ops[i]? = some oi) (hsel : ∀ (j : Nat) (o : Oper) cs b, ops[j]? = some o → o.op ≠ .select cs b)
    (hQ : ∀ c a w, Q (.panic c) (a.put oi.dst v) w → Q (.panic c) a w) :
    ∀ (n : Nat) (listed : Array Bool) (a : Act) (w : World),
      (∀ j oj, ops[j]? = some oj → j ≠ i → listed.getD j true = false → (∀ e ∈ oj.after, Region.binds md e = true → e.on ≠ i) → oi.apart ops oj = true) →
      i ∈ Region.ready md ops listed → YieldsIn P ops I oi v a → I w →
      wpIn P md ops Q I n (listed.setIfInBounds i true) (a.put oi.dst v) w → wpIn P md ops Q I (n + 1) listed a w := by
  intro n
  induction n with
  | zero =>
    intro listed a w _ hr hy hI H
    refine ⟨fun h => by rw [h] at hr; exact absurd hr (by simp), fun j hj => ?_⟩
    by_cases c : j = i
    · subst c; exact hy.op hi hI ⟨hI, H⟩
    · have := ready_mono hj c
      rw [H.1] at this
      exact absurd this (by simp)
  | succ n ih =>
    intro listed a w hfree hr hy hI H
    refine ⟨fun h => by rw [h] at hr; exact absurd hr (by simp), fun j hj => ?_⟩
    by_cases c : j = i
    · subst c; exact hy.op hi hI ⟨hI, H⟩
    · obtain ⟨hjun, oj, hoj, hall⟩ := mem_ready.1 hj
      have hnot : ∀ e ∈ oj.after, Region.binds md e = true → e.on ≠ i := by
        intro e he hb heq
        have h1 := hall e he hb
        have h0 := (mem_ready.1 hr).1
        rw [heq] at h1
        simp only [Array.getD_eq_getD_getElem?] at h0 h1
        cases hx : listed[i]? with
        | none => rw [hx] at h1; simp at h1
        | some q => rw [hx] at h0 h1; simp at h0 h1; rw [h0] at h1; cases h1
      have hap := hfree j oj hoj c hjun hnot
      have h2 := wpOp_acts hoj (wpOp_put (oi := still oi v) hoj (still_apart v hap) (fun cs b h => by cases h) (fun cs b => hsel j oj cs b hoj) hQ (still_yields oi v a) (H.2 j (ready_mono hj c)))
      refine wpOp_mono (fun a' w' h3 => ?_) h2
      obtain ⟨⟨u, ds, rfl⟩, _, hI', H'⟩ := h3
      obtain ⟨_, _, h5⟩ := Oper.apart_spec hap
      refine ⟨hI', ih _ _ _ ?_ (ready_mono hr (Ne.symm c)) ?_ hI' ?_⟩
      · intro k ok hk hki hun hno
        refine hfree k ok hk hki ?_ hno
        by_cases e : j = k
        · subst e; exact hjun
        · rw [getD_set_ne true e] at hun; exact hun
      · rcases hy with hy | ⟨hy, hv⟩
        · refine .inl ⟨?_, fun w'' hw'' => ?_⟩
          · have := wanted_put oi a oj.dst u h5
            rw [← hy.1]; exact this
          · have e : execOp (Act.eval { a.put oj.dst u with defers := ds }) oi = execOp a.eval oi := execOp_put oi (fun cs b => hsel i oi cs b hi) a oj.dst u h5
            rw [e]; exact hy.2 w'' hw''
        · have := wanted_put oi a oj.dst u h5
          exact .inr ⟨by rw [← hy]; exact this, hv⟩
      · rw [Array.setIfInBounds_comm _ _ c]
        exact H'
/-- A read that is ready is taken. -/
theorem take {i : Nat} {oi : Oper} {v : Value} {n : Nat} {listed : Array Bool} {a : Act} {w : World} (hi : ops[i]? = some oi)
    (hs : Region.noSelect ops = true) (hf : Region.free md ops listed i = true) (hr : (Region.ready md ops listed).contains i = true)
    (hQ : ∀ c a w, Q (.panic c) (a.put oi.dst v) w → Q (.panic c) a w) (hw : Region.wanted oi (yielded ops a.tmps) = true) (hy : ∀ w, I w → (execOp a.eval oi).run P w = .ok (.value v) w) (hI : I w)
    (h : wpIn P md ops Q I n (listed.setIfInBounds i true) (a.put oi.dst v) w) : wpIn P md ops Q I (n + 1) listed a w :=
  take_first hi (Region.noSelect_spec hs) hQ n listed a w (Region.free_spec hi hf) (by simpa using hr) (.inl ⟨hw, hy⟩) hI h
/-- An operation that is ready and not wanted is passed by. -/
theorem skip {i : Nat} {oi : Oper} {n : Nat} {listed : Array Bool} {a : Act} {w : World} (hi : ops[i]? = some oi)
    (hs : Region.noSelect ops = true) (hf : Region.free md ops listed i = true) (hr : (Region.ready md ops listed).contains i = true)
    (hQ : ∀ c a w, Q (.panic c) (a.put oi.dst undef) w → Q (.panic c) a w) (hw : Region.wanted oi (yielded ops a.tmps) = false) (hI : I w)
    (h : wpIn P md ops Q I n (listed.setIfInBounds i true) (a.put oi.dst undef) w) : wpIn P md ops Q I (n + 1) listed a w :=
  take_first hi (Region.noSelect_spec hs) hQ n listed a w (Region.free_spec hi hf) (by simpa using hr) (.inr ⟨hw, rfl⟩) hI h
/-- As take and skip, what the kernel sees by itself left out. -/
theorem tk {i : Nat} {oi : Oper} {v : Value} {n : Nat} {listed : Array Bool} {a : Act} {w : World} (hi : ops[i]? = some oi)
    (hy : ∀ w, I w → (execOp a.eval oi).run P w = .ok (.value v) w) (hI : I w) (h : wpIn P md ops Q I n (listed.setIfInBounds i true) (a.put oi.dst v) w)
    (hs : Region.noSelect ops = true := by kernel_rfl) (hf : Region.free md ops listed i = true := by kernel_rfl) (hr : (Region.ready md ops listed).contains i = true := by kernel_rfl)
    (hQ : ∀ c a w, Q (.panic c) (a.put oi.dst v) w → Q (.panic c) a w := by exact fun _ _ _ h => h) (hw : Region.wanted oi (yielded ops a.tmps) = true := by kernel_rfl) : wpIn P md ops Q I (n + 1) listed a w :=
  take hi hs hf hr hQ hw hy hI h
/-- The one operation that is ready. -/
theorem one {j : Nat} {o : Oper} {n : Nat} {listed : Array Bool} {a : Act} {w : World} (hr : Region.ready md ops listed = [j]) (hj : ops[j]? = some o)
    (h : ∀ K : Act → World → Prop, (∀ a w, I w → wpIn P md ops Q I n (listed.setIfInBounds j true) a w → K a w) → if Region.wanted o (yielded ops a.tmps) = true then Oper.wp P o a w K Q else K (a.put o.dst undef) w) :
    wpIn P md ops Q I (n + 1) listed a w := by
  refine ⟨fun h0 => absurd (hr.symm.trans h0) (by simp), fun i hi => ?_⟩
  rw [hr] at hi
  obtain rfl := List.mem_singleton.1 hi
  exact wpOp_step hj (fun K hK => h K fun a w h1 h2 => hK a w ⟨h1, h2⟩)
theorem done {n : Nat} {listed : Array Bool} {a : Act} {w : World} (hr : Region.ready md ops listed = []) (h : Q .normal a w) : wpIn P md ops Q I n listed a w := by
  cases n with
  | zero => exact ⟨hr, h⟩
  | succ n => exact ⟨fun _ => h, fun i hi => by rw [hr] at hi; cases hi⟩
theorem enter {id : Nat} {a : Act} {w : World} (I : World → Prop) (hm : P.follows .mixedOrders = true)
    (h : wpIn P .any ops Q I ops.size (Array.replicate ops.size false) a w.drew) : (Code.region id ops true).wp P Q a w := wp_region_any hm h.any
end
end Go.Drawn
