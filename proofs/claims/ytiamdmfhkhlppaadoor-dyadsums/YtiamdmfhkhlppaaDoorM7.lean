import Derived.Test.YtiamdmfhkhlppaaDoorM6
import Derived.Shelf.Spec.TrailingZeros
import Derived.OwnWalk
namespace Go.Proofs.YtiamdmfhkhlppaaDoor
open Go.RowKit
set_option linter.unusedVariables false
set_option maxRecDepth 3000
set_option maxHeartbeats 1000000 in
theorem tz_core (x k idx : Nat) (w : World) (hx0 : ((x : Int) == 0) = false)
    (key : bits BinOp.and IntKind.u32 (x : Int) (-(x : Int) % 4294967296) * 125613361 % 4294967296 / 134217728 = (idx : Int))
    (hi : idx < 32) (hk : k < 32) (hcell : w.cell? ⟨0, idx, none⟩ = some (.int .u8 k)) :
    Calls Tryd.prog 148 #[.int .u32 x] w fun e w' => e = .returned (.int .i64 k) ∧ w = w' := by
  go_enter Tryd.func148, Tryd.ntmps148
  go_wp2_with (simp only [key])
  go_ret
  exact ⟨rfl, rfl⟩
/-- The library's table lies at its variable (block 0). -/
def Tab (w : World) : Prop := TabAt 0 Lib.deBruijn32tab w
theorem Tab.below {w w' : World} {B : Nat} (h : Tab w) (hb : Below B w w') (hB : w.heap.size ≤ B) : Tab w' := by
  intro j hj
  have := h j hj
  rw [hb.cell (p := ⟨0, j, none⟩) (by have h1 := World.block_lt_of_cell? w _ this; simpa using Nat.lt_of_lt_of_le h1 hB)]
  exact this
theorem tz81 (x : Nat) (hx : x < 4294967296) (hx0 : x ≠ 0) (w : World) (hT : Tab w) :
    Calls Tryd.prog 148 #[.int .u32 x] w fun e w' => e = .returned (.int .i64 (Lib.ctz 32 x)) ∧ w = w' := by
  obtain ⟨hlow, hk⟩ := Lib.lowest_bit 32 x hx0 hx
  obtain ⟨hi, htab⟩ := Lib.deBruijn32_at _ hk
  have hcell := hT _ hi
  rw [htab] at hcell
  exact tz_core x _ _ w (by simp; omega) (tz32_key x _ hx hx0 hlow) hi hk hcell

theorem ctz_int (d : Int) (h0 : 0 < d) (h1 : d < 4294967296) : ∃ m : Int, d = 2 ^ (Lib.ctz 32 d.toNat) * (2 * m + 1) ∧ Lib.ctz 32 d.toNat < 32 ∧ 0 ≤ m := by
  have e32 : (2 : Nat) ^ 32 = 4294967296 := by decide
  obtain ⟨m, hm, hk⟩ := Lib.ctzFrom_spec 32 d.toNat (by omega) (by omega)
  have e : Lib.ctz 32 d.toNat = Lib.ctzFrom 32 d.toNat := by
    have : d.toNat ≠ 0 := by omega
    simp [Lib.ctz, this]
  rw [e]
  refine ⟨m, ?_, hk, by omega⟩
  have h2 : ((d.toNat : Nat) : Int) = d := Int.toNat_of_nonneg (by omega)
  generalize Lib.ctzFrom 32 d.toNat = c at *
  rw [← h2, hm]
  simp
theorem vp_noughts {s : List Int} {k : Nat} (h : ∀ j, j < k → s.getD j 0 = 0) : Nt.vp s k = 0 := by
  induction k with
  | zero => rfl
  | succ k ih => rw [Nt.vp_step, ih (fun j hj => h j (by omega)), h k (by omega)]; simp
theorem low_at {za : List Int} {k c : Nat} {m : Int} (hk : k < za.length) (hz : ∀ j, j < k → za.getD j 0 = 0) (hc : c < 32) (hd : za.getD k 0 = 2 ^ c * (2 * m + 1)) : LowBit (Nt.val za) (32 * k + c) := by
  have e1 := val_drop_split k (Nat.le_of_lt hk)
  rw [vp_noughts hz, Int.zero_add, val_drop_step hk, hd] at e1
  obtain ⟨q, hq⟩ : ∃ q, c + 1 + q = 32 := ⟨31 - c, by omega⟩
  have e : (4294967296 : Int) = 2 ^ c * (2 * 2 ^ q) := by
    rw [← Int.mul_assoc, show (2 : Int) ^ c * 2 = 2 ^ (c + 1) from (Int.pow_succ _ _).symm, ← Int.pow_add, hq]; decide
  have e2 : Nt.val za = 2 ^ (32 * k + c) * (2 * (m + 2 ^ q * Nt.val (za.drop (k + 1))) + 1) := by
    have e3 : (4294967296 : Int) ^ k = 2 ^ (32 * k) := by rw [Int.pow_mul]; rfl
    rw [e1, e3, Int.pow_add]
    generalize Nt.val (za.drop (k + 1)) = r
    have e4 : (4294967296 : Int) * r = 2 ^ c * (2 * 2 ^ q) * r := by rw [← e]
    rw [e4]
    generalize (2 : Int) ^ (32 * k) = P
    generalize (2 : Int) ^ c = C
    generalize (2 : Int) ^ q = Q
    grind
  have hp : (0 : Int) < 2 ^ (32 * k + c) := Int.pow_pos (by decide)
  rw [e2]
  refine ⟨Int.mul_emod_right _ _, ?_⟩
  rw [Int.mul_ediv_cancel_left _ (by omega)]
  omega
set_option maxHeartbeats 1000000 in
theorem low22 (a : Option Addr) (ca : Nat) (za : List Int) (w : World) (ha : Lie w a za) (ra : Nt.Rng za) (pa : mayB za = true) (hz : 0 < za.length) (hT : Tab w) :
    Calls Tryd.prog 118 #[.slice a za.length ca] w fun e w' => w = w' ∧ ∃ t : Nat, e = .returned (.int .i64 t) ∧ LowBit (Nt.val za) t ∧ t < 32 * za.length := by
  obtain ⟨qa, la⟩ := may_can ra pa
  have HM := Hide.mk (may_yes a ca za w ha (by unfold maxLen; omega) pa)
  obtain ⟨ba, oa, rfl⟩ := lie_some ha hz
  have HA := Hide.mk ha
  have RA := Hide.mk ra
  have QA := Hide.mk (qa.2 (by omega))
  have HT := Hide.mk hT
  clear ha ra pa qa hT
  go_enter Tryd.func118, Tryd.ntmps118
  go_wp2_with fail
  refine HM.out.mono ?_
  rintro e w' ⟨rfl, rfl⟩
  go_wp2
  go_loop [10] (fun i => ∃ k : Nat, k ≤ za.length ∧ i = .int .i64 k ∧ Hide (∀ j, j < k → za.getD j 0 = 0)) (fun i => za.length - (intOf i).toNat)
  case atStart => exact ⟨0, Nat.zero_le _, rfl, ⟨fun j hj => by omega⟩⟩
  case round =>
    obtain ⟨k, hk, rfl, HZ⟩ := hrel
    have hlt : k < za.length := by
      by_cases c : k < za.length
      · exact c
      · exact absurd (HZ.out (za.length - 1) (by omega)) QA.out
    have hcell : w.cell? ⟨ba, oa + k, none⟩ = _ := lie_cell HA.out rfl hlt
    have hr := RA.out k
    by_cases h0 : za.getD k 0 = 0
    · have HZ2 : Hide (∀ j, j < k + 1 → za.getD j 0 = 0) := ⟨fun j hj => by
        by_cases e : j = k
        · subst e; exact h0
        · exact HZ.out j (by omega)⟩
      rw [h0] at hcell
      clear h0 hr
      go_wp2
      go_round
      case rel => exact ⟨k + 1, hlt, by go_num, HZ2⟩
      case measure => simp [intOf]; omega
    · have hne : (za.getD k 0 != 0) = true := bne_iff_ne.2 h0
      obtain ⟨m, hm, hc, _⟩ := ctz_int (za.getD k 0) (by omega) hr.2
      have HF := Hide.mk (low_at hlt HZ.out hc hm)
      have HC := Hide.mk (tz81 (za.getD k 0).toNat (by omega) (by omega) w HT.out)
      have e1 : (((za.getD k 0).toNat : Nat) : Int) = za.getD k 0 := Int.toNat_of_nonneg hr.1
      rw [e1] at HC
      clear hm e1 h0
      generalize Lib.ctz 32 (za.getD k 0).toNat = c at *
      generalize za.getD k 0 = x at *
      go_wp2_with fail
      refine HC.out.mono ?_
      rintro e w' ⟨rfl, rfl⟩
      go_wp2
      go_ret
      exact ⟨rfl, 32 * k + c, by go_num, HF.out, by omega⟩

theorem p2lt {i j : Nat} (h : (2 : Int) ^ i < 2 ^ j) : i < j := by
  by_cases c : i < j
  · exact c
  · have := p2mono (show j ≤ i by omega)
    omega
theorem p2succ (i : Nat) : (2 : Int) ^ (i + 1) = 2 * 2 ^ i := by rw [Int.pow_succ, Int.mul_comm]
theorem Bits.unique {x : Int} {B C : Nat} (h : Bits x B) (k : Bits x C) : B = C := by
  have h1 := h.lt
  have h2 := h.le
  have k1 := k.lt
  have k2 := k.le
  have e1 := p2succ B
  have e2 := p2succ C
  have := p2lt (i := B) (j := C + 1) (by omega)
  have := p2lt (i := C) (j := B + 1) (by omega)
  omega
theorem Own.of_made {w w' : World} {v : Value} {zs : List Int} {x : Int} (ho : Own w.heap.size w' v zs) (hc : Nt.Can zs) (hv : Nt.val zs = x) (hl : zs.length ≤ 4096) (hb : Below w.heap.size w w') :
    ∃ a c, v = .slice a zs.length c ∧ IsNum w w' a zs x ∧ Own w.heap.size w' (.slice a zs.length c) zs := by
  obtain ⟨a, c, h1, _, _, h2⟩ := ho.lie
  exact ⟨a, c, h1, ⟨hc, hl, hv, h2, hb⟩, by rw [← h1]; exact ho⟩
theorem isNum_nil (w : World) {x : Int} (h : x = 0) : IsNum w w none [] x := ⟨Nt.can_nil, by simp, by rw [h]; rfl, .inl rfl, Below.refl _ _⟩

theorem shift_no (a : Option Addr) (ca : Nat) (za : List Int) (w : World) (n : Int) (ha : Lie w a za) (hl : za.length ≤ maxLen) (pa : mayB za = false) :
    Calls Tryd.prog 94 #[.slice a za.length ca, .int .i64 n] w fun e w' => e = .returned (.tuple #[.slice none 0 0, .bool false, .int .i64 2]) ∧ w = w' := by
  have HM := Hide.mk (may_no a ca za w ha hl pa)
  clear ha hl pa
  go_enter Tryd.func94, Tryd.ntmps94
  go_wp2_with fail
  refine HM.out.mono ?_
  rintro e w' ⟨rfl, rfl⟩
  go_wp2
  go_ret3
  exact ⟨rfl, rfl⟩
theorem len_nil (a : Option Addr) (ca : Nat) (w : World) :
    Calls Tryd.prog 92 #[.slice a 0 ca] w fun e w' => e = .returned (.int .i64 0) ∧ w = w' := by
  have HM := Hide.mk (may_yes a ca [] w (.inl rfl) (by unfold maxLen; simp) rfl)
  go_enter Tryd.func92, Tryd.ntmps92
  go_wp2_with fail
  refine HM.out.mono ?_
  rintro e w' ⟨rfl, rfl⟩
  go_wp2
  go_ret
  exact ⟨rfl, rfl⟩
theorem shift_nil (a : Option Addr) (ca : Nat) (w : World) (n : Int) :
    Calls Tryd.prog 94 #[.slice a 0 ca, .int .i64 n] w fun e w' => e = .returned (.tuple #[.slice none 0 0, .bool false, .int .i64 0]) ∧ w = w' := by
  have HM := Hide.mk (may_yes a ca [] w (.inl rfl) (by unfold maxLen; simp) rfl)
  go_enter Tryd.func94, Tryd.ntmps94
  go_wp2_with fail
  refine HM.out.mono ?_
  rintro e w' ⟨rfl, rfl⟩
  go_wp2_with fail
  refine (len_nil a ca _).mono ?_
  rintro e w' ⟨rfl, rfl⟩
  go_wp2
  go_ret3
  exact ⟨rfl, rfl⟩

theorem shift_long (a : Option Addr) (ca : Nat) (za : List Int) (w : World) (ha : Lie w a za) (ra : Nt.Rng za) (pa : mayB za = true) (hz : 0 < za.length) {BL : Nat} (hB : Bits (Nt.val za) BL) (n : Int) (hn : 131072 < n + BL) (hn2 : n ≤ 9223372036854775807) :
    Calls Tryd.prog 94 #[.slice a za.length ca, .int .i64 n] w fun e w' => e = .returned (.tuple #[.slice none 0 0, .bool false, .int .i64 3]) ∧ w = w' := by
  have la := (may_can ra pa).2
  have HM := Hide.mk (may_yes a ca za w ha (by unfold maxLen; omega) pa)
  have HL := Hide.mk (nlen60 a ca za w ha ra pa hz)
  have HB := Hide.mk hB
  clear ha ra pa hB
  go_enter Tryd.func94, Tryd.ntmps94
  go_wp2_with fail
  refine HM.out.mono ?_
  rintro e w' ⟨rfl, rfl⟩
  go_wp2_with fail
  refine HL.out.mono ?_
  rintro e w' ⟨rfl, B2, rfl, hb2, h1, h2⟩
  obtain rfl := hb2.unique HB.out
  have h0 : ((B2 : Int) == 0) = false := by simp; omega
  clear hb2
  generalize hx : (B2 : Int) = x at *
  have hx1 : 131072 - x < n := by omega
  have hx2 : 1 ≤ x := by omega
  have hx3 : x ≤ 131072 := by omega
  clear h1 h2 hn hx
  go_wp2
  go_ret3
  exact ⟨rfl, rfl⟩
theorem shift_up (a : Option Addr) (ca : Nat) (za : List Int) (w : World) (ha : Lie w a za) (ra : Nt.Rng za) (pa : mayB za = true) (hz : 0 < za.length) {BL : Nat} (hB : Bits (Nt.val za) BL) (n : Nat) (hn : n + BL ≤ 131072) :
    Calls Tryd.prog 94 #[.slice a za.length ca, .int .i64 n] w fun e w' => ∃ zs a' c, e = .returned (.tuple #[.slice a' zs.length c, .bool false, .int .i64 0]) ∧ IsNum w w' a' zs (Nt.val za * 2 ^ n) ∧ Own w.heap.size w' (.slice a' zs.length c) zs := by
  have la := (may_can ra pa).2
  have HM := Hide.mk (may_yes a ca za w ha (by unfold maxLen; omega) pa)
  have HL := Hide.mk (nlen60 a ca za w ha ra pa hz)
  have HB := Hide.mk hB
  have HS := Hide.mk (shiftUp63 a ca za w (n : Int) (n / 32) (n % 32) (by omega) (by omega) (by omega) (by omega) (by omega) (by omega) ha ra (by omega))
  clear ha ra pa hB
  go_enter Tryd.func94, Tryd.ntmps94
  go_wp2_with fail
  refine HM.out.mono ?_
  rintro e w' ⟨rfl, rfl⟩
  go_wp2_with fail
  refine HL.out.mono ?_
  rintro e w' ⟨rfl, B2, rfl, hb2, h1, h2⟩
  obtain rfl := hb2.unique HB.out
  have h0 : ((B2 : Int) == 0) = false := by simp; omega
  clear hb2
  have HN := Hide.mk hn
  generalize hx : (B2 : Int) = x at *
  have hx1 : (n : Int) ≤ 131072 - x := by omega
  have hx2 : 1 ≤ x := by omega
  have hx3 : x ≤ 131072 := by omega
  clear h1 h2 hn hx
  go_wp2_with fail
  refine HS.out.mono ?_
  rintro e w' ⟨v, zs, rfl, hown, hcan, hval, hbel⟩
  have HF : Hide (∃ a c, v = .slice a zs.length c ∧ IsNum w w' a zs (Nt.val za * 2 ^ n) ∧ Own w.heap.size w' (.slice a zs.length c) zs) := ⟨by
    refine hown.of_made hcan ?_ ?_ hbel
    · rw [hval, pow2_split n (n / 32) (n % 32) (by omega), Int.mul_assoc, Int.mul_comm (2 ^ _)]
    · refine (Nt.can_len hcan 4096).1 ?_
      have e : Nt.val zs = Nt.val za * 2 ^ n := by rw [hval, pow2_split n (n / 32) (n % 32) (by omega), Int.mul_assoc, Int.mul_comm (2 ^ _)]
      rw [e]
      have h1 := HB.out.lt
      have h3 : Nt.val za * 2 ^ n < 2 ^ B2 * 2 ^ n := Int.mul_lt_mul_of_pos_right h1 (p2pos n)
      rw [← Int.pow_add] at h3
      have h4 := p2mono (show B2 + n ≤ 32 * 4096 by have := HN.out; omega)
      rw [Int.pow_mul, show (2 : Int) ^ 32 = 4294967296 by decide] at h4
      omega⟩
  clear hown hcan hval hbel HS
  obtain ⟨a2, c2, hv, _⟩ := HF.out
  rw [hv]
  have HV := Hide.mk hv
  clear hv
  go_wp2
  go_ret3
  obtain ⟨a3, c3, hv3, h5, h6⟩ := HF.out
  exact ⟨zs, a3, c3, by rw [← hv3, HV.out]; rfl, h5, h6⟩
theorem shift_past (a : Option Addr) (ca : Nat) (za : List Int) (w : World) (ha : Lie w a za) (ra : Nt.Rng za) (pa : mayB za = true) (hz : 0 < za.length) {BL : Nat} (hB : Bits (Nt.val za) BL) (n : Int) (hn : n + BL ≤ 0) (hn2 : -9223372036854775808 ≤ n) :
    Calls Tryd.prog 94 #[.slice a za.length ca, .int .i64 n] w fun e w' => e = .returned (.tuple #[.slice none 0 0, .bool true, .int .i64 0]) ∧ w = w' := by
  have la := (may_can ra pa).2
  have HM := Hide.mk (may_yes a ca za w ha (by unfold maxLen; omega) pa)
  have HL := Hide.mk (nlen60 a ca za w ha ra pa hz)
  have HB := Hide.mk hB
  clear ha ra pa hB
  go_enter Tryd.func94, Tryd.ntmps94
  go_wp2_with fail
  refine HM.out.mono ?_
  rintro e w' ⟨rfl, rfl⟩
  go_wp2_with fail
  refine HL.out.mono ?_
  rintro e w' ⟨rfl, B2, rfl, hb2, h1, h2⟩
  obtain rfl := hb2.unique HB.out
  have h0 : ((B2 : Int) == 0) = false := by simp; omega
  clear hb2
  generalize hx : (B2 : Int) = x at *
  have hx1 : n ≤ -x := by omega
  have hx2 : 1 ≤ x := by omega
  have hx3 : x ≤ 131072 := by omega
  clear h1 h2 hn hx
  go_wp2
  go_ret3
  exact ⟨rfl, rfl⟩
set_option maxHeartbeats 1000000 in
theorem shift_in (a : Option Addr) (ca : Nat) (za : List Int) (w : World) (ha : Lie w a za) (ra : Nt.Rng za) (pa : mayB za = true) (hz : 0 < za.length) {BL : Nat} (hB : Bits (Nt.val za) BL) (n : Nat) (h1n : 1 ≤ n) (hn : n < BL) (hT : Tab w) :
    Calls Tryd.prog 94 #[.slice a za.length ca, .int .i64 (-(n : Int))] w fun e w' => ∃ zs a' c, e = .returned (.tuple #[.slice a' zs.length c, .bool (decide (Nt.val za % 2 ^ n ≠ 0)), .int .i64 0]) ∧ IsNum w w' a' zs (Nt.val za / 2 ^ n) ∧ Own w.heap.size w' (.slice a' zs.length c) zs := by
  have la := (may_can ra pa).2
  have HM := Hide.mk (may_yes a ca za w ha (by unfold maxLen; omega) pa)
  have HL := Hide.mk (nlen60 a ca za w ha ra pa hz)
  have HB := Hide.mk hB
  have hle : n ≤ 32 * za.length := by
    have h3 := (Nt.val_bd ra).2
    have h4 := hB.le
    rw [show (4294967296 : Int) = 2 ^ 32 by decide, ← Int.pow_mul] at h3
    have := p2succ (32 * za.length)
    have := p2lt (i := BL) (j := 32 * za.length + 1) (by omega)
    omega
  have HS := Hide.mk (shiftDown62 a ca za w (n : Int) (n / 32) (n % 32) (by omega) (by omega) (by omega) (by omega) (by omega) (by omega) ha ra (by omega))
  have HW := fun W (h : Below w.heap.size w W) => Hide.mk (low22 a ca za W (ha.below h (Nat.le_refl _)) ra pa hz (hT.below h (Nat.le_refl _)))
  have HR := Hide.mk ra
  clear ha ra pa hB hT
  go_enter Tryd.func94, Tryd.ntmps94
  go_wp2_with fail
  refine HM.out.mono ?_
  rintro e w' ⟨rfl, rfl⟩
  go_wp2_with fail
  refine HL.out.mono ?_
  rintro e w' ⟨rfl, B2, rfl, hb2, h1, h2⟩
  obtain rfl := hb2.unique HB.out
  have h0 : ((B2 : Int) == 0) = false := by simp; omega
  clear hb2
  generalize hx : (B2 : Int) = x at *
  have hx1 : -x < -(n : Int) := by omega
  have hx2 : 1 ≤ x := by omega
  have hx3 : x ≤ 131072 := by omega
  have hx4 : -(n : Int) < 0 := by omega
  clear h1 h2 hn hx
  go_wp2_with fail
  refine HS.out.mono ?_
  rintro e w' ⟨v, zs, rfl, hown, hcan, hval, hbel⟩
  have HF : Hide (∃ a c, v = .slice a zs.length c ∧ IsNum w w' a zs (Nt.val za / 2 ^ n) ∧ Own w.heap.size w' (.slice a zs.length c) zs) := ⟨by
    have e : Nt.val zs = Nt.val za / 2 ^ n := by rw [hval, pow2_split n (n / 32) (n % 32) (by omega)]
    refine hown.of_made hcan e ?_ hbel
    refine (Nt.can_len hcan 4096).1 ?_
    rw [e]
    have h3 := Lt.of HR.out la
    have h5 : Nt.val za / 2 ^ n ≤ Nt.val za := Int.ediv_le_self _ h3.1
    have := h3.2
    omega⟩
  have HW2 := HW w' hbel
  clear hown hcan hval hbel HS HW
  obtain ⟨a2, c2, hv, _⟩ := HF.out
  rw [hv]
  have HV := Hide.mk hv
  clear hv
  go_wp2_with fail
  refine HW2.out.mono ?_
  rintro e w2 ⟨rfl, t, rfl, hlow, htl⟩
  have HD := Hide.mk (low_lost (n := n) hlow)
  clear hlow
  go_wp2
  go_ret3
  obtain ⟨a3, c3, hv3, h5, h6⟩ := HF.out
  refine ⟨zs, a3, c3, ?_, h5, h6⟩
  rw [← HD.out, ← hv3, HV.out]
  simp

/-- How many bits a number has. -/
def BitLen (x : Int) (B : Nat) : Prop := (x = 0 ∧ B = 0) ∨ (0 < x ∧ Bits x B)
theorem BitLen.unique {x : Int} {B C : Nat} (h : BitLen x B) (k : BitLen x C) : B = C := by
  rcases h with ⟨h1, h2⟩ | ⟨h1, h2⟩ <;> rcases k with ⟨k1, k2⟩ | ⟨k1, k2⟩
  · omega
  · omega
  · omega
  · exact h2.unique k2
theorem Good.pos {z : List Int} {x : Int} (h : Good z x) (hz : 0 < z.length) : 0 < x := by
  have h1 := can_ge h.can hz
  have := Nt.pw_pos (z.length - 1)
  rw [← h.val]; omega
theorem Good.nonneg {z : List Int} {x : Int} (h : Good z x) : 0 ≤ x := by rw [← h.val]; exact (Nt.val_bd h.can.1).1
theorem Good.nil {z : List Int} {x : Int} (h : Good z x) (hz : z.length = 0) : z = [] ∧ x = 0 := by
  have e := List.length_eq_zero_iff.1 hz
  subst e
  exact ⟨rfl, by rw [← h.val]; rfl⟩
theorem Good.ne {z : List Int} {x : Int} (h : Good z x) (hx : 0 < x) : 0 < z.length := by
  by_cases c : z.length = 0
  · have := (h.nil c).2; omega
  · omega
theorem bits_ex {x : Int} (h : 0 < x) : ∃ B, Bits x B := by
  have key : ∀ f : Nat, ∀ x : Int, 0 < x → x < 2 ^ f → ∃ B, Bits x B := by
    intro f
    induction f with
    | zero => intro x h0 h1; simp at h1; omega
    | succ f ih =>
      intro x h0 h1
      by_cases c : x < 2 ^ f
      · exact ih x h0 c
      · exact ⟨f + 1, h1, by have := p2succ f; omega⟩
  refine key x.toNat x h ?_
  have h2 : x.toNat < 2 ^ x.toNat := Nat.lt_two_pow_self
  have e : ((2 ^ x.toNat : Nat) : Int) = (2 : Int) ^ x.toNat := by simp
  omega
theorem bitLen_ex {x : Int} (h : 0 ≤ x) : ∃ B, BitLen x B := by
  by_cases c : x = 0
  · exact ⟨0, .inl ⟨c, rfl⟩⟩
  · obtain ⟨B, hB⟩ := bits_ex (x := x) (by omega)
    exact ⟨B, .inr ⟨by omega, hB⟩⟩
theorem pw32 : (4294967296 : Int) ^ 4096 = 2 ^ 131072 := by
  rw [show (131072 : Nat) = 32 * 4096 from rfl, Int.pow_mul]
  rfl
theorem Bits.up {x : Int} {B : Nat} (h : Bits x B) (n : Nat) : Bits (x * 2 ^ n) (B + n) := by
  have hp := p2pos n
  refine ⟨?_, ?_⟩
  · rw [Int.pow_add]; exact Int.mul_lt_mul_of_pos_right h.lt hp
  · rw [Int.pow_add, ← Int.mul_assoc]; exact Int.mul_le_mul_of_nonneg_right h.le (by omega)
theorem Bits.down {x : Int} {B n : Nat} (h : Bits x B) (hn : n < B) : Bits (x / 2 ^ n) (B - n) := by
  have hp := p2pos n
  obtain ⟨k, rfl⟩ : ∃ k, B = n + (k + 1) := ⟨B - n - 1, by omega⟩
  have h1 := h.lt
  have h2 := h.le
  rw [Int.pow_add] at h1 h2
  rw [show n + (k + 1) - n = k + 1 by omega]
  have e := p2succ k
  rw [e] at h1 h2
  refine ⟨?_, ?_⟩
  · rw [e]; exact Int.ediv_lt_of_lt_mul hp (by rw [Int.mul_comm]; exact h1)
  · rw [e]
    have h3 : 2 ^ k ≤ x / 2 ^ n := by
      rw [Int.le_ediv_iff_mul_le hp]
      have : (2 : Int) ^ n * (2 * 2 ^ k) = 2 * (2 ^ k * 2 ^ n) := by grind
      omega
    omega
theorem Bits.fits {x : Int} {B n : Nat} (h : Bits x B) (hf : x * 2 ^ n < 4294967296 ^ 4096) : n + B ≤ 131072 := by
  have h1 := (h.up n).le
  rw [pw32] at hf
  have := p2succ 131072
  have := p2lt (i := B + n) (j := 131072 + 1) (by omega)
  omega
theorem BitLen.up {x : Int} {B : Nat} (h : BitLen x B) (hx : 0 < x) (n : Nat) : BitLen (x * 2 ^ n) (B + n) := by
  rcases h with ⟨h1, h2⟩ | ⟨h1, h2⟩
  · omega
  · exact .inr ⟨Int.mul_pos hx (p2pos n), h2.up n⟩
theorem BitLen.down {x : Int} {B : Nat} (h : BitLen x B) (n : Nat) : BitLen (x / 2 ^ n) (B - n) := by
  rcases h with ⟨h1, h2⟩ | ⟨h1, h2⟩
  · exact .inl ⟨by rw [h1]; simp, by omega⟩
  · by_cases c : n < B
    · have hp := p2pos n
      refine .inr ⟨?_, h2.down c⟩
      have h3 := (h2.down c).le
      have := p2pos (B - n)
      omega
    · refine .inl ⟨Int.ediv_eq_zero_of_lt (by omega) ?_, by omega⟩
      have := h2.lt
      have := p2mono (show B ≤ n by omega)
      omega

theorem lenN (a : Option Addr) (ca : Nat) (za : List Int) (w : World) {x : Int} (ha : Lie w a za) (ga : Good za x) :
    Calls Tryd.prog 92 #[.slice a za.length ca] w fun e w' => w = w' ∧ ∃ B : Nat, e = .returned (.int .i64 B) ∧ BitLen x B ∧ B ≤ 131072 := by
  by_cases hz : 0 < za.length
  · refine (nlen60 a ca za w ha ga.can.1 ga.may hz).mono ?_
    rintro e w' ⟨rfl, B, rfl, h1, h2, h3⟩
    exact ⟨rfl, B, rfl, .inr ⟨ga.pos hz, by rw [← ga.val]; exact h1⟩, by have := ga.len; omega⟩
  · obtain ⟨rfl, h0⟩ := ga.nil (by omega)
    refine (len_nil a ca w).mono ?_
    rintro e w' ⟨rfl, rfl⟩
    exact ⟨rfl, 0, rfl, .inl ⟨h0, rfl⟩, by omega⟩
theorem low_nil (a : Option Addr) (ca : Nat) (w : World) :
    Calls Tryd.prog 118 #[.slice a 0 ca] w fun e w' => e = .returned (.int .i64 0) ∧ w = w' := by
  have HM := Hide.mk (may_yes a ca [] w (.inl rfl) (by unfold maxLen; simp) rfl)
  go_enter Tryd.func118, Tryd.ntmps118
  go_wp2_with fail
  refine HM.out.mono ?_
  rintro e w' ⟨rfl, rfl⟩
  go_wp2
  refine wp_loop_rounds 1 ?_
  rw [rounds_succ]
  go_wp2
  go_ret
  exact ⟨rfl, rfl⟩
theorem lowN (a : Option Addr) (ca : Nat) (za : List Int) (w : World) {x : Int} (ha : Lie w a za) (ga : Good za x) (hz : 0 < za.length) (hT : Tab w) :
    Calls Tryd.prog 118 #[.slice a za.length ca] w fun e w' => w = w' ∧ ∃ t : Nat, e = .returned (.int .i64 t) ∧ LowBit x t ∧ t < 131072 := by
  refine (low22 a ca za w ha ga.can.1 ga.may hz hT).mono ?_
  rintro e w' ⟨rfl, t, rfl, h1, h2⟩
  exact ⟨rfl, t, rfl, by rw [← ga.val]; exact h1, by have := ga.len; omega⟩
/-- Up by n, where that fits. -/
theorem shiftU (a : Option Addr) (ca : Nat) (za : List Int) (w : World) {x : Int} (ha : Lie w a za) (ga : Good za x) (n : Nat) (hf : x * 2 ^ n < 4294967296 ^ 4096) :
    Calls Tryd.prog 94 #[.slice a za.length ca, .int .i64 n] w fun e w' => ∃ zs a' c, e = .returned (.tuple #[.slice a' zs.length c, .bool false, .int .i64 0]) ∧ IsNum w w' a' zs (x * 2 ^ n) ∧ Own w.heap.size w' (.slice a' zs.length c) zs := by
  by_cases hz : 0 < za.length
  · obtain ⟨B, hB⟩ := bits_ex (ga.pos hz)
    have := shift_up a ca za w ha ga.can.1 ga.may hz (by rw [ga.val]; exact hB) n (hB.fits hf)
    rw [ga.val] at this
    exact this
  · obtain ⟨rfl, rfl⟩ := ga.nil (by omega)
    refine (shift_nil a ca w _).mono ?_
    rintro e w' ⟨rfl, rfl⟩
    exact ⟨[], none, 0, rfl, isNum_nil _ (by simp), Own.nil _ _⟩
/-- Down by n. -/
theorem shiftD (a : Option Addr) (ca : Nat) (za : List Int) (w : World) {x : Int} (ha : Lie w a za) (ga : Good za x) (n : Nat) (hn : n ≤ 9223372036854775808) (hT : Tab w) :
    Calls Tryd.prog 94 #[.slice a za.length ca, .int .i64 (-(n : Int))] w fun e w' => ∃ zs a' c, e = .returned (.tuple #[.slice a' zs.length c, .bool (decide (x % 2 ^ n ≠ 0)), .int .i64 0]) ∧ IsNum w w' a' zs (x / 2 ^ n) ∧ Own w.heap.size w' (.slice a' zs.length c) zs := by
  by_cases h0 : n = 0
  · subst h0
    have := shiftU a ca za w ha ga 0 (by have := ga.lt.2; rw [Int.pow_zero, Int.mul_one]; exact this)
    simpa using this
  · by_cases hz : 0 < za.length
    · obtain ⟨B, hB⟩ := bits_ex (ga.pos hz)
      have hB' : Bits (Nt.val za) B := by rw [ga.val]; exact hB
      by_cases hlt : n < B
      · have := shift_in a ca za w ha ga.can.1 ga.may hz hB' n (by omega) hlt hT
        rw [ga.val] at this
        exact this
      · refine (shift_past a ca za w ha ga.can.1 ga.may hz hB' (-(n : Int)) (by omega) (by omega)).mono ?_
        rintro e w' ⟨rfl, rfl⟩
        have h1 := hB.lt
        have h2 := p2mono (show B ≤ n by omega)
        have h3 := ga.pos hz
        have h4 : x % 2 ^ n ≠ 0 := by rw [Int.emod_eq_of_lt (by omega) (by omega)]; omega
        exact ⟨[], none, 0, by simp [h4], isNum_nil _ (Int.ediv_eq_zero_of_lt (by omega) (by omega)), Own.nil _ _⟩
    · obtain ⟨rfl, rfl⟩ := ga.nil (by omega)
      refine (shift_nil a ca w _).mono ?_
      rintro e w' ⟨rfl, rfl⟩
      exact ⟨[], none, 0, by simp, isNum_nil _ (by simp), Own.nil _ _⟩

theorem shiftUi (a : Option Addr) (ca : Nat) (za : List Int) (w : World) {x : Int} (ha : Lie w a za) (ga : Good za x) (M : Int) (n : Nat) (hM : M = (n : Int)) (hf : x * 2 ^ n < 4294967296 ^ 4096) :
    Calls Tryd.prog 94 #[.slice a za.length ca, .int .i64 M] w fun e w' => ∃ zs a' c, e = .returned (.tuple #[.slice a' zs.length c, .bool false, .int .i64 0]) ∧ IsNum w w' a' zs (x * 2 ^ n) ∧ Own w.heap.size w' (.slice a' zs.length c) zs := by
  subst hM; exact shiftU a ca za w ha ga n hf
theorem shiftDi (a : Option Addr) (ca : Nat) (za : List Int) (w : World) {x : Int} (ha : Lie w a za) (ga : Good za x) (M : Int) (n : Nat) (hM : M = -(n : Int)) (hn : n ≤ 9223372036854775808) (hT : Tab w) (q : Bool) (hq : decide (x % 2 ^ n ≠ 0) = q) :
    Calls Tryd.prog 94 #[.slice a za.length ca, .int .i64 M] w fun e w' => ∃ zs a' c, e = .returned (.tuple #[.slice a' zs.length c, .bool q, .int .i64 0]) ∧ IsNum w w' a' zs (x / 2 ^ n) ∧ Own w.heap.size w' (.slice a' zs.length c) zs := by
  subst hM; subst hq; exact shiftD a ca za w ha ga n hn hT
theorem cmp_good (a b : Option Addr) (ca cb : Nat) (za zb : List Int) (w : World) {x y : Int} (ha : Lie w a za) (hb : Lie w b zb) (ga : Good za x) (gb : Good zb y) (s : Int) (hs : sgn x y = s) :
    Calls Tryd.prog 149 #[.slice a za.length ca, .slice b zb.length cb] w fun e w' => e = .returned (.tuple #[.int .i64 s, .int .i64 0]) ∧ Below w.heap.size w w' := by
  have := cmp19 a b ca cb za zb w ha hb ga.can.1 gb.can.1 ga.may gb.may
  rw [ga.val, gb.val, hs] at this
  exact this
theorem lent_good (a : Option Addr) (ca : Nat) (za : List Int) (w : World) {x : Int} (ha : Lie w a za) (ga : Good za x) (hnil : a = none → ca = 0) :
    Calls Tryd.prog 12 #[.slice a za.length ca] w fun e w' => ∃ a' c, e = .returned (.slice a' za.length c) ∧ IsNum w w' a' za x ∧ Own w.heap.size w' (.slice a' za.length c) za := by
  refine (lent12 a ca za w ha (by have := ga.len; omega) hnil).mono ?_
  rintro e w' ⟨a', c, rfl, ho, hb⟩
  obtain ⟨a2, c2, he, _, _, hl⟩ := ho.lie
  simp only [Value.slice.injEq, true_and] at he
  obtain ⟨rfl, rfl⟩ := he
  exact ⟨a', c, rfl, ⟨ga.can, ga.len, ga.val, hl, hb⟩, ho⟩
theorem Live.one {w : World} {a : Option Addr} {zs : List Int} (h : Lie w a zs) : Live w [(a, zs)] := ⟨by simp [h]⟩
theorem LowBit.unique {x : Int} {t u : Nat} (h : LowBit x t) (k : LowBit x u) : t = u := by
  have h1 := low_lost (n := u) h
  have h2 := low_lost (n := t) k
  have e1 := k.zero
  have e2 := h.zero
  simp only [e1, ne_eq, not_true_eq_false, decide_false, decide_eq_false_iff_not] at h1
  simp only [e2, ne_eq, not_true_eq_false, decide_false, decide_eq_false_iff_not] at h2
  omega
theorem len_bad (a : Option Addr) (ca : Nat) (za : List Int) (w : World) (ha : Lie w a za) (hl : za.length ≤ maxLen) (pa : mayB za = false) :
    Calls Tryd.prog 92 #[.slice a za.length ca] w fun e w' => e = .returned (.int .i64 0) ∧ w = w' := by
  have HM := Hide.mk (may_no a ca za w ha hl pa)
  clear ha hl pa
  go_enter Tryd.func92, Tryd.ntmps92
  go_wp2_with fail
  refine HM.out.mono ?_
  rintro e w' ⟨rfl, rfl⟩
  go_wp2
  go_ret
  exact ⟨rfl, rfl⟩
theorem low_bad (a : Option Addr) (ca : Nat) (za : List Int) (w : World) (ha : Lie w a za) (hl : za.length ≤ maxLen) (pa : mayB za = false) :
    Calls Tryd.prog 118 #[.slice a za.length ca] w fun e w' => e = .returned (.int .i64 0) ∧ w = w' := by
  have HM := Hide.mk (may_no a ca za w ha hl pa)
  clear ha hl pa
  go_enter Tryd.func118, Tryd.ntmps118
  go_wp2_with fail
  refine HM.out.mono ?_
  rintro e w' ⟨rfl, rfl⟩
  go_wp2
  go_ret
  exact ⟨rfl, rfl⟩
theorem refLow_nil (a : Option Addr) (ca : Nat) (w : World) :
    Calls Tryd.prog 124 #[.slice a 0 ca] w fun e w' => e = .returned (.int .i64 0) ∧ w = w' := by
  go_enter Tryd.func124, Tryd.ntmps124
  go_wp2
  refine wp_loop_rounds 1 ?_
  rw [rounds_succ]
  go_wp2
  go_ret
  exact ⟨rfl, rfl⟩
theorem refLenN (a : Option Addr) (ca : Nat) (za : List Int) (w : World) {x : Int} (ha : Lie w a za) (ga : Good za x) :
    Calls Tryd.prog 73 #[.slice a za.length ca] w fun e w' => w = w' ∧ ∃ B : Nat, e = .returned (.int .i64 B) ∧ BitLen x B ∧ B ≤ 131072 := by
  by_cases hz : 0 < za.length
  · refine (refLen45 a ca za w ha ga.can hz (by have := ga.len; omega)).mono ?_
    rintro e w' ⟨rfl, B, rfl, h1, h2, h3⟩
    exact ⟨rfl, B, rfl, .inr ⟨ga.pos hz, by rw [← ga.val]; exact h1⟩, by have := ga.len; omega⟩
  · obtain ⟨rfl, h0⟩ := ga.nil (by omega)
    refine (refLen_nil a ca w).mono ?_
    rintro e w' ⟨rfl, rfl⟩
    exact ⟨rfl, 0, rfl, .inl ⟨h0, rfl⟩, by omega⟩
theorem refLowN (a : Option Addr) (ca : Nat) (za : List Int) (w : World) {x : Int} (ha : Lie w a za) (ga : Good za x) (hz : 0 < za.length) :
    Calls Tryd.prog 124 #[.slice a za.length ca] w fun e w' => w = w' ∧ ∃ t : Nat, e = .returned (.int .i64 t) ∧ LowBit x t ∧ t < 131072 := by
  refine (refLow59 a ca za w ha ga.can hz (by have := ga.len; omega)).mono ?_
  rintro e w' ⟨rfl, t, rfl, h1, h2⟩
  exact ⟨rfl, t, rfl, by rw [← ga.val]; exact h1, by have := ga.len; omega⟩
theorem refDownN (a : Option Addr) (ca : Nat) (za : List Int) (w : World) {x : Int} (ha : Lie w a za) (ga : Good za x) (M : Int) (n : Nat) (hM : M = (n : Int)) (hn : n ≤ 1000000) (q : Bool) (hq : decide (x % 2 ^ n ≠ 0) = q) :
    Calls Tryd.prog 91 #[.slice a za.length ca, .int .i64 M] w fun e w' => ∃ zs a' c, e = .returned (.tuple #[.slice a' zs.length c, .bool q]) ∧ IsNum w w' a' zs (x / 2 ^ n) ∧ Own w.heap.size w' (.slice a' zs.length c) zs := by
  subst hM
  subst hq
  by_cases hz : 0 < za.length
  · refine (refDown46 a ca za w n hn ha ga.can hz (by have := ga.len; omega)).mono ?_
    rintro e w' ⟨zs, a', c, h1, h2, h3, h4, h5⟩
    rw [ga.val] at h1 h4
    obtain ⟨a2, c2, he, _, _, hl⟩ := h2.lie
    simp only [Value.slice.injEq, true_and] at he
    obtain ⟨rfl, rfl⟩ := he
    refine ⟨zs, a', c, h1, ⟨h3, ?_, h4, hl, h5⟩, h2⟩
    refine (Nt.can_len h3 4096).1 ?_
    rw [h4]
    have h6 := ga.lt
    have h7 : x / 2 ^ n ≤ x := Int.ediv_le_self _ h6.1
    have := h6.2
    omega
  · obtain ⟨rfl, rfl⟩ := ga.nil (by omega)
    refine (refDown_nil a ca w _ (by omega)).mono ?_
    rintro e w' ⟨rfl, rfl⟩
    exact ⟨[], none, 0, by simp, isNum_nil _ (by simp), Own.nil _ _⟩
theorem refUpN (a : Option Addr) (ca : Nat) (za : List Int) (w : World) {x : Int} (ha : Lie w a za) (ga : Good za x) (M : Int) (n : Nat) (hM : M = (n : Int)) (hn : n ≤ 1000000) (hf : x * 2 ^ n < 4294967296 ^ 4096) :
    Calls Tryd.prog 82 #[.slice a za.length ca, .int .i64 M] w fun e w' => ∃ zs a' c, e = .returned (.slice a' zs.length c) ∧ IsNum w w' a' zs (x * 2 ^ n) ∧ Own w.heap.size w' (.slice a' zs.length c) zs := by
  subst hM
  refine (refUp_any a ca za w n hn ha ga.can.1 (by have := ga.len; omega)).mono ?_
  rintro e w' ⟨zs, a', c, h1, h2, h3, h4, h5⟩
  rw [ga.val] at h4
  obtain ⟨a2, c2, he, _, _, hl⟩ := h2.lie
  simp only [Value.slice.injEq, true_and] at he
  obtain ⟨rfl, rfl⟩ := he
  exact ⟨zs, a', c, h1, ⟨h3, (Nt.can_len h3 4096).1 (by rw [h4]; exact hf), h4, hl, h5⟩, h2⟩
theorem refMay_yes (a : Option Addr) (cap : Nat) (zs : List Int) (w : World) (hl : Lie w a zs) (hm : zs.length ≤ maxLen) (h : mayB zs = true) :
    Calls Tryd.prog 14 #[.slice a zs.length cap] w fun e w' => e = .returned (.bool true) ∧ w = w' := by
  rw [← h]; exact refMay14 a cap zs w hl hm
theorem refMay_no (a : Option Addr) (cap : Nat) (zs : List Int) (w : World) (hl : Lie w a zs) (hm : zs.length ≤ maxLen) (h : mayB zs = false) :
    Calls Tryd.prog 14 #[.slice a zs.length cap] w fun e w' => e = .returned (.bool false) ∧ w = w' := by
  rw [← h]; exact refMay14 a cap zs w hl hm
theorem lent_any (a : Option Addr) (ca : Nat) (za : List Int) (w : World) (ha : Lie w a za) (hl : za.length ≤ 1000000) (hnil : a = none → ca = 0) :
    Calls Tryd.prog 12 #[.slice a za.length ca] w fun e w' => ∃ a' c, e = .returned (.slice a' za.length c) ∧ Lie w' a' za ∧ Own w.heap.size w' (.slice a' za.length c) za ∧ Below w.heap.size w w' := by
  refine (lent12 a ca za w ha hl hnil).mono ?_
  rintro e w' ⟨a', c, rfl, ho, hb⟩
  obtain ⟨a2, c2, he, _, _, hl⟩ := ho.lie
  simp only [Value.slice.injEq, true_and] at he
  obtain ⟨rfl, rfl⟩ := he
  exact ⟨a', c, rfl, hl, ho, hb⟩
end Go.Proofs.YtiamdmfhkhlppaaDoor
