import Derived.Test.YtdnghibkagcbcaaGreatDoorRoundBetweenPart7
import Derived.RegionTactic
import Derived.WalkKit
import Derived.WalkSpells
import Derived.Below
import Derived.Laws.ResultCell
import Derived.Laws.Rows
import Derived.Laws.BitsAllLaws
namespace Go.Proofs.YtdnghibkagcbcaaGreatDoor
open Go.RowKit
set_option linter.unusedVariables false
set_option maxRecDepth 3000
theorem dv_sgn {ng : Bool} {zs : List Int} {ex v : Int} (h : DN ng zs ex v) : (zs.length ≤ 0 → v = 0) ∧ (0 < zs.length → ng = true → v < 0) ∧ (0 < zs.length → ng = false → 0 < v) := by
  have hp := pK_pos ex
  refine ⟨fun hz => ?_, fun hz hn => ?_, fun hz hn => ?_⟩
  · obtain ⟨rfl, rfl, rfl⟩ := h.dg.nil hz
    rw [← h.val, zero_dv]
  · have hx := h.dg.pos hz
    rw [← h.val]; unfold dv
    rw [hn, sv_t, Int.neg_mul]
    have := Int.mul_pos hx hp
    omega
  · have hx := h.dg.pos hz
    rw [← h.val]; unfold dv
    rw [hn, sv_f]
    exact Int.mul_pos hx hp
set_option maxHeartbeats 1000000 in
theorem dsign49 (ng : Bool) (a : Option Addr) (c : Nat) (zs : List Int) (ex v : Int) (w : World) (hl : Lie w a zs) (h : DN ng zs ex v) (s : Int) (hs : sgn v 0 = s) :
    Calls Tryz.prog 44 #[dV ng a zs.length c ex] w fun e w' => e = .returned (.int .i64 s) ∧ Below w.heap.size w w' := by
  have hb := below_alloc w (.cells #[.bool ng, .slice a zs.length c, .int .i64 ex] 26)
  have hd := dcell_new w (.bool ng) (.slice a zs.length c) (.int .i64 ex)
  obtain ⟨k1, k2, k3⟩ := dv_sgn h
  have HM := Hide.mk ((h.dg.lie hl).may ng c ex true h.dg.may _ hb)
  have hsz : w.heap.size < (w.alloc (.cells #[.bool ng, .slice a zs.length c, .int .i64 ex] 26)).heap.size := by simp
  by_cases hz : 0 < zs.length
  · have HN := fun W => Hide.mk (nought_no a zs.length c W hz)
    cases ng
    · have e : s = 1 := by rw [← hs]; unfold sgn; have := k3 hz rfl; rw [if_neg (by omega), if_pos this]
      subst e
      clear k1 k2 k3 hs hl
      go_enter Tryz.func44, Tryz.ntmps44
      go_wp2_with fail
      refine HM.out.mono ?_
      rintro e w2 ⟨rfl, h2⟩
      have hb2 := below_then hb h2
      have hd2 := hd.below h2 hsz
      clear h2 hd
      have q0 := hd2.c0
      have q1 := hd2.c1
      go_wp2_with fail
      refine (HN _).out.mono ?_
      rintro e w' ⟨rfl, rfl⟩
      go_wp2
      go_ret
      exact ⟨rfl, hb2⟩
    · have e : s = -1 := by rw [← hs]; unfold sgn; have := k2 hz rfl; rw [if_pos this]
      subst e
      clear k1 k2 k3 hs hl
      go_enter Tryz.func44, Tryz.ntmps44
      go_wp2_with fail
      refine HM.out.mono ?_
      rintro e w2 ⟨rfl, h2⟩
      have hb2 := below_then hb h2
      have hd2 := hd.below h2 hsz
      clear h2 hd
      have q0 := hd2.c0
      have q1 := hd2.c1
      go_wp2_with fail
      refine (HN _).out.mono ?_
      rintro e w' ⟨rfl, rfl⟩
      go_wp2
      go_ret
      exact ⟨rfl, hb2⟩
  · have HN := fun W => Hide.mk (nought_yes a zs.length c W (by omega))
    have e : s = 0 := by rw [← hs, k1 (by omega)]; rfl
    subst e
    clear k1 k2 k3 hs hl
    go_enter Tryz.func44, Tryz.ntmps44
    go_wp2_with fail
    refine HM.out.mono ?_
    rintro e w2 ⟨rfl, h2⟩
    have hb2 := below_then hb h2
    have hd2 := hd.below h2 hsz
    clear h2 hd
    have q0 := hd2.c0
    have q1 := hd2.c1
    go_wp2_with fail
    refine (HN _).out.mono ?_
    rintro e w' ⟨rfl, rfl⟩
    go_wp2
    go_ret
    exact ⟨rfl, hb2⟩

set_option maxHeartbeats 1000000 in
theorem dtop96 (ng : Bool) (a : Option Addr) (c : Nat) (zs : List Int) (ex : Int) (w : World) (hl : Lie w a zs) (h : DG ng zs ex) :
    Calls Tryz.prog 130 #[dV ng a zs.length c ex] w fun e w' => ∃ B : Nat, e = .returned (.int .i64 (B + ex)) ∧ BitLen (Nt.val zs) B ∧ B ≤ 131072 ∧ Below w.heap.size w w' := by
  have hb := below_alloc w (.cells #[.bool ng, .slice a zs.length c, .int .i64 ex] 26)
  have hd := dcell_new w (.bool ng) (.slice a zs.length c) (.int .i64 ex)
  have hx := h.ex_bd
  have g := h.good
  go_enter Tryz.func130, Tryz.ntmps130
  go_wp2_with fail
  generalize hw1 : w.alloc (.cells #[.bool ng, .slice a zs.length c, .int .i64 ex] 26) = w1 at *
  have hsz : w.heap.size + 1 = w1.heap.size := by rw [← hw1]; simp
  clear hw1
  have HI : Below (w.heap.size + 1) w1 w1.drew := (Below.refl _ _).drew
  have l1 := hl.below hb.drew (Nat.le_refl _)
  refine Drawn.enter (fun W => Below (w.heap.size + 1) w1 W) (by kernel_rfl) ?_
  refine Drawn.tk (i := 0) (v := .pointer (some ⟨w.heap.size, 1, none⟩)) rfl (fun W hW => ?_) HI ?_ (hw := rfl)
  · go_simp
  refine Drawn.tk (i := 1) (v := .slice a zs.length c) rfl (fun W hW => ?_) HI ?_ (hw := rfl)
  · have hc0 := below_cell2 hW (by simp) hd.c1
    go_simp
  refine Drawn.tk (i := 3) (v := .pointer (some ⟨w.heap.size, 2, none⟩)) rfl (fun W hW => ?_) HI ?_ (hw := rfl)
  · go_simp
  refine Drawn.tk (i := 4) (v := .int .i64 ex) rfl (fun W hW => ?_) HI ?_ (hw := rfl)
  · have hc0 := below_cell2 hW (by simp) hd.c2
    go_simp
  refine Drawn.one (j := 2) (by kernel_rfl) rfl (fun K hK => ?_)
  go_simp
  refine (lenN a c zs _ l1 g).mono ?_
  rintro e w' ⟨rfl, B, rfl, hB, hB1⟩
  refine hK _ _ HI ?_
  clear hK K
  have HBB := Hide.mk hB
  clear hB
  refine Drawn.tk (i := 5) (v := .int .i64 ((B : Int) + ex)) rfl (fun W hW => ?_) HI ?_ (hw := rfl)
  · go_simp
    exact wrap_ok (by omega) (by omega)
  refine Drawn.tk (i := 6) (v := .int .i64 ((B : Int) + ex)) rfl (fun W hW => ?_) HI ?_ (hw := rfl)
  · go_simp
  refine Drawn.done (by kernel_rfl) ?_
  go_wp2
  go_ret
  exact ⟨B, rfl, HBB.out, hB1, hb.drew⟩
/-- The sizes, by their tops. -/
theorem tops_lt {x y e1 e2 : Int} {B C : Nat} (hx : Bits x B) (hy : Bits y C) (h1 : -(KK : Int) ≤ e1) (h2 : -(KK : Int) ≤ e2) (h : (B : Int) + e1 < C + e2) : x * pK e1 < y * pK e2 := by
  unfold pK
  have p1 := p2pos (e1 + KK).toNat
  have p2 := p2pos (e2 + KK).toNat
  have k1 : x * 2 ^ (e1 + KK).toNat < 2 ^ B * 2 ^ (e1 + KK).toNat := Int.mul_lt_mul_of_pos_right hx.lt p1
  rw [← Int.pow_add] at k1
  have k2 := p2mono (show B + (e1 + KK).toNat + 1 ≤ C + (e2 + KK).toNat by omega)
  rw [p2succ] at k2
  have k3 : 2 ^ C * 2 ^ (e2 + KK).toNat ≤ 2 * y * 2 ^ (e2 + KK).toNat := Int.mul_le_mul_of_nonneg_right hy.le (by omega)
  rw [← Int.pow_add, Int.mul_assoc] at k3
  omega
theorem sgn_scale {x y k : Int} (hk : 0 < k) : sgn (x * k) (y * k) = sgn x y := by
  unfold sgn
  rcases Int.lt_trichotomy x y with c | c | c
  · have := Int.mul_lt_mul_of_pos_right c hk
    rw [if_pos c, if_pos this]
  · subst c; simp
  · have := Int.mul_lt_mul_of_pos_right c hk
    rw [if_neg (show ¬ x * k < y * k by omega), if_pos this, if_neg (show ¬ x < y by omega), if_pos c]
theorem level_scale {x e m : Int} (hm : -(KK : Int) ≤ m) (h : m ≤ e) : x * pK e = x * 2 ^ (e - m).toNat * pK m := by
  have := pK_add hm (e - m).toNat
  rw [show m + ((e - m).toNat : Int) = e by omega] at this
  rw [this, Int.mul_assoc, Int.mul_comm (pK m)]
theorem sizes_eq {x y e1 e2 m : Int} (h1 : m ≤ e1) (h2 : m ≤ e2) (hm : -(KK : Int) ≤ m) : sgn (x * pK e1) (y * pK e2) = sgn (x * 2 ^ (e1 - m).toNat) (y * 2 ^ (e2 - m).toNat) := by
  rw [level_scale hm h1, level_scale hm h2, sgn_scale (pK_pos m)]
end Go.Proofs.YtdnghibkagcbcaaGreatDoor

set_option linter.unusedVariables false
namespace Go.Drawn
open Go
section
variable {P : Program} {ops : Array Oper} {Q : Exit → Act → World → Prop} {md : Region.Mode} {I : World → Prop}
/-- Two operations are ready: both ways. -/
theorem pair {i j : Nat} {oi oj : Oper} {n : Nat} {listed : Array Bool} {a : Act} {w : World} (hr : Region.ready md ops listed = [i, j]) (hi : ops[i]? = some oi) (hj : ops[j]? = some oj)
    (h1 : ∀ K : Act → World → Prop, (∀ a w, I w → wpIn P md ops Q I n (listed.setIfInBounds i true) a w → K a w) → if Region.wanted oi (yielded ops a.tmps) = true then Oper.wp P oi a w K Q else K (a.put oi.dst undef) w)
    (h2 : ∀ K : Act → World → Prop, (∀ a w, I w → wpIn P md ops Q I n (listed.setIfInBounds j true) a w → K a w) → if Region.wanted oj (yielded ops a.tmps) = true then Oper.wp P oj a w K Q else K (a.put oj.dst undef) w) :
    wpIn P md ops Q I (n + 1) listed a w := by
  refine ⟨fun h0 => absurd (hr.symm.trans h0) (by simp), fun k hk => ?_⟩
  rw [hr] at hk
  rcases List.mem_cons.1 hk with rfl | hk
  · exact wpOp_step hi (fun K hK => h1 K fun a w k1 k2 => hK a w ⟨k1, k2⟩)
  · obtain rfl := List.mem_singleton.1 hk
    exact wpOp_step hj (fun K hK => h2 K fun a w k1 k2 => hK a w ⟨k1, k2⟩)
end
end Go.Drawn

namespace Go.Proofs.YtdnghibkagcbcaaGreatDoor
open Go.RowKit
set_option linter.unusedVariables false
set_option maxRecDepth 3000
theorem DV.after {w w' w2 : World} {s E : Int} {ng : Bool} {a : Option Addr} {n c : Nat} {ex code : Int} (h : DV w w' s E ng a n c ex code) (hb : Below w'.heap.size w' w2) : DV w w2 s E ng a n c ex code := by
  refine ⟨below_then h.bel hb, ?_⟩
  rcases h.all with h1 | ⟨h1, t, h2, h3⟩
  · exact .inl h1
  · refine .inr ⟨h1, t, h2, ?_⟩
    rcases h3 with ⟨k1, k2, k3, k4, k5, zs, k6, k7, k8⟩ | h3
    · exact .inl ⟨k1, k2, k3, k4, k5, zs, k6, k7, k8.below hb (Nat.le_refl _)⟩
    · exact .inr h3
theorem DN.low {ng : Bool} {zs : List Int} {ex v : Int} (h : DN ng zs ex v) (hz : 0 < zs.length) : LowBit (v.natAbs : Int) (ex + KK).toNat ∧ v ≠ 0 := by
  have hp := pK_pos ex
  have hx := h.dg.pos hz
  have e : (v.natAbs : Int) = Nt.val zs * 2 ^ (ex + KK).toNat := by
    rw [← h.val]; unfold dv pK
    rw [natAbs_mul_pow, sv_abs _ (by omega)]
  have hl := (odd_low (h.dg.odd hz)).up (ex + KK).toNat
  rw [Nat.zero_add] at hl
  refine ⟨by rw [e]; exact hl, fun c => ?_⟩
  have : Nt.val zs * 2 ^ (ex + KK).toNat ≠ 0 := fun c2 => by rcases Int.mul_eq_zero.1 c2 with c3 | c3 <;> have := p2pos (ex + KK).toNat <;> omega
  omega
theorem DN.whole {ng : Bool} {zs : List Int} {ex v : Int} (h : DN ng zs ex v) : (0 ≤ ex ↔ v % 2 ^ KK = 0) := by
  have hx := h.dg.ex_bd
  have hK := KK_int
  by_cases hz : 0 < zs.length
  · obtain ⟨hl, hv⟩ := h.low hz
    have := low_lost (n := KK) hl
    have e : (v.natAbs : Int) % 2 ^ KK = 0 ↔ v % 2 ^ KK = 0 := by
      constructor
      · intro c
        obtain ⟨m, hm⟩ := Int.dvd_of_emod_eq_zero c
        by_cases q : 0 ≤ v
        · exact Int.emod_eq_zero_of_dvd ⟨m, by rw [← hm]; omega⟩
        · exact Int.emod_eq_zero_of_dvd ⟨-m, by rw [Int.mul_neg, ← hm]; omega⟩
      · intro c
        obtain ⟨m, hm⟩ := Int.dvd_of_emod_eq_zero c
        by_cases q : 0 ≤ v
        · exact Int.emod_eq_zero_of_dvd ⟨m, by rw [← hm]; omega⟩
        · exact Int.emod_eq_zero_of_dvd ⟨-m, by rw [Int.mul_neg, ← hm]; omega⟩
    by_cases c : 0 ≤ ex
    · rw [decide_eq_false (by omega)] at this
      exact ⟨fun _ => e.1 (by simpa using this), fun _ => c⟩
    · rw [decide_eq_true (by omega)] at this
      exact ⟨fun k => absurd k c, fun k => absurd (e.2 k) (by simpa using this)⟩
  · obtain ⟨rfl, rfl, rfl⟩ := h.dg.nil (by omega)
    rw [← h.val, zero_dv]
    simp
theorem set_cell {w : World} {g b j i : Nat} (h : b ≠ g) (u : Value) : (w.setCell ⟨g, j, none⟩ u).cell? ⟨b, i, none⟩ = w.cell? ⟨b, i, none⟩ :=
  World.cell?_setCell_other _ _ _ _ (by intro c; cases c; exact h rfl)
theorem set3_cell {w : World} {g b i : Nat} (h : b ≠ g) (u0 u1 u2 : Value) : (((w.setCell ⟨g, 0, none⟩ u0).setCell ⟨g, 1, none⟩ u1).setCell ⟨g, 2, none⟩ u2).cell? ⟨b, i, none⟩ = w.cell? ⟨b, i, none⟩ := by
  rw [set_cell h, set_cell h, set_cell h]
/-- A fresh box holds no digit. -/
theorem no_digit {w : World} {g i : Nat} {k : IntKind} {x : Int} (hd : DCell w g #[.bool false, .slice none 0 0, .int .i64 0]) (hk : k ≠ .i64) : w.cell? ⟨g, i, none⟩ ≠ some (.int k x) := by
  rw [cell_of_row w g i _ 26 (0, 0) hd.1]
  match i with
  | 0 => intro h; cases h
  | 1 => intro h; cases h
  | 2 => intro h; injection h with h; injection h with h1 h2; exact hk h1.symm
  | n + 3 => intro h; simp at h
theorem Live.set3 {w : World} {g : Nat} (hd : DCell w g #[.bool false, .slice none 0 0, .int .i64 0]) (u0 u1 u2 : Value) {l : List (Option Addr × List Int)} (h : Live w l) : Live (((w.setCell ⟨g, 0, none⟩ u0).setCell ⟨g, 1, none⟩ u1).setCell ⟨g, 2, none⟩ u2) l := by
  refine ⟨fun p hp => ?_⟩
  rcases h.all p hp with h1 | ⟨b, o, h1, h2⟩
  · exact .inl h1
  · refine .inr ⟨b, o, h1, fun i hi => ?_⟩
    have k := h2 i hi
    rw [set3_cell (fun c => no_digit (k := .u32) hd (by decide) (by rw [← c]; exact k))]
    exact k
theorem Tab.set3 {w : World} {g : Nat} (hd : DCell w g #[.bool false, .slice none 0 0, .int .i64 0]) (u0 u1 u2 : Value) (h : Tab w) : Tab (((w.setCell ⟨g, 0, none⟩ u0).setCell ⟨g, 1, none⟩ u1).setCell ⟨g, 2, none⟩ u2) := by
  intro j hj
  have k := h j hj
  rw [set3_cell (fun c => no_digit (k := .u8) hd (by decide) (by rw [← c]; exact k))]
  exact k
theorem Boxes.set3 {w : World} {g : Nat} (hd : DCell w g #[.bool false, .slice none 0 0, .int .i64 0]) (u0 u1 u2 : Value) {l : List (Nat × Array Value)} (h : Boxes w l) (hl : ∀ p ∈ l, p.1 ≠ g) : Boxes (((w.setCell ⟨g, 0, none⟩ u0).setCell ⟨g, 1, none⟩ u1).setCell ⟨g, 2, none⟩ u2) ((g, #[u0, u1, u2]) :: l) := by
  refine ⟨fun p hp => ?_⟩
  rcases List.mem_cons.1 hp with rfl | hp
  · exact ((hd.set 0 u0).set 1 u1).set 2 u2
  · have k := h.all p hp
    refine ⟨?_, k.2⟩
    rw [heap_setCell_other _ _ _ _ (hl p hp), heap_setCell_other _ _ _ _ (hl p hp), heap_setCell_other _ _ _ _ (hl p hp)]
    exact k.1
end Go.Proofs.YtdnghibkagcbcaaGreatDoor

namespace Go.Proofs.YtdnghibkagcbcaaGreatDoor
open Go.RowKit
set_option linter.unusedVariables false
set_option maxRecDepth 3000
theorem drefmay_nil37 (ng : Bool) (a : Option Addr) (cap : Nat) (ex : Int) (w : World) (q : Bool) (hq : (!ng && ex == 0) = q) :
    Calls Tryz.prog 52 #[dV ng a 0 cap ex] w fun e w' => e = .returned (.bool q) ∧ Below w.heap.size w w' := by
  have HM := Hide.mk (refMay_yes a cap [] (w.alloc (.cells #[.bool ng, .slice a 0 cap, .int .i64 ex] 26)) (.inl rfl) (by unfold maxLen; simp) rfl)
  cases ng
  · by_cases h0 : ex = 0
    · subst h0
      have : q = true := by rw [← hq]; rfl
      subst this
      go_enter Tryz.func52, Tryz.ntmps52
      go_wp2_with fail
      refine HM.out.mono ?_
      rintro e w' ⟨rfl, rfl⟩
      go_wp2
      go_ret
      exact ⟨rfl, below_alloc _ _⟩
    · have hb : (ex == 0) = false := by simp [h0]
      have : q = false := by rw [← hq, hb]; rfl
      subst this
      go_enter Tryz.func52, Tryz.ntmps52
      go_wp2_with fail
      refine HM.out.mono ?_
      rintro e w' ⟨rfl, rfl⟩
      go_wp2
      go_ret
      exact ⟨rfl, below_alloc _ _⟩
  · have : q = false := by rw [← hq]; rfl
    subst this
    go_enter Tryz.func52, Tryz.ntmps52
    go_wp2_with fail
    refine HM.out.mono ?_
    rintro e w' ⟨rfl, rfl⟩
    go_wp2
    go_ret
    exact ⟨rfl, below_alloc _ _⟩
set_option maxHeartbeats 1000000 in
theorem drefmay_num37 (ng : Bool) (a : Option Addr) (cap : Nat) (zs : List Int) (ex : Int) (w : World) (ha : Lie w a zs) (hl : zs.length ≤ maxLen) (hr : Nt.Rng zs) (hz : 0 < zs.length) :
    Calls Tryz.prog 52 #[dV ng a zs.length cap ex] w fun e w' => e = .returned (.bool (mayB zs && zs.getD 0 0 % 2 == 1 && decide (-16777216 ≤ ex) && decide (ex ≤ 16777216))) ∧ Below w.heap.size w w' := by
  have hb := below_alloc w (.cells #[.bool ng, .slice a zs.length cap, .int .i64 ex] 26)
  have HM := fun q (h : mayB zs = q) => Hide.mk (show Calls Tryz.prog 86 #[.slice a zs.length cap] (w.alloc (.cells #[.bool ng, .slice a zs.length cap, .int .i64 ex] 26)) fun e w' => e = .returned (.bool q) ∧ (w.alloc (.cells #[.bool ng, .slice a zs.length cap, .int .i64 ex] 26)) = w' by rw [← h]; exact refMay14 a cap zs _ (ha.below hb (Nat.le_refl _)) hl)
  obtain ⟨b, o, rfl⟩ := lie_some ha hz
  have hc : (w.alloc (.cells #[.bool ng, .slice (some ⟨b, o, none⟩) zs.length cap, .int .i64 ex] 26)).cell? ⟨b, o, none⟩ = some (.int .u32 (zs.getD 0 0)) := lie_cell (ha.below hb (Nat.le_refl _)) rfl hz
  have h01 := hr 0
  have HB := Hide.mk hb
  have hne : ((zs.length : Int) == 0) = false := beq_eq_false_iff_ne.2 (by omega)
  clear ha hb hr
  generalize zs.getD 0 0 = x at *
  cases hp : mayB zs
  · have HM2 := HM false hp
    clear HM hp hc
    go_enter Tryz.func52, Tryz.ntmps52
    go_wp2_with fail
    refine HM2.out.mono ?_
    rintro e w' ⟨rfl, rfl⟩
    go_wp2
    go_ret
    exact ⟨rfl, HB.out⟩
  · have HM2 := HM true hp
    clear HM hp
    rw [Bool.true_and]
    by_cases hodd : x % 2 = 1
    · have ho : (x % 2 == 1) = true := by simp [hodd]
      rw [ho, Bool.true_and]
      clear hodd
      by_cases h1 : -16777216 ≤ ex
      · by_cases h2 : ex ≤ 16777216
        · rw [decide_eq_true h1, decide_eq_true h2]
          go_enter Tryz.func52, Tryz.ntmps52
          go_wp2_with fail
          refine HM2.out.mono ?_
          rintro e w' ⟨rfl, rfl⟩
          go_wp2
          go_ret
          exact ⟨by simp, HB.out⟩
        · rw [decide_eq_true h1, decide_eq_false h2]
          go_enter Tryz.func52, Tryz.ntmps52
          go_wp2_with fail
          refine HM2.out.mono ?_
          rintro e w' ⟨rfl, rfl⟩
          go_wp2
          go_ret
          exact ⟨by simp [h2], HB.out⟩
      · rw [decide_eq_false h1, Bool.false_and]
        go_enter Tryz.func52, Tryz.ntmps52
        go_wp2_with fail
        refine HM2.out.mono ?_
        rintro e w' ⟨rfl, rfl⟩
        go_wp2
        go_ret
        exact ⟨rfl, HB.out⟩
    · have ho : (x % 2 == 1) = false := by simp [hodd]
      rw [ho, Bool.false_and]
      clear hodd
      go_enter Tryz.func52, Tryz.ntmps52
      go_wp2_with fail
      refine HM2.out.mono ?_
      rintro e w' ⟨rfl, rfl⟩
      go_wp2
      go_ret
      exact ⟨rfl, HB.out⟩
theorem drefmay37 (ng : Bool) (a : Option Addr) (cap : Nat) (zs : List Int) (ex : Int) (w : World) (u : DLie w a zs) (q : Bool) (hq : dmayB ng zs ex = q) :
    Calls Tryz.prog 52 #[dV ng a zs.length cap ex] w fun e w' => e = .returned (.bool q) ∧ Below w.heap.size w w' := by
  by_cases hz : 0 < zs.length
  · have e : dmayB ng zs ex = (mayB zs && zs.getD 0 0 % 2 == 1 && decide (-16777216 ≤ ex) && decide (ex ≤ 16777216)) := by
      unfold dmayB; rw [if_neg (by omega)]
    rw [← hq, e]
    exact drefmay_num37 ng a cap zs ex w u.lie u.len u.rng hz
  · have e0 : zs = [] := List.length_eq_zero_iff.1 (by omega)
    subst e0
    exact drefmay_nil37 ng a cap ex w q hq
theorem dmake38 (ng : Bool) (a : Option Addr) (cap : Nat) (zs : List Int) (ex : Int) (w : World) (u : DLie w a zs) (h : mayB zs = true) (hT : Tab w) (hx1 : -9223372036854775808 ≤ ex) (hx2 : ex ≤ 9223372036854775807) :
    Calls Tryz.prog 110 #[.bool ng, .slice a zs.length cap, .int .i64 ex] w fun e w' => DRes w w' (sv ng (Nt.val zs)) ex e := by
  have hb := below_alloc w (.cells #[.bool false, .slice none 0 0, .int .i64 0] 26)
  have hd := dcell_new w (.bool false) (.slice none 0 0) (.int .i64 0)
  have hsz : w.heap.size < (w.alloc (.cells #[.bool false, .slice none 0 0, .int .i64 0] 26)).heap.size := by simp
  have HM := Hide.mk (may_yes a cap zs _ (u.lie.below hb (Nat.le_refl _)) u.len h)
  have g : Good zs (Nt.val zs) := ⟨(may_can u.rng h).1, (may_can u.rng h).2, rfl⟩
  go_enter Tryz.func110, Tryz.ntmps110
  go_wp2_with fail
  refine HM.out.mono ?_
  rintro e w' ⟨rfl, rfl⟩
  go_wp2_with fail
  refine (formedR ng a cap zs ex _ (u.lie.below hb (Nat.le_refl _)) g (hT.below hb (Nat.le_refl _)) hx1 hx2).mono ?_
  rintro e w3 ⟨n9, aa, k, c, xx, code, rfl, hv⟩
  have hd3 := hd.below hv.bel hsz
  have HV := Hide.mk hv
  clear hv hd
  have f0 := hd3.c0
  have f1 := hd3.c1
  have f2 := hd3.c2
  have r0 := hd3.fr 0
  have r1 := hd3.fr 1
  have r2 := hd3.fr 2
  go_wp2
  refine bodyPost_ret (results_D2 rfl _ _ w.heap.size _ rfl (((hd3.set 0 _).set 1 _).set 2 _)) rfl ?_
  exact DRes.back HV.out hb (Nat.le_refl _) hsz _ _ _

set_option maxHeartbeats 1000000 in
/-- The reference's form. -/
theorem dform41 (ng : Bool) (a : Option Addr) (ca : Nat) (za : List Int) (ex : Int) (w : World) {x : Int} (ha : Lie w a za) (ga : Good za x) (hz : 0 < za.length) {t : Nat} (ht : LowBit x t) (h0 : -9000000000000000000 ≤ ex) (h1 : ex ≤ 9000000000000000000) :
    Calls Tryz.prog 70 #[.bool ng, .slice a za.length ca, .int .i64 ex] w fun e w' => ∃ zs a' c, e = .returned (dV ng a' zs.length c (ex + t)) ∧ IsNum w w' a' zs (x / 2 ^ t) := by
  have hb := below_alloc w (.cells #[.bool false, .slice none 0 0, .int .i64 0] 26)
  have hd := dcell_new w (.bool false) (.slice none 0 0) (.int .i64 0)
  have hsz : w.heap.size < (w.alloc (.cells #[.bool false, .slice none 0 0, .int .i64 0] 26)).heap.size := by simp
  have htl := low_lt ht (ga.pos hz) ga.lt.2
  have l1 := ha.below hb (Nat.le_refl _)
  have HL := Hide.mk (refLowN a ca za _ l1 ga hz)
  have HD := Hide.mk (refDownN a ca za _ l1 ga (t : Int) t rfl (by omega) _ rfl)
  have Ht := Hide.mk ht
  have hne : ((za.length : Int) == 0) = false := beq_eq_false_iff_ne.2 (by omega)
  clear ha l1 ht
  generalize decide (x % 2 ^ t ≠ 0) = q at *
  go_enter Tryz.func70, Tryz.ntmps70
  go_wp2_with fail
  refine HL.out.mono ?_
  rintro e w' ⟨rfl, t2, rfl, ht2, _⟩
  obtain rfl := ht2.unique Ht.out
  clear ht2 HL
  go_wp2_with fail
  refine HD.out.mono ?_
  rintro e w3 ⟨zs, a', c, rfl, h3, h4⟩
  have hd3 := hd.below h3.bel hsz
  have H := Hide.mk (And.intro h3 h4)
  clear h3 h4 hd HD
  have f0 := hd3.c0
  have f1 := hd3.c1
  have f2 := hd3.c2
  have r0 := hd3.fr 0
  have r1 := hd3.fr 1
  have r2 := hd3.fr 2
  generalize hu : (t2 : Int) = u at *
  have hu0 : 0 ≤ u := by omega
  have hu1 : u < 131072 := by omega
  have HU := Hide.mk hu
  clear hu htl
  go_wp2
  refine bodyPost_ret (results_D1 rfl _ _ w.heap.size _ rfl (((hd3.set 0 _).set 1 _).set 2 _)) rfl ?_
  have hm := made_set H.out.1 H.out.2 (.bool ng) (.slice a' zs.length c) (.int .i64 (ex + u))
  exact ⟨zs, a', c, by rw [HU.out]; rfl, hm.1⟩

theorem DCell.off {w : World} {g g' j : Nat} {cs : Array Value} (h : DCell w g cs) (hne : g ≠ g') (x : Value) : DCell (w.setCell ⟨g', j, none⟩ x) g cs := ⟨by rw [heap_setCell_other _ _ _ _ hne]; exact h.1, h.2⟩
/-- Digits that may be written over: a row of their own, from block B on. -/
def WrA (B : Nat) (w : World) (a : Option Addr) (n : Nat) : Prop := n = 0 ∨ ∃ g cur, a = some ⟨g, 0, none⟩ ∧ B ≤ g ∧ w.heap[g]? = some (.cells cur 108 (0, 0)) ∧ n ≤ cur.size
theorem Own.wrA {B : Nat} {w : World} {a : Option Addr} {c : Nat} {zs : List Int} (h : Own B w (.slice a zs.length c) zs) : WrA B w a zs.length := by
  rcases h.2 with ⟨hv, h0⟩ | ⟨g, cap, cur, hv, hB, hg, hn, hm, hsz, ht⟩
  · exact .inl h0
  · simp only [Value.slice.injEq] at hv
    exact .inr ⟨g, cur, hv.1, hB, hg, by omega⟩
theorem WrA.below {B C : Nat} {w w' : World} {a : Option Addr} {n : Nat} (h : WrA B w a n) (hb : Below w.heap.size w w') : WrA B w' a n := by
  rcases h with h | ⟨g, cur, h1, h2, h3, h4⟩
  · exact .inl h
  · exact .inr ⟨g, cur, h1, h2, (hb.block g (Array.getElem?_eq_some_iff.1 h3).1).trans h3, h4⟩
theorem WrA.set {B g k : Nat} {w : World} {a : Option Addr} {n : Nat} {cur : Array Value} (h : WrA B w a n) (hg : w.heap[g]? = some (.cells cur 108 (0, 0))) (u : Value) : WrA B (w.setCell ⟨g, k, none⟩ u) a n := by
  rcases h with h | ⟨g', cur', h1, h2, h3, h4⟩
  · exact .inl h
  · by_cases e : g' = g
    · subst e
      rw [hg] at h3
      cases h3
      exact .inr ⟨g', _, h1, h2, heap_setCell_same w g' k cur 108 u hg, by simpa using h4⟩
    · exact .inr ⟨g', cur', h1, h2, by rw [heap_setCell_other _ _ _ _ e]; exact h3, h4⟩
/-- What stays while the digits are written over. -/
structure MInv (B : Nat) (w : World) (b : Nat) (rc : Array Value) (l : List Arg) (wr : World) : Prop where
  bel : Below B w wr
  row : wr.heap[b]? = some (.cells rc 26 (0, 0))
  wr : ∀ (i : Nat) (x : Arg), l[i]? = some x → WrA B wr x.a x.zs.length
theorem MInv.set {B b g k : Nat} {w wr : World} {rc cur : Array Value} {l : List Arg} (h : MInv B w b rc l wr) (hB : B ≤ g) (hg : wr.heap[g]? = some (.cells cur 108 (0, 0))) (u : Value) : MInv B w b rc l (wr.setCell ⟨g, k, none⟩ u) := by
  have hne : b ≠ g := by
    intro e
    subst e
    have := h.row
    rw [hg] at this
    cases this
  exact ⟨h.bel.setCell (p := ⟨g, k, none⟩) hB u, by rw [heap_setCell_other _ _ _ _ hne]; exact h.row, fun i x hx => (h.wr i x hx).set hg u⟩
theorem dmake_ok (ng : Bool) (a : Option Addr) (cap : Nat) (zs : List Int) (ex : Int) (w : World) (u : DLie w a zs) (h : mayB zs = true) (hT : Tab w) (hx1 : -9223372036854775808 ≤ ex) (hx2 : ex ≤ 9223372036854775807) {t : Nat} (hz : 0 < zs.length) (ht : LowBit (Nt.val zs) t) (h0 : -16777216 ≤ ex + t) (h1 : ex + t ≤ 16777216) :
    Calls Tryz.prog 110 #[.bool ng, .slice a zs.length cap, .int .i64 ex] w fun e w' => ∃ ys a' c, e = .returned (.tuple #[dV ng a' ys.length c (ex + t), .int .i64 0]) ∧ IsNum w w' a' ys (Nt.val zs / 2 ^ t) ∧ Own w.heap.size w' (.slice a' ys.length c) ys := by
  have g : Good zs (Nt.val zs) := ⟨(may_can u.rng h).1, (may_can u.rng h).2, rfl⟩
  have hp := g.pos hz
  have hab := sv_abs ng (Int.le_of_lt hp)
  refine (dmake38 ng a cap zs ex w u h hT hx1 hx2).mono ?_
  rintro e w' ⟨n9, a9, k9, c9, x9, code, rfl, hv⟩
  rcases hv.all with ⟨hs, _⟩ | ⟨hs, t2, ht2, hh⟩
  · have := (sv_zero ng).1 hs; omega
  · rw [hab] at ht2 hh
    obtain rfl := ht2.unique ht
    rcases hh with ⟨j1, j2, rfl, rfl, rfl, ys, rfl, j3, j4⟩ | ⟨j1, _⟩ | ⟨_, j1, _⟩
    · obtain ⟨a2, c2, he, _, _, hl⟩ := j4.lie
      simp only [Value.slice.injEq, true_and] at he
      obtain ⟨rfl, rfl⟩ := he
      exact ⟨ys, a9, c9, by rw [sv_neg ng hp], ⟨j3.can, j3.len, j3.val, hl, hv.bel⟩, j4⟩
    · have := g.lt.2
      have : Nt.val zs / 2 ^ t2 ≤ Nt.val zs := Int.ediv_le_self _ (by omega)
      omega
    · omega
end Go.Proofs.YtdnghibkagcbcaaGreatDoor

namespace Go.Proofs.YtdnghibkagcbcaaGreatDoor
open Go.RowKit
set_option linter.unusedVariables false
set_option maxRecDepth 3000
set_option maxHeartbeats 1000000 in
theorem dreftop54 (ng : Bool) (a : Option Addr) (c : Nat) (zs : List Int) (ex : Int) (w : World) (hl : Lie w a zs) (h : DG ng zs ex) (hz : 0 < zs.length) :
    Calls Tryz.prog 55 #[dV ng a zs.length c ex] w fun e w' => ∃ B : Nat, e = .returned (.int .i64 (ex + B)) ∧ BitLen (Nt.val zs) B ∧ B ≤ 131072 ∧ Below w.heap.size w w' := by
  have hb := below_alloc w (.cells #[.bool ng, .slice a zs.length c, .int .i64 ex] 26)
  have hd := dcell_new w (.bool ng) (.slice a zs.length c) (.int .i64 ex)
  have hx := h.ex_bd
  have g := h.good
  have hne : ((zs.length : Int) == 0) = false := beq_eq_false_iff_ne.2 (by omega)
  go_enter Tryz.func55, Tryz.ntmps55
  go_wp2_with fail
  generalize hw1 : w.alloc (.cells #[.bool ng, .slice a zs.length c, .int .i64 ex] 26) = w1 at *
  have hsz : w.heap.size + 1 = w1.heap.size := by rw [← hw1]; simp
  clear hw1
  have HI : Below (w.heap.size + 1) w1 w1.drew := (Below.refl _ _).drew
  have l1 := hl.below hb.drew (Nat.le_refl _)
  refine Drawn.enter (fun W => Below (w.heap.size + 1) w1 W) (by kernel_rfl) ?_
  refine Drawn.tk (i := 0) (v := .pointer (some ⟨w.heap.size, 2, none⟩)) rfl (fun W hW => ?_) HI ?_ (hw := rfl)
  · go_simp
  refine Drawn.tk (i := 1) (v := .int .i64 ex) rfl (fun W hW => ?_) HI ?_ (hw := rfl)
  · have hc0 := below_cell2 hW (by simp) hd.c2
    go_simp
  refine Drawn.tk (i := 2) (v := .pointer (some ⟨w.heap.size, 1, none⟩)) rfl (fun W hW => ?_) HI ?_ (hw := rfl)
  · go_simp
  refine Drawn.tk (i := 3) (v := .slice a zs.length c) rfl (fun W hW => ?_) HI ?_ (hw := rfl)
  · have hc0 := below_cell2 hW (by simp) hd.c1
    go_simp
  refine Drawn.one (j := 4) (by kernel_rfl) rfl (fun K hK => ?_)
  go_simp
  refine (refLenN a c zs _ l1 g).mono ?_
  rintro e w' ⟨rfl, B, rfl, hB, hB1⟩
  refine hK _ _ HI ?_
  clear hK K
  have HBB := Hide.mk hB
  clear hB
  refine Drawn.tk (i := 5) (v := .int .i64 (ex + (B : Int))) rfl (fun W hW => ?_) HI ?_ (hw := rfl)
  · go_simp
    exact wrap_ok (by omega) (by omega)
  refine Drawn.tk (i := 6) (v := .int .i64 (ex + (B : Int))) rfl (fun W hW => ?_) HI ?_ (hw := rfl)
  · go_simp
  refine Drawn.done (by kernel_rfl) ?_
  go_wp2
  go_ret
  exact ⟨B, rfl, HBB.out, hB1, hb.drew⟩
theorem two_digits {zs : List Int} {X : Int} (g : Good zs X) (h : X < 18446744073709551616) : zs.length ≤ 2 := by
  refine (Nt.can_len g.can 2).1 ?_
  rw [g.val, show (4294967296 : Int) ^ 2 = 18446744073709551616 by decide]
  exact h
/-- The value as an int64, where it is one. -/
def i64r (ng : Bool) (x ex : Int) (B : Nat) : Int × Bool :=
  if ex < 0 ∨ 64 < B + ex then (0, false) else if ng then (if x * 2 ^ ex.toNat ≤ 9223372036854775808 then (-(x * 2 ^ ex.toNat), true) else (0, false)) else (if x * 2 ^ ex.toNat < 9223372036854775808 then (x * 2 ^ ex.toNat, true) else (0, false))
end Go.Proofs.YtdnghibkagcbcaaGreatDoor

/-
  Boxes: blocks of cells that a call has made, which stay as they are while others are called.
-/
set_option linter.unusedVariables false
namespace Go.Box
open Go Go.RowKit
/-- From w to W nothing of w's has turned, and the blocks of L lie there. -/
structure Bx (w : World) (L : List (Nat × Obj)) (W : World) : Prop where
  bel : Below w.heap.size w W
  box : ∀ p ∈ L, W.heap[p.1]? = some p.2
variable {w W W' : World} {L L' : List (Nat × Obj)}
theorem Bx.nil (w : World) : Bx w [] w := ⟨Below.refl _ _, fun _ h => by cases h⟩
theorem Bx.lt (h : Bx w L W) {p : Nat × Obj} (hp : p ∈ L) : p.1 < W.heap.size := (Array.getElem?_eq_some_iff.1 (h.box p hp)).1
theorem Bx.head {g : Nat} {o : Obj} (h : Bx w ((g, o) :: L) W) : W.heap[g]? = some o := h.box _ (.head _)
theorem Bx.tail {q : Nat × Obj} (h : Bx w (q :: L) W) : Bx w L W := ⟨h.bel, fun p hp => h.box p (.tail _ hp)⟩
theorem Bx.sub (h : Bx w L W) (hs : ∀ p ∈ L', p ∈ L) : Bx w L' W := ⟨h.bel, fun p hp => h.box p (hs p hp)⟩
theorem Bx.push (h : Bx w L W) (o : Obj) : Bx w ((W.heap.size, o) :: L) (W.alloc o) := by
  refine ⟨h.bel.alloc h.bel.size o, fun p hp => ?_⟩
  rcases List.mem_cons.1 hp with rfl | hp
  · exact heap_alloc_new W o
  · rw [Below.heap_alloc _ _ _ (h.lt hp)]; exact h.box p hp
theorem Bx.keep (h : Bx w L W) (hb : Below W.heap.size W W') : Bx w L W' :=
  ⟨h.bel.trans (hb.mono h.bel.size), fun p hp => (hb.block _ (h.lt hp)).trans (h.box p hp)⟩
theorem Bx.drew (h : Bx w L W) : Bx w L W.drew := ⟨h.bel.drew, h.box⟩
theorem Bx.cell (h : Bx w L W) (g : Nat) (cs : Array Value) (t : TypeId) (hm : (g, Obj.cells cs t (0, 0)) ∈ L) (j : Nat) : W.cell? ⟨g, j, none⟩ = cs[j]? := cell_of_row W g j cs t (0, 0) (h.box _ hm)
theorem Bx.frozen (h : Bx w L W) (g : Nat) (cs : Array Value) (t : TypeId) (hm : (g, Obj.cells cs t (0, 0)) ∈ L) (j : Nat) : W.frozen? ⟨g, j, none⟩ = false := frozen_of_row W g j cs t (h.box _ hm)
theorem Bx.set {g : Nat} {cs : Array Value} {t : TypeId} (h : Bx w ((g, Obj.cells cs t (0, 0)) :: L) W) (hg : w.heap.size ≤ g) (hne : ∀ p ∈ L, p.1 ≠ g) (j : Nat) (x : Value) :
    Bx w ((g, Obj.cells (cs.setIfInBounds j x) t (0, 0)) :: L) (W.setCell ⟨g, j, none⟩ x) := by
  refine ⟨h.bel.setCell hg x, fun p hp => ?_⟩
  rcases List.mem_cons.1 hp with rfl | hp
  · exact heap_setCell_same W g j cs t x (h.box _ (.head _))
  · rw [Below.heap_setCell _ _ _ _ (hne p hp)]; exact h.box p (.tail _ hp)
theorem Bx.apart (h : Bx w L W) : ∀ p ∈ L, p.1 ≠ W.heap.size := fun p hp e => by have := h.lt hp; omega
theorem Bx.fill3 {g : Nat} {z0 z1 z2 : Value} {t : TypeId} (h : Bx w ((g, Obj.cells #[z0, z1, z2] t (0, 0)) :: L) W) (hg : w.heap.size ≤ g) (hne : ∀ p ∈ L, p.1 ≠ g) (a b c : Value) :
    Bx w ((g, Obj.cells #[a, b, c] t (0, 0)) :: L) (((W.setCell ⟨g, 0, none⟩ a).setCell ⟨g, 1, none⟩ b).setCell ⟨g, 2, none⟩ c) := by
  have := ((h.set hg hne 0 a).set hg hne 1 b).set hg hne 2 c
  simpa using this
theorem Bx.fill4 {g : Nat} {z0 z1 z2 z3 : Value} {t : TypeId} (h : Bx w ((g, Obj.cells #[z0, z1, z2, z3] t (0, 0)) :: L) W) (hg : w.heap.size ≤ g) (hne : ∀ p ∈ L, p.1 ≠ g) (a b c d : Value) :
    Bx w ((g, Obj.cells #[a, b, c, d] t (0, 0)) :: L) ((((W.setCell ⟨g, 0, none⟩ a).setCell ⟨g, 1, none⟩ b).setCell ⟨g, 2, none⟩ c).setCell ⟨g, 3, none⟩ d) := by
  have := (((h.set hg hne 0 a).set hg hne 1 b).set hg hne 2 c).set hg hne 3 d
  simpa using this
end Go.Box

set_option linter.unusedVariables false
namespace Go.Wd
open Go
/-- The numbers of a format (true: F64): the sign's bit, 2 to the F, F, E, L, the infinite word. -/
def sg (b : Bool) : Int := match b with | true => 9223372036854775808 | false => 2147483648
def fr (b : Bool) : Int := match b with | true => 4503599627370496 | false => 8388608
def fc (b : Bool) : Int := match b with | true => 52 | false => 23
def bt (b : Bool) : Int := match b with | true => 64 | false => 32
def tp (b : Bool) : Int := match b with | true => 2047 | false => 255
def lo (b : Bool) : Int := match b with | true => -1074 | false => -149
def fm (b : Bool) : Int := match b with | true => 2 | false => 1
def inf (b : Bool) : Int := match b with | true => 9218868437227405312 | false => 2139095040
def nan (b : Bool) : Int := match b with | true => 9221120237041090560 | false => 2143289344
/-- A word's sign, field, fraction, class. -/
def ng (b : Bool) (x : Int) : Bool := decide (sg b ≤ x)
def sz (b : Bool) (x : Int) : Int := x % sg b
def fd (b : Bool) (x : Int) : Int := x % sg b / fr b
def fn (b : Bool) (x : Int) : Int := x % fr b
def cl (b : Bool) (x : Int) : Int := if sz b x = 0 then 1 else if sz b x < fr b then 2 else if sz b x < inf b then 3 else if sz b x = inf b then 4 else 5
/-- A size with a sign. -/
def sd (b : Bool) (s : Int) (n : Bool) : Int := if n then s + sg b else s
/-- One step up of what is no NaN and not +infinite. -/
def up (b : Bool) (x : Int) : Int := if sz b x = 0 then 1 else if sg b ≤ x then x - 1 else x + 1
def Ok (b : Bool) (x : Int) : Prop := 0 ≤ x ∧ x < 2 * sg b
/-- The other way about. -/
theorem join' (k : Nat) {x y P : Int} (hP : P = 2 ^ k) (h0 : 0 ≤ x) (hx : x % P = 0) (h2 : 0 ≤ y) (h3 : y < P) (h1 : x + y < 18446744073709551616) : bits .or .u64 y x = x + y := by
  have e : (2 : Int) ^ k = ((2 ^ k : Nat) : Int) := by simp
  have hp : 0 < 2 ^ k := Nat.two_pow_pos k
  subst hP
  rw [e] at *
  obtain ⟨n, rfl⟩ : ∃ n : Nat, x = n := ⟨x.toNat, by omega⟩
  obtain ⟨m, rfl⟩ : ∃ m : Nat, y = m := ⟨y.toNat, by omega⟩
  rw [u64_or_nat m n (by omega) (by omega), Nat.or_comm, nat_join k n m (by omega) (by omega)]
  omega
end Go.Wd

namespace Go.Proofs.YtdnghibkagcbcaaGreatDoor
open Go.RowKit Go.Wd Go.Box
set_option linter.unusedVariables false
set_option maxRecDepth 3000
/-- A format's shape. -/
abbrev S (b : Bool) : Value := .agg #[.int .i64 (bt b), .int .i64 (fc b), .int .i64 (tp b), .int .i64 (lo b)]
abbrev SO (b : Bool) : Obj := .cells #[.int .i64 (bt b), .int .i64 (fc b), .int .i64 (tp b), .int .i64 (lo b)] 124 (0, 0)
abbrev noS : Value := .agg #[.int .i64 0, .int .i64 0, .int .i64 0, .int .i64 0]
theorem S32 : S false = .agg #[.int .i64 32, .int .i64 23, .int .i64 255, .int .i64 (-149)] := rfl
theorem S64 : S true = .agg #[.int .i64 64, .int .i64 52, .int .i64 2047, .int .i64 (-1074)] := rfl
theorem pow31 : sg false = 2 ^ 31 := by decide
theorem pow63 : sg true = 2 ^ 63 := by decide
theorem shape_cells {w W : World} {L : List (Nat × Obj)} (h : Bx w L W) (g : Nat) (b : Bool) (hm : (g, SO b) ∈ L) :
    W.cell? ⟨g, 0, none⟩ = some (.int .i64 (bt b)) ∧ W.cell? ⟨g, 1, none⟩ = some (.int .i64 (fc b)) ∧ W.cell? ⟨g, 2, none⟩ = some (.int .i64 (tp b)) ∧ W.cell? ⟨g, 3, none⟩ = some (.int .i64 (lo b)) :=
  ⟨h.cell g _ _ hm 0, h.cell g _ _ hm 1, h.cell g _ _ hm 2, h.cell g _ _ hm 3⟩
theorem wSignBit (b : Bool) (w : World) :
    Calls Tryz.prog 125 #[S b] w fun e w' => e = .returned (.int .u64 (sg b)) ∧ Below w.heap.size w w' := by
  cases b
  · rw [S32]
    go_enter Tryz.func125, Tryz.ntmps125
    go_wp2
    go_ret
    exact ⟨rfl, below_alloc _ _⟩
  · rw [S64]
    go_enter Tryz.func125, Tryz.ntmps125
    go_wp2
    go_ret
    exact ⟨rfl, below_alloc _ _⟩
theorem wInfinite (b : Bool) (w : World) :
    Calls Tryz.prog 118 #[S b] w fun e w' => e = .returned (.int .u64 (inf b)) ∧ Below w.heap.size w w' := by
  cases b
  · rw [S32]
    go_enter Tryz.func118, Tryz.ntmps118
    go_wp2
    go_ret
    exact ⟨rfl, below_alloc _ _⟩
  · rw [S64]
    go_enter Tryz.func118, Tryz.ntmps118
    go_wp2
    go_ret
    exact ⟨rfl, below_alloc _ _⟩
theorem sg_pos (b : Bool) : 0 < sg b := by cases b <;> decide
theorem sg_le (b : Bool) : sg b ≤ 9223372036854775808 := by cases b <;> decide
theorem fr_pos (b : Bool) : 0 < fr b := by cases b <;> decide
theorem inf_lt (b : Bool) : inf b < sg b := by cases b <;> decide
theorem sz_bd (b : Bool) (x : Int) : 0 ≤ sz b x ∧ sz b x < sg b := ⟨Int.emod_nonneg _ (by have := sg_pos b; omega), Int.emod_lt_of_pos _ (sg_pos b)⟩
theorem shl_fc (b : Bool) (y : Int) (W : World) : Sem.run Tryz.prog (Op.shift .shl .u64 y .i64 (fc b)) W = .ok (.int .u64 (y * fr b % 18446744073709551616)) W := by
  cases b
  · rw [show fc false = 23 from rfl]
    go_simp
    rw [IntKind.wrap_u64]
    rfl
  · rw [show fc true = 52 from rfl]
    go_simp
    rw [IntKind.wrap_u64]
    rfl
theorem fd_bd (b : Bool) (x : Int) : 0 ≤ fd b x ∧ fd b x ≤ 2047 := by
  have h := sz_bd b x
  unfold sz at h
  cases b <;> simp only [fd, sg, fr] at * <;> omega
theorem or_sg (b : Bool) {s : Int} (h0 : 0 ≤ s) (h1 : s < sg b) : bits .or .u64 s (sg b) = s + sg b := by
  have e : sg b + s < 18446744073709551616 := by have := sg_le b; omega
  rw [Int.add_comm]
  cases b
  · exact join' 31 pow31 (by decide) (by decide) h0 h1 e
  · exact join' 63 pow63 (by decide) (by decide) h0 h1 e
theorem wSigned (b : Bool) (s : Int) (n : Bool) (h0 : 0 ≤ s) (h1 : s < sg b) (w : World) :
    Calls Tryz.prog 108 #[S b, .int .u64 s, .bool n] w fun e w' => e = .returned (.int .u64 (sd b s n)) ∧ Below w.heap.size w w' := by
  have hb := below_alloc w (SO b)
  have HS := Hide.mk (or_sg b h0 h1)
  cases n
  · go_enter Tryz.func108, Tryz.ntmps108
    go_wp2
    go_ret
    exact ⟨rfl, hb⟩
  · go_enter Tryz.func108, Tryz.ntmps108
    go_wp2_with fail
    refine (wSignBit b _).mono ?_
    rintro e w' ⟨rfl, h2⟩
    have h3 := below_then hb h2
    clear h2 hb
    go_wp2
    go_ret
    exact ⟨by unfold sd; rw [if_pos rfl, ← HS.out]; rfl, h3⟩
theorem Tryz.sizeShape : (Tryz.prog.info? 124).map (·.size) = some 4 := by kernel_rfl
theorem results_S2 {fn : Func} {p u : Tmp} (h : fn.results = #[.cell p 124, .tmp u]) (tmps : Array Value) (w : World) (g : Nat) (cs : Array Value) (hp : tmps.getD p undef = .pointer (some ⟨g, 0, none⟩)) (hg : w.heap[g]? = some (.cells cs 124 (0, 0))) (hs : cs.size = 4) :
    (results fn tmps).run Tryz.prog w = .ok (.tuple #[.agg cs, tmps.getD u undef]) w := by
  rw [results_cell_tmp h, hp]
  simp [asAddr, run_loadVar_row w g 124 124 cs (0, 0) _ hg Tryz.underlying124 rfl (by rw [Tryz.sizeShape, hs])]
theorem wShapeOf (b : Bool) (w : World) :
    Calls Tryz.prog 107 #[.int .u8 (fm b)] w fun e w' => e = .returned (.tuple #[S b, .int .i64 0]) ∧ Below w.heap.size w w' := by
  cases b
  · rw [show fm false = 1 from rfl, S32]
    go_enter Tryz.func107, Tryz.ntmps107
    go_wp2
    have B1 := (Bx.nil w).push (.cells #[.int .i64 32, .int .i64 23, .int .i64 255, .int .i64 (-149)] 124 (0, 0))
    refine bodyPost_ret (results_S2 rfl _ _ w.heap.size _ rfl B1.head rfl) rfl ?_
    exact ⟨rfl, B1.bel⟩
  · rw [show fm true = 2 from rfl, S64]
    go_enter Tryz.func107, Tryz.ntmps107
    go_wp2
    have B1 := (Bx.nil w).push (.cells #[.int .i64 64, .int .i64 52, .int .i64 2047, .int .i64 (-1074)] 124 (0, 0))
    refine bodyPost_ret (results_S2 rfl _ _ w.heap.size _ rfl B1.head rfl) rfl ?_
    exact ⟨rfl, B1.bel⟩
/-- No format. -/
def Bad (f : Int) : Prop := f ≠ 1 ∧ f ≠ 2
end Go.Proofs.YtdnghibkagcbcaaGreatDoor

namespace Go.Proofs.YtdnghibkagcbcaaGreatDoor
open Go.RowKit Go.Wd Go.Box
set_option linter.unusedVariables false
set_option maxRecDepth 3000
abbrev ZO : Obj := .cells #[.int .i64 0, .int .i64 0, .int .i64 0, .int .i64 0] 124 (0, 0)
/-- The cells of a block of cells4, and that they may be written. -/
theorem cells4 {w W : World} {L : List (Nat × Obj)} (h : Bx w L W) (g : Nat) (a b c d : Value) (t : TypeId) (hm : (g, Obj.cells #[a, b, c, d] t (0, 0)) ∈ L) :
    (W.cell? ⟨g, 0, none⟩ = some a ∧ W.cell? ⟨g, 1, none⟩ = some b ∧ W.cell? ⟨g, 2, none⟩ = some c ∧ W.cell? ⟨g, 3, none⟩ = some d) ∧ W.frozen? ⟨g, 0, none⟩ = false ∧ W.frozen? ⟨g, 1, none⟩ = false ∧ W.frozen? ⟨g, 2, none⟩ = false ∧ W.frozen? ⟨g, 3, none⟩ = false :=
  ⟨⟨h.cell g _ _ hm 0, h.cell g _ _ hm 1, h.cell g _ _ hm 2, h.cell g _ _ hm 3⟩, h.frozen g _ _ hm 0, h.frozen g _ _ hm 1, h.frozen g _ _ hm 2, h.frozen g _ _ hm 3⟩
theorem cells3 {w W : World} {L : List (Nat × Obj)} (h : Bx w L W) (g : Nat) (a b c : Value) (t : TypeId) (hm : (g, Obj.cells #[a, b, c] t (0, 0)) ∈ L) :
    (W.cell? ⟨g, 0, none⟩ = some a ∧ W.cell? ⟨g, 1, none⟩ = some b ∧ W.cell? ⟨g, 2, none⟩ = some c) ∧ W.frozen? ⟨g, 0, none⟩ = false ∧ W.frozen? ⟨g, 1, none⟩ = false ∧ W.frozen? ⟨g, 2, none⟩ = false :=
  ⟨⟨h.cell g _ _ hm 0, h.cell g _ _ hm 1, h.cell g _ _ hm 2⟩, h.frozen g _ _ hm 0, h.frozen g _ _ hm 1, h.frozen g _ _ hm 2⟩
/-- The word is not good, for the error c. -/
def GE (f x c : Int) : Prop := (Bad f ∧ c = 4) ∨ (∃ b, f = fm b ∧ 2 * sg b ≤ x ∧ c = 6)
theorem GE.ne {f x c : Int} (h : GE f x c) : (c == 0) = false := by
  rcases h with ⟨_, rfl⟩ | ⟨_, _, _, rfl⟩ <;> rfl
abbrev FV (n : Bool) (e f : Int) : Value := .agg #[.bool n, .int .i64 e, .int .u64 f]
abbrev FO (n : Bool) (e f : Int) : Obj := .cells #[.bool n, .int .i64 e, .int .u64 f] 92 (0, 0)
theorem Tryz.sizeFields : (Tryz.prog.info? 92).map (·.size) = some 3 := by kernel_rfl
theorem results_F1 {fn : Func} {p : Tmp} (h : fn.results = #[.cell p 92]) (tmps : Array Value) (w : World) (g : Nat) (cs : Array Value) (hp : tmps.getD p undef = .pointer (some ⟨g, 0, none⟩)) (hg : w.heap[g]? = some (.cells cs 92 (0, 0))) (hs : cs.size = 3) :
    (results fn tmps).run Tryz.prog w = .ok (.agg cs) w := by
  exact results_cell_row h tmps w g 92 cs (0, 0) _ hp hg Tryz.underlying92 rfl (by rw [Tryz.sizeFields, hs])
end Go.Proofs.YtdnghibkagcbcaaGreatDoor

namespace Go.Proofs.YtdnghibkagcbcaaGreatDoor
open Go.RowKit Go.Wd Go.Box
set_option linter.unusedVariables false
set_option maxRecDepth 3000
theorem sg_one (b : Bool) : 1 < sg b := by cases b <;> decide
theorem inf_bd (b : Bool) : 0 < inf b := by cases b <;> decide
theorem wZero (b n : Bool) (w : World) :
    Calls Tryz.prog 75 #[.int .u8 (fm b), .bool n] w fun e w' => e = .returned (.tuple #[.int .u64 (sd b 0 n), .int .i64 0]) ∧ Below w.heap.size w w' := by
  go_enter Tryz.func75, Tryz.ntmps75
  go_wp2_with fail
  refine (wShapeOf b _).mono ?_
  rintro e w2 ⟨rfl, h2⟩
  have B2 := ((Bx.nil w).keep h2).push (SO b)
  clear h2
  go_wp2_with fail
  refine (wSigned b 0 n (by decide) (sg_pos b) _).mono ?_
  rintro e w3 ⟨rfl, h3⟩
  have B3 := B2.keep h3
  clear h3 B2
  go_wp2
  go_ret2
  exact ⟨rfl, B3.bel⟩
theorem wInf (b n : Bool) (w : World) :
    Calls Tryz.prog 84 #[.int .u8 (fm b), .bool n] w fun e w' => e = .returned (.tuple #[.int .u64 (sd b (inf b) n), .int .i64 0]) ∧ Below w.heap.size w w' := by
  go_enter Tryz.func84, Tryz.ntmps84
  go_wp2_with fail
  refine (wShapeOf b _).mono ?_
  rintro e w2 ⟨rfl, h2⟩
  have B2 := ((Bx.nil w).keep h2).push (SO b)
  clear h2
  go_wp2_with fail
  generalize hw3 : w2.alloc (SO b) = w3 at *
  clear hw3
  have HI := B2.drew
  have sh := fun W (hW : Bx w [(w2.heap.size, SO b)] W) => shape_cells hW w2.heap.size b (.head _)
  refine Drawn.enter (Bx w [(w2.heap.size, SO b)]) (by kernel_rfl) ?_
  refine Drawn.tk (i := 0) (v := ?v0) rfl (fun W hW => ?_) HI ?_
  rotate_left
  · have ⟨e0, e1, e2, e3⟩ := sh W hW
    go_simp <;> exact rfl
  refine Drawn.tk (i := 1) (v := ?v1) rfl (fun W hW => ?_) HI ?_
  rotate_left
  · have ⟨e0, e1, e2, e3⟩ := sh W hW
    go_simp <;> exact rfl
  refine Drawn.tk (i := 3) (v := ?v2) rfl (fun W hW => ?_) HI ?_
  rotate_left
  · have ⟨e0, e1, e2, e3⟩ := sh W hW
    go_simp <;> exact rfl
  refine Drawn.one (j := 2) (by kernel_rfl) rfl (fun K hK => ?_)
  go_simp
  refine (wInfinite b _).mono ?_
  rintro e wn ⟨rfl, hn⟩
  refine hK _ _ (HI.keep hn) ?_
  clear hK K
  replace HI := HI.keep hn
  clear hn
  refine Drawn.one (j := 4) (by kernel_rfl) rfl (fun K hK => ?_)
  go_simp
  refine (wSigned b (inf b) n (Int.le_of_lt (inf_bd b)) (inf_lt b) _).mono ?_
  rintro e wn ⟨rfl, hn⟩
  refine hK _ _ (HI.keep hn) ?_
  clear hK K
  replace HI := HI.keep hn
  clear hn
  refine Drawn.tk (i := 5) (v := ?v3) rfl (fun W hW => ?_) HI ?_
  rotate_left
  · have ⟨e0, e1, e2, e3⟩ := sh W hW
    go_simp <;> exact rfl
  refine Drawn.tk (i := 6) (v := ?v4) rfl (fun W hW => ?_) HI ?_
  rotate_left
  · have ⟨e0, e1, e2, e3⟩ := sh W hW
    go_simp <;> exact rfl
  refine Drawn.done (by kernel_rfl) ?_
  try go_simp
  clear sh
  go_wp2
  go_ret2
  exact ⟨rfl, HI.bel⟩
theorem wGreatest (b n : Bool) (w : World) :
    Calls Tryz.prog 85 #[.int .u8 (fm b), .bool n] w fun e w' => e = .returned (.tuple #[.int .u64 (sd b (inf b - 1) n), .int .i64 0]) ∧ Below w.heap.size w w' := by
  go_enter Tryz.func85, Tryz.ntmps85
  go_wp2_with fail
  refine (wShapeOf b _).mono ?_
  rintro e w2 ⟨rfl, h2⟩
  have B2 := ((Bx.nil w).keep h2).push (SO b)
  clear h2
  go_wp2_with fail
  generalize hw3 : w2.alloc (SO b) = w3 at *
  clear hw3
  have HI := B2.drew
  have sh := fun W (hW : Bx w [(w2.heap.size, SO b)] W) => shape_cells hW w2.heap.size b (.head _)
  refine Drawn.enter (Bx w [(w2.heap.size, SO b)]) (by kernel_rfl) ?_
  refine Drawn.tk (i := 0) (v := ?v5) rfl (fun W hW => ?_) HI ?_
  rotate_left
  · have ⟨e0, e1, e2, e3⟩ := sh W hW
    go_simp <;> exact rfl
  refine Drawn.tk (i := 1) (v := ?v6) rfl (fun W hW => ?_) HI ?_
  rotate_left
  · have ⟨e0, e1, e2, e3⟩ := sh W hW
    go_simp <;> exact rfl
  refine Drawn.tk (i := 4) (v := ?v7) rfl (fun W hW => ?_) HI ?_
  rotate_left
  · have ⟨e0, e1, e2, e3⟩ := sh W hW
    go_simp <;> exact rfl
  refine Drawn.one (j := 2) (by kernel_rfl) rfl (fun K hK => ?_)
  go_simp
  refine (wInfinite b _).mono ?_
  rintro e wn ⟨rfl, hn⟩
  refine hK _ _ (HI.keep hn) ?_
  clear hK K
  replace HI := HI.keep hn
  clear hn
  refine Drawn.tk (i := 3) (v := .int .u64 (inf b - 1)) rfl (fun W hW => ?_) HI ?_
  · have ⟨e0, e1, e2, e3⟩ := sh W hW
    go_simp <;> ((cases b <;> rfl))
  refine Drawn.one (j := 5) (by kernel_rfl) rfl (fun K hK => ?_)
  go_simp
  refine (wSigned b (inf b - 1) n (by have := inf_bd b; omega) (by have := inf_lt b; omega) _).mono ?_
  rintro e wn ⟨rfl, hn⟩
  refine hK _ _ (HI.keep hn) ?_
  clear hK K
  replace HI := HI.keep hn
  clear hn
  refine Drawn.tk (i := 6) (v := ?v8) rfl (fun W hW => ?_) HI ?_
  rotate_left
  · have ⟨e0, e1, e2, e3⟩ := sh W hW
    go_simp <;> exact rfl
  refine Drawn.tk (i := 7) (v := ?v9) rfl (fun W hW => ?_) HI ?_
  rotate_left
  · have ⟨e0, e1, e2, e3⟩ := sh W hW
    go_simp <;> exact rfl
  refine Drawn.done (by kernel_rfl) ?_
  try go_simp
  clear sh
  go_wp2
  go_ret2
  exact ⟨rfl, HI.bel⟩
end Go.Proofs.YtdnghibkagcbcaaGreatDoor

namespace Go.Proofs.YtdnghibkagcbcaaGreatDoor
open Go.RowKit Go.Wd Go.Box
set_option linter.unusedVariables false
set_option maxRecDepth 3000
/-- The word with the other sign. -/
def fl (b : Bool) (x : Int) : Int := if sg b ≤ x then x - sg b else x + sg b
/-- One step up of a word that is no NaN, and the error. -/
def upr (b : Bool) (x : Int) : Int × Int := if x = inf b then (0, 7) else (up b x, 0)
end Go.Proofs.YtdnghibkagcbcaaGreatDoor

namespace Go.Proofs.YtdnghibkagcbcaaGreatDoor
open Go.RowKit Go.Wd Go.Box
set_option linter.unusedVariables false
set_option maxRecDepth 3000
/-- Up, down: the word and the error. -/
def upx (b : Bool) (x : Int) : Int × Int := if inf b < sz b x then (nan b, 0) else if x = inf b then (0, 7) else (up b x, 0)
def dnx (b : Bool) (x : Int) : Int × Int := if inf b < sz b x then (nan b, 0) else if fl b x = inf b then (0, 7) else (fl b (up b (fl b x)), 0)
def cnx (b : Bool) (x : Int) : Int := if inf b < sz b x then nan b else x
def ngx (b : Bool) (x : Int) : Int := if inf b < sz b x then nan b else fl b x
def abx (b : Bool) (x : Int) : Int := if inf b < sz b x then nan b else sz b x
def csx (b : Bool) (x s : Int) : Int := if inf b < sz b x then nan b else sd b (sz b x) (ng b s)
end Go.Proofs.YtdnghibkagcbcaaGreatDoor

namespace Go.Proofs.YtdnghibkagcbcaaGreatDoor
open Go.RowKit Go.Wd Go.Box
set_option linter.unusedVariables false
set_option maxRecDepth 3000

theorem fields_cells {w W : World} {L : List (Nat × Obj)} (h : Bx w L W) (g : Nat) (n : Bool) (e f : Int) (hm : (g, FO n e f) ∈ L) :
    W.cell? ⟨g, 0, none⟩ = some (.bool n) ∧ W.cell? ⟨g, 1, none⟩ = some (.int .i64 e) ∧ W.cell? ⟨g, 2, none⟩ = some (.int .u64 f) :=
  ⟨h.cell g _ _ hm 0, h.cell g _ _ hm 1, h.cell g _ _ hm 2⟩
theorem tp_bd (b : Bool) : 0 < tp b ∧ tp b ≤ 2047 := by cases b <;> decide
theorem fr_le (b : Bool) : fr b ≤ 4503599627370496 := by cases b <;> decide
theorem fields_lt (b : Bool) {E F : Int} (h0 : 0 ≤ E) (h1 : E ≤ tp b) (h2 : 0 ≤ F) (h3 : F < fr b) : 0 ≤ E * fr b + F ∧ E * fr b + F < sg b ∧ E * fr b < 18446744073709551616 ∧ 0 ≤ E * fr b := by
  cases b <;> simp only [tp, fr, sg] at * <;> omega
end Go.Proofs.YtdnghibkagcbcaaGreatDoor

namespace Go.Proofs.YtdnghibkagcbcaaGreatDoor
open Go.RowKit Go.Wd Go.Box
set_option linter.unusedVariables false
set_option maxRecDepth 3000
/-- How many units a finite word is in size, and the unit's exponent. -/
def un (b : Bool) (x : Int) : Int := if fd b x = 0 then fn b x else fr b + fn b x
def ue (b : Bool) (x : Int) : Int := max (fd b x - 1) 0 + lo b
theorem fn_bd (b : Bool) (x : Int) : 0 ≤ fn b x ∧ fn b x < fr b := ⟨Int.emod_nonneg _ (by have := fr_pos b; omega), Int.emod_lt_of_pos _ (fr_pos b)⟩
theorem lo_bd (b : Bool) : -1074 ≤ lo b ∧ lo b ≤ -149 := by cases b <;> decide
/-- The word has no value, for the error c. -/
def VE (f x c : Int) : Prop := GE f x c ∨ (∃ b, f = fm b ∧ Ok b x ∧ inf b ≤ sz b x ∧ c = 7)
theorem VE.ne {f x c : Int} (h : VE f x c) : (c == 0) = false := by
  rcases h with h | ⟨_, _, _, _, rfl⟩
  · exact h.ne
  · rfl
end Go.Proofs.YtdnghibkagcbcaaGreatDoor

namespace Go.Proofs.YtdnghibkagcbcaaGreatDoor
open Go.RowKit Go.Wd Go.Box
set_option linter.unusedVariables false
set_option maxRecDepth 3000
abbrev DO (n : Bool) (a : Option Addr) (k c : Nat) (ex : Int) : Obj := .cells #[.bool n, .slice a k c, .int .i64 ex] 26 (0, 0)
/-- The value of a word, in units of 2 to the -MaxExp. -/
def wv (b : Bool) (x : Int) : Int := sv (ng b x) (un b x) * pK (ue b x)
end Go.Proofs.YtdnghibkagcbcaaGreatDoor

namespace Go.Proofs.YtdnghibkagcbcaaGreatDoor
open Go.RowKit Go.Wd Go.Box
set_option linter.unusedVariables false
set_option maxRecDepth 3000
/-- The one form of s times 2 to the E, however long. -/
def Fm (s E : Int) (n : Bool) (zs : List Int) (ex : Int) : Prop :=
  (s = 0 ∧ n = false ∧ zs = [] ∧ ex = 0) ∨ (s ≠ 0 ∧ ∃ t : Nat, LowBit (s.natAbs : Int) t ∧ n = decide (s < 0) ∧ ex = E + t ∧ Nt.Can zs ∧ Nt.val zs = (s.natAbs : Int) / 2 ^ t)
def RF (w w' : World) (s E : Int) (e : Ending) : Prop :=
  ∃ n zs ex a c, e = .returned (dV n a zs.length c ex) ∧ Fm s E n zs ex ∧ Lie w' a zs ∧ Below w.heap.size w w'
set_option maxHeartbeats 1000000 in
theorem formX1 (n : Bool) (a : Option Addr) (ca : Nat) (za : List Int) (ex : Int) (w : World) (ha : Lie w a za) (qa : Nt.Can za) (hm : za.length ≤ 2500000) (hz : 0 < za.length) {t : Nat} (ht : LowBit (Nt.val za) t) (h0 : -9000000000000000000 ≤ ex) (h1 : ex ≤ 9000000000000000000) :
    Calls Tryz.prog 70 #[.bool n, .slice a za.length ca, .int .i64 ex] w fun e w' => ∃ zs a' c, e = .returned (dV n a' zs.length c (ex + t)) ∧ Nt.Can zs ∧ Nt.val zs = Nt.val za / 2 ^ t ∧ Lie w' a' zs ∧ Below w.heap.size w w' := by
  have B1 := (Bx.nil w).push (DO false none 0 0 0)
  have l1 := ha.below B1.bel (Nat.le_refl _)
  have HL := Hide.mk (refLow59 a ca za _ l1 qa hz (by omega))
  have Ht := Hide.mk ht
  have hne : ((za.length : Int) == 0) = false := beq_eq_false_iff_ne.2 (by omega)
  clear ha ht
  go_enter Tryz.func70, Tryz.ntmps70
  go_wp2_with fail
  refine HL.out.mono ?_
  rintro e w2 ⟨rfl, t2, rfl, ht2, htl⟩
  obtain rfl := ht2.unique Ht.out
  have HD := Hide.mk (refDown46 a ca za _ t2 (by omega) l1 qa hz (by omega))
  clear ht2 HL l1
  go_wp2_with fail
  refine HD.out.mono ?_
  rintro e w3 ⟨zs, a', c, rfl, hO, hC, hV, h3⟩
  have B3 := B1.keep h3
  obtain ⟨a2, c2, he, _, _, hl⟩ := hO.lie
  simp only [Value.slice.injEq, true_and] at he
  obtain ⟨rfl, rfl⟩ := he
  have H := Hide.mk (And.intro hC (And.intro hV hl))
  obtain ⟨⟨f0, f1, f2⟩, r0, r1, r2⟩ := cells3 B3 w.heap.size _ _ _ _ (.head _)
  clear hO hC hV h3 HD hl B1
  generalize decide (Nt.val za % 2 ^ t2 ≠ 0) = q at *
  generalize hu : (t2 : Int) = u at *
  have hu0 : 0 ≤ u := by omega
  have hu1 : u < 100000000 := by omega
  have HU := Hide.mk hu
  clear hu htl
  have B4 := B3.fill3 (Nat.le_refl _) (by simp) (.bool n) (.slice a' zs.length c) (.int .i64 (ex + u))
  go_wp2
  refine bodyPost_ret (results_D1 rfl _ _ w.heap.size _ rfl ⟨B4.head, rfl⟩) rfl ?_
  have L := Live.set3 (g := w.heap.size) ⟨B3.head, rfl⟩ (.bool n) (.slice a' zs.length c) (.int .i64 (ex + u)) (Live.one H.out.2.2)
  exact ⟨zs, a', c, by rw [HU.out], H.out.1, H.out.2.1, L.all (a', zs) (.head _), B4.bel⟩
theorem formZ (n : Bool) (a : Option Addr) (ca : Nat) (ex : Int) (w : World) :
    Calls Tryz.prog 70 #[.bool n, .slice a 0 ca, .int .i64 ex] w fun e w' => e = .returned noD ∧ Below w.heap.size w w' := by
  go_enter Tryz.func70, Tryz.ntmps70
  go_wp2
  refine bodyPost_ret (results_D1 rfl _ _ w.heap.size _ rfl (dcell_new _ _ _ _)) rfl ?_
  exact ⟨rfl, below_alloc _ _⟩
/-- Form answers the one form. -/
theorem formXL (n : Bool) (a : Option Addr) (ca : Nat) (za : List Int) (ex : Int) (w : World) (ha : Lie w a za) (qa : Nt.Can za) (hm : za.length ≤ 2500000) (h0 : -9000000000000000000 ≤ ex) (h1 : ex ≤ 9000000000000000000) :
    Calls Tryz.prog 70 #[.bool n, .slice a za.length ca, .int .i64 ex] w fun e w' => RF w w' (sv n (Nt.val za)) ex e := by
  have hv0 := (Nt.val_bd qa.1).1
  by_cases hz : 0 < za.length
  · have hp : 0 < Nt.val za := by
      have h2 := can_ge qa hz
      have h3 := Nt.pw_pos (za.length - 1)
      omega
    obtain ⟨t, ht⟩ := low_ex hp
    refine (formX1 n a ca za ex w ha qa hm hz ht h0 h1).mono ?_
    rintro e w' ⟨zs, a', c, rfl, hC, hV, hl, hb⟩
    have habs : ((sv n (Nt.val za)).natAbs : Int) = Nt.val za := by
      cases n
      · rw [sv_f]; omega
      · rw [sv_t]; omega
    refine ⟨n, zs, ex + t, a', c, rfl, .inr ⟨?_, t, by rw [habs]; exact ht, ?_, rfl, hC, by rw [habs]; exact hV⟩, hl, hb⟩
    · cases n
      · rw [sv_f]; omega
      · rw [sv_t]; omega
    · cases n
      · rw [sv_f]; exact (decide_eq_false (by omega)).symm
      · rw [sv_t]; exact (decide_eq_true (by omega)).symm
  · obtain rfl : za = [] := List.length_eq_zero_iff.1 (by omega)
    refine (formZ n a ca ex w).mono ?_
    rintro e w' ⟨rfl, hb⟩
    refine ⟨false, [], 0, none, 0, rfl, .inl ⟨?_, rfl, rfl, rfl⟩, .inl rfl, hb⟩
    rw [Nt.val_nil]
    cases n <;> rfl
theorem formX (n : Bool) (a : Option Addr) (ca : Nat) (za : List Int) (ex : Int) (w : World) (ha : Lie w a za) (qa : Nt.Can za) (hm : za.length ≤ 10000) (h0 : -9000000000000000000 ≤ ex) (h1 : ex ≤ 9000000000000000000) :
    Calls Tryz.prog 70 #[.bool n, .slice a za.length ca, .int .i64 ex] w fun e w' => RF w w' (sv n (Nt.val za)) ex e :=
  formXL n a ca za ex w ha qa (by omega) h0 h1
end Go.Proofs.YtdnghibkagcbcaaGreatDoor

namespace Go.Proofs.YtdnghibkagcbcaaGreatDoor
open Go.RowKit Go.Wd Go.Box
set_option linter.unusedVariables false
set_option maxRecDepth 3000
theorem rNegX (n : Bool) (a : Option Addr) (c k : Nat) (ex : Int) (hk : 0 < k) (w : World) :
    Calls Tryz.prog 40 #[dV n a k c ex] w fun e w' => e = .returned (dV (!n) a k c ex) ∧ Below w.heap.size w w' := by
  have B1 := ((Bx.nil w).push (DO (!n) a k c ex)).push (DO (!n) a k c ex)
  have hk2 : (0 : Int) < (k : Int) := by omega
  go_enter Tryz.func40, Tryz.ntmps40
  go_wp2
  refine bodyPost_ret (results_D1 rfl _ _ (w.heap.size + 1) _ rfl ⟨by simpa using B1.head, rfl⟩) rfl ?_
  exact ⟨rfl, B1.bel⟩
end Go.Proofs.YtdnghibkagcbcaaGreatDoor
