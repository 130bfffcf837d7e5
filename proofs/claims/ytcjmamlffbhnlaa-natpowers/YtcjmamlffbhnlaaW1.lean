import Derived.Test.YtcjmamlffbhnlaaBase
namespace Go.Proofs.Ytcjmamlffbhnlaa
open Go.RowKit
set_option linter.unusedVariables false
set_option maxHeartbeats 400000 in
theorem add32 (x y c : Int) (hx : 0 ≤ x) (hx' : x < 4294967296) (hy : 0 ≤ y) (hy' : y < 4294967296) (hc : 0 ≤ c) (hc' : c ≤ 1) (w : World) :
    Calls Try.prog 53 #[.int .u32 x, .int .u32 y, .int .u32 c] w fun e w' => e = .returned (.tuple #[.int .u32 ((x + y + c) % 4294967296), .int .u32 ((x + y + c) / 4294967296)]) ∧ w = w' := by
  go_enter Try.func53, Try.ntmps53
  go_wp2
  go_ret2
  exact ⟨rfl, rfl⟩

theorem long10 (a : Option Addr) (n cap : Nat) (m : Int) (w : World) :
    Calls Try.prog 10 #[.slice a n cap, .int .i64 m] w fun e w' => e = .returned (.bool (decide (m < (n : Int)))) ∧ w = w' := by
  go_enter Try.func10, Try.ntmps10
  go_wp2
  go_ret
  exact ⟨rfl, rfl⟩

/-- A fact kept from the walk. -/
structure Hide (p : Prop) : Prop where
  out : p

def mayB (zs : List Int) : Bool := zs.length == 0 || (decide (zs.length ≤ 4096) && zs.getD (zs.length - 1) 0 != 0)

set_option maxRecDepth 100000 in
theorem may13 (a : Option Addr) (cap : Nat) (zs : List Int) (w : World) (hl : Lie w a zs) (hm : zs.length ≤ maxLen) :
    Calls Try.prog 13 #[.slice a zs.length cap] w fun e w' => e = .returned (.bool (mayB zs)) ∧ w = w' := by
  unfold maxLen at hm
  by_cases h0 : zs.length = 0
  · have e : mayB zs = true := by simp [mayB, h0]
    rw [e, h0]
    go_enter Try.func13, Try.ntmps13
    go_wp2
    go_ret
    exact ⟨rfl, rfl⟩
  · rcases hl with rfl | ⟨b, o, rfl, hcell⟩
    · exact absurd rfl h0
    · have e : mayB zs = (decide (zs.length ≤ 4096) && zs.getD (zs.length - 1) 0 != 0) := by simp [mayB, h0]
      rw [e]
      have hck := hcell (zs.length - 1) (by omega)
      clear hcell e
      generalize zs.getD (zs.length - 1) 0 = x at *
      obtain ⟨k, hk⟩ : ∃ k, zs.length = k + 1 := ⟨zs.length - 1, by omega⟩
      rw [hk] at hck hm ⊢
      clear hk h0
      rw [Nat.add_sub_cancel] at hck
      have hk0 : ((k : Int) + 1 == 0) = false := by simp; omega
      by_cases h1 : k + 1 ≤ 4096
      · go_enter Try.func13, Try.ntmps13
        go_wp2
        go_ret
        exact ⟨by simp [h1], rfl⟩
      · go_enter Try.func13, Try.ntmps13
        go_wp2
        go_ret
        exact ⟨by simp, rfl⟩

theorem notLong39 (a : Option Addr) (n cap : Nat) (w : World) (hn : n ≤ 4096) :
    Calls Try.prog 39 #[.slice a n cap] w fun e w' => e = .returned (.tuple #[.slice a n cap, .int .i64 0]) ∧ w = w' := by
  go_enter Try.func39, Try.ntmps39
  go_wp2
  go_ret2
  exact ⟨rfl, rfl⟩
theorem notLong39_no (a : Option Addr) (n cap : Nat) (w : World) (hn : 4096 < n) :
    Calls Try.prog 39 #[.slice a n cap] w fun e w' => e = .returned (.tuple #[.slice none 0 0, .int .i64 3]) ∧ w = w' := by
  go_enter Try.func39, Try.ntmps39
  go_wp2
  go_ret2
  exact ⟨rfl, rfl⟩

set_option maxHeartbeats 400000 in
theorem trim35 (a : Option Addr) (cap : Nat) (zs : List Int) (w : World) (hl : Lie w a zs) (hc : zs.length ≤ cap) (hm : cap ≤ maxLen) :
    Calls Try.prog 35 #[.slice a zs.length cap] w fun e w' => w = w' ∧ ∃ n, n ≤ zs.length ∧ e = .returned (.slice a n cap) ∧ (∀ j, n ≤ j → zs.getD j 0 = 0) ∧ (n ≠ 0 → zs.getD (n - 1) 0 ≠ 0) := by
  unfold maxLen at hm
  have hpast : ∀ j, zs.length ≤ j → zs.getD j 0 = 0 := fun j hj => by simp [List.getD_eq_getElem?_getD, List.getElem?_eq_none hj]
  rcases hl with rfl | ⟨b, o, rfl, hcell⟩
  · go_enter Try.func35, Try.ntmps35
    go_wp2
    refine wp_loop_rounds 1 ?_
    rw [rounds_succ]
    go_wp2
    go_ret
    exact ⟨rfl, 0, Nat.le_refl _, rfl, fun j _ => by simp, fun h => absurd rfl h⟩
  · generalize hn : zs.length = n at *
    have hN : Hid (zs.length = n) := hn
    clear hn
    go_enter Try.func35, Try.ntmps35
    go_wp2
    go_loop [3] (fun i => ∃ k : Nat, k ≤ n ∧ i = .int .i64 k ∧ ∀ j, k ≤ j → zs.getD j 0 = 0) (fun i => (intOf i).toNat)
    case atStart => exact ⟨n, Nat.le_refl _, rfl, hpast⟩
    case round =>
      obtain ⟨k, hk, rfl, hz⟩ := hrel
      have HZ : Hid (∀ j, k ≤ j → zs.getD j 0 = 0) := hz
      clear hz hpast
      cases k with
      | zero =>
        go_wp2
        go_ret
        exact ⟨rfl, 0, Nat.zero_le _, rfl, HZ.out, fun h => absurd rfl h⟩
      | succ k =>
        have hck := hcell k (by omega)
        clear hcell
        generalize hx : zs.getD k 0 = x at *
        have HX : Hid (zs.getD k 0 = x) := hx
        clear hx
        by_cases h0 : x = 0
        · subst h0
          go_wp2
          go_round
          case rel =>
            refine ⟨k, by omega, by go_num, fun j hj => ?_⟩
            by_cases e : j = k
            · subst e; exact HX.out
            · exact HZ.out j (by omega)
          case measure => simp [intOf]; try omega
        · have hb : (x == 0) = false := by simp [h0]
          go_wp2
          go_ret
          exact ⟨rfl, k + 1, hk, by go_num, HZ.out, fun _ => by have h := HX.out; simp only [List.getD_eq_getElem?_getD, Nat.add_sub_cancel] at h ⊢; rw [h]; exact h0⟩

set_option maxHeartbeats 400000 in
theorem allMay37 (b : Nat) (a1 a2 : Option Addr) (c1 c2 : Nat) (z1 z2 : List Int) (w : World) (hb1 : w.cell? ⟨b, 0, none⟩ = some (.slice a1 z1.length c1)) (hb2 : w.cell? ⟨b, 1, none⟩ = some (.slice a2 z2.length c2))
    (h1 : Lie w a1 z1) (h2 : Lie w a2 z2) (m1 : z1.length ≤ maxLen) (m2 : z2.length ≤ maxLen) :
    Calls Try.prog 37 #[.slice (some ⟨b, 0, none⟩) 2 2] w fun e w' => e = .returned (.bool (mayB z1 && mayB z2)) ∧ w = w' := by
  have k1 := fun w' (h : Lie w' a1 z1) => may13 a1 c1 z1 w' h m1
  have k2 := fun w' (h : Lie w' a2 z2) => may13 a2 c2 z2 w' h m2
  generalize mayB z1 = p1 at *
  generalize mayB z2 = p2 at *
  have K1 := Hide.mk k1
  have K2 := Hide.mk k2
  clear k1 k2 m1 m2
  cases p1
  · go_enter Try.func37, Try.ntmps37
    go_wp2
    refine wp_loop_rounds 3 ?_
    rw [rounds_succ]
    go_wp2_with fail
    refine (K1.out _ h1).mono ?_
    rintro e w' ⟨rfl, rfl⟩
    go_wp2_with fail
    go_ret
    exact ⟨rfl, rfl⟩
  · cases p2
    · go_enter Try.func37, Try.ntmps37
      go_wp2
      refine wp_loop_rounds 3 ?_
      rw [rounds_succ]
      go_wp2_with fail
      refine (K1.out _ h1).mono ?_
      rintro e w' ⟨rfl, rfl⟩
      go_wp2_with fail
      rw [rounds_succ]
      go_wp2_with fail
      refine (K2.out _ h2).mono ?_
      rintro e w' ⟨rfl, rfl⟩
      go_wp2_with fail
      go_ret
      exact ⟨rfl, rfl⟩
    · go_enter Try.func37, Try.ntmps37
      go_wp2
      refine wp_loop_rounds 3 ?_
      rw [rounds_succ]
      go_wp2_with fail
      refine (K1.out _ h1).mono ?_
      rintro e w' ⟨rfl, rfl⟩
      go_wp2_with fail
      rw [rounds_succ]
      go_wp2_with fail
      refine (K2.out _ h2).mono ?_
      rintro e w' ⟨rfl, rfl⟩
      go_wp2_with fail
      rw [rounds_succ]
      go_wp2_with fail
      go_ret
      exact ⟨rfl, rfl⟩
end Go.Proofs.Ytcjmamlffbhnlaa
