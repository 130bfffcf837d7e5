import Derived.Test.YtioiakemmhfhkaaDoorM15
namespace Go.Proofs.YtioiakemmhfhkaaDoor
open Go.RowKit
set_option linter.unusedVariables false
set_option maxRecDepth 3000
set_option maxHeartbeats 1000000 in
theorem dreftop54 (ng : Bool) (a : Option Addr) (c : Nat) (zs : List Int) (ex : Int) (w : World) (hl : Lie w a zs) (h : DG ng zs ex) (hz : 0 < zs.length) :
    Calls Tryd.prog 57 #[dV ng a zs.length c ex] w fun e w' => ∃ B : Nat, e = .returned (.int .i64 (ex + B)) ∧ BitLen (Nt.val zs) B ∧ B ≤ 131072 ∧ Below w.heap.size w w' := by
  have hb := below_alloc w (.cells #[.bool ng, .slice a zs.length c, .int .i64 ex] 44)
  have hd := dcell_new w (.bool ng) (.slice a zs.length c) (.int .i64 ex)
  have hx := h.ex_bd
  have g := h.good
  have hne : ((zs.length : Int) == 0) = false := beq_eq_false_iff_ne.2 (by omega)
  go_enter Tryd.func57, Tryd.ntmps57
  go_wp2_with fail
  generalize hw1 : w.alloc (.cells #[.bool ng, .slice a zs.length c, .int .i64 ex] 44) = w1 at *
  have hsz : w.heap.size + 1 = w1.heap.size := by rw [← hw1]; simp
  clear hw1
  have HI : Below (w.heap.size + 1) w1 w1.drew := (Below.refl _ _).drew
  have l1 := hl.below hb.drew (Nat.le_refl _)
  refine Drawn.enter (fun W => Below (w.heap.size + 1) w1 W) (by kernel_rfl) ?_
  refine Drawn.take (i := 0) (v := .pointer (some ⟨w.heap.size, 2, none⟩)) rfl (by kernel_rfl) (by kernel_rfl) (by kernel_rfl) (fun _ _ _ h => h) rfl (fun W hW => ?_) HI ?_
  · go_simp
  refine Drawn.take (i := 1) (v := .int .i64 ex) rfl (by kernel_rfl) (by kernel_rfl) (by kernel_rfl) (fun _ _ _ h => h) rfl (fun W hW => ?_) HI ?_
  · have hc0 := below_cell2 hW (by simp) hd.c2
    go_simp
  refine Drawn.take (i := 2) (v := .pointer (some ⟨w.heap.size, 1, none⟩)) rfl (by kernel_rfl) (by kernel_rfl) (by kernel_rfl) (fun _ _ _ h => h) rfl (fun W hW => ?_) HI ?_
  · go_simp
  refine Drawn.take (i := 3) (v := .slice a zs.length c) rfl (by kernel_rfl) (by kernel_rfl) (by kernel_rfl) (fun _ _ _ h => h) rfl (fun W hW => ?_) HI ?_
  · have hc0 := below_cell2 hW (by simp) hd.c1
    go_simp
  refine Drawn.one (j := 4) (by kernel_rfl) rfl (fun K hK => ?_)
  go_simp
  refine (refLenN a c zs _ l1 g).mono ?_
  rintro e w' ⟨rfl, B, rfl, hB, hB1⟩
  refine hK _ _ HI ?_
  clear hK K
  have HBB := Hide.mk hB
  clear hB
  refine Drawn.take (i := 5) (v := .int .i64 (ex + (B : Int))) rfl (by kernel_rfl) (by kernel_rfl) (by kernel_rfl) (fun _ _ _ h => h) rfl (fun W hW => ?_) HI ?_
  · go_simp
    exact wrap_ok (by omega) (by omega)
  refine Drawn.take (i := 6) (v := .int .i64 (ex + (B : Int))) rfl (by kernel_rfl) (by kernel_rfl) (by kernel_rfl) (fun _ _ _ h => h) rfl (fun W hW => ?_) HI ?_
  · go_simp
  refine Drawn.done (by kernel_rfl) ?_
  go_wp2
  go_ret
  exact ⟨B, rfl, HBB.out, hB1, hb.drew⟩
theorem fit64 {x : Int} {B k : Nat} (hB : BitLen x B) (h : B + k ≤ 64) (hx : 0 ≤ x) : 0 ≤ x * 2 ^ k ∧ x * 2 ^ k < 18446744073709551616 ∧ x * 2 ^ k < 4294967296 ^ 4096 := by
  have hp := p2pos k
  have h0 : 0 ≤ x * 2 ^ k := Int.mul_nonneg hx (by omega)
  have h1 : x * 2 ^ k < 2 ^ 64 := by
    rcases hB with ⟨rfl, _⟩ | ⟨_, c⟩
    · rw [Int.zero_mul]; exact p2pos _
    · have h1 := (c.up k).lt
      have := p2mono h
      omega
  have e : (2 : Int) ^ 64 = 18446744073709551616 := by decide
  have h2 : x * 2 ^ k < 4294967296 ^ 4096 := by
    refine small_pow ?_
    have e2 : (4294967296 : Int) ^ 2 = 18446744073709551616 := by decide
    omega
  exact ⟨h0, by omega, h2⟩
theorem two_digits {zs : List Int} {X : Int} (g : Good zs X) (h : X < 18446744073709551616) : zs.length ≤ 2 := by
  refine (Nt.can_len g.can 2).1 ?_
  rw [g.val, show (4294967296 : Int) ^ 2 = 18446744073709551616 by decide]
  exact h
set_option maxHeartbeats 2000000 in
theorem i45_neg (ng : Bool) (a : Option Addr) (c : Nat) (zs : List Int) (ex : Int) (w : World) (hl : Lie w a zs) (g : DG ng zs ex) (hT : Tab w) {B : Nat} (hB : BitLen (Nt.val zs) B) (h0 : ex < 0) :
    Calls Tryd.prog 48 #[dV ng a zs.length c ex] w fun e w' => e = .returned (.tuple #[.int .i64 0, .bool false]) ∧ Below w.heap.size w w' := by
  have hb := below_alloc w (.cells #[.bool ng, .slice a zs.length c, .int .i64 ex] 44)
  have d := dcell_new w (.bool ng) (.slice a zs.length c) (.int .i64 ex)
  have hx := g.ex_bd
  have hs1 : (w.alloc (.cells #[.bool ng, .slice a zs.length c, .int .i64 ex] 44)).heap.size = w.heap.size + 1 := by simp
  have HBL := Hide.mk hB
  clear hB
  go_enter Tryd.func48, Tryd.ntmps48
  go_wp2_with fail
  generalize hw1 : w.alloc (.cells #[.bool ng, .slice a zs.length c, .int .i64 ex] 44) = w1 at *
  clear hw1
  refine ((g.lie hl).may ng c ex true g.may _ hb).mono ?_
  rintro e w2 ⟨rfl, h2⟩
  have HB := below_then hb h2
  replace d := d.below h2 (by omega)
  have hsz : w.heap.size < w2.heap.size := by have := h2.size; omega
  clear h2 hb hs1
  have q0 := d.c0
  have q1 := d.c1
  have q2 := d.c2
  go_wp2
  go_ret2
  exact ⟨rfl, HB⟩
set_option maxHeartbeats 2000000 in
theorem i45_top (ng : Bool) (a : Option Addr) (c : Nat) (zs : List Int) (ex : Int) (w : World) (hl : Lie w a zs) (g : DG ng zs ex) (hT : Tab w) {B : Nat} (hB : BitLen (Nt.val zs) B) (h0 : 0 ≤ ex) (ht : 64 < B + ex) :
    Calls Tryd.prog 48 #[dV ng a zs.length c ex] w fun e w' => e = .returned (.tuple #[.int .i64 0, .bool false]) ∧ Below w.heap.size w w' := by
  have hb := below_alloc w (.cells #[.bool ng, .slice a zs.length c, .int .i64 ex] 44)
  have d := dcell_new w (.bool ng) (.slice a zs.length c) (.int .i64 ex)
  have hx := g.ex_bd
  have hs1 : (w.alloc (.cells #[.bool ng, .slice a zs.length c, .int .i64 ex] 44)).heap.size = w.heap.size + 1 := by simp
  have HBL := Hide.mk hB
  clear hB
  go_enter Tryd.func48, Tryd.ntmps48
  go_wp2_with fail
  generalize hw1 : w.alloc (.cells #[.bool ng, .slice a zs.length c, .int .i64 ex] 44) = w1 at *
  clear hw1
  refine ((g.lie hl).may ng c ex true g.may _ hb).mono ?_
  rintro e w2 ⟨rfl, h2⟩
  have HB := below_then hb h2
  replace d := d.below h2 (by omega)
  have hsz : w.heap.size < w2.heap.size := by have := h2.size; omega
  clear h2 hb hs1
  have q0 := d.c0
  have q1 := d.c1
  have q2 := d.c2
  go_wp2_with fail
  refine (dtop96 ng a c zs ex _ (hl.below HB (Nat.le_refl _)) g).mono ?_
  rintro e w3 ⟨B2, rfl, hB2, hB3, h3⟩
  obtain rfl := hB2.unique HBL.out
  clear hB2
  replace d := d.below h3 hsz
  have HB3 := below_then HB h3
  have hsz3 := Nat.lt_of_lt_of_le hsz h3.size
  clear h3 q0 q1 q2
  have q0 := d.c0
  have q1 := d.c1
  have q2 := d.c2
  generalize hbi : (B2 : Int) = bi at *
  clear hbi
  go_wp2
  go_ret2
  exact ⟨rfl, HB3⟩
set_option maxHeartbeats 2000000 in
theorem i45_n1 (a : Option Addr) (c : Nat) (zs : List Int) (ex : Int) (w : World) (hl : Lie w a zs) (g : DG true zs ex) (hT : Tab w) {B : Nat} (hB : BitLen (Nt.val zs) B) (h0 : 0 ≤ ex) (ht : B + ex ≤ 64) (hX : (Nt.val zs * 2 ^ ex.toNat) ≤ 9223372036854775807) :
    Calls Tryd.prog 48 #[dV true a zs.length c ex] w fun e w' => e = .returned (.tuple #[.int .i64 (-(Nt.val zs * 2 ^ ex.toNat)), .bool true]) ∧ Below w.heap.size w w' := by
  have hb := below_alloc w (.cells #[.bool true, .slice a zs.length c, .int .i64 ex] 44)
  have d := dcell_new w (.bool true) (.slice a zs.length c) (.int .i64 ex)
  have hx := g.ex_bd
  have hs1 : (w.alloc (.cells #[.bool true, .slice a zs.length c, .int .i64 ex] 44)).heap.size = w.heap.size + 1 := by simp
  have HBL := Hide.mk hB
  clear hB
  obtain ⟨f1, f2, f3⟩ := fit64 (k := ex.toNat) HBL.out (by omega) g.good.nonneg
  have HF := Hide.mk f3
  have HF1 := Hide.mk f1
  have HF2 := Hide.mk f2
  clear f1 f2 f3
  go_enter Tryd.func48, Tryd.ntmps48
  go_wp2_with fail
  generalize hw1 : w.alloc (.cells #[.bool true, .slice a zs.length c, .int .i64 ex] 44) = w1 at *
  clear hw1
  refine ((g.lie hl).may true c ex true g.may _ hb).mono ?_
  rintro e w2 ⟨rfl, h2⟩
  have HB := below_then hb h2
  replace d := d.below h2 (by omega)
  have hsz : w.heap.size < w2.heap.size := by have := h2.size; omega
  clear h2 hb hs1
  have q0 := d.c0
  have q1 := d.c1
  have q2 := d.c2
  go_wp2_with fail
  refine (dtop96 true a c zs ex _ (hl.below HB (Nat.le_refl _)) g).mono ?_
  rintro e w3 ⟨B2, rfl, hB2, hB3, h3⟩
  obtain rfl := hB2.unique HBL.out
  clear hB2
  replace d := d.below h3 hsz
  have HB3 := below_then HB h3
  have hsz3 := Nat.lt_of_lt_of_le hsz h3.size
  clear h3 q0 q1 q2
  have q0 := d.c0
  have q1 := d.c1
  have q2 := d.c2
  generalize hbi : (B2 : Int) = bi at *
  clear hbi
  go_wp2_with fail
  refine (shiftedU a c zs _ (hl.below HB3 (Nat.le_refl _)) g.good ex ex.toNat (by omega) HF.out).mono ?_
  rintro e w4 ⟨z4, a4, c4, rfl, h4, _⟩
  replace d := d.below h4.bel hsz3
  have HB4 := below_then HB3 h4.bel
  have G4 := h4.good
  have l4 := h4.lie
  clear h4 q0 q1 q2
  have q0 := d.c0
  have q1 := d.c1
  have q2 := d.c2
  have HN := Hide.mk (num_yes a4 c4 z4 _ G4.may l4 G4.can.1 (two_digits G4 HF2.out))
  rw [G4.val] at HN
  have b0 := HF1.out
  have b1 := HF2.out
  clear HF HF1 HF2 G4 l4
  generalize hXX : Nt.val zs * 2 ^ ex.toNat = X at *
  have HXX := Hide.mk hXX
  clear hXX
  have hXb : 0 ≤ X ∧ X < 18446744073709551616 := ⟨b0, b1⟩
  clear hXb
  go_wp2_with fail
  refine HN.out.mono ?_
  rintro e w' ⟨rfl, rfl⟩
  clear HN
  go_wp2
  go_ret2
  exact ⟨by rw [HXX.out]; rfl, HB4⟩
set_option maxHeartbeats 2000000 in
theorem i45_n2 (a : Option Addr) (c : Nat) (zs : List Int) (ex : Int) (w : World) (hl : Lie w a zs) (g : DG true zs ex) (hT : Tab w) {B : Nat} (hB : BitLen (Nt.val zs) B) (h0 : 0 ≤ ex) (ht : B + ex ≤ 64) (hX : (Nt.val zs * 2 ^ ex.toNat) = 9223372036854775808) :
    Calls Tryd.prog 48 #[dV true a zs.length c ex] w fun e w' => e = .returned (.tuple #[.int .i64 (-9223372036854775808), .bool true]) ∧ Below w.heap.size w w' := by
  have hb := below_alloc w (.cells #[.bool true, .slice a zs.length c, .int .i64 ex] 44)
  have d := dcell_new w (.bool true) (.slice a zs.length c) (.int .i64 ex)
  have hx := g.ex_bd
  have hs1 : (w.alloc (.cells #[.bool true, .slice a zs.length c, .int .i64 ex] 44)).heap.size = w.heap.size + 1 := by simp
  have HBL := Hide.mk hB
  clear hB
  obtain ⟨f1, f2, f3⟩ := fit64 (k := ex.toNat) HBL.out (by omega) g.good.nonneg
  have HF := Hide.mk f3
  have HF1 := Hide.mk f1
  have HF2 := Hide.mk f2
  clear f1 f2 f3
  go_enter Tryd.func48, Tryd.ntmps48
  go_wp2_with fail
  generalize hw1 : w.alloc (.cells #[.bool true, .slice a zs.length c, .int .i64 ex] 44) = w1 at *
  clear hw1
  refine ((g.lie hl).may true c ex true g.may _ hb).mono ?_
  rintro e w2 ⟨rfl, h2⟩
  have HB := below_then hb h2
  replace d := d.below h2 (by omega)
  have hsz : w.heap.size < w2.heap.size := by have := h2.size; omega
  clear h2 hb hs1
  have q0 := d.c0
  have q1 := d.c1
  have q2 := d.c2
  go_wp2_with fail
  refine (dtop96 true a c zs ex _ (hl.below HB (Nat.le_refl _)) g).mono ?_
  rintro e w3 ⟨B2, rfl, hB2, hB3, h3⟩
  obtain rfl := hB2.unique HBL.out
  clear hB2
  replace d := d.below h3 hsz
  have HB3 := below_then HB h3
  have hsz3 := Nat.lt_of_lt_of_le hsz h3.size
  clear h3 q0 q1 q2
  have q0 := d.c0
  have q1 := d.c1
  have q2 := d.c2
  generalize hbi : (B2 : Int) = bi at *
  clear hbi
  go_wp2_with fail
  refine (shiftedU a c zs _ (hl.below HB3 (Nat.le_refl _)) g.good ex ex.toNat (by omega) HF.out).mono ?_
  rintro e w4 ⟨z4, a4, c4, rfl, h4, _⟩
  replace d := d.below h4.bel hsz3
  have HB4 := below_then HB3 h4.bel
  have G4 := h4.good
  have l4 := h4.lie
  clear h4 q0 q1 q2
  have q0 := d.c0
  have q1 := d.c1
  have q2 := d.c2
  have HN := Hide.mk (num_yes a4 c4 z4 _ G4.may l4 G4.can.1 (two_digits G4 HF2.out))
  rw [G4.val] at HN
  have b0 := HF1.out
  have b1 := HF2.out
  clear HF HF1 HF2 G4 l4
  generalize hXX : Nt.val zs * 2 ^ ex.toNat = X at *
  have HXX := Hide.mk hXX
  clear hXX
  have hXb : 0 ≤ X ∧ X < 18446744073709551616 := ⟨b0, b1⟩
  clear hXb
  go_wp2_with fail
  refine HN.out.mono ?_
  rintro e w' ⟨rfl, rfl⟩
  clear HN
  go_wp2
  go_ret2
  exact ⟨rfl, HB4⟩
set_option maxHeartbeats 2000000 in
theorem i45_n3 (a : Option Addr) (c : Nat) (zs : List Int) (ex : Int) (w : World) (hl : Lie w a zs) (g : DG true zs ex) (hT : Tab w) {B : Nat} (hB : BitLen (Nt.val zs) B) (h0 : 0 ≤ ex) (ht : B + ex ≤ 64) (hX : 9223372036854775808 < (Nt.val zs * 2 ^ ex.toNat)) :
    Calls Tryd.prog 48 #[dV true a zs.length c ex] w fun e w' => e = .returned (.tuple #[.int .i64 0, .bool false]) ∧ Below w.heap.size w w' := by
  have hb := below_alloc w (.cells #[.bool true, .slice a zs.length c, .int .i64 ex] 44)
  have d := dcell_new w (.bool true) (.slice a zs.length c) (.int .i64 ex)
  have hx := g.ex_bd
  have hs1 : (w.alloc (.cells #[.bool true, .slice a zs.length c, .int .i64 ex] 44)).heap.size = w.heap.size + 1 := by simp
  have HBL := Hide.mk hB
  clear hB
  obtain ⟨f1, f2, f3⟩ := fit64 (k := ex.toNat) HBL.out (by omega) g.good.nonneg
  have HF := Hide.mk f3
  have HF1 := Hide.mk f1
  have HF2 := Hide.mk f2
  clear f1 f2 f3
  go_enter Tryd.func48, Tryd.ntmps48
  go_wp2_with fail
  generalize hw1 : w.alloc (.cells #[.bool true, .slice a zs.length c, .int .i64 ex] 44) = w1 at *
  clear hw1
  refine ((g.lie hl).may true c ex true g.may _ hb).mono ?_
  rintro e w2 ⟨rfl, h2⟩
  have HB := below_then hb h2
  replace d := d.below h2 (by omega)
  have hsz : w.heap.size < w2.heap.size := by have := h2.size; omega
  clear h2 hb hs1
  have q0 := d.c0
  have q1 := d.c1
  have q2 := d.c2
  go_wp2_with fail
  refine (dtop96 true a c zs ex _ (hl.below HB (Nat.le_refl _)) g).mono ?_
  rintro e w3 ⟨B2, rfl, hB2, hB3, h3⟩
  obtain rfl := hB2.unique HBL.out
  clear hB2
  replace d := d.below h3 hsz
  have HB3 := below_then HB h3
  have hsz3 := Nat.lt_of_lt_of_le hsz h3.size
  clear h3 q0 q1 q2
  have q0 := d.c0
  have q1 := d.c1
  have q2 := d.c2
  generalize hbi : (B2 : Int) = bi at *
  clear hbi
  go_wp2_with fail
  refine (shiftedU a c zs _ (hl.below HB3 (Nat.le_refl _)) g.good ex ex.toNat (by omega) HF.out).mono ?_
  rintro e w4 ⟨z4, a4, c4, rfl, h4, _⟩
  replace d := d.below h4.bel hsz3
  have HB4 := below_then HB3 h4.bel
  have G4 := h4.good
  have l4 := h4.lie
  clear h4 q0 q1 q2
  have q0 := d.c0
  have q1 := d.c1
  have q2 := d.c2
  have HN := Hide.mk (num_yes a4 c4 z4 _ G4.may l4 G4.can.1 (two_digits G4 HF2.out))
  rw [G4.val] at HN
  have b0 := HF1.out
  have b1 := HF2.out
  clear HF HF1 HF2 G4 l4
  generalize hXX : Nt.val zs * 2 ^ ex.toNat = X at *
  have HXX := Hide.mk hXX
  clear hXX
  have hXb : 0 ≤ X ∧ X < 18446744073709551616 := ⟨b0, b1⟩
  clear hXb
  go_wp2_with fail
  refine HN.out.mono ?_
  rintro e w' ⟨rfl, rfl⟩
  clear HN
  go_wp2
  go_ret2
  exact ⟨rfl, HB4⟩
set_option maxHeartbeats 2000000 in
theorem i45_p1 (a : Option Addr) (c : Nat) (zs : List Int) (ex : Int) (w : World) (hl : Lie w a zs) (g : DG false zs ex) (hT : Tab w) {B : Nat} (hB : BitLen (Nt.val zs) B) (h0 : 0 ≤ ex) (ht : B + ex ≤ 64) (hX : (Nt.val zs * 2 ^ ex.toNat) ≤ 9223372036854775807) :
    Calls Tryd.prog 48 #[dV false a zs.length c ex] w fun e w' => e = .returned (.tuple #[.int .i64 (Nt.val zs * 2 ^ ex.toNat), .bool true]) ∧ Below w.heap.size w w' := by
  have hb := below_alloc w (.cells #[.bool false, .slice a zs.length c, .int .i64 ex] 44)
  have d := dcell_new w (.bool false) (.slice a zs.length c) (.int .i64 ex)
  have hx := g.ex_bd
  have hs1 : (w.alloc (.cells #[.bool false, .slice a zs.length c, .int .i64 ex] 44)).heap.size = w.heap.size + 1 := by simp
  have HBL := Hide.mk hB
  clear hB
  obtain ⟨f1, f2, f3⟩ := fit64 (k := ex.toNat) HBL.out (by omega) g.good.nonneg
  have HF := Hide.mk f3
  have HF1 := Hide.mk f1
  have HF2 := Hide.mk f2
  clear f1 f2 f3
  go_enter Tryd.func48, Tryd.ntmps48
  go_wp2_with fail
  generalize hw1 : w.alloc (.cells #[.bool false, .slice a zs.length c, .int .i64 ex] 44) = w1 at *
  clear hw1
  refine ((g.lie hl).may false c ex true g.may _ hb).mono ?_
  rintro e w2 ⟨rfl, h2⟩
  have HB := below_then hb h2
  replace d := d.below h2 (by omega)
  have hsz : w.heap.size < w2.heap.size := by have := h2.size; omega
  clear h2 hb hs1
  have q0 := d.c0
  have q1 := d.c1
  have q2 := d.c2
  go_wp2_with fail
  refine (dtop96 false a c zs ex _ (hl.below HB (Nat.le_refl _)) g).mono ?_
  rintro e w3 ⟨B2, rfl, hB2, hB3, h3⟩
  obtain rfl := hB2.unique HBL.out
  clear hB2
  replace d := d.below h3 hsz
  have HB3 := below_then HB h3
  have hsz3 := Nat.lt_of_lt_of_le hsz h3.size
  clear h3 q0 q1 q2
  have q0 := d.c0
  have q1 := d.c1
  have q2 := d.c2
  generalize hbi : (B2 : Int) = bi at *
  clear hbi
  go_wp2_with fail
  refine (shiftedU a c zs _ (hl.below HB3 (Nat.le_refl _)) g.good ex ex.toNat (by omega) HF.out).mono ?_
  rintro e w4 ⟨z4, a4, c4, rfl, h4, _⟩
  replace d := d.below h4.bel hsz3
  have HB4 := below_then HB3 h4.bel
  have G4 := h4.good
  have l4 := h4.lie
  clear h4 q0 q1 q2
  have q0 := d.c0
  have q1 := d.c1
  have q2 := d.c2
  have HN := Hide.mk (num_yes a4 c4 z4 _ G4.may l4 G4.can.1 (two_digits G4 HF2.out))
  rw [G4.val] at HN
  have b0 := HF1.out
  have b1 := HF2.out
  clear HF HF1 HF2 G4 l4
  generalize hXX : Nt.val zs * 2 ^ ex.toNat = X at *
  have HXX := Hide.mk hXX
  clear hXX
  have hXb : 0 ≤ X ∧ X < 18446744073709551616 := ⟨b0, b1⟩
  clear hXb
  go_wp2_with fail
  refine HN.out.mono ?_
  rintro e w' ⟨rfl, rfl⟩
  clear HN
  go_wp2
  go_ret2
  exact ⟨by rw [HXX.out]; rfl, HB4⟩
set_option maxHeartbeats 2000000 in
theorem i45_p2 (a : Option Addr) (c : Nat) (zs : List Int) (ex : Int) (w : World) (hl : Lie w a zs) (g : DG false zs ex) (hT : Tab w) {B : Nat} (hB : BitLen (Nt.val zs) B) (h0 : 0 ≤ ex) (ht : B + ex ≤ 64) (hX : (Nt.val zs * 2 ^ ex.toNat) = 9223372036854775808) :
    Calls Tryd.prog 48 #[dV false a zs.length c ex] w fun e w' => e = .returned (.tuple #[.int .i64 0, .bool false]) ∧ Below w.heap.size w w' := by
  have hb := below_alloc w (.cells #[.bool false, .slice a zs.length c, .int .i64 ex] 44)
  have d := dcell_new w (.bool false) (.slice a zs.length c) (.int .i64 ex)
  have hx := g.ex_bd
  have hs1 : (w.alloc (.cells #[.bool false, .slice a zs.length c, .int .i64 ex] 44)).heap.size = w.heap.size + 1 := by simp
  have HBL := Hide.mk hB
  clear hB
  obtain ⟨f1, f2, f3⟩ := fit64 (k := ex.toNat) HBL.out (by omega) g.good.nonneg
  have HF := Hide.mk f3
  have HF1 := Hide.mk f1
  have HF2 := Hide.mk f2
  clear f1 f2 f3
  go_enter Tryd.func48, Tryd.ntmps48
  go_wp2_with fail
  generalize hw1 : w.alloc (.cells #[.bool false, .slice a zs.length c, .int .i64 ex] 44) = w1 at *
  clear hw1
  refine ((g.lie hl).may false c ex true g.may _ hb).mono ?_
  rintro e w2 ⟨rfl, h2⟩
  have HB := below_then hb h2
  replace d := d.below h2 (by omega)
  have hsz : w.heap.size < w2.heap.size := by have := h2.size; omega
  clear h2 hb hs1
  have q0 := d.c0
  have q1 := d.c1
  have q2 := d.c2
  go_wp2_with fail
  refine (dtop96 false a c zs ex _ (hl.below HB (Nat.le_refl _)) g).mono ?_
  rintro e w3 ⟨B2, rfl, hB2, hB3, h3⟩
  obtain rfl := hB2.unique HBL.out
  clear hB2
  replace d := d.below h3 hsz
  have HB3 := below_then HB h3
  have hsz3 := Nat.lt_of_lt_of_le hsz h3.size
  clear h3 q0 q1 q2
  have q0 := d.c0
  have q1 := d.c1
  have q2 := d.c2
  generalize hbi : (B2 : Int) = bi at *
  clear hbi
  go_wp2_with fail
  refine (shiftedU a c zs _ (hl.below HB3 (Nat.le_refl _)) g.good ex ex.toNat (by omega) HF.out).mono ?_
  rintro e w4 ⟨z4, a4, c4, rfl, h4, _⟩
  replace d := d.below h4.bel hsz3
  have HB4 := below_then HB3 h4.bel
  have G4 := h4.good
  have l4 := h4.lie
  clear h4 q0 q1 q2
  have q0 := d.c0
  have q1 := d.c1
  have q2 := d.c2
  have HN := Hide.mk (num_yes a4 c4 z4 _ G4.may l4 G4.can.1 (two_digits G4 HF2.out))
  rw [G4.val] at HN
  have b0 := HF1.out
  have b1 := HF2.out
  clear HF HF1 HF2 G4 l4
  generalize hXX : Nt.val zs * 2 ^ ex.toNat = X at *
  have HXX := Hide.mk hXX
  clear hXX
  have hXb : 0 ≤ X ∧ X < 18446744073709551616 := ⟨b0, b1⟩
  clear hXb
  go_wp2_with fail
  refine HN.out.mono ?_
  rintro e w' ⟨rfl, rfl⟩
  clear HN
  go_wp2
  go_ret2
  exact ⟨rfl, HB4⟩
set_option maxHeartbeats 2000000 in
theorem i45_p3 (a : Option Addr) (c : Nat) (zs : List Int) (ex : Int) (w : World) (hl : Lie w a zs) (g : DG false zs ex) (hT : Tab w) {B : Nat} (hB : BitLen (Nt.val zs) B) (h0 : 0 ≤ ex) (ht : B + ex ≤ 64) (hX : 9223372036854775808 < (Nt.val zs * 2 ^ ex.toNat)) :
    Calls Tryd.prog 48 #[dV false a zs.length c ex] w fun e w' => e = .returned (.tuple #[.int .i64 0, .bool false]) ∧ Below w.heap.size w w' := by
  have hb := below_alloc w (.cells #[.bool false, .slice a zs.length c, .int .i64 ex] 44)
  have d := dcell_new w (.bool false) (.slice a zs.length c) (.int .i64 ex)
  have hx := g.ex_bd
  have hs1 : (w.alloc (.cells #[.bool false, .slice a zs.length c, .int .i64 ex] 44)).heap.size = w.heap.size + 1 := by simp
  have HBL := Hide.mk hB
  clear hB
  obtain ⟨f1, f2, f3⟩ := fit64 (k := ex.toNat) HBL.out (by omega) g.good.nonneg
  have HF := Hide.mk f3
  have HF1 := Hide.mk f1
  have HF2 := Hide.mk f2
  clear f1 f2 f3
  go_enter Tryd.func48, Tryd.ntmps48
  go_wp2_with fail
  generalize hw1 : w.alloc (.cells #[.bool false, .slice a zs.length c, .int .i64 ex] 44) = w1 at *
  clear hw1
  refine ((g.lie hl).may false c ex true g.may _ hb).mono ?_
  rintro e w2 ⟨rfl, h2⟩
  have HB := below_then hb h2
  replace d := d.below h2 (by omega)
  have hsz : w.heap.size < w2.heap.size := by have := h2.size; omega
  clear h2 hb hs1
  have q0 := d.c0
  have q1 := d.c1
  have q2 := d.c2
  go_wp2_with fail
  refine (dtop96 false a c zs ex _ (hl.below HB (Nat.le_refl _)) g).mono ?_
  rintro e w3 ⟨B2, rfl, hB2, hB3, h3⟩
  obtain rfl := hB2.unique HBL.out
  clear hB2
  replace d := d.below h3 hsz
  have HB3 := below_then HB h3
  have hsz3 := Nat.lt_of_lt_of_le hsz h3.size
  clear h3 q0 q1 q2
  have q0 := d.c0
  have q1 := d.c1
  have q2 := d.c2
  generalize hbi : (B2 : Int) = bi at *
  clear hbi
  go_wp2_with fail
  refine (shiftedU a c zs _ (hl.below HB3 (Nat.le_refl _)) g.good ex ex.toNat (by omega) HF.out).mono ?_
  rintro e w4 ⟨z4, a4, c4, rfl, h4, _⟩
  replace d := d.below h4.bel hsz3
  have HB4 := below_then HB3 h4.bel
  have G4 := h4.good
  have l4 := h4.lie
  clear h4 q0 q1 q2
  have q0 := d.c0
  have q1 := d.c1
  have q2 := d.c2
  have HN := Hide.mk (num_yes a4 c4 z4 _ G4.may l4 G4.can.1 (two_digits G4 HF2.out))
  rw [G4.val] at HN
  have b0 := HF1.out
  have b1 := HF2.out
  clear HF HF1 HF2 G4 l4
  generalize hXX : Nt.val zs * 2 ^ ex.toNat = X at *
  have HXX := Hide.mk hXX
  clear hXX
  have hXb : 0 ≤ X ∧ X < 18446744073709551616 := ⟨b0, b1⟩
  clear hXb
  go_wp2_with fail
  refine HN.out.mono ?_
  rintro e w' ⟨rfl, rfl⟩
  clear HN
  go_wp2
  go_ret2
  exact ⟨rfl, HB4⟩
/-- The value as an int64, where it is one. -/
def i64r (ng : Bool) (x ex : Int) (B : Nat) : Int × Bool :=
  if ex < 0 ∨ 64 < B + ex then (0, false) else if ng then (if x * 2 ^ ex.toNat ≤ 9223372036854775808 then (-(x * 2 ^ ex.toNat), true) else (0, false)) else (if x * 2 ^ ex.toNat < 9223372036854775808 then (x * 2 ^ ex.toNat, true) else (0, false))
theorem dint64_45 (ng : Bool) (a : Option Addr) (c : Nat) (zs : List Int) (ex : Int) (w : World) (hl : Lie w a zs) (g : DG ng zs ex) (hT : Tab w) {B : Nat} (hB : BitLen (Nt.val zs) B) (k : Int) (q : Bool) (hr : i64r ng (Nt.val zs) ex B = (k, q)) :
    Calls Tryd.prog 48 #[dV ng a zs.length c ex] w fun e w' => e = .returned (.tuple #[.int .i64 k, .bool q]) ∧ Below w.heap.size w w' := by
  unfold i64r at hr
  by_cases h0 : ex < 0
  · rw [if_pos (.inl h0)] at hr
    cases hr
    exact i45_neg ng a c zs ex w hl g hT hB h0
  · by_cases h1 : 64 < B + ex
    · rw [if_pos (.inr h1)] at hr
      cases hr
      exact i45_top ng a c zs ex w hl g hT hB (by omega) h1
    · rw [if_neg (by omega)] at hr
      cases ng
      · simp only [Bool.false_eq_true, if_false] at hr
        by_cases h2 : Nt.val zs * 2 ^ ex.toNat < 9223372036854775808
        · rw [if_pos h2] at hr
          cases hr
          exact i45_p1 a c zs ex w hl g hT hB (by omega) (by omega) (by omega)
        · rw [if_neg h2] at hr
          cases hr
          by_cases h3 : Nt.val zs * 2 ^ ex.toNat = 9223372036854775808
          · exact i45_p2 a c zs ex w hl g hT hB (by omega) (by omega) h3
          · exact i45_p3 a c zs ex w hl g hT hB (by omega) (by omega) (by omega)
      · simp only [if_true] at hr
        by_cases h2 : Nt.val zs * 2 ^ ex.toNat ≤ 9223372036854775808
        · rw [if_pos h2] at hr
          cases hr
          by_cases h3 : Nt.val zs * 2 ^ ex.toNat = 9223372036854775808
          · have := i45_n2 a c zs ex w hl g hT hB (by omega) (by omega) h3
            rw [h3]; exact this
          · exact i45_n1 a c zs ex w hl g hT hB (by omega) (by omega) (by omega)
        · rw [if_neg h2] at hr
          cases hr
          exact i45_n3 a c zs ex w hl g hT hB (by omega) (by omega) (by omega)
theorem dint64_bad (ng : Bool) (a : Option Addr) (c : Nat) (zs : List Int) (ex : Int) (w : World) (u : DLie w a zs) (hq : dmayB ng zs ex = false) :
    Calls Tryd.prog 48 #[dV ng a zs.length c ex] w fun e w' => e = .returned (.tuple #[.int .i64 0, .bool false]) ∧ Below w.heap.size w w' := by
  have hb := below_alloc w (.cells #[.bool ng, .slice a zs.length c, .int .i64 ex] 44)
  have HM := Hide.mk (u.may ng c ex false hq _ hb)
  go_enter Tryd.func48, Tryd.ntmps48
  go_wp2_with fail
  refine HM.out.mono ?_
  rintro e w2 ⟨rfl, h2⟩
  have HB := below_then hb h2
  clear h2 HM
  go_wp2
  go_ret2
  exact ⟨rfl, HB⟩

set_option maxHeartbeats 2000000 in
theorem i46_nil (ng : Bool) (a : Option Addr) (c : Nat) (zs : List Int) (ex : Int) (w : World) (hl : Lie w a zs) (g : DG ng zs ex) {B : Nat} (hB : BitLen (Nt.val zs) B) (hz : zs.length ≤ 0) :
    Calls Tryd.prog 49 #[dV ng a zs.length c ex] w fun e w' => e = .returned (.tuple #[.int .i64 0, .bool true]) ∧ Below w.heap.size w w' := by
  have hb := below_alloc w (.cells #[.bool ng, .slice a zs.length c, .int .i64 ex] 44)
  have d := dcell_new w (.bool ng) (.slice a zs.length c) (.int .i64 ex)
  have hx := g.ex_bd
  have hs1 : (w.alloc (.cells #[.bool ng, .slice a zs.length c, .int .i64 ex] 44)).heap.size = w.heap.size + 1 := by simp
  have HBL := Hide.mk hB
  clear hB
  go_enter Tryd.func49, Tryd.ntmps49
  go_wp2
  go_ret2
  exact ⟨rfl, hb⟩
set_option maxHeartbeats 2000000 in
theorem i46_neg (ng : Bool) (a : Option Addr) (c : Nat) (zs : List Int) (ex : Int) (w : World) (hl : Lie w a zs) (g : DG ng zs ex) {B : Nat} (hB : BitLen (Nt.val zs) B) (hz : 0 < zs.length) (h0 : ex < 0) :
    Calls Tryd.prog 49 #[dV ng a zs.length c ex] w fun e w' => e = .returned (.tuple #[.int .i64 0, .bool false]) ∧ Below w.heap.size w w' := by
  have hb := below_alloc w (.cells #[.bool ng, .slice a zs.length c, .int .i64 ex] 44)
  have d := dcell_new w (.bool ng) (.slice a zs.length c) (.int .i64 ex)
  have hx := g.ex_bd
  have hs1 : (w.alloc (.cells #[.bool ng, .slice a zs.length c, .int .i64 ex] 44)).heap.size = w.heap.size + 1 := by simp
  have HBL := Hide.mk hB
  clear hB
  have hne : ((zs.length : Int) == 0) = false := beq_eq_false_iff_ne.2 (by omega)
  go_enter Tryd.func49, Tryd.ntmps49
  go_wp2
  go_ret2
  exact ⟨rfl, hb⟩
set_option maxHeartbeats 2000000 in
theorem i46_top (ng : Bool) (a : Option Addr) (c : Nat) (zs : List Int) (ex : Int) (w : World) (hl : Lie w a zs) (g : DG ng zs ex) {B : Nat} (hB : BitLen (Nt.val zs) B) (hz : 0 < zs.length) (h0 : 0 ≤ ex) (ht : 64 < ex + B) :
    Calls Tryd.prog 49 #[dV ng a zs.length c ex] w fun e w' => e = .returned (.tuple #[.int .i64 0, .bool false]) ∧ Below w.heap.size w w' := by
  have hb := below_alloc w (.cells #[.bool ng, .slice a zs.length c, .int .i64 ex] 44)
  have d := dcell_new w (.bool ng) (.slice a zs.length c) (.int .i64 ex)
  have hx := g.ex_bd
  have hs1 : (w.alloc (.cells #[.bool ng, .slice a zs.length c, .int .i64 ex] 44)).heap.size = w.heap.size + 1 := by simp
  have HBL := Hide.mk hB
  clear hB
  have hne : ((zs.length : Int) == 0) = false := beq_eq_false_iff_ne.2 (by omega)
  go_enter Tryd.func49, Tryd.ntmps49
  go_wp2_with fail
  generalize hw1 : w.alloc (.cells #[.bool ng, .slice a zs.length c, .int .i64 ex] 44) = w1 at *
  clear hw1
  refine (dreftop54 ng a c zs ex _ (hl.below hb (Nat.le_refl _)) g hz).mono ?_
  rintro e w3 ⟨B2, rfl, hB2, hB3, h3⟩
  obtain rfl := hB2.unique HBL.out
  clear hB2
  replace d := d.below h3 (by omega)
  have HB3 := below_then hb h3
  have hsz3 : w.heap.size < w3.heap.size := by have := h3.size; omega
  clear h3 hb hs1
  have q0 := d.c0
  have q1 := d.c1
  have q2 := d.c2
  have hbi0 : (0 : Int) ≤ (B2 : Int) := by omega
  generalize hbi : (B2 : Int) = bi at *
  clear hbi
  go_wp2
  go_ret2
  exact ⟨rfl, HB3⟩
set_option maxHeartbeats 2000000 in
theorem i46_n1 (a : Option Addr) (c : Nat) (zs : List Int) (ex : Int) (w : World) (hl : Lie w a zs) (g : DG true zs ex) {B : Nat} (hB : BitLen (Nt.val zs) B) (hz : 0 < zs.length) (h0 : 0 ≤ ex) (ht : ex + B ≤ 64) (hf : (Nt.val zs * 2 ^ ex.toNat) < 4294967296 ^ 4096) (x : Int) (hx0 : 0 ≤ x) (hx1 : x < 4294967296) (hu : Good [x] (Nt.val zs * 2 ^ ex.toNat)) :
    Calls Tryd.prog 49 #[dV true a zs.length c ex] w fun e w' => e = .returned (.tuple #[.int .i64 (-x), .bool true]) ∧ Below w.heap.size w w' := by
  have hb := below_alloc w (.cells #[.bool true, .slice a zs.length c, .int .i64 ex] 44)
  have d := dcell_new w (.bool true) (.slice a zs.length c) (.int .i64 ex)
  have hx := g.ex_bd
  have hs1 : (w.alloc (.cells #[.bool true, .slice a zs.length c, .int .i64 ex] 44)).heap.size = w.heap.size + 1 := by simp
  have HBL := Hide.mk hB
  clear hB
  have hne : ((zs.length : Int) == 0) = false := beq_eq_false_iff_ne.2 (by omega)
  have HF := Hide.mk hf
  clear hf
  have HU := Hide.mk hu
  clear hu
  go_enter Tryd.func49, Tryd.ntmps49
  go_wp2_with fail
  generalize hw1 : w.alloc (.cells #[.bool true, .slice a zs.length c, .int .i64 ex] 44) = w1 at *
  clear hw1
  refine (dreftop54 true a c zs ex _ (hl.below hb (Nat.le_refl _)) g hz).mono ?_
  rintro e w3 ⟨B2, rfl, hB2, hB3, h3⟩
  obtain rfl := hB2.unique HBL.out
  clear hB2
  replace d := d.below h3 (by omega)
  have HB3 := below_then hb h3
  have hsz3 : w.heap.size < w3.heap.size := by have := h3.size; omega
  clear h3 hb hs1
  have q0 := d.c0
  have q1 := d.c1
  have q2 := d.c2
  have hbi0 : (0 : Int) ≤ (B2 : Int) := by omega
  generalize hbi : (B2 : Int) = bi at *
  clear hbi
  go_wp2_with fail
  refine (refUpN a c zs _ (hl.below HB3 (Nat.le_refl _)) g.good ex ex.toNat (by omega) (by omega) HF.out).mono ?_
  rintro e w4 ⟨z4, a4, c4, rfl, h4, _⟩
  replace d := d.below h4.bel hsz3
  have HB4 := below_then HB3 h4.bel
  have G4 := h4.good
  have l4 := h4.lie
  clear h4 q0 q1 q2
  have q0 := d.c0
  have q1 := d.c1
  have q2 := d.c2
  obtain rfl : z4 = [x] := G4.same HU.out rfl
  obtain ⟨b, o, rfl⟩ := lie_some l4 (by simp)
  have k0 : w4.cell? ⟨b, o, none⟩ = some (.int .u32 x) := lie_cell l4 rfl (i := 0) (by simp)
  clear l4 G4 HF HU
  go_wp2
  go_ret2
  exact ⟨rfl, HB4⟩
set_option maxHeartbeats 2000000 in
theorem i46_p1 (a : Option Addr) (c : Nat) (zs : List Int) (ex : Int) (w : World) (hl : Lie w a zs) (g : DG false zs ex) {B : Nat} (hB : BitLen (Nt.val zs) B) (hz : 0 < zs.length) (h0 : 0 ≤ ex) (ht : ex + B ≤ 64) (hf : (Nt.val zs * 2 ^ ex.toNat) < 4294967296 ^ 4096) (x : Int) (hx0 : 0 ≤ x) (hx1 : x < 4294967296) (hu : Good [x] (Nt.val zs * 2 ^ ex.toNat)) :
    Calls Tryd.prog 49 #[dV false a zs.length c ex] w fun e w' => e = .returned (.tuple #[.int .i64 x, .bool true]) ∧ Below w.heap.size w w' := by
  have hb := below_alloc w (.cells #[.bool false, .slice a zs.length c, .int .i64 ex] 44)
  have d := dcell_new w (.bool false) (.slice a zs.length c) (.int .i64 ex)
  have hx := g.ex_bd
  have hs1 : (w.alloc (.cells #[.bool false, .slice a zs.length c, .int .i64 ex] 44)).heap.size = w.heap.size + 1 := by simp
  have HBL := Hide.mk hB
  clear hB
  have hne : ((zs.length : Int) == 0) = false := beq_eq_false_iff_ne.2 (by omega)
  have HF := Hide.mk hf
  clear hf
  have HU := Hide.mk hu
  clear hu
  go_enter Tryd.func49, Tryd.ntmps49
  go_wp2_with fail
  generalize hw1 : w.alloc (.cells #[.bool false, .slice a zs.length c, .int .i64 ex] 44) = w1 at *
  clear hw1
  refine (dreftop54 false a c zs ex _ (hl.below hb (Nat.le_refl _)) g hz).mono ?_
  rintro e w3 ⟨B2, rfl, hB2, hB3, h3⟩
  obtain rfl := hB2.unique HBL.out
  clear hB2
  replace d := d.below h3 (by omega)
  have HB3 := below_then hb h3
  have hsz3 : w.heap.size < w3.heap.size := by have := h3.size; omega
  clear h3 hb hs1
  have q0 := d.c0
  have q1 := d.c1
  have q2 := d.c2
  have hbi0 : (0 : Int) ≤ (B2 : Int) := by omega
  generalize hbi : (B2 : Int) = bi at *
  clear hbi
  go_wp2_with fail
  refine (refUpN a c zs _ (hl.below HB3 (Nat.le_refl _)) g.good ex ex.toNat (by omega) (by omega) HF.out).mono ?_
  rintro e w4 ⟨z4, a4, c4, rfl, h4, _⟩
  replace d := d.below h4.bel hsz3
  have HB4 := below_then HB3 h4.bel
  have G4 := h4.good
  have l4 := h4.lie
  clear h4 q0 q1 q2
  have q0 := d.c0
  have q1 := d.c1
  have q2 := d.c2
  obtain rfl : z4 = [x] := G4.same HU.out rfl
  obtain ⟨b, o, rfl⟩ := lie_some l4 (by simp)
  have k0 : w4.cell? ⟨b, o, none⟩ = some (.int .u32 x) := lie_cell l4 rfl (i := 0) (by simp)
  clear l4 G4 HF HU
  go_wp2
  go_ret2
  exact ⟨rfl, HB4⟩
set_option maxHeartbeats 2000000 in
theorem i46_n2 (a : Option Addr) (c : Nat) (zs : List Int) (ex : Int) (w : World) (hl : Lie w a zs) (g : DG true zs ex) {B : Nat} (hB : BitLen (Nt.val zs) B) (hz : 0 < zs.length) (h0 : 0 ≤ ex) (ht : ex + B ≤ 64) (hf : (Nt.val zs * 2 ^ ex.toNat) < 4294967296 ^ 4096) (x y : Int) (hx0 : 0 ≤ x) (hx1 : x < 4294967296) (hy0 : 0 ≤ y) (hy1 : y < 4294967296) (hu : Good [x, y] (Nt.val zs * 2 ^ ex.toNat)) (hX : x + y * 4294967296 < 9223372036854775808) :
    Calls Tryd.prog 49 #[dV true a zs.length c ex] w fun e w' => e = .returned (.tuple #[.int .i64 (-(x + y * 4294967296)), .bool true]) ∧ Below w.heap.size w w' := by
  have hb := below_alloc w (.cells #[.bool true, .slice a zs.length c, .int .i64 ex] 44)
  have d := dcell_new w (.bool true) (.slice a zs.length c) (.int .i64 ex)
  have hx := g.ex_bd
  have hs1 : (w.alloc (.cells #[.bool true, .slice a zs.length c, .int .i64 ex] 44)).heap.size = w.heap.size + 1 := by simp
  have HBL := Hide.mk hB
  clear hB
  have hne : ((zs.length : Int) == 0) = false := beq_eq_false_iff_ne.2 (by omega)
  have HF := Hide.mk hf
  clear hf
  have HU := Hide.mk hu
  clear hu
  go_enter Tryd.func49, Tryd.ntmps49
  go_wp2_with fail
  generalize hw1 : w.alloc (.cells #[.bool true, .slice a zs.length c, .int .i64 ex] 44) = w1 at *
  clear hw1
  refine (dreftop54 true a c zs ex _ (hl.below hb (Nat.le_refl _)) g hz).mono ?_
  rintro e w3 ⟨B2, rfl, hB2, hB3, h3⟩
  obtain rfl := hB2.unique HBL.out
  clear hB2
  replace d := d.below h3 (by omega)
  have HB3 := below_then hb h3
  have hsz3 : w.heap.size < w3.heap.size := by have := h3.size; omega
  clear h3 hb hs1
  have q0 := d.c0
  have q1 := d.c1
  have q2 := d.c2
  have hbi0 : (0 : Int) ≤ (B2 : Int) := by omega
  generalize hbi : (B2 : Int) = bi at *
  clear hbi
  go_wp2_with fail
  refine (refUpN a c zs _ (hl.below HB3 (Nat.le_refl _)) g.good ex ex.toNat (by omega) (by omega) HF.out).mono ?_
  rintro e w4 ⟨z4, a4, c4, rfl, h4, _⟩
  replace d := d.below h4.bel hsz3
  have HB4 := below_then HB3 h4.bel
  have G4 := h4.good
  have l4 := h4.lie
  clear h4 q0 q1 q2
  have q0 := d.c0
  have q1 := d.c1
  have q2 := d.c2
  obtain rfl : z4 = [x, y] := G4.same HU.out rfl
  obtain ⟨b, o, rfl⟩ := lie_some l4 (by simp)
  have k0 : w4.cell? ⟨b, o, none⟩ = some (.int .u32 x) := lie_cell l4 rfl (i := 0) (by simp)
  have k1 : w4.cell? ⟨b, o + 1, none⟩ = some (.int .u32 y) := lie_cell l4 rfl (i := 1) (by simp)
  clear l4 G4 HF HU
  go_wp2
  go_ret2
  exact ⟨rfl, HB4⟩
set_option maxHeartbeats 2000000 in
theorem i46_n4 (a : Option Addr) (c : Nat) (zs : List Int) (ex : Int) (w : World) (hl : Lie w a zs) (g : DG true zs ex) {B : Nat} (hB : BitLen (Nt.val zs) B) (hz : 0 < zs.length) (h0 : 0 ≤ ex) (ht : ex + B ≤ 64) (hf : (Nt.val zs * 2 ^ ex.toNat) < 4294967296 ^ 4096) (x y : Int) (hx0 : 0 ≤ x) (hx1 : x < 4294967296) (hy0 : 0 ≤ y) (hy1 : y < 4294967296) (hu : Good [x, y] (Nt.val zs * 2 ^ ex.toNat)) (hX : 9223372036854775808 < x + y * 4294967296) :
    Calls Tryd.prog 49 #[dV true a zs.length c ex] w fun e w' => e = .returned (.tuple #[.int .i64 0, .bool false]) ∧ Below w.heap.size w w' := by
  have hb := below_alloc w (.cells #[.bool true, .slice a zs.length c, .int .i64 ex] 44)
  have d := dcell_new w (.bool true) (.slice a zs.length c) (.int .i64 ex)
  have hx := g.ex_bd
  have hs1 : (w.alloc (.cells #[.bool true, .slice a zs.length c, .int .i64 ex] 44)).heap.size = w.heap.size + 1 := by simp
  have HBL := Hide.mk hB
  clear hB
  have hne : ((zs.length : Int) == 0) = false := beq_eq_false_iff_ne.2 (by omega)
  have HF := Hide.mk hf
  clear hf
  have HU := Hide.mk hu
  clear hu
  go_enter Tryd.func49, Tryd.ntmps49
  go_wp2_with fail
  generalize hw1 : w.alloc (.cells #[.bool true, .slice a zs.length c, .int .i64 ex] 44) = w1 at *
  clear hw1
  refine (dreftop54 true a c zs ex _ (hl.below hb (Nat.le_refl _)) g hz).mono ?_
  rintro e w3 ⟨B2, rfl, hB2, hB3, h3⟩
  obtain rfl := hB2.unique HBL.out
  clear hB2
  replace d := d.below h3 (by omega)
  have HB3 := below_then hb h3
  have hsz3 : w.heap.size < w3.heap.size := by have := h3.size; omega
  clear h3 hb hs1
  have q0 := d.c0
  have q1 := d.c1
  have q2 := d.c2
  have hbi0 : (0 : Int) ≤ (B2 : Int) := by omega
  generalize hbi : (B2 : Int) = bi at *
  clear hbi
  go_wp2_with fail
  refine (refUpN a c zs _ (hl.below HB3 (Nat.le_refl _)) g.good ex ex.toNat (by omega) (by omega) HF.out).mono ?_
  rintro e w4 ⟨z4, a4, c4, rfl, h4, _⟩
  replace d := d.below h4.bel hsz3
  have HB4 := below_then HB3 h4.bel
  have G4 := h4.good
  have l4 := h4.lie
  clear h4 q0 q1 q2
  have q0 := d.c0
  have q1 := d.c1
  have q2 := d.c2
  obtain rfl : z4 = [x, y] := G4.same HU.out rfl
  obtain ⟨b, o, rfl⟩ := lie_some l4 (by simp)
  have k0 : w4.cell? ⟨b, o, none⟩ = some (.int .u32 x) := lie_cell l4 rfl (i := 0) (by simp)
  have k1 : w4.cell? ⟨b, o + 1, none⟩ = some (.int .u32 y) := lie_cell l4 rfl (i := 1) (by simp)
  clear l4 G4 HF HU
  go_wp2
  go_ret2
  exact ⟨rfl, HB4⟩
set_option maxHeartbeats 2000000 in
theorem i46_p2 (a : Option Addr) (c : Nat) (zs : List Int) (ex : Int) (w : World) (hl : Lie w a zs) (g : DG false zs ex) {B : Nat} (hB : BitLen (Nt.val zs) B) (hz : 0 < zs.length) (h0 : 0 ≤ ex) (ht : ex + B ≤ 64) (hf : (Nt.val zs * 2 ^ ex.toNat) < 4294967296 ^ 4096) (x y : Int) (hx0 : 0 ≤ x) (hx1 : x < 4294967296) (hy0 : 0 ≤ y) (hy1 : y < 4294967296) (hu : Good [x, y] (Nt.val zs * 2 ^ ex.toNat)) (hX : x + y * 4294967296 < 9223372036854775808) :
    Calls Tryd.prog 49 #[dV false a zs.length c ex] w fun e w' => e = .returned (.tuple #[.int .i64 (x + y * 4294967296), .bool true]) ∧ Below w.heap.size w w' := by
  have hb := below_alloc w (.cells #[.bool false, .slice a zs.length c, .int .i64 ex] 44)
  have d := dcell_new w (.bool false) (.slice a zs.length c) (.int .i64 ex)
  have hx := g.ex_bd
  have hs1 : (w.alloc (.cells #[.bool false, .slice a zs.length c, .int .i64 ex] 44)).heap.size = w.heap.size + 1 := by simp
  have HBL := Hide.mk hB
  clear hB
  have hne : ((zs.length : Int) == 0) = false := beq_eq_false_iff_ne.2 (by omega)
  have HF := Hide.mk hf
  clear hf
  have HU := Hide.mk hu
  clear hu
  go_enter Tryd.func49, Tryd.ntmps49
  go_wp2_with fail
  generalize hw1 : w.alloc (.cells #[.bool false, .slice a zs.length c, .int .i64 ex] 44) = w1 at *
  clear hw1
  refine (dreftop54 false a c zs ex _ (hl.below hb (Nat.le_refl _)) g hz).mono ?_
  rintro e w3 ⟨B2, rfl, hB2, hB3, h3⟩
  obtain rfl := hB2.unique HBL.out
  clear hB2
  replace d := d.below h3 (by omega)
  have HB3 := below_then hb h3
  have hsz3 : w.heap.size < w3.heap.size := by have := h3.size; omega
  clear h3 hb hs1
  have q0 := d.c0
  have q1 := d.c1
  have q2 := d.c2
  have hbi0 : (0 : Int) ≤ (B2 : Int) := by omega
  generalize hbi : (B2 : Int) = bi at *
  clear hbi
  go_wp2_with fail
  refine (refUpN a c zs _ (hl.below HB3 (Nat.le_refl _)) g.good ex ex.toNat (by omega) (by omega) HF.out).mono ?_
  rintro e w4 ⟨z4, a4, c4, rfl, h4, _⟩
  replace d := d.below h4.bel hsz3
  have HB4 := below_then HB3 h4.bel
  have G4 := h4.good
  have l4 := h4.lie
  clear h4 q0 q1 q2
  have q0 := d.c0
  have q1 := d.c1
  have q2 := d.c2
  obtain rfl : z4 = [x, y] := G4.same HU.out rfl
  obtain ⟨b, o, rfl⟩ := lie_some l4 (by simp)
  have k0 : w4.cell? ⟨b, o, none⟩ = some (.int .u32 x) := lie_cell l4 rfl (i := 0) (by simp)
  have k1 : w4.cell? ⟨b, o + 1, none⟩ = some (.int .u32 y) := lie_cell l4 rfl (i := 1) (by simp)
  clear l4 G4 HF HU
  go_wp2
  go_ret2
  exact ⟨rfl, HB4⟩
set_option maxHeartbeats 2000000 in
theorem i46_p3 (a : Option Addr) (c : Nat) (zs : List Int) (ex : Int) (w : World) (hl : Lie w a zs) (g : DG false zs ex) {B : Nat} (hB : BitLen (Nt.val zs) B) (hz : 0 < zs.length) (h0 : 0 ≤ ex) (ht : ex + B ≤ 64) (hf : (Nt.val zs * 2 ^ ex.toNat) < 4294967296 ^ 4096) (x y : Int) (hx0 : 0 ≤ x) (hx1 : x < 4294967296) (hy0 : 0 ≤ y) (hy1 : y < 4294967296) (hu : Good [x, y] (Nt.val zs * 2 ^ ex.toNat)) (hX : 9223372036854775808 ≤ x + y * 4294967296) :
    Calls Tryd.prog 49 #[dV false a zs.length c ex] w fun e w' => e = .returned (.tuple #[.int .i64 0, .bool false]) ∧ Below w.heap.size w w' := by
  have hb := below_alloc w (.cells #[.bool false, .slice a zs.length c, .int .i64 ex] 44)
  have d := dcell_new w (.bool false) (.slice a zs.length c) (.int .i64 ex)
  have hx := g.ex_bd
  have hs1 : (w.alloc (.cells #[.bool false, .slice a zs.length c, .int .i64 ex] 44)).heap.size = w.heap.size + 1 := by simp
  have HBL := Hide.mk hB
  clear hB
  have hne : ((zs.length : Int) == 0) = false := beq_eq_false_iff_ne.2 (by omega)
  have HF := Hide.mk hf
  clear hf
  have HU := Hide.mk hu
  clear hu
  go_enter Tryd.func49, Tryd.ntmps49
  go_wp2_with fail
  generalize hw1 : w.alloc (.cells #[.bool false, .slice a zs.length c, .int .i64 ex] 44) = w1 at *
  clear hw1
  refine (dreftop54 false a c zs ex _ (hl.below hb (Nat.le_refl _)) g hz).mono ?_
  rintro e w3 ⟨B2, rfl, hB2, hB3, h3⟩
  obtain rfl := hB2.unique HBL.out
  clear hB2
  replace d := d.below h3 (by omega)
  have HB3 := below_then hb h3
  have hsz3 : w.heap.size < w3.heap.size := by have := h3.size; omega
  clear h3 hb hs1
  have q0 := d.c0
  have q1 := d.c1
  have q2 := d.c2
  have hbi0 : (0 : Int) ≤ (B2 : Int) := by omega
  generalize hbi : (B2 : Int) = bi at *
  clear hbi
  go_wp2_with fail
  refine (refUpN a c zs _ (hl.below HB3 (Nat.le_refl _)) g.good ex ex.toNat (by omega) (by omega) HF.out).mono ?_
  rintro e w4 ⟨z4, a4, c4, rfl, h4, _⟩
  replace d := d.below h4.bel hsz3
  have HB4 := below_then HB3 h4.bel
  have G4 := h4.good
  have l4 := h4.lie
  clear h4 q0 q1 q2
  have q0 := d.c0
  have q1 := d.c1
  have q2 := d.c2
  obtain rfl : z4 = [x, y] := G4.same HU.out rfl
  obtain ⟨b, o, rfl⟩ := lie_some l4 (by simp)
  have k0 : w4.cell? ⟨b, o, none⟩ = some (.int .u32 x) := lie_cell l4 rfl (i := 0) (by simp)
  have k1 : w4.cell? ⟨b, o + 1, none⟩ = some (.int .u32 y) := lie_cell l4 rfl (i := 1) (by simp)
  clear l4 G4 HF HU
  go_wp2
  go_ret2
  exact ⟨rfl, HB4⟩
set_option maxHeartbeats 2000000 in
theorem i46_n3 (a : Option Addr) (c : Nat) (zs : List Int) (ex : Int) (w : World) (hl : Lie w a zs) (g : DG true zs ex) {B : Nat} (hB : BitLen (Nt.val zs) B) (hz : 0 < zs.length) (h0 : 0 ≤ ex) (ht : ex + B ≤ 64) (hf : (Nt.val zs * 2 ^ ex.toNat) < 4294967296 ^ 4096) (hu : Good [0, 2147483648] (Nt.val zs * 2 ^ ex.toNat)) :
    Calls Tryd.prog 49 #[dV true a zs.length c ex] w fun e w' => e = .returned (.tuple #[.int .i64 (-9223372036854775808), .bool true]) ∧ Below w.heap.size w w' := by
  have hb := below_alloc w (.cells #[.bool true, .slice a zs.length c, .int .i64 ex] 44)
  have d := dcell_new w (.bool true) (.slice a zs.length c) (.int .i64 ex)
  have hx := g.ex_bd
  have hs1 : (w.alloc (.cells #[.bool true, .slice a zs.length c, .int .i64 ex] 44)).heap.size = w.heap.size + 1 := by simp
  have HBL := Hide.mk hB
  clear hB
  have hne : ((zs.length : Int) == 0) = false := beq_eq_false_iff_ne.2 (by omega)
  have HF := Hide.mk hf
  clear hf
  have HU := Hide.mk hu
  clear hu
  go_enter Tryd.func49, Tryd.ntmps49
  go_wp2_with fail
  generalize hw1 : w.alloc (.cells #[.bool true, .slice a zs.length c, .int .i64 ex] 44) = w1 at *
  clear hw1
  refine (dreftop54 true a c zs ex _ (hl.below hb (Nat.le_refl _)) g hz).mono ?_
  rintro e w3 ⟨B2, rfl, hB2, hB3, h3⟩
  obtain rfl := hB2.unique HBL.out
  clear hB2
  replace d := d.below h3 (by omega)
  have HB3 := below_then hb h3
  have hsz3 : w.heap.size < w3.heap.size := by have := h3.size; omega
  clear h3 hb hs1
  have q0 := d.c0
  have q1 := d.c1
  have q2 := d.c2
  have hbi0 : (0 : Int) ≤ (B2 : Int) := by omega
  generalize hbi : (B2 : Int) = bi at *
  clear hbi
  go_wp2_with fail
  refine (refUpN a c zs _ (hl.below HB3 (Nat.le_refl _)) g.good ex ex.toNat (by omega) (by omega) HF.out).mono ?_
  rintro e w4 ⟨z4, a4, c4, rfl, h4, _⟩
  replace d := d.below h4.bel hsz3
  have HB4 := below_then HB3 h4.bel
  have G4 := h4.good
  have l4 := h4.lie
  clear h4 q0 q1 q2
  have q0 := d.c0
  have q1 := d.c1
  have q2 := d.c2
  obtain rfl : z4 = [0, 2147483648] := G4.same HU.out rfl
  obtain ⟨b, o, rfl⟩ := lie_some l4 (by simp)
  have k0 : w4.cell? ⟨b, o, none⟩ = some (.int .u32 0) := lie_cell l4 rfl (i := 0) (by simp)
  have k1 : w4.cell? ⟨b, o + 1, none⟩ = some (.int .u32 2147483648) := lie_cell l4 rfl (i := 1) (by simp)
  clear l4 G4 HF HU
  go_wp2
  go_ret2
  refine ⟨?_, HB4⟩
  simp
  first | rfl | decide | (unfold wrap64; omega)
theorem dint64_46 (ng : Bool) (a : Option Addr) (c : Nat) (zs : List Int) (ex : Int) (w : World) (hl : Lie w a zs) (g : DG ng zs ex) {B : Nat} (hB : BitLen (Nt.val zs) B) (k : Int) (q : Bool) (hr : i64r ng (Nt.val zs) ex B = (k, q)) :
    Calls Tryd.prog 49 #[dV ng a zs.length c ex] w fun e w' => e = .returned (.tuple #[.int .i64 k, .bool q]) ∧ Below w.heap.size w w' := by
  by_cases hz : 0 < zs.length
  · unfold i64r at hr
    by_cases h0 : ex < 0
    · rw [if_pos (.inl h0)] at hr
      cases hr
      exact i46_neg ng a c zs ex w hl g hB hz h0
    · by_cases h1 : 64 < B + ex
      · rw [if_pos (.inr h1)] at hr
        cases hr
        exact i46_top ng a c zs ex w hl g hB hz (by omega) (by omega)
      · rw [if_neg (by omega)] at hr
        obtain ⟨f1, f2, f3⟩ := fit64 (k := ex.toNat) hB (by omega) g.good.nonneg
        have hpos : 0 < Nt.val zs * 2 ^ ex.toNat := Int.mul_pos (g.pos hz) (p2pos _)
        obtain ⟨ys, hc, hv⟩ := digs_int f1
        have G : Good ys (Nt.val zs * 2 ^ ex.toNat) := ⟨hc, (Nt.can_len hc 4096).1 (by rw [hv]; exact f3), hv⟩
        have h2 := two_digits G f2
        have h3 := G.ne hpos
        match ys, h2, h3 with
        | [x], _, _ =>
          have rx := hc.1 0
          simp only [List.getD_cons_zero] at rx
          have hvx : x = Nt.val zs * 2 ^ ex.toNat := by rw [← hv, val_one]
          cases ng
          · simp only [Bool.false_eq_true, if_false] at hr
            rw [if_pos (by omega)] at hr
            cases hr
            rw [← hvx]
            exact i46_p1 a c zs ex w hl g hB hz (by omega) (by omega) f3 x rx.1 rx.2 G
          · simp only [if_true] at hr
            rw [if_pos (by omega)] at hr
            cases hr
            rw [← hvx]
            exact i46_n1 a c zs ex w hl g hB hz (by omega) (by omega) f3 x rx.1 rx.2 G
        | [x, y], _, _ =>
          have rx := hc.1 0
          have ry := hc.1 1
          simp only [List.getD_cons_zero, List.getD_cons_succ] at rx ry
          have hvx : x + y * 4294967296 = Nt.val zs * 2 ^ ex.toNat := by rw [← hv, val_two]; omega
          cases ng
          · simp only [Bool.false_eq_true, if_false] at hr
            by_cases h4 : Nt.val zs * 2 ^ ex.toNat < 9223372036854775808
            · rw [if_pos h4] at hr
              cases hr
              rw [← hvx]
              exact i46_p2 a c zs ex w hl g hB hz (by omega) (by omega) f3 x y rx.1 rx.2 ry.1 ry.2 G (by omega)
            · rw [if_neg h4] at hr
              cases hr
              exact i46_p3 a c zs ex w hl g hB hz (by omega) (by omega) f3 x y rx.1 rx.2 ry.1 ry.2 G (by omega)
          · simp only [if_true] at hr
            by_cases h4 : Nt.val zs * 2 ^ ex.toNat ≤ 9223372036854775808
            · rw [if_pos h4] at hr
              cases hr
              by_cases h5 : Nt.val zs * 2 ^ ex.toNat = 9223372036854775808
              · have e1 : x = 0 := by omega
                have e2 : y = 2147483648 := by omega
                subst e1 e2
                rw [h5]
                exact i46_n3 a c zs ex w hl g hB hz (by omega) (by omega) f3 G
              · rw [← hvx]
                exact i46_n2 a c zs ex w hl g hB hz (by omega) (by omega) f3 x y rx.1 rx.2 ry.1 ry.2 G (by omega)
            · rw [if_neg h4] at hr
              cases hr
              exact i46_n4 a c zs ex w hl g hB hz (by omega) (by omega) f3 x y rx.1 rx.2 ry.1 ry.2 G (by omega)
  · obtain ⟨rfl, rfl, rfl⟩ := g.nil (by omega)
    have e0 : B = 0 := by
      rcases hB with ⟨_, h⟩ | ⟨h, _⟩
      · exact h
      · rw [Nt.val_nil] at h; omega
    subst e0
    have : i64r false (Nt.val []) 0 0 = (0, true) := by rw [Nt.val_nil]; rfl
    rw [this] at hr
    cases hr
    exact i46_nil false a c [] 0 w hl g hB (by simp)
end Go.Proofs.YtioiakemmhfhkaaDoor
