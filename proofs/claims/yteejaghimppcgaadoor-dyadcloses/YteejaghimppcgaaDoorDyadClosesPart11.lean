import Derived.Test.YteejaghimppcgaaDoorDyadClosesPart10
import Derived.Test.YteejaghimppcgaaDoorDyadClosesPart6
import Derived.RegionTactic
import Derived.WalkKit
import Derived.WalkSpells
import Derived.Below
import Derived.Laws.ResultCell
import Derived.Laws.Rows
import Derived.Laws.BitsAllLaws
namespace Go.Proofs.YteejaghimppcgaaDoor
open Go.RowKit
set_option linter.unusedVariables false
set_option maxRecDepth 3000
theorem dv_sgn {ng : Bool} {zs : List Int} {ex v : Int} (h : DN ng zs ex v) : (zs.length ≤ 0 → v = 0) ∧ (0 < zs.length → ng = true → v < 0) ∧ (0 < zs.length → ng = false → 0 < v) := by
  have hp := pK_pos ex
  refine ⟨fun hz => ?_, fun hz hn => ?_, fun hz hn => ?_⟩
  · obtain ⟨rfl, rfl, rfl⟩ := h.dg.nil hz
    rw [← h.val, zero_dv]
  · have hx := h.dg.pos hz
    rw [← h.val]; unfold dv
    rw [hn, sv_t, Int.neg_mul]
    have := Int.mul_pos hx hp
    omega
  · have hx := h.dg.pos hz
    rw [← h.val]; unfold dv
    rw [hn, sv_f]
    exact Int.mul_pos hx hp
set_option maxHeartbeats 1000000 in
theorem dsign49 (ng : Bool) (a : Option Addr) (c : Nat) (zs : List Int) (ex v : Int) (w : World) (hl : Lie w a zs) (h : DN ng zs ex v) (s : Int) (hs : sgn v 0 = s) :
    Calls Tryd.prog 26 #[dV ng a zs.length c ex] w fun e w' => e = .returned (.int .i64 s) ∧ Below w.heap.size w w' := by
  have hb := below_alloc w (.cells #[.bool ng, .slice a zs.length c, .int .i64 ex] 36)
  have hd := dcell_new w (.bool ng) (.slice a zs.length c) (.int .i64 ex)
  obtain ⟨k1, k2, k3⟩ := dv_sgn h
  have HM := Hide.mk ((h.dg.lie hl).may ng c ex true h.dg.may _ hb)
  have hsz : w.heap.size < (w.alloc (.cells #[.bool ng, .slice a zs.length c, .int .i64 ex] 36)).heap.size := by simp
  by_cases hz : 0 < zs.length
  · have HN := fun W => Hide.mk (nought_no a zs.length c W hz)
    cases ng
    · have e : s = 1 := by rw [← hs]; unfold sgn; have := k3 hz rfl; rw [if_neg (by omega), if_pos this]
      subst e
      clear k1 k2 k3 hs hl
      go_enter Tryd.func26, Tryd.ntmps26
      go_wp2_with fail
      refine HM.out.mono ?_
      rintro e w2 ⟨rfl, h2⟩
      have hb2 := below_then hb h2
      have hd2 := hd.below h2 hsz
      clear h2 hd
      have q0 := hd2.c0
      have q1 := hd2.c1
      go_wp2_with fail
      refine (HN _).out.mono ?_
      rintro e w' ⟨rfl, rfl⟩
      go_wp2
      go_ret
      exact ⟨rfl, hb2⟩
    · have e : s = -1 := by rw [← hs]; unfold sgn; have := k2 hz rfl; rw [if_pos this]
      subst e
      clear k1 k2 k3 hs hl
      go_enter Tryd.func26, Tryd.ntmps26
      go_wp2_with fail
      refine HM.out.mono ?_
      rintro e w2 ⟨rfl, h2⟩
      have hb2 := below_then hb h2
      have hd2 := hd.below h2 hsz
      clear h2 hd
      have q0 := hd2.c0
      have q1 := hd2.c1
      go_wp2_with fail
      refine (HN _).out.mono ?_
      rintro e w' ⟨rfl, rfl⟩
      go_wp2
      go_ret
      exact ⟨rfl, hb2⟩
  · have HN := fun W => Hide.mk (nought_yes a zs.length c W (by omega))
    have e : s = 0 := by rw [← hs, k1 (by omega)]; rfl
    subst e
    clear k1 k2 k3 hs hl
    go_enter Tryd.func26, Tryd.ntmps26
    go_wp2_with fail
    refine HM.out.mono ?_
    rintro e w2 ⟨rfl, h2⟩
    have hb2 := below_then hb h2
    have hd2 := hd.below h2 hsz
    clear h2 hd
    have q0 := hd2.c0
    have q1 := hd2.c1
    go_wp2_with fail
    refine (HN _).out.mono ?_
    rintro e w' ⟨rfl, rfl⟩
    go_wp2
    go_ret
    exact ⟨rfl, hb2⟩

set_option maxHeartbeats 1000000 in
theorem dtop96 (ng : Bool) (a : Option Addr) (c : Nat) (zs : List Int) (ex : Int) (w : World) (hl : Lie w a zs) (h : DG ng zs ex) :
    Calls Tryd.prog 72 #[dV ng a zs.length c ex] w fun e w' => ∃ B : Nat, e = .returned (.int .i64 (B + ex)) ∧ BitLen (Nt.val zs) B ∧ B ≤ 131072 ∧ Below w.heap.size w w' := by
  have hb := below_alloc w (.cells #[.bool ng, .slice a zs.length c, .int .i64 ex] 36)
  have hd := dcell_new w (.bool ng) (.slice a zs.length c) (.int .i64 ex)
  have hx := h.ex_bd
  have g := h.good
  go_enter Tryd.func72, Tryd.ntmps72
  go_wp2_with fail
  generalize hw1 : w.alloc (.cells #[.bool ng, .slice a zs.length c, .int .i64 ex] 36) = w1 at *
  have hsz : w.heap.size + 1 = w1.heap.size := by rw [← hw1]; simp
  clear hw1
  have HI : Below (w.heap.size + 1) w1 w1.drew := (Below.refl _ _).drew
  have l1 := hl.below hb.drew (Nat.le_refl _)
  refine Drawn.enter (fun W => Below (w.heap.size + 1) w1 W) (by kernel_rfl) ?_
  refine Drawn.take (i := 0) (v := .pointer (some ⟨w.heap.size, 1, none⟩)) rfl (by kernel_rfl) (by kernel_rfl) (by kernel_rfl) (fun _ _ _ h => h) rfl (fun W hW => ?_) HI ?_
  · go_simp
  refine Drawn.take (i := 1) (v := .slice a zs.length c) rfl (by kernel_rfl) (by kernel_rfl) (by kernel_rfl) (fun _ _ _ h => h) rfl (fun W hW => ?_) HI ?_
  · have hc0 := below_cell2 hW (by simp) hd.c1
    go_simp
  refine Drawn.take (i := 3) (v := .pointer (some ⟨w.heap.size, 2, none⟩)) rfl (by kernel_rfl) (by kernel_rfl) (by kernel_rfl) (fun _ _ _ h => h) rfl (fun W hW => ?_) HI ?_
  · go_simp
  refine Drawn.take (i := 4) (v := .int .i64 ex) rfl (by kernel_rfl) (by kernel_rfl) (by kernel_rfl) (fun _ _ _ h => h) rfl (fun W hW => ?_) HI ?_
  · have hc0 := below_cell2 hW (by simp) hd.c2
    go_simp
  refine Drawn.one (j := 2) (by kernel_rfl) rfl (fun K hK => ?_)
  go_simp
  refine (lenN a c zs _ l1 g).mono ?_
  rintro e w' ⟨rfl, B, rfl, hB, hB1⟩
  refine hK _ _ HI ?_
  clear hK K
  have HBB := Hide.mk hB
  clear hB
  refine Drawn.take (i := 5) (v := .int .i64 ((B : Int) + ex)) rfl (by kernel_rfl) (by kernel_rfl) (by kernel_rfl) (fun _ _ _ h => h) rfl (fun W hW => ?_) HI ?_
  · go_simp
    exact wrap_ok (by omega) (by omega)
  refine Drawn.take (i := 6) (v := .int .i64 ((B : Int) + ex)) rfl (by kernel_rfl) (by kernel_rfl) (by kernel_rfl) (fun _ _ _ h => h) rfl (fun W hW => ?_) HI ?_
  · go_simp
  refine Drawn.done (by kernel_rfl) ?_
  go_wp2
  go_ret
  exact ⟨B, rfl, HBB.out, hB1, hb.drew⟩
theorem dcell2 (w : World) (A B : Array Value) (h1 : A.size = 3) (h2 : B.size = 3) :
    DCell ((w.alloc (.cells A 36)).alloc (.cells B 36)) w.heap.size A ∧ DCell ((w.alloc (.cells A 36)).alloc (.cells B 36)) (w.heap.size + 1) B ∧ ((w.alloc (.cells A 36)).alloc (.cells B 36)).heap.size = w.heap.size + 2 := by
  have e1 : (w.alloc (.cells A 36)).heap.size = w.heap.size + 1 := by simp
  have k1 : DCell (w.alloc (.cells A 36)) w.heap.size A := ⟨heap_alloc_new w _, h1⟩
  have k2 : DCell ((w.alloc (.cells A 36)).alloc (.cells B 36)) (w.heap.size + 1) B := ⟨by rw [← e1]; exact heap_alloc_new _ _, h2⟩
  exact ⟨k1.below (below_alloc (w.alloc (.cells A 36)) (.cells B 36)) (by rw [e1]; omega), k2, by simp⟩
/-- The sizes, by their tops. -/
theorem tops_lt {x y e1 e2 : Int} {B C : Nat} (hx : Bits x B) (hy : Bits y C) (h1 : -(KK : Int) ≤ e1) (h2 : -(KK : Int) ≤ e2) (h : (B : Int) + e1 < C + e2) : x * pK e1 < y * pK e2 := by
  unfold pK
  have p1 := p2pos (e1 + KK).toNat
  have p2 := p2pos (e2 + KK).toNat
  have k1 : x * 2 ^ (e1 + KK).toNat < 2 ^ B * 2 ^ (e1 + KK).toNat := Int.mul_lt_mul_of_pos_right hx.lt p1
  rw [← Int.pow_add] at k1
  have k2 := p2mono (show B + (e1 + KK).toNat + 1 ≤ C + (e2 + KK).toNat by omega)
  rw [p2succ] at k2
  have k3 : 2 ^ C * 2 ^ (e2 + KK).toNat ≤ 2 * y * 2 ^ (e2 + KK).toNat := Int.mul_le_mul_of_nonneg_right hy.le (by omega)
  rw [← Int.pow_add, Int.mul_assoc] at k3
  omega
theorem sgn_scale {x y k : Int} (hk : 0 < k) : sgn (x * k) (y * k) = sgn x y := by
  unfold sgn
  rcases Int.lt_trichotomy x y with c | c | c
  · have := Int.mul_lt_mul_of_pos_right c hk
    rw [if_pos c, if_pos this]
  · subst c; simp
  · have := Int.mul_lt_mul_of_pos_right c hk
    rw [if_neg (show ¬ x * k < y * k by omega), if_pos this, if_neg (show ¬ x < y by omega), if_pos c]
theorem level_scale {x e m : Int} (hm : -(KK : Int) ≤ m) (h : m ≤ e) : x * pK e = x * 2 ^ (e - m).toNat * pK m := by
  have := pK_add hm (e - m).toNat
  rw [show m + ((e - m).toNat : Int) = e by omega] at this
  rw [this, Int.mul_assoc, Int.mul_comm (pK m)]
theorem sizes_ne {x y e1 e2 : Int} {B C : Nat} (hx : BitLen x B) (hy : BitLen y C) (h : (B : Int) + e1 ≠ C + e2) (h1 : -(KK : Int) ≤ e1) (h2 : -(KK : Int) ≤ e2) (hz : (0 < x ∧ 0 < y) ∨ (x = 0 ∧ y = 0 ∧ e1 = e2)) : sgn ((B : Int) + e1) (C + e2) = sgn (x * pK e1) (y * pK e2) := by
  rcases hz with ⟨k1, k2⟩ | ⟨rfl, rfl, rfl⟩
  · have hx' : Bits x B := by rcases hx with ⟨c, _⟩ | ⟨_, c⟩; omega; exact c
    have hy' : Bits y C := by rcases hy with ⟨c, _⟩ | ⟨_, c⟩; omega; exact c
    rcases Int.lt_trichotomy ((B : Int) + e1) (C + e2) with c | c | c
    · have := tops_lt hx' hy' h1 h2 c
      unfold sgn; rw [if_pos c, if_pos this]
    · exact absurd c h
    · have := tops_lt hy' hx' h2 h1 c
      unfold sgn; rw [if_neg (by omega), if_pos c, if_neg (by omega), if_pos this]
  · have := hx.unique hy
    omega
theorem sizes_fit {x y e1 e2 m : Int} {B C : Nat} (hx : BitLen x B) (hy : BitLen y C) (h : (B : Int) + e1 = C + e2) (hm : min e1 e2 = m) (hB : B ≤ 131072) (hC : C ≤ 131072) : x * 2 ^ (e1 - m).toNat < 4294967296 ^ 4096 ∧ y * 2 ^ (e2 - m).toNat < 4294967296 ^ 4096 := by
  have key : ∀ (x : Int) (B k : Nat), BitLen x B → B + k ≤ 131072 → x * 2 ^ k < 4294967296 ^ 4096 := by
    intro x B k hx hk
    rw [pw32]
    rcases hx with ⟨rfl, _⟩ | ⟨_, c⟩
    · rw [Int.zero_mul]; exact p2pos _
    · have h1 := (c.up k).lt
      have := p2mono hk
      omega
  by_cases c : e1 ≤ e2
  · exact ⟨key x B _ hx (by omega), key y C _ hy (by omega)⟩
  · exact ⟨key x B _ hx (by omega), key y C _ hy (by omega)⟩
theorem sizes_eq {x y e1 e2 m : Int} (h1 : m ≤ e1) (h2 : m ≤ e2) (hm : -(KK : Int) ≤ m) : sgn (x * pK e1) (y * pK e2) = sgn (x * 2 ^ (e1 - m).toNat) (y * 2 ^ (e2 - m).toNat) := by
  rw [level_scale hm h1, level_scale hm h2, sgn_scale (pK_pos m)]
set_option maxHeartbeats 4000000 in
theorem sizes_ne_w (n1 n2 : Bool) (a1 a2 : Option Addr) (c1 c2 : Nat) (z1 z2 : List Int) (e1 e2 : Int) (w : World) (h1 : Lie w a1 z1) (h2 : Lie w a2 z2) (g1 : DG n1 z1 e1) (g2 : DG n2 z2 e2) (hT : Tab w) {B C : Nat} (hB1 : BitLen (Nt.val z1) B) (hB2 : BitLen (Nt.val z2) C) (hh : (B : Int) + e1 ≠ C + e2) (hz : (0 < Nt.val z1 ∧ 0 < Nt.val z2) ∨ (Nt.val z1 = 0 ∧ Nt.val z2 = 0 ∧ e1 = e2)) :
    Calls Tryd.prog 76 #[dV n1 a1 z1.length c1 e1, dV n2 a2 z2.length c2 e2] w fun e w' => e = .returned (.int .i64 (sgn (Nt.val z1 * pK e1) (Nt.val z2 * pK e2))) ∧ Below w.heap.size w w' := by
  obtain ⟨d1, d2, hs2⟩ := dcell2 w #[.bool n1, .slice a1 z1.length c1, .int .i64 e1] #[.bool n2, .slice a2 z2.length c2, .int .i64 e2] rfl rfl
  have hb := below2 w (.cells #[.bool n1, .slice a1 z1.length c1, .int .i64 e1] 36) (.cells #[.bool n2, .slice a2 z2.length c2, .int .i64 e2] 36)
  have x1 := g1.ex_bd
  have x2 := g2.ex_bd
  have hK := KK_int
  have HH := Hide.mk hh
  clear hh
  have Hc := Hide.mk (And.intro hB1 hB2)
  clear hB1 hB2
  go_enter Tryd.func76, Tryd.ntmps76
  go_wp2_with fail
  generalize hw2 : (w.alloc (.cells #[.bool n1, .slice a1 z1.length c1, .int .i64 e1] 36)).alloc (.cells #[.bool n2, .slice a2 z2.length c2, .int .i64 e2] 36) = w2 at *
  clear hw2
  have HI : Below (w.heap.size + 2) w2 w2.drew := (Below.refl _ _).drew
  have L : Live w2.drew [(a1, z1), (a2, z2)] := ⟨by simp [h1.below hb.drew (Nat.le_refl _), h2.below hb.drew (Nat.le_refl _)]⟩
  have HT := Hide.mk (hT.below hb.drew (Nat.le_refl _))
  have HB : Below w.heap.size w w2.drew := hb.drew
  have hsz : w.heap.size + 2 ≤ w2.drew.heap.size := by show _ ≤ w2.heap.size; omega
  clear h1 h2 hT hb
  refine Drawn.enter (fun W => Below (w.heap.size + 2) w2 W) (by kernel_rfl) ?_
  refine Drawn.take (i := 0) (v := dV n1 a1 z1.length c1 e1) rfl (by kernel_rfl) (by kernel_rfl) (by kernel_rfl) (fun _ _ _ h => h) rfl (fun W hW => ?_) HI ?_
  · have hc0 := below_cell2 hW (by simp) d1.c0
    have hc1 := below_cell2 hW (by simp) d1.c1
    have hc2 := below_cell2 hW (by simp) d1.c2
    go_simp
  refine Drawn.take (i := 2) (v := dV n2 a2 z2.length c2 e2) rfl (by kernel_rfl) (by kernel_rfl) (by kernel_rfl) (fun _ _ _ h => h) rfl (fun W hW => ?_) HI ?_
  · have hc0 := below_cell2 hW (by simp) d2.c0
    have hc1 := below_cell2 hW (by simp) d2.c1
    have hc2 := below_cell2 hW (by simp) d2.c2
    go_simp
  refine Drawn.one (j := 1) (by kernel_rfl) rfl (fun K hK => ?_)
  go_simp
  refine (dtop96 n1 a1 c1 z1 e1 _ (L.all (a1, z1) (by simp)) g1).mono ?_
  rintro e w3 ⟨B, rfl, hB, hBB, h3⟩
  obtain rfl := hB.unique Hc.out.1
  clear hB
  have HIh3 := HI.trans (h3.mono hsz)
  replace HI := HIh3
  replace L := L.keep h3
  replace HT := Hide.mk (HT.out.below h3 (Nat.le_refl _))
  replace HB := below_then HB h3
  replace hsz := Nat.le_trans hsz h3.size
  clear h3 HIh3
  refine hK _ _ HI ?_
  clear hK K
  refine Drawn.one (j := 3) (by kernel_rfl) rfl (fun K hK => ?_)
  go_simp
  refine (dtop96 n2 a2 c2 z2 e2 _ (L.all (a2, z2) (by simp)) g2).mono ?_
  rintro e w4 ⟨C, rfl, hC, hCC, h4⟩
  obtain rfl := hC.unique Hc.out.2
  clear hC
  have HIh4 := HI.trans (h4.mono hsz)
  replace HI := HIh4
  replace L := L.keep h4
  replace HT := Hide.mk (HT.out.below h4 (Nat.le_refl _))
  replace HB := below_then HB h4
  replace hsz := Nat.le_trans hsz h4.size
  clear h4 HIh4
  refine hK _ _ HI ?_
  clear hK K
  refine Drawn.one (j := 4) (by kernel_rfl) rfl (fun K hK => ?_)
  go_simp
  refine (cmp51 ((B : Int) + e1) ((C : Int) + e2) _).mono ?_
  rintro e w' ⟨rfl, rfl⟩
  refine hK _ _ HI ?_
  clear hK K
  refine Drawn.take (i := 5) (v := .int .i64 (sgn ((B : Int) + e1) ((C : Int) + e2))) rfl (by kernel_rfl) (by kernel_rfl) (by kernel_rfl) (fun _ _ _ h => h) rfl (fun W hW => ?_) HI ?_
  · go_simp
  refine Drawn.done (by kernel_rfl) ?_
  have hne : (sgn ((B : Int) + e1) ((C : Int) + e2) != 0) = true := by have := HH.out; rw [bne_iff_ne]; unfold sgn; split; decide; split; decide; omega
  have hres := Hide.mk (sizes_ne Hc.out.1 Hc.out.2 HH.out (by omega) (by omega) hz)
  generalize sgn ((B : Int) + e1) ((C : Int) + e2) = sg at *
  go_wp2
  go_ret
  exact ⟨by rw [← hres.out]; rfl, HB⟩
set_option maxHeartbeats 4000000 in
theorem sizes_eq_w (n1 n2 : Bool) (a1 a2 : Option Addr) (c1 c2 : Nat) (z1 z2 : List Int) (e1 e2 : Int) (w : World) (h1 : Lie w a1 z1) (h2 : Lie w a2 z2) (g1 : DG n1 z1 e1) (g2 : DG n2 z2 e2) (hT : Tab w) {B C : Nat} (hB1 : BitLen (Nt.val z1) B) (hB2 : BitLen (Nt.val z2) C) (hh : (B : Int) + e1 = C + e2) :
    Calls Tryd.prog 76 #[dV n1 a1 z1.length c1 e1, dV n2 a2 z2.length c2 e2] w fun e w' => e = .returned (.int .i64 (sgn (Nt.val z1 * pK e1) (Nt.val z2 * pK e2))) ∧ Below w.heap.size w w' := by
  obtain ⟨d1, d2, hs2⟩ := dcell2 w #[.bool n1, .slice a1 z1.length c1, .int .i64 e1] #[.bool n2, .slice a2 z2.length c2, .int .i64 e2] rfl rfl
  have hb := below2 w (.cells #[.bool n1, .slice a1 z1.length c1, .int .i64 e1] 36) (.cells #[.bool n2, .slice a2 z2.length c2, .int .i64 e2] 36)
  have x1 := g1.ex_bd
  have x2 := g2.ex_bd
  have hK := KK_int
  obtain ⟨m, hm⟩ : ∃ m, min e1 e2 = m := ⟨_, rfl⟩
  have hm1 : m ≤ e1 := by omega
  have hm2 : m ≤ e2 := by omega
  have hm3 : -16777216 ≤ m := by omega
  have HMM := Hide.mk hm
  clear hm
  have HH := Hide.mk hh
  clear hh
  have Hc := Hide.mk (And.intro hB1 hB2)
  clear hB1 hB2
  go_enter Tryd.func76, Tryd.ntmps76
  go_wp2_with fail
  generalize hw2 : (w.alloc (.cells #[.bool n1, .slice a1 z1.length c1, .int .i64 e1] 36)).alloc (.cells #[.bool n2, .slice a2 z2.length c2, .int .i64 e2] 36) = w2 at *
  clear hw2
  have HI : Below (w.heap.size + 2) w2 w2.drew := (Below.refl _ _).drew
  have L : Live w2.drew [(a1, z1), (a2, z2)] := ⟨by simp [h1.below hb.drew (Nat.le_refl _), h2.below hb.drew (Nat.le_refl _)]⟩
  have HT := Hide.mk (hT.below hb.drew (Nat.le_refl _))
  have HB : Below w.heap.size w w2.drew := hb.drew
  have hsz : w.heap.size + 2 ≤ w2.drew.heap.size := by show _ ≤ w2.heap.size; omega
  clear h1 h2 hT hb
  refine Drawn.enter (fun W => Below (w.heap.size + 2) w2 W) (by kernel_rfl) ?_
  refine Drawn.take (i := 0) (v := dV n1 a1 z1.length c1 e1) rfl (by kernel_rfl) (by kernel_rfl) (by kernel_rfl) (fun _ _ _ h => h) rfl (fun W hW => ?_) HI ?_
  · have hc0 := below_cell2 hW (by simp) d1.c0
    have hc1 := below_cell2 hW (by simp) d1.c1
    have hc2 := below_cell2 hW (by simp) d1.c2
    go_simp
  refine Drawn.take (i := 2) (v := dV n2 a2 z2.length c2 e2) rfl (by kernel_rfl) (by kernel_rfl) (by kernel_rfl) (fun _ _ _ h => h) rfl (fun W hW => ?_) HI ?_
  · have hc0 := below_cell2 hW (by simp) d2.c0
    have hc1 := below_cell2 hW (by simp) d2.c1
    have hc2 := below_cell2 hW (by simp) d2.c2
    go_simp
  refine Drawn.one (j := 1) (by kernel_rfl) rfl (fun K hK => ?_)
  go_simp
  refine (dtop96 n1 a1 c1 z1 e1 _ (L.all (a1, z1) (by simp)) g1).mono ?_
  rintro e w3 ⟨B, rfl, hB, hBB, h3⟩
  obtain rfl := hB.unique Hc.out.1
  clear hB
  have HIh3 := HI.trans (h3.mono hsz)
  replace HI := HIh3
  replace L := L.keep h3
  replace HT := Hide.mk (HT.out.below h3 (Nat.le_refl _))
  replace HB := below_then HB h3
  replace hsz := Nat.le_trans hsz h3.size
  clear h3 HIh3
  refine hK _ _ HI ?_
  clear hK K
  refine Drawn.one (j := 3) (by kernel_rfl) rfl (fun K hK => ?_)
  go_simp
  refine (dtop96 n2 a2 c2 z2 e2 _ (L.all (a2, z2) (by simp)) g2).mono ?_
  rintro e w4 ⟨C, rfl, hC, hCC, h4⟩
  obtain rfl := hC.unique Hc.out.2
  clear hC
  have HIh4 := HI.trans (h4.mono hsz)
  replace HI := HIh4
  replace L := L.keep h4
  replace HT := Hide.mk (HT.out.below h4 (Nat.le_refl _))
  replace HB := below_then HB h4
  replace hsz := Nat.le_trans hsz h4.size
  clear h4 HIh4
  refine hK _ _ HI ?_
  clear hK K
  refine Drawn.one (j := 4) (by kernel_rfl) rfl (fun K hK => ?_)
  go_simp
  refine (cmp51 ((B : Int) + e1) ((C : Int) + e2) _).mono ?_
  rintro e w' ⟨rfl, rfl⟩
  refine hK _ _ HI ?_
  clear hK K
  refine Drawn.take (i := 5) (v := .int .i64 (sgn ((B : Int) + e1) ((C : Int) + e2))) rfl (by kernel_rfl) (by kernel_rfl) (by kernel_rfl) (fun _ _ _ h => h) rfl (fun W hW => ?_) HI ?_
  · go_simp
  refine Drawn.done (by kernel_rfl) ?_
  have hse : sgn ((B : Int) + e1) ((C : Int) + e2) = 0 := by have := HH.out; unfold sgn; rw [if_neg (by omega), if_neg (by omega)]
  rw [hse]
  clear hse
  have k10 := below_cell2 HI (by simp) d1.c1
  have k12 := below_cell2 HI (by simp) d1.c2
  have k21 := below_cell2 HI (by simp) d2.c1
  have k22 := below_cell2 HI (by simp) d2.c2
  go_wp2_with fail
  rw [HMM.out]
  have B4 : Below (w.heap.size + 2) w4 w4 := Below.refl _ _
  replace HI : Below (w.heap.size + 2) w4 w4.drew := B4.drew
  replace L : Live w4.drew _ := L.keep (Below.refl _ _).drew
  replace HT : Hide (Tab w4.drew) := ⟨HT.out.below (Below.refl _ _).drew (Nat.le_refl _)⟩
  replace HB : Below w.heap.size w w4.drew := HB.drew
  replace hsz : w.heap.size + 2 ≤ w4.drew.heap.size := hsz
  refine Drawn.enter (fun W => Below (w.heap.size + 2) w4 W) (by kernel_rfl) ?_
  refine Drawn.take (i := 0) (v := .pointer (some ⟨w.heap.size, 1, none⟩)) rfl (by kernel_rfl) (by kernel_rfl) (by kernel_rfl) (fun _ _ _ h => h) rfl (fun W hW => ?_) HI ?_
  · go_simp
  refine Drawn.take (i := 1) (v := .slice a1 z1.length c1) rfl (by kernel_rfl) (by kernel_rfl) (by kernel_rfl) (fun _ _ _ h => h) rfl (fun W hW => ?_) HI ?_
  · have hc0 := below_cell2 hW (by simp) k10
    go_simp
  refine Drawn.take (i := 2) (v := .pointer (some ⟨w.heap.size, 2, none⟩)) rfl (by kernel_rfl) (by kernel_rfl) (by kernel_rfl) (fun _ _ _ h => h) rfl (fun W hW => ?_) HI ?_
  · go_simp
  refine Drawn.take (i := 3) (v := .int .i64 e1) rfl (by kernel_rfl) (by kernel_rfl) (by kernel_rfl) (fun _ _ _ h => h) rfl (fun W hW => ?_) HI ?_
  · have hc0 := below_cell2 hW (by simp) k12
    go_simp
  refine Drawn.take (i := 4) (v := .int .i64 m) rfl (by kernel_rfl) (by kernel_rfl) (by kernel_rfl) (fun _ _ _ h => h) rfl (fun W hW => ?_) HI ?_
  · go_simp
  refine Drawn.take (i := 5) (v := .int .i64 (e1 - m)) rfl (by kernel_rfl) (by kernel_rfl) (by kernel_rfl) (fun _ _ _ h => h) rfl (fun W hW => ?_) HI ?_
  · go_simp
    exact wrap_ok (by omega) (by omega)
  refine Drawn.take (i := 7) (v := .pointer (some ⟨w.heap.size + 1, 1, none⟩)) rfl (by kernel_rfl) (by kernel_rfl) (by kernel_rfl) (fun _ _ _ h => h) rfl (fun W hW => ?_) HI ?_
  · go_simp
  refine Drawn.take (i := 8) (v := .slice a2 z2.length c2) rfl (by kernel_rfl) (by kernel_rfl) (by kernel_rfl) (fun _ _ _ h => h) rfl (fun W hW => ?_) HI ?_
  · have hc0 := below_cell2 hW (by simp) k21
    go_simp
  refine Drawn.take (i := 9) (v := .pointer (some ⟨w.heap.size + 1, 2, none⟩)) rfl (by kernel_rfl) (by kernel_rfl) (by kernel_rfl) (fun _ _ _ h => h) rfl (fun W hW => ?_) HI ?_
  · go_simp
  refine Drawn.take (i := 10) (v := .int .i64 e2) rfl (by kernel_rfl) (by kernel_rfl) (by kernel_rfl) (fun _ _ _ h => h) rfl (fun W hW => ?_) HI ?_
  · have hc0 := below_cell2 hW (by simp) k22
    go_simp
  refine Drawn.take (i := 11) (v := .int .i64 m) rfl (by kernel_rfl) (by kernel_rfl) (by kernel_rfl) (fun _ _ _ h => h) rfl (fun W hW => ?_) HI ?_
  · go_simp
  refine Drawn.take (i := 12) (v := .int .i64 (e2 - m)) rfl (by kernel_rfl) (by kernel_rfl) (by kernel_rfl) (fun _ _ _ h => h) rfl (fun W hW => ?_) HI ?_
  · go_simp
    exact wrap_ok (by omega) (by omega)
  obtain ⟨F1, F2⟩ := sizes_fit Hc.out.1 Hc.out.2 HH.out HMM.out hBB hCC
  have HF1 := Hide.mk F1
  have HF2 := Hide.mk F2
  clear F1 F2
  refine Drawn.one (j := 6) (by kernel_rfl) rfl (fun K hK => ?_)
  go_simp
  refine (shiftedU a1 c1 z1 _ (L.all (a1, z1) (by simp)) g1.good (e1 - m) (e1 - m).toNat (by omega) HF1.out).mono ?_
  rintro e w5 ⟨z5, a5, c5, rfl, h5, _⟩
  have Gh5 := h5.good
  have lh5 := h5.lie
  have bh5 := h5.bel
  have HIh5 := HI.trans (bh5.mono hsz)
  replace HI := HIh5
  replace L := L.push lh5 bh5
  replace HT := Hide.mk (HT.out.below bh5 (Nat.le_refl _))
  replace HB := below_then HB bh5
  replace hsz := Nat.le_trans hsz bh5.size
  clear h5 HIh5 lh5 bh5
  refine hK _ _ HI ?_
  clear hK K
  refine Drawn.one (j := 13) (by kernel_rfl) rfl (fun K hK => ?_)
  go_simp
  refine (shiftedU a2 c2 z2 _ (L.all (a2, z2) (by simp)) g2.good (e2 - m) (e2 - m).toNat (by omega) HF2.out).mono ?_
  rintro e w6 ⟨z6, a6, c6, rfl, h6, _⟩
  have Gh6 := h6.good
  have lh6 := h6.lie
  have bh6 := h6.bel
  have HIh6 := HI.trans (bh6.mono hsz)
  replace HI := HIh6
  replace L := L.push lh6 bh6
  replace HT := Hide.mk (HT.out.below bh6 (Nat.le_refl _))
  replace HB := below_then HB bh6
  replace hsz := Nat.le_trans hsz bh6.size
  clear h6 HIh6 lh6 bh6
  refine hK _ _ HI ?_
  clear hK K
  refine Drawn.one (j := 14) (by kernel_rfl) rfl (fun K hK => ?_)
  go_simp
  refine (cmpM126 a5 a6 c5 c6 z5 z6 _ (L.all (a5, z5) (by simp)) (L.all (a6, z6) (by simp)) Gh5 Gh6 _ rfl).mono ?_
  rintro e w7 ⟨rfl, h7⟩
  have HIh7 := HI.trans (h7.mono hsz)
  replace HI := HIh7
  replace L := L.keep h7
  replace HT := Hide.mk (HT.out.below h7 (Nat.le_refl _))
  replace HB := below_then HB h7
  replace hsz := Nat.le_trans hsz h7.size
  clear h7 HIh7
  refine hK _ _ HI ?_
  clear hK K
  have hres := Hide.mk (sizes_eq (x := Nt.val z1) (y := Nt.val z2) hm1 hm2 (by omega))
  generalize sgn (Nt.val z1 * 2 ^ (e1 - m).toNat) (Nt.val z2 * 2 ^ (e2 - m).toNat) = sg at *
  refine Drawn.take (i := 15) (v := .int .i64 sg) rfl (by kernel_rfl) (by kernel_rfl) (by kernel_rfl) (fun _ _ _ h => h) rfl (fun W hW => ?_) HI ?_
  · go_simp
  refine Drawn.done (by kernel_rfl) ?_
  go_wp2
  go_ret
  exact ⟨by rw [hres.out]; rfl, HB⟩
theorem sizes102 (n1 n2 : Bool) (a1 a2 : Option Addr) (c1 c2 : Nat) (z1 z2 : List Int) (e1 e2 : Int) (w : World) (h1 : Lie w a1 z1) (h2 : Lie w a2 z2) (g1 : DG n1 z1 e1) (g2 : DG n2 z2 e2) (hT : Tab w) (hz : (0 < Nt.val z1 ∧ 0 < Nt.val z2) ∨ (Nt.val z1 = 0 ∧ Nt.val z2 = 0 ∧ e1 = e2)) :
    Calls Tryd.prog 76 #[dV n1 a1 z1.length c1 e1, dV n2 a2 z2.length c2 e2] w fun e w' => e = .returned (.int .i64 (sgn (Nt.val z1 * pK e1) (Nt.val z2 * pK e2))) ∧ Below w.heap.size w w' := by
  obtain ⟨B, hB⟩ := bitLen_ex g1.good.nonneg
  obtain ⟨C, hC⟩ := bitLen_ex g2.good.nonneg
  by_cases hh : (B : Int) + e1 = C + e2
  · exact sizes_eq_w n1 n2 a1 a2 c1 c2 z1 z2 e1 e2 w h1 h2 g1 g2 hT hB hC hh
  · exact sizes_ne_w n1 n2 a1 a2 c1 c2 z1 z2 e1 e2 w h1 h2 g1 g2 hT hB hC hh hz

theorem cmp_signs {n1 n2 : Bool} {z1 z2 : List Int} {e1 e2 u v : Int} (h1 : DN n1 z1 e1 u) (h2 : DN n2 z2 e2 v) :
    (sgn (sgn u 0) (sgn v 0) ≠ 0 → sgn (sgn u 0) (sgn v 0) = sgn u v) ∧
    (sgn (sgn u 0) (sgn v 0) = 0 → n1 = true → sgn (Nt.val z2 * pK e2) (Nt.val z1 * pK e1) = sgn u v ∧ ((0 < Nt.val z2 ∧ 0 < Nt.val z1) ∨ (Nt.val z2 = 0 ∧ Nt.val z1 = 0 ∧ e2 = e1))) ∧
    (sgn (sgn u 0) (sgn v 0) = 0 → n1 = false → sgn (Nt.val z1 * pK e1) (Nt.val z2 * pK e2) = sgn u v ∧ ((0 < Nt.val z1 ∧ 0 < Nt.val z2) ∨ (Nt.val z1 = 0 ∧ Nt.val z2 = 0 ∧ e1 = e2))) := by
  obtain ⟨a1, a2, a3⟩ := dv_sgn h1
  obtain ⟨b1, b2, b3⟩ := dv_sgn h2
  have e0 : ∀ x : Int, (x < 0 ∧ sgn x 0 = -1) ∨ (x = 0 ∧ sgn x 0 = 0) ∨ (0 < x ∧ sgn x 0 = 1) := by
    intro x
    unfold sgn
    rcases Int.lt_trichotomy x 0 with c | c | c
    · exact .inl ⟨c, if_pos c⟩
    · exact .inr (.inl ⟨c, by subst c; rfl⟩)
    · exact .inr (.inr ⟨c, by rw [if_neg (by omega), if_pos c]⟩)
  have fu := e0 u
  have fv := e0 v
  have hu : u = sv n1 (Nt.val z1) * pK e1 := h1.val.symm
  have hv : v = sv n2 (Nt.val z2) * pK e2 := h2.val.symm
  have hsg : ∀ x y : Int, sgn x y = 0 → x = y := fun x y h => by
    unfold sgn at h
    by_cases c1 : x < y
    · rw [if_pos c1] at h; omega
    · rw [if_neg c1] at h
      by_cases c2 : y < x
      · rw [if_pos c2] at h; omega
      · omega
  refine ⟨fun h => ?_, fun h hn => ?_, fun h hn => ?_⟩
  · rcases fu with ⟨f1, f2⟩ | ⟨f1, f2⟩ | ⟨f1, f2⟩ <;> rcases fv with ⟨g1, g2⟩ | ⟨g1, g2⟩ | ⟨g1, g2⟩ <;> rw [f2, g2] at h ⊢ <;> unfold sgn at * <;> first | (exact absurd rfl h) | (rw [if_pos (show u < v by omega)]; rfl) | (rw [if_neg (show ¬ u < v by omega), if_pos (show v < u by omega)]; rfl)
  · have hs := hsg _ _ h
    have p1 : 0 < z1.length := by
      by_cases c : 0 < z1.length
      · exact c
      · have := (h1.dg.nil (by omega)).2.1; rw [hn] at this; cases this
    have ku := a2 p1 hn
    have kv : v < 0 := by
      rcases fu with ⟨f1, f2⟩ | ⟨f1, f2⟩ | ⟨f1, f2⟩ <;> rcases fv with ⟨g1, g2⟩ | ⟨g1, g2⟩ | ⟨g1, g2⟩ <;> rw [f2, g2] at hs <;> omega
    have p2 : 0 < z2.length := by
      by_cases c : 0 < z2.length
      · exact c
      · have := b1 (by omega); omega
    have hn2 : n2 = true := by
      cases n2
      · have := b3 p2 rfl; omega
      · rfl
    rw [hn, sv_t, Int.neg_mul] at hu
    rw [hn2, sv_t, Int.neg_mul] at hv
    refine ⟨?_, .inl ⟨h2.dg.pos p2, h1.dg.pos p1⟩⟩
    rw [hu, hv]
    generalize Nt.val z1 * pK e1 = x
    generalize Nt.val z2 * pK e2 = y
    unfold sgn
    rcases Int.lt_trichotomy x y with c | c | c
    · rw [if_neg (show ¬ y < x by omega), if_pos c, if_neg (show ¬ -x < -y by omega), if_pos (show -y < -x by omega)]
    · subst c; simp
    · rw [if_pos c, if_pos (show -x < -y by omega)]
  · have hs := hsg _ _ h
    have ku : 0 ≤ u := by
      by_cases c : 0 < z1.length
      · have := a3 c hn; omega
      · have := a1 (by omega); omega
    have kv : 0 ≤ v := by
      rcases fu with ⟨f1, f2⟩ | ⟨f1, f2⟩ | ⟨f1, f2⟩ <;> rcases fv with ⟨g1, g2⟩ | ⟨g1, g2⟩ | ⟨g1, g2⟩ <;> rw [f2, g2] at hs <;> omega
    have hn2 : n2 = false := by
      cases n2
      · rfl
      · by_cases c : 0 < z2.length
        · have := b2 c rfl; omega
        · exact (h2.dg.nil (by omega)).2.1
    rw [hn, sv_f] at hu
    rw [hn2, sv_f] at hv
    refine ⟨by rw [hu, hv], ?_⟩
    by_cases p1 : 0 < z1.length
    · have k1 := a3 p1 hn
      have p2 : 0 < z2.length := by
        by_cases c : 0 < z2.length
        · exact c
        · have k2 := b1 (by omega)
          rcases fu with ⟨f1, f2⟩ | ⟨f1, f2⟩ | ⟨f1, f2⟩ <;> rcases fv with ⟨g1, g2⟩ | ⟨g1, g2⟩ | ⟨g1, g2⟩ <;> rw [f2, g2] at hs <;> omega
      exact .inl ⟨h1.dg.pos p1, h2.dg.pos p2⟩
    · have k1 := a1 (by omega)
      have p2 : z2.length ≤ 0 := by
        by_cases c : 0 < z2.length
        · have k2 := b3 c hn2
          rcases fu with ⟨f1, f2⟩ | ⟨f1, f2⟩ | ⟨f1, f2⟩ <;> rcases fv with ⟨g1, g2⟩ | ⟨g1, g2⟩ | ⟨g1, g2⟩ <;> rw [f2, g2] at hs <;> omega
        · omega
      obtain ⟨r1, _, r3⟩ := h1.dg.nil (by omega)
      obtain ⟨t1, _, t3⟩ := h2.dg.nil p2
      exact .inr ⟨by rw [r1]; rfl, by rw [t1]; rfl, by rw [r3, t3]⟩
set_option maxHeartbeats 4000000 in
theorem dcmp_ne (n1 n2 : Bool) (a1 a2 : Option Addr) (c1 c2 : Nat) (z1 z2 : List Int) (e1 e2 : Int) (w : World) {u v : Int} (h1 : Lie w a1 z1) (h2 : Lie w a2 z2) (N1 : DN n1 z1 e1 u) (N2 : DN n2 z2 e2 v) (hT : Tab w) (hc : sgn (sgn u 0) (sgn v 0) ≠ 0) :
    Calls Tryd.prog 34 #[dV n1 a1 z1.length c1 e1, dV n2 a2 z2.length c2 e2] w fun e w' => e = .returned (.tuple #[.int .i64 (sgn u v), .int .i64 0]) ∧ Below w.heap.size w w' := by
  have u1 := N1.dg.lie h1
  have u2 := N2.dg.lie h2
  have hq : (dmayB n1 z1 e1 && dmayB n2 z2 e2) = true := by rw [N1.dg.may, N2.dg.may]; rfl
  have HC := Hide.mk hc
  have hres := Hide.mk ((cmp_signs N1 N2).1 hc)
  clear hc
  obtain ⟨d1, d2, hs2⟩ := dcell2 w #[.bool n1, .slice a1 z1.length c1, .int .i64 e1] #[.bool n2, .slice a2 z2.length c2, .int .i64 e2] rfl rfl
  have hb2 := below2 w (.cells #[.bool n1, .slice a1 z1.length c1, .int .i64 e1] 36) (.cells #[.bool n2, .slice a2 z2.length c2, .int .i64 e2] 36)
  go_enter Tryd.func34, Tryd.ntmps34
  go_wp2_with fail
  generalize hw2 : (w.alloc (.cells #[.bool n1, .slice a1 z1.length c1, .int .i64 e1] 36)).alloc (.cells #[.bool n2, .slice a2 z2.length c2, .int .i64 e2] 36) = w2 at *
  clear hw2
  obtain ⟨k0, k1, k2, k3, k4, k5⟩ := six w2 (w.heap.size + 1 + 1) (by omega) (.bool n1) (.slice a1 z1.length c1) (.int .i64 e1) (.bool n2) (.slice a2 z2.length c2) (.int .i64 e2)
  have hb4 := below_alloc w2 (.cells #[.bool n1, .slice a1 z1.length c1, .int .i64 e1, .bool n2, .slice a2 z2.length c2, .int .i64 e2] 36)
  refine (dallMay2 (w.heap.size + 1 + 1) n1 a1 c1 z1 e1 n2 a2 c2 z2 e2 _ ((u1.below hb2).below hb4) ((u2.below hb2).below hb4) _ _ rfl rfl k0 k1 k2 k3 k4 k5).mono ?_
  rintro e w5 ⟨rfl, h5⟩
  clear k0 k1 k2 k3 k4 k5
  rw [hq]
  have hb5 := below_then hb4 h5
  clear hb4 h5
  have HB : Below w.heap.size w w5 := below_then hb2 hb5
  replace d1 := d1.below hb5 (by omega)
  replace d2 := d2.below hb5 (by omega)
  have hsz : w.heap.size + 2 ≤ w5.heap.size := by have := hb5.size; omega
  clear u1 u2 hq hb2 hb5 hs2
  have L : Live w5.drew [(a1, z1), (a2, z2)] := ⟨by simp [h1.below HB.drew (Nat.le_refl _), h2.below HB.drew (Nat.le_refl _)]⟩
  have HT := Hide.mk (hT.below HB.drew (Nat.le_refl _))
  replace HB : Below w.heap.size w w5.drew := HB.drew
  have HI : Below (w.heap.size + 2) w5 w5.drew := (Below.refl _ _).drew
  replace hsz : w.heap.size + 2 ≤ w5.drew.heap.size := hsz
  clear h1 h2 hT
  go_wp2_with fail
  refine Drawn.enter (fun W => Below (w.heap.size + 2) w5 W) (by kernel_rfl) ?_
  refine Drawn.take (i := 0) (v := dV n1 a1 z1.length c1 e1) rfl (by kernel_rfl) (by kernel_rfl) (by kernel_rfl) (fun _ _ _ h => h) rfl (fun W hW => ?_) HI ?_
  · have hc0 := below_cell2 hW (by simp) d1.c0
    have hc1 := below_cell2 hW (by simp) d1.c1
    have hc2 := below_cell2 hW (by simp) d1.c2
    go_simp
  refine Drawn.take (i := 2) (v := dV n2 a2 z2.length c2 e2) rfl (by kernel_rfl) (by kernel_rfl) (by kernel_rfl) (fun _ _ _ h => h) rfl (fun W hW => ?_) HI ?_
  · have hc0 := below_cell2 hW (by simp) d2.c0
    have hc1 := below_cell2 hW (by simp) d2.c1
    have hc2 := below_cell2 hW (by simp) d2.c2
    go_simp
  refine Drawn.one (j := 1) (by kernel_rfl) rfl (fun K hK => ?_)
  go_simp
  refine (dsign49 n1 a1 c1 z1 e1 u _ (L.all (a1, z1) (by simp)) N1 _ rfl).mono ?_
  rintro e w6 ⟨rfl, h6⟩
  have HIh6 := HI.trans (h6.mono hsz)
  replace HI := HIh6
  replace L := L.keep h6
  replace HT := Hide.mk (HT.out.below h6 (Nat.le_refl _))
  replace HB := below_then HB h6
  replace hsz := Nat.le_trans hsz h6.size
  clear h6 HIh6
  refine hK _ _ HI ?_
  clear hK K
  refine Drawn.one (j := 3) (by kernel_rfl) rfl (fun K hK => ?_)
  go_simp
  refine (dsign49 n2 a2 c2 z2 e2 v _ (L.all (a2, z2) (by simp)) N2 _ rfl).mono ?_
  rintro e w7 ⟨rfl, h7⟩
  have HIh7 := HI.trans (h7.mono hsz)
  replace HI := HIh7
  replace L := L.keep h7
  replace HT := Hide.mk (HT.out.below h7 (Nat.le_refl _))
  replace HB := below_then HB h7
  replace hsz := Nat.le_trans hsz h7.size
  clear h7 HIh7
  refine hK _ _ HI ?_
  clear hK K
  refine Drawn.one (j := 4) (by kernel_rfl) rfl (fun K hK => ?_)
  go_simp
  refine (cmp51 (sgn u 0) (sgn v 0) _).mono ?_
  rintro e w' ⟨rfl, rfl⟩
  refine hK _ _ HI ?_
  clear hK K
  refine Drawn.take (i := 5) (v := .int .i64 (sgn (sgn u 0) (sgn v 0))) rfl (by kernel_rfl) (by kernel_rfl) (by kernel_rfl) (fun _ _ _ h => h) rfl (fun W hW => ?_) HI ?_
  · go_simp
  refine Drawn.done (by kernel_rfl) ?_
  have hne : (sgn (sgn u 0) (sgn v 0) != 0) = true := bne_iff_ne.2 HC.out
  generalize sgn (sgn u 0) (sgn v 0) = sg at *
  go_wp2
  go_ret2
  exact ⟨by rw [← hres.out]; rfl, HB⟩
set_option maxHeartbeats 4000000 in
theorem dcmp_neg (n2 : Bool) (a1 a2 : Option Addr) (c1 c2 : Nat) (z1 z2 : List Int) (e1 e2 : Int) (w : World) {u v : Int} (h1 : Lie w a1 z1) (h2 : Lie w a2 z2) (N1 : DN true z1 e1 u) (N2 : DN n2 z2 e2 v) (hT : Tab w) (hc : sgn (sgn u 0) (sgn v 0) = 0) :
    Calls Tryd.prog 34 #[dV true a1 z1.length c1 e1, dV n2 a2 z2.length c2 e2] w fun e w' => e = .returned (.tuple #[.int .i64 (sgn u v), .int .i64 0]) ∧ Below w.heap.size w w' := by
  have u1 := N1.dg.lie h1
  have u2 := N2.dg.lie h2
  have hq : (dmayB true z1 e1 && dmayB n2 z2 e2) = true := by rw [N1.dg.may, N2.dg.may]; rfl
  have HC := Hide.mk hc
  obtain ⟨hr, hz⟩ := (cmp_signs N1 N2).2.1 hc rfl
  have HZ := Hide.mk hz
  have HR := Hide.mk hr
  clear hr hz
  clear hc
  obtain ⟨d1, d2, hs2⟩ := dcell2 w #[.bool true, .slice a1 z1.length c1, .int .i64 e1] #[.bool n2, .slice a2 z2.length c2, .int .i64 e2] rfl rfl
  have hb2 := below2 w (.cells #[.bool true, .slice a1 z1.length c1, .int .i64 e1] 36) (.cells #[.bool n2, .slice a2 z2.length c2, .int .i64 e2] 36)
  go_enter Tryd.func34, Tryd.ntmps34
  go_wp2_with fail
  generalize hw2 : (w.alloc (.cells #[.bool true, .slice a1 z1.length c1, .int .i64 e1] 36)).alloc (.cells #[.bool n2, .slice a2 z2.length c2, .int .i64 e2] 36) = w2 at *
  clear hw2
  obtain ⟨k0, k1, k2, k3, k4, k5⟩ := six w2 (w.heap.size + 1 + 1) (by omega) (.bool true) (.slice a1 z1.length c1) (.int .i64 e1) (.bool n2) (.slice a2 z2.length c2) (.int .i64 e2)
  have hb4 := below_alloc w2 (.cells #[.bool true, .slice a1 z1.length c1, .int .i64 e1, .bool n2, .slice a2 z2.length c2, .int .i64 e2] 36)
  refine (dallMay2 (w.heap.size + 1 + 1) true a1 c1 z1 e1 n2 a2 c2 z2 e2 _ ((u1.below hb2).below hb4) ((u2.below hb2).below hb4) _ _ rfl rfl k0 k1 k2 k3 k4 k5).mono ?_
  rintro e w5 ⟨rfl, h5⟩
  clear k0 k1 k2 k3 k4 k5
  rw [hq]
  have hb5 := below_then hb4 h5
  clear hb4 h5
  have HB : Below w.heap.size w w5 := below_then hb2 hb5
  replace d1 := d1.below hb5 (by omega)
  replace d2 := d2.below hb5 (by omega)
  have hsz : w.heap.size + 2 ≤ w5.heap.size := by have := hb5.size; omega
  clear u1 u2 hq hb2 hb5 hs2
  have L : Live w5.drew [(a1, z1), (a2, z2)] := ⟨by simp [h1.below HB.drew (Nat.le_refl _), h2.below HB.drew (Nat.le_refl _)]⟩
  have HT := Hide.mk (hT.below HB.drew (Nat.le_refl _))
  replace HB : Below w.heap.size w w5.drew := HB.drew
  have HI : Below (w.heap.size + 2) w5 w5.drew := (Below.refl _ _).drew
  replace hsz : w.heap.size + 2 ≤ w5.drew.heap.size := hsz
  clear h1 h2 hT
  go_wp2_with fail
  refine Drawn.enter (fun W => Below (w.heap.size + 2) w5 W) (by kernel_rfl) ?_
  refine Drawn.take (i := 0) (v := dV true a1 z1.length c1 e1) rfl (by kernel_rfl) (by kernel_rfl) (by kernel_rfl) (fun _ _ _ h => h) rfl (fun W hW => ?_) HI ?_
  · have hc0 := below_cell2 hW (by simp) d1.c0
    have hc1 := below_cell2 hW (by simp) d1.c1
    have hc2 := below_cell2 hW (by simp) d1.c2
    go_simp
  refine Drawn.take (i := 2) (v := dV n2 a2 z2.length c2 e2) rfl (by kernel_rfl) (by kernel_rfl) (by kernel_rfl) (fun _ _ _ h => h) rfl (fun W hW => ?_) HI ?_
  · have hc0 := below_cell2 hW (by simp) d2.c0
    have hc1 := below_cell2 hW (by simp) d2.c1
    have hc2 := below_cell2 hW (by simp) d2.c2
    go_simp
  refine Drawn.one (j := 1) (by kernel_rfl) rfl (fun K hK => ?_)
  go_simp
  refine (dsign49 true a1 c1 z1 e1 u _ (L.all (a1, z1) (by simp)) N1 _ rfl).mono ?_
  rintro e w6 ⟨rfl, h6⟩
  have HIh6 := HI.trans (h6.mono hsz)
  replace HI := HIh6
  replace L := L.keep h6
  replace HT := Hide.mk (HT.out.below h6 (Nat.le_refl _))
  replace HB := below_then HB h6
  replace hsz := Nat.le_trans hsz h6.size
  clear h6 HIh6
  refine hK _ _ HI ?_
  clear hK K
  refine Drawn.one (j := 3) (by kernel_rfl) rfl (fun K hK => ?_)
  go_simp
  refine (dsign49 n2 a2 c2 z2 e2 v _ (L.all (a2, z2) (by simp)) N2 _ rfl).mono ?_
  rintro e w7 ⟨rfl, h7⟩
  have HIh7 := HI.trans (h7.mono hsz)
  replace HI := HIh7
  replace L := L.keep h7
  replace HT := Hide.mk (HT.out.below h7 (Nat.le_refl _))
  replace HB := below_then HB h7
  replace hsz := Nat.le_trans hsz h7.size
  clear h7 HIh7
  refine hK _ _ HI ?_
  clear hK K
  refine Drawn.one (j := 4) (by kernel_rfl) rfl (fun K hK => ?_)
  go_simp
  refine (cmp51 (sgn u 0) (sgn v 0) _).mono ?_
  rintro e w' ⟨rfl, rfl⟩
  refine hK _ _ HI ?_
  clear hK K
  refine Drawn.take (i := 5) (v := .int .i64 (sgn (sgn u 0) (sgn v 0))) rfl (by kernel_rfl) (by kernel_rfl) (by kernel_rfl) (fun _ _ _ h => h) rfl (fun W hW => ?_) HI ?_
  · go_simp
  refine Drawn.done (by kernel_rfl) ?_
  rw [HC.out]
  have f10 := below_cell2 HI (by simp) d1.c0
  have f11 := below_cell2 HI (by simp) d1.c1
  have f12 := below_cell2 HI (by simp) d1.c2
  have f20 := below_cell2 HI (by simp) d2.c0
  have f21 := below_cell2 HI (by simp) d2.c1
  have f22 := below_cell2 HI (by simp) d2.c2
  go_wp2_with fail
  refine (sizes102 n2 true a2 a1 c2 c1 z2 z1 e2 e1 _ (L.all (a2, z2) (by simp)) (L.all (a1, z1) (by simp)) N2.dg N1.dg HT.out HZ.out).mono ?_
  rintro e w9 ⟨rfl, h9⟩
  have hb9 := below_then HB h9
  clear h9 f10 f11 f12 f20 f21 f22 HB L HT
  rw [HR.out]
  go_wp2
  go_ret2
  exact ⟨rfl, hb9⟩
set_option maxHeartbeats 4000000 in
theorem dcmp_pos (n2 : Bool) (a1 a2 : Option Addr) (c1 c2 : Nat) (z1 z2 : List Int) (e1 e2 : Int) (w : World) {u v : Int} (h1 : Lie w a1 z1) (h2 : Lie w a2 z2) (N1 : DN false z1 e1 u) (N2 : DN n2 z2 e2 v) (hT : Tab w) (hc : sgn (sgn u 0) (sgn v 0) = 0) :
    Calls Tryd.prog 34 #[dV false a1 z1.length c1 e1, dV n2 a2 z2.length c2 e2] w fun e w' => e = .returned (.tuple #[.int .i64 (sgn u v), .int .i64 0]) ∧ Below w.heap.size w w' := by
  have u1 := N1.dg.lie h1
  have u2 := N2.dg.lie h2
  have hq : (dmayB false z1 e1 && dmayB n2 z2 e2) = true := by rw [N1.dg.may, N2.dg.may]; rfl
  have HC := Hide.mk hc
  obtain ⟨hr, hz⟩ := (cmp_signs N1 N2).2.2 hc rfl
  have HZ := Hide.mk hz
  have HR := Hide.mk hr
  clear hr hz
  clear hc
  obtain ⟨d1, d2, hs2⟩ := dcell2 w #[.bool false, .slice a1 z1.length c1, .int .i64 e1] #[.bool n2, .slice a2 z2.length c2, .int .i64 e2] rfl rfl
  have hb2 := below2 w (.cells #[.bool false, .slice a1 z1.length c1, .int .i64 e1] 36) (.cells #[.bool n2, .slice a2 z2.length c2, .int .i64 e2] 36)
  go_enter Tryd.func34, Tryd.ntmps34
  go_wp2_with fail
  generalize hw2 : (w.alloc (.cells #[.bool false, .slice a1 z1.length c1, .int .i64 e1] 36)).alloc (.cells #[.bool n2, .slice a2 z2.length c2, .int .i64 e2] 36) = w2 at *
  clear hw2
  obtain ⟨k0, k1, k2, k3, k4, k5⟩ := six w2 (w.heap.size + 1 + 1) (by omega) (.bool false) (.slice a1 z1.length c1) (.int .i64 e1) (.bool n2) (.slice a2 z2.length c2) (.int .i64 e2)
  have hb4 := below_alloc w2 (.cells #[.bool false, .slice a1 z1.length c1, .int .i64 e1, .bool n2, .slice a2 z2.length c2, .int .i64 e2] 36)
  refine (dallMay2 (w.heap.size + 1 + 1) false a1 c1 z1 e1 n2 a2 c2 z2 e2 _ ((u1.below hb2).below hb4) ((u2.below hb2).below hb4) _ _ rfl rfl k0 k1 k2 k3 k4 k5).mono ?_
  rintro e w5 ⟨rfl, h5⟩
  clear k0 k1 k2 k3 k4 k5
  rw [hq]
  have hb5 := below_then hb4 h5
  clear hb4 h5
  have HB : Below w.heap.size w w5 := below_then hb2 hb5
  replace d1 := d1.below hb5 (by omega)
  replace d2 := d2.below hb5 (by omega)
  have hsz : w.heap.size + 2 ≤ w5.heap.size := by have := hb5.size; omega
  clear u1 u2 hq hb2 hb5 hs2
  have L : Live w5.drew [(a1, z1), (a2, z2)] := ⟨by simp [h1.below HB.drew (Nat.le_refl _), h2.below HB.drew (Nat.le_refl _)]⟩
  have HT := Hide.mk (hT.below HB.drew (Nat.le_refl _))
  replace HB : Below w.heap.size w w5.drew := HB.drew
  have HI : Below (w.heap.size + 2) w5 w5.drew := (Below.refl _ _).drew
  replace hsz : w.heap.size + 2 ≤ w5.drew.heap.size := hsz
  clear h1 h2 hT
  go_wp2_with fail
  refine Drawn.enter (fun W => Below (w.heap.size + 2) w5 W) (by kernel_rfl) ?_
  refine Drawn.take (i := 0) (v := dV false a1 z1.length c1 e1) rfl (by kernel_rfl) (by kernel_rfl) (by kernel_rfl) (fun _ _ _ h => h) rfl (fun W hW => ?_) HI ?_
  · have hc0 := below_cell2 hW (by simp) d1.c0
    have hc1 := below_cell2 hW (by simp) d1.c1
    have hc2 := below_cell2 hW (by simp) d1.c2
    go_simp
  refine Drawn.take (i := 2) (v := dV n2 a2 z2.length c2 e2) rfl (by kernel_rfl) (by kernel_rfl) (by kernel_rfl) (fun _ _ _ h => h) rfl (fun W hW => ?_) HI ?_
  · have hc0 := below_cell2 hW (by simp) d2.c0
    have hc1 := below_cell2 hW (by simp) d2.c1
    have hc2 := below_cell2 hW (by simp) d2.c2
    go_simp
  refine Drawn.one (j := 1) (by kernel_rfl) rfl (fun K hK => ?_)
  go_simp
  refine (dsign49 false a1 c1 z1 e1 u _ (L.all (a1, z1) (by simp)) N1 _ rfl).mono ?_
  rintro e w6 ⟨rfl, h6⟩
  have HIh6 := HI.trans (h6.mono hsz)
  replace HI := HIh6
  replace L := L.keep h6
  replace HT := Hide.mk (HT.out.below h6 (Nat.le_refl _))
  replace HB := below_then HB h6
  replace hsz := Nat.le_trans hsz h6.size
  clear h6 HIh6
  refine hK _ _ HI ?_
  clear hK K
  refine Drawn.one (j := 3) (by kernel_rfl) rfl (fun K hK => ?_)
  go_simp
  refine (dsign49 n2 a2 c2 z2 e2 v _ (L.all (a2, z2) (by simp)) N2 _ rfl).mono ?_
  rintro e w7 ⟨rfl, h7⟩
  have HIh7 := HI.trans (h7.mono hsz)
  replace HI := HIh7
  replace L := L.keep h7
  replace HT := Hide.mk (HT.out.below h7 (Nat.le_refl _))
  replace HB := below_then HB h7
  replace hsz := Nat.le_trans hsz h7.size
  clear h7 HIh7
  refine hK _ _ HI ?_
  clear hK K
  refine Drawn.one (j := 4) (by kernel_rfl) rfl (fun K hK => ?_)
  go_simp
  refine (cmp51 (sgn u 0) (sgn v 0) _).mono ?_
  rintro e w' ⟨rfl, rfl⟩
  refine hK _ _ HI ?_
  clear hK K
  refine Drawn.take (i := 5) (v := .int .i64 (sgn (sgn u 0) (sgn v 0))) rfl (by kernel_rfl) (by kernel_rfl) (by kernel_rfl) (fun _ _ _ h => h) rfl (fun W hW => ?_) HI ?_
  · go_simp
  refine Drawn.done (by kernel_rfl) ?_
  rw [HC.out]
  have f10 := below_cell2 HI (by simp) d1.c0
  have f11 := below_cell2 HI (by simp) d1.c1
  have f12 := below_cell2 HI (by simp) d1.c2
  have f20 := below_cell2 HI (by simp) d2.c0
  have f21 := below_cell2 HI (by simp) d2.c1
  have f22 := below_cell2 HI (by simp) d2.c2
  go_wp2_with fail
  refine (sizes102 false n2 a1 a2 c1 c2 z1 z2 e1 e2 _ (L.all (a1, z1) (by simp)) (L.all (a2, z2) (by simp)) N1.dg N2.dg HT.out HZ.out).mono ?_
  rintro e w9 ⟨rfl, h9⟩
  have hb9 := below_then HB h9
  clear h9 f10 f11 f12 f20 f21 f22 HB L HT
  rw [HR.out]
  go_wp2
  go_ret2
  exact ⟨rfl, hb9⟩
theorem dcmp55 (n1 n2 : Bool) (a1 a2 : Option Addr) (c1 c2 : Nat) (z1 z2 : List Int) (e1 e2 : Int) (w : World) {u v : Int} (h1 : Lie w a1 z1) (h2 : Lie w a2 z2) (N1 : DN n1 z1 e1 u) (N2 : DN n2 z2 e2 v) (hT : Tab w) (s : Int) (hs : sgn u v = s) :
    Calls Tryd.prog 34 #[dV n1 a1 z1.length c1 e1, dV n2 a2 z2.length c2 e2] w fun e w' => e = .returned (.tuple #[.int .i64 s, .int .i64 0]) ∧ Below w.heap.size w w' := by
  subst hs
  by_cases hc : sgn (sgn u 0) (sgn v 0) = 0
  · cases n1
    · exact dcmp_pos n2 a1 a2 c1 c2 z1 z2 e1 e2 w h1 h2 N1 N2 hT hc
    · exact dcmp_neg n2 a1 a2 c1 c2 z1 z2 e1 e2 w h1 h2 N1 N2 hT hc
  · exact dcmp_ne n1 n2 a1 a2 c1 c2 z1 z2 e1 e2 w h1 h2 N1 N2 hT hc
end Go.Proofs.YteejaghimppcgaaDoor

set_option linter.unusedVariables false
namespace Go.Drawn
open Go
section
variable {P : Program} {ops : Array Oper} {Q : Exit → Act → World → Prop} {md : Region.Mode} {I : World → Prop}
/-- Two operations are ready: both ways. -/
theorem pair {i j : Nat} {oi oj : Oper} {n : Nat} {listed : Array Bool} {a : Act} {w : World} (hr : Region.ready md ops listed = [i, j]) (hi : ops[i]? = some oi) (hj : ops[j]? = some oj)
    (h1 : ∀ K : Act → World → Prop, (∀ a w, I w → wpIn P md ops Q I n (listed.setIfInBounds i true) a w → K a w) → if Region.wanted oi (yielded ops a.tmps) = true then Oper.wp P oi a w K Q else K (a.put oi.dst undef) w)
    (h2 : ∀ K : Act → World → Prop, (∀ a w, I w → wpIn P md ops Q I n (listed.setIfInBounds j true) a w → K a w) → if Region.wanted oj (yielded ops a.tmps) = true then Oper.wp P oj a w K Q else K (a.put oj.dst undef) w) :
    wpIn P md ops Q I (n + 1) listed a w := by
  refine ⟨fun h0 => absurd (hr.symm.trans h0) (by simp), fun k hk => ?_⟩
  rw [hr] at hk
  rcases List.mem_cons.1 hk with rfl | hk
  · exact wpOp_step hi (fun K hK => h1 K fun a w k1 k2 => hK a w ⟨k1, k2⟩)
  · obtain rfl := List.mem_singleton.1 hk
    exact wpOp_step hj (fun K hK => h2 K fun a w k1 k2 => hK a w ⟨k1, k2⟩)
end
end Go.Drawn

namespace Go.Proofs.YteejaghimppcgaaDoor
open Go.RowKit
set_option linter.unusedVariables false
set_option maxRecDepth 3000
theorem DV.after {w w' w2 : World} {s E : Int} {ng : Bool} {a : Option Addr} {n c : Nat} {ex code : Int} (h : DV w w' s E ng a n c ex code) (hb : Below w'.heap.size w' w2) : DV w w2 s E ng a n c ex code := by
  refine ⟨below_then h.bel hb, ?_⟩
  rcases h.all with h1 | ⟨h1, t, h2, h3⟩
  · exact .inl h1
  · refine .inr ⟨h1, t, h2, ?_⟩
    rcases h3 with ⟨k1, k2, k3, k4, k5, zs, k6, k7, k8⟩ | h3
    · exact .inl ⟨k1, k2, k3, k4, k5, zs, k6, k7, k8.below hb (Nat.le_refl _)⟩
    · exact .inr h3
theorem DN.low {ng : Bool} {zs : List Int} {ex v : Int} (h : DN ng zs ex v) (hz : 0 < zs.length) : LowBit (v.natAbs : Int) (ex + KK).toNat ∧ v ≠ 0 := by
  have hp := pK_pos ex
  have hx := h.dg.pos hz
  have e : (v.natAbs : Int) = Nt.val zs * 2 ^ (ex + KK).toNat := by
    rw [← h.val]; unfold dv pK
    rw [natAbs_mul_pow, sv_abs _ (by omega)]
  have hl := (odd_low (h.dg.odd hz)).up (ex + KK).toNat
  rw [Nat.zero_add] at hl
  refine ⟨by rw [e]; exact hl, fun c => ?_⟩
  have : Nt.val zs * 2 ^ (ex + KK).toNat ≠ 0 := fun c2 => by rcases Int.mul_eq_zero.1 c2 with c3 | c3 <;> have := p2pos (ex + KK).toNat <;> omega
  omega
theorem DN.whole {ng : Bool} {zs : List Int} {ex v : Int} (h : DN ng zs ex v) : (0 ≤ ex ↔ v % 2 ^ KK = 0) := by
  have hx := h.dg.ex_bd
  have hK := KK_int
  by_cases hz : 0 < zs.length
  · obtain ⟨hl, hv⟩ := h.low hz
    have := low_lost (n := KK) hl
    have e : (v.natAbs : Int) % 2 ^ KK = 0 ↔ v % 2 ^ KK = 0 := by
      constructor
      · intro c
        obtain ⟨m, hm⟩ := Int.dvd_of_emod_eq_zero c
        by_cases q : 0 ≤ v
        · exact Int.emod_eq_zero_of_dvd ⟨m, by rw [← hm]; omega⟩
        · exact Int.emod_eq_zero_of_dvd ⟨-m, by rw [Int.mul_neg, ← hm]; omega⟩
      · intro c
        obtain ⟨m, hm⟩ := Int.dvd_of_emod_eq_zero c
        by_cases q : 0 ≤ v
        · exact Int.emod_eq_zero_of_dvd ⟨m, by rw [← hm]; omega⟩
        · exact Int.emod_eq_zero_of_dvd ⟨-m, by rw [Int.mul_neg, ← hm]; omega⟩
    by_cases c : 0 ≤ ex
    · rw [decide_eq_false (by omega)] at this
      exact ⟨fun _ => e.1 (by simpa using this), fun _ => c⟩
    · rw [decide_eq_true (by omega)] at this
      exact ⟨fun k => absurd k c, fun k => absurd (e.2 k) (by simpa using this)⟩
  · obtain ⟨rfl, rfl, rfl⟩ := h.dg.nil (by omega)
    rw [← h.val, zero_dv]
    simp
theorem set_cell {w : World} {g b j i : Nat} (h : b ≠ g) (u : Value) : (w.setCell ⟨g, j, none⟩ u).cell? ⟨b, i, none⟩ = w.cell? ⟨b, i, none⟩ :=
  World.cell?_setCell_other _ _ _ _ (by intro c; cases c; exact h rfl)
theorem set3_cell {w : World} {g b i : Nat} (h : b ≠ g) (u0 u1 u2 : Value) : (((w.setCell ⟨g, 0, none⟩ u0).setCell ⟨g, 1, none⟩ u1).setCell ⟨g, 2, none⟩ u2).cell? ⟨b, i, none⟩ = w.cell? ⟨b, i, none⟩ := by
  rw [set_cell h, set_cell h, set_cell h]
/-- A fresh box holds no digit. -/
theorem no_digit {w : World} {g i : Nat} {k : IntKind} {x : Int} (hd : DCell w g #[.bool false, .slice none 0 0, .int .i64 0]) (hk : k ≠ .i64) : w.cell? ⟨g, i, none⟩ ≠ some (.int k x) := by
  rw [cell_of_row w g i _ 36 (0, 0) hd.1]
  match i with
  | 0 => intro h; cases h
  | 1 => intro h; cases h
  | 2 => intro h; injection h with h; injection h with h1 h2; exact hk h1.symm
  | n + 3 => intro h; simp at h
theorem Live.set3 {w : World} {g : Nat} (hd : DCell w g #[.bool false, .slice none 0 0, .int .i64 0]) (u0 u1 u2 : Value) {l : List (Option Addr × List Int)} (h : Live w l) : Live (((w.setCell ⟨g, 0, none⟩ u0).setCell ⟨g, 1, none⟩ u1).setCell ⟨g, 2, none⟩ u2) l := by
  refine ⟨fun p hp => ?_⟩
  rcases h.all p hp with h1 | ⟨b, o, h1, h2⟩
  · exact .inl h1
  · refine .inr ⟨b, o, h1, fun i hi => ?_⟩
    have k := h2 i hi
    rw [set3_cell (fun c => no_digit (k := .u32) hd (by decide) (by rw [← c]; exact k))]
    exact k
theorem Tab.set3 {w : World} {g : Nat} (hd : DCell w g #[.bool false, .slice none 0 0, .int .i64 0]) (u0 u1 u2 : Value) (h : Tab w) : Tab (((w.setCell ⟨g, 0, none⟩ u0).setCell ⟨g, 1, none⟩ u1).setCell ⟨g, 2, none⟩ u2) := by
  intro j hj
  have k := h j hj
  rw [set3_cell (fun c => no_digit (k := .u8) hd (by decide) (by rw [← c]; exact k))]
  exact k
theorem Boxes.set3 {w : World} {g : Nat} (hd : DCell w g #[.bool false, .slice none 0 0, .int .i64 0]) (u0 u1 u2 : Value) {l : List (Nat × Array Value)} (h : Boxes w l) (hl : ∀ p ∈ l, p.1 ≠ g) : Boxes (((w.setCell ⟨g, 0, none⟩ u0).setCell ⟨g, 1, none⟩ u1).setCell ⟨g, 2, none⟩ u2) ((g, #[u0, u1, u2]) :: l) := by
  refine ⟨fun p hp => ?_⟩
  rcases List.mem_cons.1 hp with rfl | hp
  · exact ((hd.set 0 u0).set 1 u1).set 2 u2
  · have k := h.all p hp
    refine ⟨?_, k.2⟩
    rw [heap_setCell_other _ _ _ _ (hl p hp), heap_setCell_other _ _ _ _ (hl p hp), heap_setCell_other _ _ _ _ (hl p hp)]
    exact k.1
end Go.Proofs.YteejaghimppcgaaDoor

namespace Go.Proofs.YteejaghimppcgaaDoor
open Go.RowKit
set_option linter.unusedVariables false
set_option maxRecDepth 3000
theorem DCell.off {w : World} {g g' j : Nat} {cs : Array Value} (h : DCell w g cs) (hne : g ≠ g') (x : Value) : DCell (w.setCell ⟨g', j, none⟩ x) g cs := ⟨by rw [heap_setCell_other _ _ _ _ hne]; exact h.1, h.2⟩
/-- Digits that may be written over: a row of their own, from block B on. -/
def WrA (B : Nat) (w : World) (a : Option Addr) (n : Nat) : Prop := n = 0 ∨ ∃ g cur, a = some ⟨g, 0, none⟩ ∧ B ≤ g ∧ w.heap[g]? = some (.cells cur 70 (0, 0)) ∧ n ≤ cur.size
theorem Own.wrA {B : Nat} {w : World} {a : Option Addr} {c : Nat} {zs : List Int} (h : Own B w (.slice a zs.length c) zs) : WrA B w a zs.length := by
  rcases h.2 with ⟨hv, h0⟩ | ⟨g, cap, cur, hv, hB, hg, hn, hm, hsz, ht⟩
  · exact .inl h0
  · simp only [Value.slice.injEq] at hv
    exact .inr ⟨g, cur, hv.1, hB, hg, by omega⟩
theorem WrA.below {B C : Nat} {w w' : World} {a : Option Addr} {n : Nat} (h : WrA B w a n) (hb : Below w.heap.size w w') : WrA B w' a n := by
  rcases h with h | ⟨g, cur, h1, h2, h3, h4⟩
  · exact .inl h
  · exact .inr ⟨g, cur, h1, h2, (hb.block g (Array.getElem?_eq_some_iff.1 h3).1).trans h3, h4⟩
theorem WrA.set {B g k : Nat} {w : World} {a : Option Addr} {n : Nat} {cur : Array Value} (h : WrA B w a n) (hg : w.heap[g]? = some (.cells cur 70 (0, 0))) (u : Value) : WrA B (w.setCell ⟨g, k, none⟩ u) a n := by
  rcases h with h | ⟨g', cur', h1, h2, h3, h4⟩
  · exact .inl h
  · by_cases e : g' = g
    · subst e
      rw [hg] at h3
      cases h3
      exact .inr ⟨g', _, h1, h2, heap_setCell_same w g' k cur 70 u hg, by simpa using h4⟩
    · exact .inr ⟨g', cur', h1, h2, by rw [heap_setCell_other _ _ _ _ e]; exact h3, h4⟩
/-- What stays while the digits are written over. -/
structure MInv (B : Nat) (w : World) (b : Nat) (rc : Array Value) (l : List Arg) (wr : World) : Prop where
  bel : Below B w wr
  row : wr.heap[b]? = some (.cells rc 36 (0, 0))
  wr : ∀ (i : Nat) (x : Arg), l[i]? = some x → WrA B wr x.a x.zs.length
theorem MInv.set {B b g k : Nat} {w wr : World} {rc cur : Array Value} {l : List Arg} (h : MInv B w b rc l wr) (hB : B ≤ g) (hg : wr.heap[g]? = some (.cells cur 70 (0, 0))) (u : Value) : MInv B w b rc l (wr.setCell ⟨g, k, none⟩ u) := by
  have hne : b ≠ g := by
    intro e
    subst e
    have := h.row
    rw [hg] at this
    cases this
  exact ⟨h.bel.setCell (p := ⟨g, k, none⟩) hB u, by rw [heap_setCell_other _ _ _ _ hne]; exact h.row, fun i x hx => (h.wr i x hx).set hg u⟩
end Go.Proofs.YteejaghimppcgaaDoor

namespace Go.Proofs.YteejaghimppcgaaDoor
open Go.RowKit
set_option linter.unusedVariables false
set_option maxRecDepth 3000
/-- The value as an int64, where it is one. -/
def i64r (ng : Bool) (x ex : Int) (B : Nat) : Int × Bool :=
  if ex < 0 ∨ 64 < B + ex then (0, false) else if ng then (if x * 2 ^ ex.toNat ≤ 9223372036854775808 then (-(x * 2 ^ ex.toNat), true) else (0, false)) else (if x * 2 ^ ex.toNat < 9223372036854775808 then (x * 2 ^ ex.toNat, true) else (0, false))
end Go.Proofs.YteejaghimppcgaaDoor

/-
  Boxes: blocks of cells that a call has made, which stay as they are while others are called.
-/
set_option linter.unusedVariables false
namespace Go.Box
open Go Go.RowKit
/-- From w to W nothing of w's has turned, and the blocks of L lie there. -/
structure Bx (w : World) (L : List (Nat × Obj)) (W : World) : Prop where
  bel : Below w.heap.size w W
  box : ∀ p ∈ L, W.heap[p.1]? = some p.2
variable {w W W' : World} {L L' : List (Nat × Obj)}
theorem Bx.nil (w : World) : Bx w [] w := ⟨Below.refl _ _, fun _ h => by cases h⟩
theorem Bx.lt (h : Bx w L W) {p : Nat × Obj} (hp : p ∈ L) : p.1 < W.heap.size := (Array.getElem?_eq_some_iff.1 (h.box p hp)).1
theorem Bx.head {g : Nat} {o : Obj} (h : Bx w ((g, o) :: L) W) : W.heap[g]? = some o := h.box _ (.head _)
theorem Bx.tail {q : Nat × Obj} (h : Bx w (q :: L) W) : Bx w L W := ⟨h.bel, fun p hp => h.box p (.tail _ hp)⟩
theorem Bx.sub (h : Bx w L W) (hs : ∀ p ∈ L', p ∈ L) : Bx w L' W := ⟨h.bel, fun p hp => h.box p (hs p hp)⟩
theorem Bx.push (h : Bx w L W) (o : Obj) : Bx w ((W.heap.size, o) :: L) (W.alloc o) := by
  refine ⟨h.bel.alloc h.bel.size o, fun p hp => ?_⟩
  rcases List.mem_cons.1 hp with rfl | hp
  · exact heap_alloc_new W o
  · rw [Below.heap_alloc _ _ _ (h.lt hp)]; exact h.box p hp
theorem Bx.keep (h : Bx w L W) (hb : Below W.heap.size W W') : Bx w L W' :=
  ⟨h.bel.trans (hb.mono h.bel.size), fun p hp => (hb.block _ (h.lt hp)).trans (h.box p hp)⟩
theorem Bx.drew (h : Bx w L W) : Bx w L W.drew := ⟨h.bel.drew, h.box⟩
theorem Bx.cell (h : Bx w L W) (g : Nat) (cs : Array Value) (t : TypeId) (hm : (g, Obj.cells cs t (0, 0)) ∈ L) (j : Nat) : W.cell? ⟨g, j, none⟩ = cs[j]? := cell_of_row W g j cs t (0, 0) (h.box _ hm)
theorem Bx.frozen (h : Bx w L W) (g : Nat) (cs : Array Value) (t : TypeId) (hm : (g, Obj.cells cs t (0, 0)) ∈ L) (j : Nat) : W.frozen? ⟨g, j, none⟩ = false := frozen_of_row W g j cs t (h.box _ hm)
theorem Bx.set {g : Nat} {cs : Array Value} {t : TypeId} (h : Bx w ((g, Obj.cells cs t (0, 0)) :: L) W) (hg : w.heap.size ≤ g) (hne : ∀ p ∈ L, p.1 ≠ g) (j : Nat) (x : Value) :
    Bx w ((g, Obj.cells (cs.setIfInBounds j x) t (0, 0)) :: L) (W.setCell ⟨g, j, none⟩ x) := by
  refine ⟨h.bel.setCell hg x, fun p hp => ?_⟩
  rcases List.mem_cons.1 hp with rfl | hp
  · exact heap_setCell_same W g j cs t x (h.box _ (.head _))
  · rw [Below.heap_setCell _ _ _ _ (hne p hp)]; exact h.box p (.tail _ hp)
theorem Bx.apart (h : Bx w L W) : ∀ p ∈ L, p.1 ≠ W.heap.size := fun p hp e => by have := h.lt hp; omega
theorem Bx.fill3 {g : Nat} {z0 z1 z2 : Value} {t : TypeId} (h : Bx w ((g, Obj.cells #[z0, z1, z2] t (0, 0)) :: L) W) (hg : w.heap.size ≤ g) (hne : ∀ p ∈ L, p.1 ≠ g) (a b c : Value) :
    Bx w ((g, Obj.cells #[a, b, c] t (0, 0)) :: L) (((W.setCell ⟨g, 0, none⟩ a).setCell ⟨g, 1, none⟩ b).setCell ⟨g, 2, none⟩ c) := by
  have := ((h.set hg hne 0 a).set hg hne 1 b).set hg hne 2 c
  simpa using this
theorem Bx.fill4 {g : Nat} {z0 z1 z2 z3 : Value} {t : TypeId} (h : Bx w ((g, Obj.cells #[z0, z1, z2, z3] t (0, 0)) :: L) W) (hg : w.heap.size ≤ g) (hne : ∀ p ∈ L, p.1 ≠ g) (a b c d : Value) :
    Bx w ((g, Obj.cells #[a, b, c, d] t (0, 0)) :: L) ((((W.setCell ⟨g, 0, none⟩ a).setCell ⟨g, 1, none⟩ b).setCell ⟨g, 2, none⟩ c).setCell ⟨g, 3, none⟩ d) := by
  have := (((h.set hg hne 0 a).set hg hne 1 b).set hg hne 2 c).set hg hne 3 d
  simpa using this
end Go.Box

set_option linter.unusedVariables false
namespace Go.Wd
open Go
/-- The numbers of a format (true: F64): the sign's bit, 2 to the F, F, E, L, the infinite word. -/
def sg (b : Bool) : Int := match b with | true => 9223372036854775808 | false => 2147483648
def fr (b : Bool) : Int := match b with | true => 4503599627370496 | false => 8388608
def fc (b : Bool) : Int := match b with | true => 52 | false => 23
def bt (b : Bool) : Int := match b with | true => 64 | false => 32
def tp (b : Bool) : Int := match b with | true => 2047 | false => 255
def lo (b : Bool) : Int := match b with | true => -1074 | false => -149
def fm (b : Bool) : Int := match b with | true => 2 | false => 1
def inf (b : Bool) : Int := match b with | true => 9218868437227405312 | false => 2139095040
def nan (b : Bool) : Int := match b with | true => 9221120237041090560 | false => 2143289344
/-- A word's sign, field, fraction, class. -/
def ng (b : Bool) (x : Int) : Bool := decide (sg b ≤ x)
def sz (b : Bool) (x : Int) : Int := x % sg b
def fd (b : Bool) (x : Int) : Int := x % sg b / fr b
def fn (b : Bool) (x : Int) : Int := x % fr b
def cl (b : Bool) (x : Int) : Int := if sz b x = 0 then 1 else if sz b x < fr b then 2 else if sz b x < inf b then 3 else if sz b x = inf b then 4 else 5
/-- A size with a sign. -/
def sd (b : Bool) (s : Int) (n : Bool) : Int := if n then s + sg b else s
/-- One step up of what is no NaN and not +infinite. -/
def up (b : Bool) (x : Int) : Int := if sz b x = 0 then 1 else if sg b ≤ x then x - 1 else x + 1
def Ok (b : Bool) (x : Int) : Prop := 0 ≤ x ∧ x < 2 * sg b
/-- Without that bit. -/
theorem clearBit (k : Nat) {x S : Int} (hS : S = 2 ^ k) (hk : k ≤ 63) (h0 : 0 ≤ x) (h1 : x < 2 * S) : bits .andNot .u64 x S = x % S := by
  have e : (2 : Int) ^ k = ((2 ^ k : Nat) : Int) := by simp
  have hp : 0 < 2 ^ k := Nat.two_pow_pos k
  have hq : 2 ^ k ≤ 2 ^ 63 := Nat.pow_le_pow_right (by decide) hk
  have hr : (2 : Nat) ^ 63 = 9223372036854775808 := by decide
  subst hS
  rw [e] at *
  obtain ⟨n, rfl⟩ : ∃ n : Nat, x = n := ⟨x.toNat, by omega⟩
  rw [u64_andNot_nat n _ (by omega) (by omega)]
  have : n &&& (18446744073709551615 - 2 ^ k) = n % 2 ^ k := by
    have hn : n < 2 ^ (k + 1) := by rw [Nat.pow_succ]; omega
    apply Nat.eq_of_testBit_eq
    intro i
    rw [Nat.testBit_and, Nat.testBit_mod_two_pow]
    have h64 : 18446744073709551615 - 2 ^ k = 2 ^ 64 - (2 ^ k + 1) := by
      rw [show (2 : Nat) ^ 64 = 18446744073709551616 by decide]; omega
    rw [h64, Nat.testBit_two_pow_sub_succ (by rw [show (2 : Nat) ^ 64 = 18446744073709551616 by decide]; omega), Nat.testBit_two_pow]
    by_cases hi : i < k
    · simp [hi, show k ≠ i by omega, show i < 64 by omega]
    · by_cases he : k = i
      · subst he; simp
      · have : n.testBit i = false := Nat.testBit_lt_two_pow (Nat.lt_of_lt_of_le hn (Nat.pow_le_pow_right (by decide) (by omega)))
        simp [this]
  rw [this]
  omega
end Go.Wd

namespace Go.Proofs.YteejaghimppcgaaDoor
open Go.RowKit Go.Wd Go.Box
set_option linter.unusedVariables false
set_option maxRecDepth 3000
/-- A format's shape. -/
abbrev S (b : Bool) : Value := .agg #[.int .i64 (bt b), .int .i64 (fc b), .int .i64 (tp b), .int .i64 (lo b)]
abbrev SO (b : Bool) : Obj := .cells #[.int .i64 (bt b), .int .i64 (fc b), .int .i64 (tp b), .int .i64 (lo b)] 97 (0, 0)
abbrev noS : Value := .agg #[.int .i64 0, .int .i64 0, .int .i64 0, .int .i64 0]
theorem S32 : S false = .agg #[.int .i64 32, .int .i64 23, .int .i64 255, .int .i64 (-149)] := rfl
theorem S64 : S true = .agg #[.int .i64 64, .int .i64 52, .int .i64 2047, .int .i64 (-1074)] := rfl
theorem pow31 : sg false = 2 ^ 31 := by decide
theorem pow63 : sg true = 2 ^ 63 := by decide
theorem shape_cells {w W : World} {L : List (Nat × Obj)} (h : Bx w L W) (g : Nat) (b : Bool) (hm : (g, SO b) ∈ L) :
    W.cell? ⟨g, 0, none⟩ = some (.int .i64 (bt b)) ∧ W.cell? ⟨g, 1, none⟩ = some (.int .i64 (fc b)) ∧ W.cell? ⟨g, 2, none⟩ = some (.int .i64 (tp b)) ∧ W.cell? ⟨g, 3, none⟩ = some (.int .i64 (lo b)) :=
  ⟨h.cell g _ _ hm 0, h.cell g _ _ hm 1, h.cell g _ _ hm 2, h.cell g _ _ hm 3⟩
theorem wSignBit (b : Bool) (w : World) :
    Calls Tryd.prog 137 #[S b] w fun e w' => e = .returned (.int .u64 (sg b)) ∧ Below w.heap.size w w' := by
  cases b
  · rw [S32]
    go_enter Tryd.func137, Tryd.ntmps137
    go_wp2
    go_ret
    exact ⟨rfl, below_alloc _ _⟩
  · rw [S64]
    go_enter Tryd.func137, Tryd.ntmps137
    go_wp2
    go_ret
    exact ⟨rfl, below_alloc _ _⟩
theorem wFullWord (b : Bool) (w : World) :
    Calls Tryd.prog 156 #[S b] w fun e w' => e = .returned (.int .u64 (2 * sg b - 1)) ∧ Below w.heap.size w w' := by
  cases b
  · rw [S32]
    go_enter Tryd.func156, Tryd.ntmps156
    go_wp2
    go_ret
    exact ⟨rfl, below_alloc _ _⟩
  · rw [S64]
    go_enter Tryd.func156, Tryd.ntmps156
    go_wp2
    go_ret
    exact ⟨rfl, below_alloc _ _⟩
theorem wInfinite (b : Bool) (w : World) :
    Calls Tryd.prog 142 #[S b] w fun e w' => e = .returned (.int .u64 (inf b)) ∧ Below w.heap.size w w' := by
  cases b
  · rw [S32]
    go_enter Tryd.func142, Tryd.ntmps142
    go_wp2
    go_ret
    exact ⟨rfl, below_alloc _ _⟩
  · rw [S64]
    go_enter Tryd.func142, Tryd.ntmps142
    go_wp2
    go_ret
    exact ⟨rfl, below_alloc _ _⟩
theorem andNot_sg (b : Bool) {x : Int} (h : Ok b x) : bits .andNot .u64 x (sg b) = sz b x := by
  cases b
  · exact clearBit 31 pow31 (by decide) h.1 h.2
  · exact clearBit 63 pow63 (by decide) h.1 h.2
theorem wSize (b : Bool) (x : Int) (h : Ok b x) (w : World) :
    Calls Tryd.prog 143 #[S b, .int .u64 x] w fun e w' => e = .returned (.int .u64 (sz b x)) ∧ Below w.heap.size w w' := by
  have hb := below_alloc w (SO b)
  have HS := Hide.mk (andNot_sg b h)
  go_enter Tryd.func143, Tryd.ntmps143
  go_wp2_with fail
  refine (wSignBit b _).mono ?_
  rintro e w' ⟨rfl, h2⟩
  have h3 := below_then hb h2
  clear h2 hb
  go_wp2
  go_ret
  exact ⟨by rw [← HS.out]; rfl, h3⟩
theorem Tryd.sizeShape : (Tryd.prog.info? 97).map (·.size) = some 4 := by kernel_rfl
theorem results_S2 {fn : Func} {p u : Tmp} (h : fn.results = #[.cell p 97, .tmp u]) (tmps : Array Value) (w : World) (g : Nat) (cs : Array Value) (hp : tmps.getD p undef = .pointer (some ⟨g, 0, none⟩)) (hg : w.heap[g]? = some (.cells cs 97 (0, 0))) (hs : cs.size = 4) :
    (results fn tmps).run Tryd.prog w = .ok (.tuple #[.agg cs, tmps.getD u undef]) w := by
  rw [results_cell_tmp h, hp]
  simp [asAddr, run_loadVar_row w g 97 97 cs (0, 0) _ hg Tryd.underlying97 rfl (by rw [Tryd.sizeShape, hs])]
theorem wShapeOf (b : Bool) (w : World) :
    Calls Tryd.prog 144 #[.int .u8 (fm b)] w fun e w' => e = .returned (.tuple #[S b, .int .i64 0]) ∧ Below w.heap.size w w' := by
  cases b
  · rw [show fm false = 1 from rfl, S32]
    go_enter Tryd.func144, Tryd.ntmps144
    go_wp2
    have B1 := (Bx.nil w).push (.cells #[.int .i64 32, .int .i64 23, .int .i64 255, .int .i64 (-149)] 97 (0, 0))
    refine bodyPost_ret (results_S2 rfl _ _ w.heap.size _ rfl B1.head rfl) rfl ?_
    exact ⟨rfl, B1.bel⟩
  · rw [show fm true = 2 from rfl, S64]
    go_enter Tryd.func144, Tryd.ntmps144
    go_wp2
    have B1 := (Bx.nil w).push (.cells #[.int .i64 64, .int .i64 52, .int .i64 2047, .int .i64 (-1074)] 97 (0, 0))
    refine bodyPost_ret (results_S2 rfl _ _ w.heap.size _ rfl B1.head rfl) rfl ?_
    exact ⟨rfl, B1.bel⟩
/-- No format. -/
def Bad (f : Int) : Prop := f ≠ 1 ∧ f ≠ 2
theorem wShapeOf_bad (f : Int) (h : Bad f) (w : World) :
    Calls Tryd.prog 144 #[.int .u8 f] w fun e w' => e = .returned (.tuple #[noS, .int .i64 4]) ∧ Below w.heap.size w w' := by
  have h1 : (f == 1) = false := beq_eq_false_iff_ne.2 h.1
  have h2 : (f == 2) = false := beq_eq_false_iff_ne.2 h.2
  go_enter Tryd.func144, Tryd.ntmps144
  go_wp2
  have B1 := (Bx.nil w).push (.cells #[.int .i64 0, .int .i64 0, .int .i64 0, .int .i64 0] 97 (0, 0))
  refine bodyPost_ret (results_S2 rfl _ _ w.heap.size _ rfl B1.head rfl) rfl ?_
  exact ⟨rfl, B1.bel⟩
end Go.Proofs.YteejaghimppcgaaDoor
