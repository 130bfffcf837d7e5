import Derived.Test.YtiamdmfhkhlppaaDoorM12
namespace Go.Proofs.YtiamdmfhkhlppaaDoor
open Go.RowKit
set_option linter.unusedVariables false
set_option maxRecDepth 3000
theorem dv_sgn {ng : Bool} {zs : List Int} {ex v : Int} (h : DN ng zs ex v) : (zs.length ≤ 0 → v = 0) ∧ (0 < zs.length → ng = true → v < 0) ∧ (0 < zs.length → ng = false → 0 < v) := by
  have hp := pK_pos ex
  refine ⟨fun hz => ?_, fun hz hn => ?_, fun hz hn => ?_⟩
  · obtain ⟨rfl, rfl, rfl⟩ := h.dg.nil hz
    rw [← h.val, zero_dv]
  · have hx := h.dg.pos hz
    rw [← h.val]; unfold dv
    rw [hn, sv_t, Int.neg_mul]
    have := Int.mul_pos hx hp
    omega
  · have hx := h.dg.pos hz
    rw [← h.val]; unfold dv
    rw [hn, sv_f]
    exact Int.mul_pos hx hp
set_option maxHeartbeats 1000000 in
theorem dsign49 (ng : Bool) (a : Option Addr) (c : Nat) (zs : List Int) (ex v : Int) (w : World) (hl : Lie w a zs) (h : DN ng zs ex v) (s : Int) (hs : sgn v 0 = s) :
    Calls Tryd.prog 26 #[dV ng a zs.length c ex] w fun e w' => e = .returned (.int .i64 s) ∧ Below w.heap.size w w' := by
  have hb := below_alloc w (.cells #[.bool ng, .slice a zs.length c, .int .i64 ex] 36)
  have hd := dcell_new w (.bool ng) (.slice a zs.length c) (.int .i64 ex)
  obtain ⟨k1, k2, k3⟩ := dv_sgn h
  have HM := Hide.mk ((h.dg.lie hl).may ng c ex true h.dg.may _ hb)
  have hsz : w.heap.size < (w.alloc (.cells #[.bool ng, .slice a zs.length c, .int .i64 ex] 36)).heap.size := by simp
  by_cases hz : 0 < zs.length
  · have HN := fun W => Hide.mk (nought_no a zs.length c W hz)
    cases ng
    · have e : s = 1 := by rw [← hs]; unfold sgn; have := k3 hz rfl; rw [if_neg (by omega), if_pos this]
      subst e
      clear k1 k2 k3 hs hl
      go_enter Tryd.func26, Tryd.ntmps26
      go_wp2_with fail
      refine HM.out.mono ?_
      rintro e w2 ⟨rfl, h2⟩
      have hb2 := below_then hb h2
      have hd2 := hd.below h2 hsz
      clear h2 hd
      have q0 := hd2.c0
      have q1 := hd2.c1
      go_wp2_with fail
      refine (HN _).out.mono ?_
      rintro e w' ⟨rfl, rfl⟩
      go_wp2
      go_ret
      exact ⟨rfl, hb2⟩
    · have e : s = -1 := by rw [← hs]; unfold sgn; have := k2 hz rfl; rw [if_pos this]
      subst e
      clear k1 k2 k3 hs hl
      go_enter Tryd.func26, Tryd.ntmps26
      go_wp2_with fail
      refine HM.out.mono ?_
      rintro e w2 ⟨rfl, h2⟩
      have hb2 := below_then hb h2
      have hd2 := hd.below h2 hsz
      clear h2 hd
      have q0 := hd2.c0
      have q1 := hd2.c1
      go_wp2_with fail
      refine (HN _).out.mono ?_
      rintro e w' ⟨rfl, rfl⟩
      go_wp2
      go_ret
      exact ⟨rfl, hb2⟩
  · have HN := fun W => Hide.mk (nought_yes a zs.length c W (by omega))
    have e : s = 0 := by rw [← hs, k1 (by omega)]; rfl
    subst e
    clear k1 k2 k3 hs hl
    go_enter Tryd.func26, Tryd.ntmps26
    go_wp2_with fail
    refine HM.out.mono ?_
    rintro e w2 ⟨rfl, h2⟩
    have hb2 := below_then hb h2
    have hd2 := hd.below h2 hsz
    clear h2 hd
    have q0 := hd2.c0
    have q1 := hd2.c1
    go_wp2_with fail
    refine (HN _).out.mono ?_
    rintro e w' ⟨rfl, rfl⟩
    go_wp2
    go_ret
    exact ⟨rfl, hb2⟩

set_option maxHeartbeats 1000000 in
theorem dtop96 (ng : Bool) (a : Option Addr) (c : Nat) (zs : List Int) (ex : Int) (w : World) (hl : Lie w a zs) (h : DG ng zs ex) :
    Calls Tryd.prog 72 #[dV ng a zs.length c ex] w fun e w' => ∃ B : Nat, e = .returned (.int .i64 (B + ex)) ∧ BitLen (Nt.val zs) B ∧ B ≤ 131072 ∧ Below w.heap.size w w' := by
  have hb := below_alloc w (.cells #[.bool ng, .slice a zs.length c, .int .i64 ex] 36)
  have hd := dcell_new w (.bool ng) (.slice a zs.length c) (.int .i64 ex)
  have hx := h.ex_bd
  have g := h.good
  go_enter Tryd.func72, Tryd.ntmps72
  go_wp2_with fail
  generalize hw1 : w.alloc (.cells #[.bool ng, .slice a zs.length c, .int .i64 ex] 36) = w1 at *
  have hsz : w.heap.size + 1 = w1.heap.size := by rw [← hw1]; simp
  clear hw1
  have HI : Below (w.heap.size + 1) w1 w1.drew := (Below.refl _ _).drew
  have l1 := hl.below hb.drew (Nat.le_refl _)
  refine Drawn.enter (fun W => Below (w.heap.size + 1) w1 W) (by kernel_rfl) ?_
  refine Drawn.take (i := 0) (v := .pointer (some ⟨w.heap.size, 1, none⟩)) rfl (by kernel_rfl) (by kernel_rfl) (by kernel_rfl) (fun _ _ _ h => h) rfl (fun W hW => ?_) HI ?_
  · go_simp
  refine Drawn.take (i := 1) (v := .slice a zs.length c) rfl (by kernel_rfl) (by kernel_rfl) (by kernel_rfl) (fun _ _ _ h => h) rfl (fun W hW => ?_) HI ?_
  · have hc0 := below_cell2 hW (by simp) hd.c1
    go_simp
  refine Drawn.take (i := 3) (v := .pointer (some ⟨w.heap.size, 2, none⟩)) rfl (by kernel_rfl) (by kernel_rfl) (by kernel_rfl) (fun _ _ _ h => h) rfl (fun W hW => ?_) HI ?_
  · go_simp
  refine Drawn.take (i := 4) (v := .int .i64 ex) rfl (by kernel_rfl) (by kernel_rfl) (by kernel_rfl) (fun _ _ _ h => h) rfl (fun W hW => ?_) HI ?_
  · have hc0 := below_cell2 hW (by simp) hd.c2
    go_simp
  refine Drawn.one (j := 2) (by kernel_rfl) rfl (fun K hK => ?_)
  go_simp
  refine (lenN a c zs _ l1 g).mono ?_
  rintro e w' ⟨rfl, B, rfl, hB, hB1⟩
  refine hK _ _ HI ?_
  clear hK K
  have HBB := Hide.mk hB
  clear hB
  refine Drawn.take (i := 5) (v := .int .i64 ((B : Int) + ex)) rfl (by kernel_rfl) (by kernel_rfl) (by kernel_rfl) (fun _ _ _ h => h) rfl (fun W hW => ?_) HI ?_
  · go_simp
    exact wrap_ok (by omega) (by omega)
  refine Drawn.take (i := 6) (v := .int .i64 ((B : Int) + ex)) rfl (by kernel_rfl) (by kernel_rfl) (by kernel_rfl) (fun _ _ _ h => h) rfl (fun W hW => ?_) HI ?_
  · go_simp
  refine Drawn.done (by kernel_rfl) ?_
  go_wp2
  go_ret
  exact ⟨B, rfl, HBB.out, hB1, hb.drew⟩
theorem dcell2 (w : World) (A B : Array Value) (h1 : A.size = 3) (h2 : B.size = 3) :
    DCell ((w.alloc (.cells A 36)).alloc (.cells B 36)) w.heap.size A ∧ DCell ((w.alloc (.cells A 36)).alloc (.cells B 36)) (w.heap.size + 1) B ∧ ((w.alloc (.cells A 36)).alloc (.cells B 36)).heap.size = w.heap.size + 2 := by
  have e1 : (w.alloc (.cells A 36)).heap.size = w.heap.size + 1 := by simp
  have k1 : DCell (w.alloc (.cells A 36)) w.heap.size A := ⟨heap_alloc_new w _, h1⟩
  have k2 : DCell ((w.alloc (.cells A 36)).alloc (.cells B 36)) (w.heap.size + 1) B := ⟨by rw [← e1]; exact heap_alloc_new _ _, h2⟩
  exact ⟨k1.below (below_alloc (w.alloc (.cells A 36)) (.cells B 36)) (by rw [e1]; omega), k2, by simp⟩
/-- The sizes, by their tops. -/
theorem tops_lt {x y e1 e2 : Int} {B C : Nat} (hx : Bits x B) (hy : Bits y C) (h1 : -(KK : Int) ≤ e1) (h2 : -(KK : Int) ≤ e2) (h : (B : Int) + e1 < C + e2) : x * pK e1 < y * pK e2 := by
  unfold pK
  have p1 := p2pos (e1 + KK).toNat
  have p2 := p2pos (e2 + KK).toNat
  have k1 : x * 2 ^ (e1 + KK).toNat < 2 ^ B * 2 ^ (e1 + KK).toNat := Int.mul_lt_mul_of_pos_right hx.lt p1
  rw [← Int.pow_add] at k1
  have k2 := p2mono (show B + (e1 + KK).toNat + 1 ≤ C + (e2 + KK).toNat by omega)
  rw [p2succ] at k2
  have k3 : 2 ^ C * 2 ^ (e2 + KK).toNat ≤ 2 * y * 2 ^ (e2 + KK).toNat := Int.mul_le_mul_of_nonneg_right hy.le (by omega)
  rw [← Int.pow_add, Int.mul_assoc] at k3
  omega
theorem sgn_scale {x y k : Int} (hk : 0 < k) : sgn (x * k) (y * k) = sgn x y := by
  unfold sgn
  rcases Int.lt_trichotomy x y with c | c | c
  · have := Int.mul_lt_mul_of_pos_right c hk
    rw [if_pos c, if_pos this]
  · subst c; simp
  · have := Int.mul_lt_mul_of_pos_right c hk
    rw [if_neg (show ¬ x * k < y * k by omega), if_pos this, if_neg (show ¬ x < y by omega), if_pos c]
theorem level_scale {x e m : Int} (hm : -(KK : Int) ≤ m) (h : m ≤ e) : x * pK e = x * 2 ^ (e - m).toNat * pK m := by
  have := pK_add hm (e - m).toNat
  rw [show m + ((e - m).toNat : Int) = e by omega] at this
  rw [this, Int.mul_assoc, Int.mul_comm (pK m)]
theorem sizes_ne {x y e1 e2 : Int} {B C : Nat} (hx : BitLen x B) (hy : BitLen y C) (h : (B : Int) + e1 ≠ C + e2) (h1 : -(KK : Int) ≤ e1) (h2 : -(KK : Int) ≤ e2) (hz : (0 < x ∧ 0 < y) ∨ (x = 0 ∧ y = 0 ∧ e1 = e2)) : sgn ((B : Int) + e1) (C + e2) = sgn (x * pK e1) (y * pK e2) := by
  rcases hz with ⟨k1, k2⟩ | ⟨rfl, rfl, rfl⟩
  · have hx' : Bits x B := by rcases hx with ⟨c, _⟩ | ⟨_, c⟩; omega; exact c
    have hy' : Bits y C := by rcases hy with ⟨c, _⟩ | ⟨_, c⟩; omega; exact c
    rcases Int.lt_trichotomy ((B : Int) + e1) (C + e2) with c | c | c
    · have := tops_lt hx' hy' h1 h2 c
      unfold sgn; rw [if_pos c, if_pos this]
    · exact absurd c h
    · have := tops_lt hy' hx' h2 h1 c
      unfold sgn; rw [if_neg (by omega), if_pos c, if_neg (by omega), if_pos this]
  · have := hx.unique hy
    omega
theorem sizes_fit {x y e1 e2 m : Int} {B C : Nat} (hx : BitLen x B) (hy : BitLen y C) (h : (B : Int) + e1 = C + e2) (hm : min e1 e2 = m) (hB : B ≤ 131072) (hC : C ≤ 131072) : x * 2 ^ (e1 - m).toNat < 4294967296 ^ 4096 ∧ y * 2 ^ (e2 - m).toNat < 4294967296 ^ 4096 := by
  have key : ∀ (x : Int) (B k : Nat), BitLen x B → B + k ≤ 131072 → x * 2 ^ k < 4294967296 ^ 4096 := by
    intro x B k hx hk
    rw [pw32]
    rcases hx with ⟨rfl, _⟩ | ⟨_, c⟩
    · rw [Int.zero_mul]; exact p2pos _
    · have h1 := (c.up k).lt
      have := p2mono hk
      omega
  by_cases c : e1 ≤ e2
  · exact ⟨key x B _ hx (by omega), key y C _ hy (by omega)⟩
  · exact ⟨key x B _ hx (by omega), key y C _ hy (by omega)⟩
theorem sizes_eq {x y e1 e2 m : Int} (h1 : m ≤ e1) (h2 : m ≤ e2) (hm : -(KK : Int) ≤ m) : sgn (x * pK e1) (y * pK e2) = sgn (x * 2 ^ (e1 - m).toNat) (y * 2 ^ (e2 - m).toNat) := by
  rw [level_scale hm h1, level_scale hm h2, sgn_scale (pK_pos m)]
set_option maxHeartbeats 4000000 in
theorem sizes_ne_w (n1 n2 : Bool) (a1 a2 : Option Addr) (c1 c2 : Nat) (z1 z2 : List Int) (e1 e2 : Int) (w : World) (h1 : Lie w a1 z1) (h2 : Lie w a2 z2) (g1 : DG n1 z1 e1) (g2 : DG n2 z2 e2) (hT : Tab w) {B C : Nat} (hB1 : BitLen (Nt.val z1) B) (hB2 : BitLen (Nt.val z2) C) (hh : (B : Int) + e1 ≠ C + e2) (hz : (0 < Nt.val z1 ∧ 0 < Nt.val z2) ∨ (Nt.val z1 = 0 ∧ Nt.val z2 = 0 ∧ e1 = e2)) :
    Calls Tryd.prog 76 #[dV n1 a1 z1.length c1 e1, dV n2 a2 z2.length c2 e2] w fun e w' => e = .returned (.int .i64 (sgn (Nt.val z1 * pK e1) (Nt.val z2 * pK e2))) ∧ Below w.heap.size w w' := by
  obtain ⟨d1, d2, hs2⟩ := dcell2 w #[.bool n1, .slice a1 z1.length c1, .int .i64 e1] #[.bool n2, .slice a2 z2.length c2, .int .i64 e2] rfl rfl
  have hb := below2 w (.cells #[.bool n1, .slice a1 z1.length c1, .int .i64 e1] 36) (.cells #[.bool n2, .slice a2 z2.length c2, .int .i64 e2] 36)
  have x1 := g1.ex_bd
  have x2 := g2.ex_bd
  have hK := KK_int
  have HH := Hide.mk hh
  clear hh
  have Hc := Hide.mk (And.intro hB1 hB2)
  clear hB1 hB2
  go_enter Tryd.func76, Tryd.ntmps76
  go_wp2_with fail
  generalize hw2 : (w.alloc (.cells #[.bool n1, .slice a1 z1.length c1, .int .i64 e1] 36)).alloc (.cells #[.bool n2, .slice a2 z2.length c2, .int .i64 e2] 36) = w2 at *
  clear hw2
  have HI : Below (w.heap.size + 2) w2 w2.drew := (Below.refl _ _).drew
  have L : Live w2.drew [(a1, z1), (a2, z2)] := ⟨by simp [h1.below hb.drew (Nat.le_refl _), h2.below hb.drew (Nat.le_refl _)]⟩
  have HT := Hide.mk (hT.below hb.drew (Nat.le_refl _))
  have HB : Below w.heap.size w w2.drew := hb.drew
  have hsz : w.heap.size + 2 ≤ w2.drew.heap.size := by show _ ≤ w2.heap.size; omega
  clear h1 h2 hT hb
  refine Drawn.enter (fun W => Below (w.heap.size + 2) w2 W) (by kernel_rfl) ?_
  refine Drawn.take (i := 0) (v := dV n1 a1 z1.length c1 e1) rfl (by kernel_rfl) (by kernel_rfl) (by kernel_rfl) (fun _ _ _ h => h) rfl (fun W hW => ?_) HI ?_
  · have hc0 := below_cell2 hW (by simp) d1.c0
    have hc1 := below_cell2 hW (by simp) d1.c1
    have hc2 := below_cell2 hW (by simp) d1.c2
    go_simp
  refine Drawn.take (i := 2) (v := dV n2 a2 z2.length c2 e2) rfl (by kernel_rfl) (by kernel_rfl) (by kernel_rfl) (fun _ _ _ h => h) rfl (fun W hW => ?_) HI ?_
  · have hc0 := below_cell2 hW (by simp) d2.c0
    have hc1 := below_cell2 hW (by simp) d2.c1
    have hc2 := below_cell2 hW (by simp) d2.c2
    go_simp
  refine Drawn.one (j := 1) (by kernel_rfl) rfl (fun K hK => ?_)
  go_simp
  refine (dtop96 n1 a1 c1 z1 e1 _ (L.all (a1, z1) (by simp)) g1).mono ?_
  rintro e w3 ⟨B, rfl, hB, hBB, h3⟩
  obtain rfl := hB.unique Hc.out.1
  clear hB
  have HIh3 := HI.trans (h3.mono hsz)
  replace HI := HIh3
  replace L := L.keep h3
  replace HT := Hide.mk (HT.out.below h3 (Nat.le_refl _))
  replace HB := below_then HB h3
  replace hsz := Nat.le_trans hsz h3.size
  clear h3 HIh3
  refine hK _ _ HI ?_
  clear hK K
  refine Drawn.one (j := 3) (by kernel_rfl) rfl (fun K hK => ?_)
  go_simp
  refine (dtop96 n2 a2 c2 z2 e2 _ (L.all (a2, z2) (by simp)) g2).mono ?_
  rintro e w4 ⟨C, rfl, hC, hCC, h4⟩
  obtain rfl := hC.unique Hc.out.2
  clear hC
  have HIh4 := HI.trans (h4.mono hsz)
  replace HI := HIh4
  replace L := L.keep h4
  replace HT := Hide.mk (HT.out.below h4 (Nat.le_refl _))
  replace HB := below_then HB h4
  replace hsz := Nat.le_trans hsz h4.size
  clear h4 HIh4
  refine hK _ _ HI ?_
  clear hK K
  refine Drawn.one (j := 4) (by kernel_rfl) rfl (fun K hK => ?_)
  go_simp
  refine (cmp51 ((B : Int) + e1) ((C : Int) + e2) _).mono ?_
  rintro e w' ⟨rfl, rfl⟩
  refine hK _ _ HI ?_
  clear hK K
  refine Drawn.take (i := 5) (v := .int .i64 (sgn ((B : Int) + e1) ((C : Int) + e2))) rfl (by kernel_rfl) (by kernel_rfl) (by kernel_rfl) (fun _ _ _ h => h) rfl (fun W hW => ?_) HI ?_
  · go_simp
  refine Drawn.done (by kernel_rfl) ?_
  have hne : (sgn ((B : Int) + e1) ((C : Int) + e2) != 0) = true := by have := HH.out; rw [bne_iff_ne]; unfold sgn; split; decide; split; decide; omega
  have hres := Hide.mk (sizes_ne Hc.out.1 Hc.out.2 HH.out (by omega) (by omega) hz)
  generalize sgn ((B : Int) + e1) ((C : Int) + e2) = sg at *
  go_wp2
  go_ret
  exact ⟨by rw [← hres.out]; rfl, HB⟩
set_option maxHeartbeats 4000000 in
theorem sizes_eq_w (n1 n2 : Bool) (a1 a2 : Option Addr) (c1 c2 : Nat) (z1 z2 : List Int) (e1 e2 : Int) (w : World) (h1 : Lie w a1 z1) (h2 : Lie w a2 z2) (g1 : DG n1 z1 e1) (g2 : DG n2 z2 e2) (hT : Tab w) {B C : Nat} (hB1 : BitLen (Nt.val z1) B) (hB2 : BitLen (Nt.val z2) C) (hh : (B : Int) + e1 = C + e2) :
    Calls Tryd.prog 76 #[dV n1 a1 z1.length c1 e1, dV n2 a2 z2.length c2 e2] w fun e w' => e = .returned (.int .i64 (sgn (Nt.val z1 * pK e1) (Nt.val z2 * pK e2))) ∧ Below w.heap.size w w' := by
  obtain ⟨d1, d2, hs2⟩ := dcell2 w #[.bool n1, .slice a1 z1.length c1, .int .i64 e1] #[.bool n2, .slice a2 z2.length c2, .int .i64 e2] rfl rfl
  have hb := below2 w (.cells #[.bool n1, .slice a1 z1.length c1, .int .i64 e1] 36) (.cells #[.bool n2, .slice a2 z2.length c2, .int .i64 e2] 36)
  have x1 := g1.ex_bd
  have x2 := g2.ex_bd
  have hK := KK_int
  obtain ⟨m, hm⟩ : ∃ m, min e1 e2 = m := ⟨_, rfl⟩
  have hm1 : m ≤ e1 := by omega
  have hm2 : m ≤ e2 := by omega
  have hm3 : -16777216 ≤ m := by omega
  have HMM := Hide.mk hm
  clear hm
  have HH := Hide.mk hh
  clear hh
  have Hc := Hide.mk (And.intro hB1 hB2)
  clear hB1 hB2
  go_enter Tryd.func76, Tryd.ntmps76
  go_wp2_with fail
  generalize hw2 : (w.alloc (.cells #[.bool n1, .slice a1 z1.length c1, .int .i64 e1] 36)).alloc (.cells #[.bool n2, .slice a2 z2.length c2, .int .i64 e2] 36) = w2 at *
  clear hw2
  have HI : Below (w.heap.size + 2) w2 w2.drew := (Below.refl _ _).drew
  have L : Live w2.drew [(a1, z1), (a2, z2)] := ⟨by simp [h1.below hb.drew (Nat.le_refl _), h2.below hb.drew (Nat.le_refl _)]⟩
  have HT := Hide.mk (hT.below hb.drew (Nat.le_refl _))
  have HB : Below w.heap.size w w2.drew := hb.drew
  have hsz : w.heap.size + 2 ≤ w2.drew.heap.size := by show _ ≤ w2.heap.size; omega
  clear h1 h2 hT hb
  refine Drawn.enter (fun W => Below (w.heap.size + 2) w2 W) (by kernel_rfl) ?_
  refine Drawn.take (i := 0) (v := dV n1 a1 z1.length c1 e1) rfl (by kernel_rfl) (by kernel_rfl) (by kernel_rfl) (fun _ _ _ h => h) rfl (fun W hW => ?_) HI ?_
  · have hc0 := below_cell2 hW (by simp) d1.c0
    have hc1 := below_cell2 hW (by simp) d1.c1
    have hc2 := below_cell2 hW (by simp) d1.c2
    go_simp
  refine Drawn.take (i := 2) (v := dV n2 a2 z2.length c2 e2) rfl (by kernel_rfl) (by kernel_rfl) (by kernel_rfl) (fun _ _ _ h => h) rfl (fun W hW => ?_) HI ?_
  · have hc0 := below_cell2 hW (by simp) d2.c0
    have hc1 := below_cell2 hW (by simp) d2.c1
    have hc2 := below_cell2 hW (by simp) d2.c2
    go_simp
  refine Drawn.one (j := 1) (by kernel_rfl) rfl (fun K hK => ?_)
  go_simp
  refine (dtop96 n1 a1 c1 z1 e1 _ (L.all (a1, z1) (by simp)) g1).mono ?_
  rintro e w3 ⟨B, rfl, hB, hBB, h3⟩
  obtain rfl := hB.unique Hc.out.1
  clear hB
  have HIh3 := HI.trans (h3.mono hsz)
  replace HI := HIh3
  replace L := L.keep h3
  replace HT := Hide.mk (HT.out.below h3 (Nat.le_refl _))
  replace HB := below_then HB h3
  replace hsz := Nat.le_trans hsz h3.size
  clear h3 HIh3
  refine hK _ _ HI ?_
  clear hK K
  refine Drawn.one (j := 3) (by kernel_rfl) rfl (fun K hK => ?_)
  go_simp
  refine (dtop96 n2 a2 c2 z2 e2 _ (L.all (a2, z2) (by simp)) g2).mono ?_
  rintro e w4 ⟨C, rfl, hC, hCC, h4⟩
  obtain rfl := hC.unique Hc.out.2
  clear hC
  have HIh4 := HI.trans (h4.mono hsz)
  replace HI := HIh4
  replace L := L.keep h4
  replace HT := Hide.mk (HT.out.below h4 (Nat.le_refl _))
  replace HB := below_then HB h4
  replace hsz := Nat.le_trans hsz h4.size
  clear h4 HIh4
  refine hK _ _ HI ?_
  clear hK K
  refine Drawn.one (j := 4) (by kernel_rfl) rfl (fun K hK => ?_)
  go_simp
  refine (cmp51 ((B : Int) + e1) ((C : Int) + e2) _).mono ?_
  rintro e w' ⟨rfl, rfl⟩
  refine hK _ _ HI ?_
  clear hK K
  refine Drawn.take (i := 5) (v := .int .i64 (sgn ((B : Int) + e1) ((C : Int) + e2))) rfl (by kernel_rfl) (by kernel_rfl) (by kernel_rfl) (fun _ _ _ h => h) rfl (fun W hW => ?_) HI ?_
  · go_simp
  refine Drawn.done (by kernel_rfl) ?_
  have hse : sgn ((B : Int) + e1) ((C : Int) + e2) = 0 := by have := HH.out; unfold sgn; rw [if_neg (by omega), if_neg (by omega)]
  rw [hse]
  clear hse
  have k10 := below_cell2 HI (by simp) d1.c1
  have k12 := below_cell2 HI (by simp) d1.c2
  have k21 := below_cell2 HI (by simp) d2.c1
  have k22 := below_cell2 HI (by simp) d2.c2
  go_wp2_with fail
  rw [HMM.out]
  have B4 : Below (w.heap.size + 2) w4 w4 := Below.refl _ _
  replace HI : Below (w.heap.size + 2) w4 w4.drew := B4.drew
  replace L : Live w4.drew _ := L.keep (Below.refl _ _).drew
  replace HT : Hide (Tab w4.drew) := ⟨HT.out.below (Below.refl _ _).drew (Nat.le_refl _)⟩
  replace HB : Below w.heap.size w w4.drew := HB.drew
  replace hsz : w.heap.size + 2 ≤ w4.drew.heap.size := hsz
  refine Drawn.enter (fun W => Below (w.heap.size + 2) w4 W) (by kernel_rfl) ?_
  refine Drawn.take (i := 0) (v := .pointer (some ⟨w.heap.size, 1, none⟩)) rfl (by kernel_rfl) (by kernel_rfl) (by kernel_rfl) (fun _ _ _ h => h) rfl (fun W hW => ?_) HI ?_
  · go_simp
  refine Drawn.take (i := 1) (v := .slice a1 z1.length c1) rfl (by kernel_rfl) (by kernel_rfl) (by kernel_rfl) (fun _ _ _ h => h) rfl (fun W hW => ?_) HI ?_
  · have hc0 := below_cell2 hW (by simp) k10
    go_simp
  refine Drawn.take (i := 2) (v := .pointer (some ⟨w.heap.size, 2, none⟩)) rfl (by kernel_rfl) (by kernel_rfl) (by kernel_rfl) (fun _ _ _ h => h) rfl (fun W hW => ?_) HI ?_
  · go_simp
  refine Drawn.take (i := 3) (v := .int .i64 e1) rfl (by kernel_rfl) (by kernel_rfl) (by kernel_rfl) (fun _ _ _ h => h) rfl (fun W hW => ?_) HI ?_
  · have hc0 := below_cell2 hW (by simp) k12
    go_simp
  refine Drawn.take (i := 4) (v := .int .i64 m) rfl (by kernel_rfl) (by kernel_rfl) (by kernel_rfl) (fun _ _ _ h => h) rfl (fun W hW => ?_) HI ?_
  · go_simp
  refine Drawn.take (i := 5) (v := .int .i64 (e1 - m)) rfl (by kernel_rfl) (by kernel_rfl) (by kernel_rfl) (fun _ _ _ h => h) rfl (fun W hW => ?_) HI ?_
  · go_simp
    exact wrap_ok (by omega) (by omega)
  refine Drawn.take (i := 7) (v := .pointer (some ⟨w.heap.size + 1, 1, none⟩)) rfl (by kernel_rfl) (by kernel_rfl) (by kernel_rfl) (fun _ _ _ h => h) rfl (fun W hW => ?_) HI ?_
  · go_simp
  refine Drawn.take (i := 8) (v := .slice a2 z2.length c2) rfl (by kernel_rfl) (by kernel_rfl) (by kernel_rfl) (fun _ _ _ h => h) rfl (fun W hW => ?_) HI ?_
  · have hc0 := below_cell2 hW (by simp) k21
    go_simp
  refine Drawn.take (i := 9) (v := .pointer (some ⟨w.heap.size + 1, 2, none⟩)) rfl (by kernel_rfl) (by kernel_rfl) (by kernel_rfl) (fun _ _ _ h => h) rfl (fun W hW => ?_) HI ?_
  · go_simp
  refine Drawn.take (i := 10) (v := .int .i64 e2) rfl (by kernel_rfl) (by kernel_rfl) (by kernel_rfl) (fun _ _ _ h => h) rfl (fun W hW => ?_) HI ?_
  · have hc0 := below_cell2 hW (by simp) k22
    go_simp
  refine Drawn.take (i := 11) (v := .int .i64 m) rfl (by kernel_rfl) (by kernel_rfl) (by kernel_rfl) (fun _ _ _ h => h) rfl (fun W hW => ?_) HI ?_
  · go_simp
  refine Drawn.take (i := 12) (v := .int .i64 (e2 - m)) rfl (by kernel_rfl) (by kernel_rfl) (by kernel_rfl) (fun _ _ _ h => h) rfl (fun W hW => ?_) HI ?_
  · go_simp
    exact wrap_ok (by omega) (by omega)
  obtain ⟨F1, F2⟩ := sizes_fit Hc.out.1 Hc.out.2 HH.out HMM.out hBB hCC
  have HF1 := Hide.mk F1
  have HF2 := Hide.mk F2
  clear F1 F2
  refine Drawn.one (j := 6) (by kernel_rfl) rfl (fun K hK => ?_)
  go_simp
  refine (shiftedU a1 c1 z1 _ (L.all (a1, z1) (by simp)) g1.good (e1 - m) (e1 - m).toNat (by omega) HF1.out).mono ?_
  rintro e w5 ⟨z5, a5, c5, rfl, h5, _⟩
  have Gh5 := h5.good
  have lh5 := h5.lie
  have bh5 := h5.bel
  have HIh5 := HI.trans (bh5.mono hsz)
  replace HI := HIh5
  replace L := L.push lh5 bh5
  replace HT := Hide.mk (HT.out.below bh5 (Nat.le_refl _))
  replace HB := below_then HB bh5
  replace hsz := Nat.le_trans hsz bh5.size
  clear h5 HIh5 lh5 bh5
  refine hK _ _ HI ?_
  clear hK K
  refine Drawn.one (j := 13) (by kernel_rfl) rfl (fun K hK => ?_)
  go_simp
  refine (shiftedU a2 c2 z2 _ (L.all (a2, z2) (by simp)) g2.good (e2 - m) (e2 - m).toNat (by omega) HF2.out).mono ?_
  rintro e w6 ⟨z6, a6, c6, rfl, h6, _⟩
  have Gh6 := h6.good
  have lh6 := h6.lie
  have bh6 := h6.bel
  have HIh6 := HI.trans (bh6.mono hsz)
  replace HI := HIh6
  replace L := L.push lh6 bh6
  replace HT := Hide.mk (HT.out.below bh6 (Nat.le_refl _))
  replace HB := below_then HB bh6
  replace hsz := Nat.le_trans hsz bh6.size
  clear h6 HIh6 lh6 bh6
  refine hK _ _ HI ?_
  clear hK K
  refine Drawn.one (j := 14) (by kernel_rfl) rfl (fun K hK => ?_)
  go_simp
  refine (cmpM126 a5 a6 c5 c6 z5 z6 _ (L.all (a5, z5) (by simp)) (L.all (a6, z6) (by simp)) Gh5 Gh6 _ rfl).mono ?_
  rintro e w7 ⟨rfl, h7⟩
  have HIh7 := HI.trans (h7.mono hsz)
  replace HI := HIh7
  replace L := L.keep h7
  replace HT := Hide.mk (HT.out.below h7 (Nat.le_refl _))
  replace HB := below_then HB h7
  replace hsz := Nat.le_trans hsz h7.size
  clear h7 HIh7
  refine hK _ _ HI ?_
  clear hK K
  have hres := Hide.mk (sizes_eq (x := Nt.val z1) (y := Nt.val z2) hm1 hm2 (by omega))
  generalize sgn (Nt.val z1 * 2 ^ (e1 - m).toNat) (Nt.val z2 * 2 ^ (e2 - m).toNat) = sg at *
  refine Drawn.take (i := 15) (v := .int .i64 sg) rfl (by kernel_rfl) (by kernel_rfl) (by kernel_rfl) (fun _ _ _ h => h) rfl (fun W hW => ?_) HI ?_
  · go_simp
  refine Drawn.done (by kernel_rfl) ?_
  go_wp2
  go_ret
  exact ⟨by rw [hres.out]; rfl, HB⟩
theorem sizes102 (n1 n2 : Bool) (a1 a2 : Option Addr) (c1 c2 : Nat) (z1 z2 : List Int) (e1 e2 : Int) (w : World) (h1 : Lie w a1 z1) (h2 : Lie w a2 z2) (g1 : DG n1 z1 e1) (g2 : DG n2 z2 e2) (hT : Tab w) (hz : (0 < Nt.val z1 ∧ 0 < Nt.val z2) ∨ (Nt.val z1 = 0 ∧ Nt.val z2 = 0 ∧ e1 = e2)) :
    Calls Tryd.prog 76 #[dV n1 a1 z1.length c1 e1, dV n2 a2 z2.length c2 e2] w fun e w' => e = .returned (.int .i64 (sgn (Nt.val z1 * pK e1) (Nt.val z2 * pK e2))) ∧ Below w.heap.size w w' := by
  obtain ⟨B, hB⟩ := bitLen_ex g1.good.nonneg
  obtain ⟨C, hC⟩ := bitLen_ex g2.good.nonneg
  by_cases hh : (B : Int) + e1 = C + e2
  · exact sizes_eq_w n1 n2 a1 a2 c1 c2 z1 z2 e1 e2 w h1 h2 g1 g2 hT hB hC hh
  · exact sizes_ne_w n1 n2 a1 a2 c1 c2 z1 z2 e1 e2 w h1 h2 g1 g2 hT hB hC hh hz

theorem cmp_signs {n1 n2 : Bool} {z1 z2 : List Int} {e1 e2 u v : Int} (h1 : DN n1 z1 e1 u) (h2 : DN n2 z2 e2 v) :
    (sgn (sgn u 0) (sgn v 0) ≠ 0 → sgn (sgn u 0) (sgn v 0) = sgn u v) ∧
    (sgn (sgn u 0) (sgn v 0) = 0 → n1 = true → sgn (Nt.val z2 * pK e2) (Nt.val z1 * pK e1) = sgn u v ∧ ((0 < Nt.val z2 ∧ 0 < Nt.val z1) ∨ (Nt.val z2 = 0 ∧ Nt.val z1 = 0 ∧ e2 = e1))) ∧
    (sgn (sgn u 0) (sgn v 0) = 0 → n1 = false → sgn (Nt.val z1 * pK e1) (Nt.val z2 * pK e2) = sgn u v ∧ ((0 < Nt.val z1 ∧ 0 < Nt.val z2) ∨ (Nt.val z1 = 0 ∧ Nt.val z2 = 0 ∧ e1 = e2))) := by
  obtain ⟨a1, a2, a3⟩ := dv_sgn h1
  obtain ⟨b1, b2, b3⟩ := dv_sgn h2
  have e0 : ∀ x : Int, (x < 0 ∧ sgn x 0 = -1) ∨ (x = 0 ∧ sgn x 0 = 0) ∨ (0 < x ∧ sgn x 0 = 1) := by
    intro x
    unfold sgn
    rcases Int.lt_trichotomy x 0 with c | c | c
    · exact .inl ⟨c, if_pos c⟩
    · exact .inr (.inl ⟨c, by subst c; rfl⟩)
    · exact .inr (.inr ⟨c, by rw [if_neg (by omega), if_pos c]⟩)
  have fu := e0 u
  have fv := e0 v
  have hu : u = sv n1 (Nt.val z1) * pK e1 := h1.val.symm
  have hv : v = sv n2 (Nt.val z2) * pK e2 := h2.val.symm
  have hsg : ∀ x y : Int, sgn x y = 0 → x = y := fun x y h => by
    unfold sgn at h
    by_cases c1 : x < y
    · rw [if_pos c1] at h; omega
    · rw [if_neg c1] at h
      by_cases c2 : y < x
      · rw [if_pos c2] at h; omega
      · omega
  refine ⟨fun h => ?_, fun h hn => ?_, fun h hn => ?_⟩
  · rcases fu with ⟨f1, f2⟩ | ⟨f1, f2⟩ | ⟨f1, f2⟩ <;> rcases fv with ⟨g1, g2⟩ | ⟨g1, g2⟩ | ⟨g1, g2⟩ <;> rw [f2, g2] at h ⊢ <;> unfold sgn at * <;> first | (exact absurd rfl h) | (rw [if_pos (show u < v by omega)]; rfl) | (rw [if_neg (show ¬ u < v by omega), if_pos (show v < u by omega)]; rfl)
  · have hs := hsg _ _ h
    have p1 : 0 < z1.length := by
      by_cases c : 0 < z1.length
      · exact c
      · have := (h1.dg.nil (by omega)).2.1; rw [hn] at this; cases this
    have ku := a2 p1 hn
    have kv : v < 0 := by
      rcases fu with ⟨f1, f2⟩ | ⟨f1, f2⟩ | ⟨f1, f2⟩ <;> rcases fv with ⟨g1, g2⟩ | ⟨g1, g2⟩ | ⟨g1, g2⟩ <;> rw [f2, g2] at hs <;> omega
    have p2 : 0 < z2.length := by
      by_cases c : 0 < z2.length
      · exact c
      · have := b1 (by omega); omega
    have hn2 : n2 = true := by
      cases n2
      · have := b3 p2 rfl; omega
      · rfl
    rw [hn, sv_t, Int.neg_mul] at hu
    rw [hn2, sv_t, Int.neg_mul] at hv
    refine ⟨?_, .inl ⟨h2.dg.pos p2, h1.dg.pos p1⟩⟩
    rw [hu, hv]
    generalize Nt.val z1 * pK e1 = x
    generalize Nt.val z2 * pK e2 = y
    unfold sgn
    rcases Int.lt_trichotomy x y with c | c | c
    · rw [if_neg (show ¬ y < x by omega), if_pos c, if_neg (show ¬ -x < -y by omega), if_pos (show -y < -x by omega)]
    · subst c; simp
    · rw [if_pos c, if_pos (show -x < -y by omega)]
  · have hs := hsg _ _ h
    have ku : 0 ≤ u := by
      by_cases c : 0 < z1.length
      · have := a3 c hn; omega
      · have := a1 (by omega); omega
    have kv : 0 ≤ v := by
      rcases fu with ⟨f1, f2⟩ | ⟨f1, f2⟩ | ⟨f1, f2⟩ <;> rcases fv with ⟨g1, g2⟩ | ⟨g1, g2⟩ | ⟨g1, g2⟩ <;> rw [f2, g2] at hs <;> omega
    have hn2 : n2 = false := by
      cases n2
      · rfl
      · by_cases c : 0 < z2.length
        · have := b2 c rfl; omega
        · exact (h2.dg.nil (by omega)).2.1
    rw [hn, sv_f] at hu
    rw [hn2, sv_f] at hv
    refine ⟨by rw [hu, hv], ?_⟩
    by_cases p1 : 0 < z1.length
    · have k1 := a3 p1 hn
      have p2 : 0 < z2.length := by
        by_cases c : 0 < z2.length
        · exact c
        · have k2 := b1 (by omega)
          rcases fu with ⟨f1, f2⟩ | ⟨f1, f2⟩ | ⟨f1, f2⟩ <;> rcases fv with ⟨g1, g2⟩ | ⟨g1, g2⟩ | ⟨g1, g2⟩ <;> rw [f2, g2] at hs <;> omega
      exact .inl ⟨h1.dg.pos p1, h2.dg.pos p2⟩
    · have k1 := a1 (by omega)
      have p2 : z2.length ≤ 0 := by
        by_cases c : 0 < z2.length
        · have k2 := b3 c hn2
          rcases fu with ⟨f1, f2⟩ | ⟨f1, f2⟩ | ⟨f1, f2⟩ <;> rcases fv with ⟨g1, g2⟩ | ⟨g1, g2⟩ | ⟨g1, g2⟩ <;> rw [f2, g2] at hs <;> omega
        · omega
      obtain ⟨r1, _, r3⟩ := h1.dg.nil (by omega)
      obtain ⟨t1, _, t3⟩ := h2.dg.nil p2
      exact .inr ⟨by rw [r1]; rfl, by rw [t1]; rfl, by rw [r3, t3]⟩
set_option maxHeartbeats 2000000 in
theorem dcmp_bad (n1 n2 : Bool) (a1 a2 : Option Addr) (c1 c2 : Nat) (z1 z2 : List Int) (e1 e2 : Int) (w : World) (u1 : DLie w a1 z1) (u2 : DLie w a2 z2) (hq : (dmayB n1 z1 e1 && dmayB n2 z2 e2) = false) :
    Calls Tryd.prog 34 #[dV n1 a1 z1.length c1 e1, dV n2 a2 z2.length c2 e2] w fun e w' => e = .returned (.tuple #[.int .i64 0, .int .i64 2]) ∧ Below w.heap.size w w' := by
  obtain ⟨d1, d2, hs2⟩ := dcell2 w #[.bool n1, .slice a1 z1.length c1, .int .i64 e1] #[.bool n2, .slice a2 z2.length c2, .int .i64 e2] rfl rfl
  have hb2 := below2 w (.cells #[.bool n1, .slice a1 z1.length c1, .int .i64 e1] 36) (.cells #[.bool n2, .slice a2 z2.length c2, .int .i64 e2] 36)
  go_enter Tryd.func34, Tryd.ntmps34
  go_wp2_with fail
  generalize hw2 : (w.alloc (.cells #[.bool n1, .slice a1 z1.length c1, .int .i64 e1] 36)).alloc (.cells #[.bool n2, .slice a2 z2.length c2, .int .i64 e2] 36) = w2 at *
  clear hw2
  obtain ⟨k0, k1, k2, k3, k4, k5⟩ := six w2 (w.heap.size + 1 + 1) (by omega) (.bool n1) (.slice a1 z1.length c1) (.int .i64 e1) (.bool n2) (.slice a2 z2.length c2) (.int .i64 e2)
  have hb4 := below_alloc w2 (.cells #[.bool n1, .slice a1 z1.length c1, .int .i64 e1, .bool n2, .slice a2 z2.length c2, .int .i64 e2] 36)
  refine (dallMay2 (w.heap.size + 1 + 1) n1 a1 c1 z1 e1 n2 a2 c2 z2 e2 _ ((u1.below hb2).below hb4) ((u2.below hb2).below hb4) _ _ rfl rfl k0 k1 k2 k3 k4 k5).mono ?_
  rintro e w5 ⟨rfl, h5⟩
  clear k0 k1 k2 k3 k4 k5
  rw [hq]
  have hb5 := below_then hb4 h5
  clear hb4 h5
  have HB : Below w.heap.size w w5 := below_then hb2 hb5
  go_wp2
  go_ret2
  exact ⟨rfl, HB⟩
set_option maxHeartbeats 4000000 in
theorem dcmp_ne (n1 n2 : Bool) (a1 a2 : Option Addr) (c1 c2 : Nat) (z1 z2 : List Int) (e1 e2 : Int) (w : World) {u v : Int} (h1 : Lie w a1 z1) (h2 : Lie w a2 z2) (N1 : DN n1 z1 e1 u) (N2 : DN n2 z2 e2 v) (hT : Tab w) (hc : sgn (sgn u 0) (sgn v 0) ≠ 0) :
    Calls Tryd.prog 34 #[dV n1 a1 z1.length c1 e1, dV n2 a2 z2.length c2 e2] w fun e w' => e = .returned (.tuple #[.int .i64 (sgn u v), .int .i64 0]) ∧ Below w.heap.size w w' := by
  have u1 := N1.dg.lie h1
  have u2 := N2.dg.lie h2
  have hq : (dmayB n1 z1 e1 && dmayB n2 z2 e2) = true := by rw [N1.dg.may, N2.dg.may]; rfl
  have HC := Hide.mk hc
  have hres := Hide.mk ((cmp_signs N1 N2).1 hc)
  clear hc
  obtain ⟨d1, d2, hs2⟩ := dcell2 w #[.bool n1, .slice a1 z1.length c1, .int .i64 e1] #[.bool n2, .slice a2 z2.length c2, .int .i64 e2] rfl rfl
  have hb2 := below2 w (.cells #[.bool n1, .slice a1 z1.length c1, .int .i64 e1] 36) (.cells #[.bool n2, .slice a2 z2.length c2, .int .i64 e2] 36)
  go_enter Tryd.func34, Tryd.ntmps34
  go_wp2_with fail
  generalize hw2 : (w.alloc (.cells #[.bool n1, .slice a1 z1.length c1, .int .i64 e1] 36)).alloc (.cells #[.bool n2, .slice a2 z2.length c2, .int .i64 e2] 36) = w2 at *
  clear hw2
  obtain ⟨k0, k1, k2, k3, k4, k5⟩ := six w2 (w.heap.size + 1 + 1) (by omega) (.bool n1) (.slice a1 z1.length c1) (.int .i64 e1) (.bool n2) (.slice a2 z2.length c2) (.int .i64 e2)
  have hb4 := below_alloc w2 (.cells #[.bool n1, .slice a1 z1.length c1, .int .i64 e1, .bool n2, .slice a2 z2.length c2, .int .i64 e2] 36)
  refine (dallMay2 (w.heap.size + 1 + 1) n1 a1 c1 z1 e1 n2 a2 c2 z2 e2 _ ((u1.below hb2).below hb4) ((u2.below hb2).below hb4) _ _ rfl rfl k0 k1 k2 k3 k4 k5).mono ?_
  rintro e w5 ⟨rfl, h5⟩
  clear k0 k1 k2 k3 k4 k5
  rw [hq]
  have hb5 := below_then hb4 h5
  clear hb4 h5
  have HB : Below w.heap.size w w5 := below_then hb2 hb5
  replace d1 := d1.below hb5 (by omega)
  replace d2 := d2.below hb5 (by omega)
  have hsz : w.heap.size + 2 ≤ w5.heap.size := by have := hb5.size; omega
  clear u1 u2 hq hb2 hb5 hs2
  have L : Live w5.drew [(a1, z1), (a2, z2)] := ⟨by simp [h1.below HB.drew (Nat.le_refl _), h2.below HB.drew (Nat.le_refl _)]⟩
  have HT := Hide.mk (hT.below HB.drew (Nat.le_refl _))
  replace HB : Below w.heap.size w w5.drew := HB.drew
  have HI : Below (w.heap.size + 2) w5 w5.drew := (Below.refl _ _).drew
  replace hsz : w.heap.size + 2 ≤ w5.drew.heap.size := hsz
  clear h1 h2 hT
  go_wp2_with fail
  refine Drawn.enter (fun W => Below (w.heap.size + 2) w5 W) (by kernel_rfl) ?_
  refine Drawn.take (i := 0) (v := dV n1 a1 z1.length c1 e1) rfl (by kernel_rfl) (by kernel_rfl) (by kernel_rfl) (fun _ _ _ h => h) rfl (fun W hW => ?_) HI ?_
  · have hc0 := below_cell2 hW (by simp) d1.c0
    have hc1 := below_cell2 hW (by simp) d1.c1
    have hc2 := below_cell2 hW (by simp) d1.c2
    go_simp
  refine Drawn.take (i := 2) (v := dV n2 a2 z2.length c2 e2) rfl (by kernel_rfl) (by kernel_rfl) (by kernel_rfl) (fun _ _ _ h => h) rfl (fun W hW => ?_) HI ?_
  · have hc0 := below_cell2 hW (by simp) d2.c0
    have hc1 := below_cell2 hW (by simp) d2.c1
    have hc2 := below_cell2 hW (by simp) d2.c2
    go_simp
  refine Drawn.one (j := 1) (by kernel_rfl) rfl (fun K hK => ?_)
  go_simp
  refine (dsign49 n1 a1 c1 z1 e1 u _ (L.all (a1, z1) (by simp)) N1 _ rfl).mono ?_
  rintro e w6 ⟨rfl, h6⟩
  have HIh6 := HI.trans (h6.mono hsz)
  replace HI := HIh6
  replace L := L.keep h6
  replace HT := Hide.mk (HT.out.below h6 (Nat.le_refl _))
  replace HB := below_then HB h6
  replace hsz := Nat.le_trans hsz h6.size
  clear h6 HIh6
  refine hK _ _ HI ?_
  clear hK K
  refine Drawn.one (j := 3) (by kernel_rfl) rfl (fun K hK => ?_)
  go_simp
  refine (dsign49 n2 a2 c2 z2 e2 v _ (L.all (a2, z2) (by simp)) N2 _ rfl).mono ?_
  rintro e w7 ⟨rfl, h7⟩
  have HIh7 := HI.trans (h7.mono hsz)
  replace HI := HIh7
  replace L := L.keep h7
  replace HT := Hide.mk (HT.out.below h7 (Nat.le_refl _))
  replace HB := below_then HB h7
  replace hsz := Nat.le_trans hsz h7.size
  clear h7 HIh7
  refine hK _ _ HI ?_
  clear hK K
  refine Drawn.one (j := 4) (by kernel_rfl) rfl (fun K hK => ?_)
  go_simp
  refine (cmp51 (sgn u 0) (sgn v 0) _).mono ?_
  rintro e w' ⟨rfl, rfl⟩
  refine hK _ _ HI ?_
  clear hK K
  refine Drawn.take (i := 5) (v := .int .i64 (sgn (sgn u 0) (sgn v 0))) rfl (by kernel_rfl) (by kernel_rfl) (by kernel_rfl) (fun _ _ _ h => h) rfl (fun W hW => ?_) HI ?_
  · go_simp
  refine Drawn.done (by kernel_rfl) ?_
  have hne : (sgn (sgn u 0) (sgn v 0) != 0) = true := bne_iff_ne.2 HC.out
  generalize sgn (sgn u 0) (sgn v 0) = sg at *
  go_wp2
  go_ret2
  exact ⟨by rw [← hres.out]; rfl, HB⟩
set_option maxHeartbeats 4000000 in
theorem dcmp_neg (n2 : Bool) (a1 a2 : Option Addr) (c1 c2 : Nat) (z1 z2 : List Int) (e1 e2 : Int) (w : World) {u v : Int} (h1 : Lie w a1 z1) (h2 : Lie w a2 z2) (N1 : DN true z1 e1 u) (N2 : DN n2 z2 e2 v) (hT : Tab w) (hc : sgn (sgn u 0) (sgn v 0) = 0) :
    Calls Tryd.prog 34 #[dV true a1 z1.length c1 e1, dV n2 a2 z2.length c2 e2] w fun e w' => e = .returned (.tuple #[.int .i64 (sgn u v), .int .i64 0]) ∧ Below w.heap.size w w' := by
  have u1 := N1.dg.lie h1
  have u2 := N2.dg.lie h2
  have hq : (dmayB true z1 e1 && dmayB n2 z2 e2) = true := by rw [N1.dg.may, N2.dg.may]; rfl
  have HC := Hide.mk hc
  obtain ⟨hr, hz⟩ := (cmp_signs N1 N2).2.1 hc rfl
  have HZ := Hide.mk hz
  have HR := Hide.mk hr
  clear hr hz
  clear hc
  obtain ⟨d1, d2, hs2⟩ := dcell2 w #[.bool true, .slice a1 z1.length c1, .int .i64 e1] #[.bool n2, .slice a2 z2.length c2, .int .i64 e2] rfl rfl
  have hb2 := below2 w (.cells #[.bool true, .slice a1 z1.length c1, .int .i64 e1] 36) (.cells #[.bool n2, .slice a2 z2.length c2, .int .i64 e2] 36)
  go_enter Tryd.func34, Tryd.ntmps34
  go_wp2_with fail
  generalize hw2 : (w.alloc (.cells #[.bool true, .slice a1 z1.length c1, .int .i64 e1] 36)).alloc (.cells #[.bool n2, .slice a2 z2.length c2, .int .i64 e2] 36) = w2 at *
  clear hw2
  obtain ⟨k0, k1, k2, k3, k4, k5⟩ := six w2 (w.heap.size + 1 + 1) (by omega) (.bool true) (.slice a1 z1.length c1) (.int .i64 e1) (.bool n2) (.slice a2 z2.length c2) (.int .i64 e2)
  have hb4 := below_alloc w2 (.cells #[.bool true, .slice a1 z1.length c1, .int .i64 e1, .bool n2, .slice a2 z2.length c2, .int .i64 e2] 36)
  refine (dallMay2 (w.heap.size + 1 + 1) true a1 c1 z1 e1 n2 a2 c2 z2 e2 _ ((u1.below hb2).below hb4) ((u2.below hb2).below hb4) _ _ rfl rfl k0 k1 k2 k3 k4 k5).mono ?_
  rintro e w5 ⟨rfl, h5⟩
  clear k0 k1 k2 k3 k4 k5
  rw [hq]
  have hb5 := below_then hb4 h5
  clear hb4 h5
  have HB : Below w.heap.size w w5 := below_then hb2 hb5
  replace d1 := d1.below hb5 (by omega)
  replace d2 := d2.below hb5 (by omega)
  have hsz : w.heap.size + 2 ≤ w5.heap.size := by have := hb5.size; omega
  clear u1 u2 hq hb2 hb5 hs2
  have L : Live w5.drew [(a1, z1), (a2, z2)] := ⟨by simp [h1.below HB.drew (Nat.le_refl _), h2.below HB.drew (Nat.le_refl _)]⟩
  have HT := Hide.mk (hT.below HB.drew (Nat.le_refl _))
  replace HB : Below w.heap.size w w5.drew := HB.drew
  have HI : Below (w.heap.size + 2) w5 w5.drew := (Below.refl _ _).drew
  replace hsz : w.heap.size + 2 ≤ w5.drew.heap.size := hsz
  clear h1 h2 hT
  go_wp2_with fail
  refine Drawn.enter (fun W => Below (w.heap.size + 2) w5 W) (by kernel_rfl) ?_
  refine Drawn.take (i := 0) (v := dV true a1 z1.length c1 e1) rfl (by kernel_rfl) (by kernel_rfl) (by kernel_rfl) (fun _ _ _ h => h) rfl (fun W hW => ?_) HI ?_
  · have hc0 := below_cell2 hW (by simp) d1.c0
    have hc1 := below_cell2 hW (by simp) d1.c1
    have hc2 := below_cell2 hW (by simp) d1.c2
    go_simp
  refine Drawn.take (i := 2) (v := dV n2 a2 z2.length c2 e2) rfl (by kernel_rfl) (by kernel_rfl) (by kernel_rfl) (fun _ _ _ h => h) rfl (fun W hW => ?_) HI ?_
  · have hc0 := below_cell2 hW (by simp) d2.c0
    have hc1 := below_cell2 hW (by simp) d2.c1
    have hc2 := below_cell2 hW (by simp) d2.c2
    go_simp
  refine Drawn.one (j := 1) (by kernel_rfl) rfl (fun K hK => ?_)
  go_simp
  refine (dsign49 true a1 c1 z1 e1 u _ (L.all (a1, z1) (by simp)) N1 _ rfl).mono ?_
  rintro e w6 ⟨rfl, h6⟩
  have HIh6 := HI.trans (h6.mono hsz)
  replace HI := HIh6
  replace L := L.keep h6
  replace HT := Hide.mk (HT.out.below h6 (Nat.le_refl _))
  replace HB := below_then HB h6
  replace hsz := Nat.le_trans hsz h6.size
  clear h6 HIh6
  refine hK _ _ HI ?_
  clear hK K
  refine Drawn.one (j := 3) (by kernel_rfl) rfl (fun K hK => ?_)
  go_simp
  refine (dsign49 n2 a2 c2 z2 e2 v _ (L.all (a2, z2) (by simp)) N2 _ rfl).mono ?_
  rintro e w7 ⟨rfl, h7⟩
  have HIh7 := HI.trans (h7.mono hsz)
  replace HI := HIh7
  replace L := L.keep h7
  replace HT := Hide.mk (HT.out.below h7 (Nat.le_refl _))
  replace HB := below_then HB h7
  replace hsz := Nat.le_trans hsz h7.size
  clear h7 HIh7
  refine hK _ _ HI ?_
  clear hK K
  refine Drawn.one (j := 4) (by kernel_rfl) rfl (fun K hK => ?_)
  go_simp
  refine (cmp51 (sgn u 0) (sgn v 0) _).mono ?_
  rintro e w' ⟨rfl, rfl⟩
  refine hK _ _ HI ?_
  clear hK K
  refine Drawn.take (i := 5) (v := .int .i64 (sgn (sgn u 0) (sgn v 0))) rfl (by kernel_rfl) (by kernel_rfl) (by kernel_rfl) (fun _ _ _ h => h) rfl (fun W hW => ?_) HI ?_
  · go_simp
  refine Drawn.done (by kernel_rfl) ?_
  rw [HC.out]
  have f10 := below_cell2 HI (by simp) d1.c0
  have f11 := below_cell2 HI (by simp) d1.c1
  have f12 := below_cell2 HI (by simp) d1.c2
  have f20 := below_cell2 HI (by simp) d2.c0
  have f21 := below_cell2 HI (by simp) d2.c1
  have f22 := below_cell2 HI (by simp) d2.c2
  go_wp2_with fail
  refine (sizes102 n2 true a2 a1 c2 c1 z2 z1 e2 e1 _ (L.all (a2, z2) (by simp)) (L.all (a1, z1) (by simp)) N2.dg N1.dg HT.out HZ.out).mono ?_
  rintro e w9 ⟨rfl, h9⟩
  have hb9 := below_then HB h9
  clear h9 f10 f11 f12 f20 f21 f22 HB L HT
  rw [HR.out]
  go_wp2
  go_ret2
  exact ⟨rfl, hb9⟩
set_option maxHeartbeats 4000000 in
theorem dcmp_pos (n2 : Bool) (a1 a2 : Option Addr) (c1 c2 : Nat) (z1 z2 : List Int) (e1 e2 : Int) (w : World) {u v : Int} (h1 : Lie w a1 z1) (h2 : Lie w a2 z2) (N1 : DN false z1 e1 u) (N2 : DN n2 z2 e2 v) (hT : Tab w) (hc : sgn (sgn u 0) (sgn v 0) = 0) :
    Calls Tryd.prog 34 #[dV false a1 z1.length c1 e1, dV n2 a2 z2.length c2 e2] w fun e w' => e = .returned (.tuple #[.int .i64 (sgn u v), .int .i64 0]) ∧ Below w.heap.size w w' := by
  have u1 := N1.dg.lie h1
  have u2 := N2.dg.lie h2
  have hq : (dmayB false z1 e1 && dmayB n2 z2 e2) = true := by rw [N1.dg.may, N2.dg.may]; rfl
  have HC := Hide.mk hc
  obtain ⟨hr, hz⟩ := (cmp_signs N1 N2).2.2 hc rfl
  have HZ := Hide.mk hz
  have HR := Hide.mk hr
  clear hr hz
  clear hc
  obtain ⟨d1, d2, hs2⟩ := dcell2 w #[.bool false, .slice a1 z1.length c1, .int .i64 e1] #[.bool n2, .slice a2 z2.length c2, .int .i64 e2] rfl rfl
  have hb2 := below2 w (.cells #[.bool false, .slice a1 z1.length c1, .int .i64 e1] 36) (.cells #[.bool n2, .slice a2 z2.length c2, .int .i64 e2] 36)
  go_enter Tryd.func34, Tryd.ntmps34
  go_wp2_with fail
  generalize hw2 : (w.alloc (.cells #[.bool false, .slice a1 z1.length c1, .int .i64 e1] 36)).alloc (.cells #[.bool n2, .slice a2 z2.length c2, .int .i64 e2] 36) = w2 at *
  clear hw2
  obtain ⟨k0, k1, k2, k3, k4, k5⟩ := six w2 (w.heap.size + 1 + 1) (by omega) (.bool false) (.slice a1 z1.length c1) (.int .i64 e1) (.bool n2) (.slice a2 z2.length c2) (.int .i64 e2)
  have hb4 := below_alloc w2 (.cells #[.bool false, .slice a1 z1.length c1, .int .i64 e1, .bool n2, .slice a2 z2.length c2, .int .i64 e2] 36)
  refine (dallMay2 (w.heap.size + 1 + 1) false a1 c1 z1 e1 n2 a2 c2 z2 e2 _ ((u1.below hb2).below hb4) ((u2.below hb2).below hb4) _ _ rfl rfl k0 k1 k2 k3 k4 k5).mono ?_
  rintro e w5 ⟨rfl, h5⟩
  clear k0 k1 k2 k3 k4 k5
  rw [hq]
  have hb5 := below_then hb4 h5
  clear hb4 h5
  have HB : Below w.heap.size w w5 := below_then hb2 hb5
  replace d1 := d1.below hb5 (by omega)
  replace d2 := d2.below hb5 (by omega)
  have hsz : w.heap.size + 2 ≤ w5.heap.size := by have := hb5.size; omega
  clear u1 u2 hq hb2 hb5 hs2
  have L : Live w5.drew [(a1, z1), (a2, z2)] := ⟨by simp [h1.below HB.drew (Nat.le_refl _), h2.below HB.drew (Nat.le_refl _)]⟩
  have HT := Hide.mk (hT.below HB.drew (Nat.le_refl _))
  replace HB : Below w.heap.size w w5.drew := HB.drew
  have HI : Below (w.heap.size + 2) w5 w5.drew := (Below.refl _ _).drew
  replace hsz : w.heap.size + 2 ≤ w5.drew.heap.size := hsz
  clear h1 h2 hT
  go_wp2_with fail
  refine Drawn.enter (fun W => Below (w.heap.size + 2) w5 W) (by kernel_rfl) ?_
  refine Drawn.take (i := 0) (v := dV false a1 z1.length c1 e1) rfl (by kernel_rfl) (by kernel_rfl) (by kernel_rfl) (fun _ _ _ h => h) rfl (fun W hW => ?_) HI ?_
  · have hc0 := below_cell2 hW (by simp) d1.c0
    have hc1 := below_cell2 hW (by simp) d1.c1
    have hc2 := below_cell2 hW (by simp) d1.c2
    go_simp
  refine Drawn.take (i := 2) (v := dV n2 a2 z2.length c2 e2) rfl (by kernel_rfl) (by kernel_rfl) (by kernel_rfl) (fun _ _ _ h => h) rfl (fun W hW => ?_) HI ?_
  · have hc0 := below_cell2 hW (by simp) d2.c0
    have hc1 := below_cell2 hW (by simp) d2.c1
    have hc2 := below_cell2 hW (by simp) d2.c2
    go_simp
  refine Drawn.one (j := 1) (by kernel_rfl) rfl (fun K hK => ?_)
  go_simp
  refine (dsign49 false a1 c1 z1 e1 u _ (L.all (a1, z1) (by simp)) N1 _ rfl).mono ?_
  rintro e w6 ⟨rfl, h6⟩
  have HIh6 := HI.trans (h6.mono hsz)
  replace HI := HIh6
  replace L := L.keep h6
  replace HT := Hide.mk (HT.out.below h6 (Nat.le_refl _))
  replace HB := below_then HB h6
  replace hsz := Nat.le_trans hsz h6.size
  clear h6 HIh6
  refine hK _ _ HI ?_
  clear hK K
  refine Drawn.one (j := 3) (by kernel_rfl) rfl (fun K hK => ?_)
  go_simp
  refine (dsign49 n2 a2 c2 z2 e2 v _ (L.all (a2, z2) (by simp)) N2 _ rfl).mono ?_
  rintro e w7 ⟨rfl, h7⟩
  have HIh7 := HI.trans (h7.mono hsz)
  replace HI := HIh7
  replace L := L.keep h7
  replace HT := Hide.mk (HT.out.below h7 (Nat.le_refl _))
  replace HB := below_then HB h7
  replace hsz := Nat.le_trans hsz h7.size
  clear h7 HIh7
  refine hK _ _ HI ?_
  clear hK K
  refine Drawn.one (j := 4) (by kernel_rfl) rfl (fun K hK => ?_)
  go_simp
  refine (cmp51 (sgn u 0) (sgn v 0) _).mono ?_
  rintro e w' ⟨rfl, rfl⟩
  refine hK _ _ HI ?_
  clear hK K
  refine Drawn.take (i := 5) (v := .int .i64 (sgn (sgn u 0) (sgn v 0))) rfl (by kernel_rfl) (by kernel_rfl) (by kernel_rfl) (fun _ _ _ h => h) rfl (fun W hW => ?_) HI ?_
  · go_simp
  refine Drawn.done (by kernel_rfl) ?_
  rw [HC.out]
  have f10 := below_cell2 HI (by simp) d1.c0
  have f11 := below_cell2 HI (by simp) d1.c1
  have f12 := below_cell2 HI (by simp) d1.c2
  have f20 := below_cell2 HI (by simp) d2.c0
  have f21 := below_cell2 HI (by simp) d2.c1
  have f22 := below_cell2 HI (by simp) d2.c2
  go_wp2_with fail
  refine (sizes102 false n2 a1 a2 c1 c2 z1 z2 e1 e2 _ (L.all (a1, z1) (by simp)) (L.all (a2, z2) (by simp)) N1.dg N2.dg HT.out HZ.out).mono ?_
  rintro e w9 ⟨rfl, h9⟩
  have hb9 := below_then HB h9
  clear h9 f10 f11 f12 f20 f21 f22 HB L HT
  rw [HR.out]
  go_wp2
  go_ret2
  exact ⟨rfl, hb9⟩
theorem dcmp55 (n1 n2 : Bool) (a1 a2 : Option Addr) (c1 c2 : Nat) (z1 z2 : List Int) (e1 e2 : Int) (w : World) {u v : Int} (h1 : Lie w a1 z1) (h2 : Lie w a2 z2) (N1 : DN n1 z1 e1 u) (N2 : DN n2 z2 e2 v) (hT : Tab w) (s : Int) (hs : sgn u v = s) :
    Calls Tryd.prog 34 #[dV n1 a1 z1.length c1 e1, dV n2 a2 z2.length c2 e2] w fun e w' => e = .returned (.tuple #[.int .i64 s, .int .i64 0]) ∧ Below w.heap.size w w' := by
  subst hs
  by_cases hc : sgn (sgn u 0) (sgn v 0) = 0
  · cases n1
    · exact dcmp_pos n2 a1 a2 c1 c2 z1 z2 e1 e2 w h1 h2 N1 N2 hT hc
    · exact dcmp_neg n2 a1 a2 c1 c2 z1 z2 e1 e2 w h1 h2 N1 N2 hT hc
  · exact dcmp_ne n1 n2 a1 a2 c1 c2 z1 z2 e1 e2 w h1 h2 N1 N2 hT hc
end Go.Proofs.YtiamdmfhkhlppaaDoor
