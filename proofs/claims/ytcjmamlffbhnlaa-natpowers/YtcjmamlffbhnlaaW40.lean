import Derived.Test.YtcjmamlffbhnlaaW39
namespace Go.Proofs.Ytcjmamlffbhnlaa
open Go.RowKit
set_option linter.unusedVariables false
set_option maxHeartbeats 1000000 in
theorem refLen_nil (a : Option Addr) (ca : Nat) (w : World) : Calls Try.prog 45 #[.slice a 0 ca] w fun e w' => e = .returned (.int .i64 0) ∧ w = w' := by
  go_enter Try.func45, Try.ntmps45
  go_wp2
  go_ret
  exact ⟨rfl, rfl⟩
set_option maxHeartbeats 1000000 in
theorem refDown_nil (a : Option Addr) (ca : Nat) (w : World) (n : Int) (hn : 0 ≤ n) : Calls Try.prog 46 #[.slice a 0 ca, .int .i64 n] w fun e w' => e = .returned (.tuple #[.slice none 0 0, .bool false]) ∧ w = w' := by
  go_enter Try.func46, Try.ntmps46
  go_wp2_with fail
  refine (refLen_nil a ca w).mono ?_
  rintro e w' ⟨rfl, rfl⟩
  go_wp2
  go_ret2
  exact ⟨rfl, rfl⟩

set_option maxHeartbeats 2000000 in
theorem refQuo_nil (a b : Option Addr) (ca cb : Nat) (zb : List Int) (w : World) (hb : Lie w b zb) (qb : Nt.Can zb) (hz : 2 ≤ zb.length) (hmb : zb.length ≤ 5000) :
    Calls Try.prog 29 #[.slice a 0 ca, .slice b zb.length cb] w fun e w' => Divs w w' [] zb two e := by
  obtain ⟨i0, hi, hz0, hz1, hz2⟩ := info_parts Try.info49
  have hne : ((zb.length : Int) == 1) = false := beq_eq_false_iff_ne.2 (by omega)
  have C2 := fun W (h : Below w.heap.size w W) => Hide.mk (refLen45 b cb zb W (hb.below h (Nat.le_refl _)) qb (by omega) (by omega))
  have VB : Hide (0 < Nt.val zb) := ⟨by have h1 := can_ge qb (by omega); have h2 := Nt.pw_pos (zb.length - 1); omega⟩
  clear hb qb
  go_enter Try.func29, Try.ntmps29
  go_wp2_with (at_make; refine wpList_make_full _ rfl _ _ 22 rfl w.heap.size 49 i0 (.int .u32 0) 1 Try.underlying22 hi hz0 hz1 .i64 .i64 _ _ 0 rfl rfl (by omega) (by omega) (by rw [hz2]; omega) (by unfold maxLen; omega) (Nat.le_refl _) ?_; intro w1 hown hgrow; have hblk1 := Hide.mk (blk_made hown); have hbel1 := below_of_grown hgrow; clear hown hgrow)
  clear hi hz0 hz1 hz2 i0
  refine (refLen_nil a ca w1).mono ?_
  rintro e w' ⟨rfl, rfl⟩
  go_wp2_with fail
  refine (C2 w1 hbel1).out.mono ?_
  rintro e w' ⟨rfl, B, rfl, hB, hB1, hB2⟩
  have hmax : max 0 (0 - (B : Int) + 1) = 0 := by omega
  have hmax2 : max 0 (-(B : Int) + 1) = 0 := by omega
  clear hB C2
  go_wp2_with fail
  refine (refDown_nil a ca w1 0 (by decide)).mono ?_
  rintro e w' ⟨rfl, rfl⟩
  go_wp2
  refine wp_loop_rounds 1 ?_
  rw [rounds_succ]
  go_wp2_with fail
  refine (trim36 (some ⟨w.heap.size, 0, none⟩) 0 [] w1 (.inl rfl) (by simp) (by unfold maxLen; omega)).mono ?_
  rintro e w' ⟨rfl, n, hn, rfl, _, _⟩
  have hn0 : n = 0 := by simpa using hn
  subst hn0
  have HG : Hide (Divs w w1 [] zb two (.returned (two (.slice (some ⟨w.heap.size, 0, none⟩) 0 0) (.slice none 0 0)))) := ⟨by
    have ho := hblk1.out.own (B := w.heap.size) (n := 0) (Nat.le_refl _) (by simp) (by unfold maxLen; simp)
    exact ⟨[], [], some ⟨w.heap.size, 0, none⟩, 0, none, 0, rfl, by simpa using ho, Own.nil _ _, Nt.can_nil, Nt.can_nil, by rw [Nt.val_nil]; simp, by rw [Nt.val_nil]; exact VB.out, hbel1⟩⟩
  go_wp2
  go_ret2
  exact HG.out

set_option maxHeartbeats 2000000 in
theorem refQuo_one (a : Option Addr) (ca cb bb bo : Nat) (za : List Int) (d : Int) (w : World) (ha : Lie w a za) (hb : Lie w (some ⟨bb, bo, none⟩) [d]) (ra : Nt.Rng za) (qb : Nt.Can [d]) (hm : za.length ≤ 100000) :
    Calls Try.prog 29 #[.slice a za.length ca, .slice (some ⟨bb, bo, none⟩) 1 cb] w fun e w' => Divs w w' za [d] two e := by
  have hd0 : d ≠ 0 := by have := qb.2 (by simp); simpa using this
  have hdr := qb.1 0
  simp only [List.getD_cons_zero] at hdr
  have hc : w.cell? ⟨bb, bo, none⟩ = some (.int .u32 d) := lie_cell hb rfl (i := 0) (by simp)
  have C1 := Hide.mk (byDigit44 a ca za d w ha ra hm (by omega) hdr.2)
  clear ha hb ra qb
  go_enter Try.func29, Try.ntmps29
  go_wp2_with fail
  refine C1.out.mono ?_
  rintro e w2 ⟨zq, zr, aq, cq, ar, cr, rfl, h1, h2, h3, h4, h5, h6, h7⟩
  have HF : Hide (Divs w w2 za [d] two (.returned (two (.slice aq zq.length cq) (.slice ar zr.length cr)))) := ⟨⟨zq, zr, aq, cq, ar, cr, rfl, h1, h2, h3, h4, by rw [val_one]; exact h5, by rw [val_one]; exact h6, h7⟩⟩
  clear h1 h2 h3 h4 h5 h6 h7 C1
  unfold two
  go_wp2
  go_ret2
  exact HF.out
theorem refQuo_any (a b : Option Addr) (ca cb : Nat) (za zb : List Int) (w : World) (ha : Lie w a za) (hb : Lie w b zb) (qa : Nt.Can za) (qb : Nt.Can zb) (hz : 0 < zb.length) (hm : za.length ≤ 5000) (hmb : zb.length ≤ 5000) :
    Calls Try.prog 29 #[.slice a za.length ca, .slice b zb.length cb] w fun e w' => Divs w w' za zb two e := by
  match zb, hz with
  | [d], _ =>
    obtain ⟨bb, bo, rfl⟩ := lie_some hb (by simp)
    exact refQuo_one a ca cb bb bo za d w ha hb qa.1 qb (by omega)
  | d :: e :: r, _ =>
    by_cases h : za.length = 0
    · have : za = [] := List.length_eq_zero_iff.1 h
      subst this
      exact refQuo_nil a b ca cb _ w hb qb (by simp) hmb
    · exact refQuo29_long a b ca cb za (d :: e :: r) w ha hb qa qb (by simp) (by omega) hm hmb
theorem mul_long (a b : Option Addr) (ca cb : Nat) (za zb : List Int) (w : World) {x y : Int} (ha : Lie w a za) (hb : Lie w b zb) (ga : Good za x) (gb : Good zb y) (hf : 4294967296 ^ 4096 ≤ x * y) :
    Calls Try.prog 26 #[.slice a za.length ca, .slice b zb.length cb] w fun e w' => e = .returned (.tuple #[.slice none 0 0, .int .i64 3]) ∧ Below w.heap.size w w' := by
  refine (mul26 a b ca cb za zb w ha hb ga.can.1 gb.can.1 ga.may gb.may).mono ?_
  rintro e w' ⟨zs, h1, h2, h3, h4⟩
  rcases h4 with ⟨h5, _⟩ | ⟨_, h5⟩
  · exact absurd ((Nt.can_len h1 4096).2 h5) (by rw [h2, ga.val, gb.val]; exact Int.not_lt.2 hf)
  · exact ⟨h5, h3⟩
theorem own_kept_aft {B1 B2 : Nat} {w1 w w' : World} {v1 v2 : Value} {z1 z2 : List Int} (h1 : Own B1 w1 v1 z1) (h2 : Own B2 w v2 z2) (hB : w1.heap.size ≤ B2) (hg : w.grownBy w' v1.ownBlock) : Own B2 w' v2 z2 := by
  refine World.ownsRow.kept h2 hg ?_
  cases e : v2.ownBlock with
  | none => exact .inl rfl
  | some k =>
    refine .inr ?_
    intro e1
    have := (h1.lt k e1.symm).2
    have := (h2.lt k e).1
    omega
theorem same_true (a b : Option Addr) (ca cb : Nat) (za zb : List Int) (w : World) (ha : Lie w a za) (hb : Lie w b zb) (hl : za.length ≤ 1000000) (he : za = zb) :
    Calls Try.prog 15 #[.slice a za.length ca, .slice b zb.length cb] w fun e w' => e = .returned (.bool true) ∧ Below w.heap.size w w' := by
  refine (same15 a b ca cb za zb w ha hb (by unfold maxLen; omega)).mono ?_
  rintro e w' ⟨rfl, h⟩
  exact ⟨by simp [he], h⟩
theorem rmay_true (a : Option Addr) (cap : Nat) (zs : List Int) (w : World) (hl : Lie w a zs) (hm : zs.length ≤ maxLen) (h : mayB zs = true) :
    Calls Try.prog 14 #[.slice a zs.length cap] w fun e w' => e = .returned (.bool true) ∧ w = w' := by
  rw [← h]; exact refMay14 a cap zs w hl hm
theorem rmay_false (a : Option Addr) (cap : Nat) (zs : List Int) (w : World) (hl : Lie w a zs) (hm : zs.length ≤ maxLen) (h : mayB zs = false) :
    Calls Try.prog 14 #[.slice a zs.length cap] w fun e w' => e = .returned (.bool false) ∧ w = w' := by
  rw [← h]; exact refMay14 a cap zs w hl hm
/-- Two divisions of one number by one tell the same. -/
theorem div_same {x b q r q' r' : Int} (h : x = q * b + r) (h' : x = q' * b + r') (r0 : 0 ≤ r) (r1 : r < b) (s0 : 0 ≤ r') (s1 : r' < b) : q = q' ∧ r = r' := by
  have hq : q = q' := by
    rcases Int.lt_trichotomy q q' with c | c | c
    · have : (q + 1) * b ≤ q' * b := Int.mul_le_mul_of_nonneg_right (by omega) (by omega)
      rw [Int.add_mul] at this
      omega
    · exact c
    · have : (q' + 1) * b ≤ q * b := Int.mul_le_mul_of_nonneg_right (by omega) (by omega)
      rw [Int.add_mul] at this
      omega
  subst hq
  exact ⟨rfl, by omega⟩
end Go.Proofs.Ytcjmamlffbhnlaa
