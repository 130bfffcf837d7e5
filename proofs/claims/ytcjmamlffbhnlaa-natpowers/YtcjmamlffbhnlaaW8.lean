import Derived.Test.YtcjmamlffbhnlaaW7
namespace Go.Proofs.Ytcjmamlffbhnlaa
open Go.RowKit
set_option linter.unusedVariables false
/-- After i rounds of product. -/
structure ProdInv (za zb s : List Int) (i : Nat) : Prop where
  len : s.length = za.length + zb.length
  rng : Nt.Rng s
  eq : Nt.vp s (i + zb.length) = Nt.vp za i * Nt.val zb
  rest : ∀ j, i + zb.length ≤ j → s.getD j 0 = 0
theorem getD_rep (n j : Nat) : (List.replicate n (0 : Int)).getD j 0 = 0 := by
  simp only [List.getD_eq_getElem?_getD, List.getElem?_replicate]; split <;> rfl
theorem vp_rep (n k : Nat) : Nt.vp (List.replicate n (0 : Int)) k = 0 := by
  induction k with
  | zero => rfl
  | succ k ih => rw [Nt.vp_step, ih, getD_rep]; omega
theorem ProdInv.start {za zb : List Int} : ProdInv za zb (List.replicate (za.length + zb.length) 0) 0 :=
  ⟨by simp, fun k => by rw [getD_rep]; decide, by rw [vp_rep]; simp [Nt.vp], fun j _ => getD_rep _ _⟩
theorem ProdInv.step {za zb s s' : List Int} {i : Nat} {c d : Int} (h : ProdInv za zb s i) (hi : i < za.length) (hd : d = za.getD i 0) (ht : TimesInv s zb i d s' zb.length c) (hc : 0 ≤ c) (hc' : c < 4294967296) :
    ProdInv za zb (s'.set (i + zb.length) c) (i + 1) := by
  have hl : i + zb.length < s'.length := by rw [ht.len, h.len]; omega
  refine ⟨by rw [List.length_set, ht.len]; exact h.len, Nt.rng_set ht.rng hc hc', ?_, fun j hj => ?_⟩
  · have e1 : i + 1 + zb.length = (i + zb.length) + 1 := by omega
    have he := ht.eq
    rw [h.eq] at he
    have ev : Nt.vp zb zb.length = Nt.val zb := rfl
    rw [ev] at he
    rw [e1, Nt.vp_step, Nt.vp_step, Nt.vp_set (Nat.le_refl _), Nt.getD_set_self hl, ← hd]
    rw [Nt.pw_add] at *
    generalize (4294967296 : Int) ^ i = P at *
    generalize (4294967296 : Int) ^ zb.length = K at *
    grind
  · rw [Nt.getD_set_ne (by omega), ht.rest j (by omega)]; exact h.rest j (by omega)
theorem ProdInv.done {za zb s : List Int} (h : ProdInv za zb s za.length) : Nt.val s = Nt.val za * Nt.val zb := by
  have := h.eq
  unfold Nt.val at *
  rw [h.len]; exact this

theorem Lie.lt {w : World} {a : Option Addr} {zs : List Int} (h : Lie w a zs) (hp : 0 < zs.length) : ∀ x, a = some x → x.block < w.heap.size := by
  intro x hx
  rcases h with rfl | ⟨b, o, rfl, hc⟩
  · simp at hp
  · cases hx
    exact World.block_lt_of_cell? w _ (hc 0 hp)

set_option maxHeartbeats 1000000 in
theorem product42 (a b : Option Addr) (ca cb : Nat) (za zb : List Int) (w : World) (ha : Lie w a za) (hb : Lie w b zb) (ra : Nt.Rng za) (rb : Nt.Rng zb) (hn : za.length ≤ 100000) (hm : zb.length ≤ 100000) :
    Calls Try.prog 42 #[.slice a za.length ca, .slice b zb.length cb] w fun e w' => ∃ v zs, e = .returned v ∧ Own w.heap.size w' v zs ∧ Nt.Can zs ∧ Nt.val zs = Nt.val za * Nt.val zb ∧ Below w.heap.size w w' := by
  obtain ⟨i0, hi, hz0, hz1, hz2⟩ := info_parts Try.info49
  have RB := Hide.mk rb
  have RA := Hide.mk ra
  have HA := Hide.mk ha
  have HB := Hide.mk hb
  clear ra rb ha hb
  go_enter Try.func42, Try.ntmps42
  go_wp2_with (at_make; refine wpList_make_full _ rfl _ _ 22 rfl w.heap.size 49 i0 (.int .u32 0) 1 Try.underlying22 hi hz0 hz1 .i64 .i64 _ _ (za.length + zb.length) rfl rfl (by omega) (by omega) (by rw [hz2]; omega) (by unfold maxLen; omega) (Nat.le_refl _) ?_; intro w1 hown hgrow; have hblk1 := Hide.mk (blk_made hown); have hbel1 := below_of_grown hgrow; clear hown hgrow)
  clear hi hz0 hz1 hz2 i0
  go_loopw [16] (fun i wr => ∃ (k : Nat) (s : List Int), k ≤ za.length ∧ i = .int .i64 k ∧ Blk wr w.heap.size s ∧ ProdInv za zb s k ∧ Below w.heap.size w wr) (fun i _ => za.length - (intOf i).toNat)
  case atStart => exact ⟨0, _, Nat.zero_le _, rfl, hblk1.out, ProdInv.start, hbel1⟩
  case round =>
    obtain ⟨k, s, hk, rfl, hblk, hinv, hbel⟩ := hrel
    clear hblk1 hbel1
    have HI := Hide.mk hinv
    have HK := Hide.mk hblk
    clear hinv hblk
    by_cases hlt : k < za.length
    · rcases HA.out with rfl | ⟨ba, oa, rfl, hac⟩
      · simp at hlt
      · have hca : wr.cell? ⟨ba, oa + k, none⟩ = some (.int .u32 (za.getD k 0)) := by
          have := hac k hlt
          rw [hbel.cell (World.block_lt_of_cell? w _ this)]; exact this
        have hra := RA.out k
        clear hac
        generalize hx : za.getD k 0 = x at *
        have HX := Hide.mk hx.symm
        clear hx
        have ht := Hide.mk (times55 w.heap.size k (za.length + zb.length - k) b cb s zb x wr HK.out (by rw [HI.out.len]; omega) (by omega) (by rw [HI.out.len]; omega) (by omega) (HB.out.below hbel (Nat.le_refl _)) (fun hp y hy => Nat.ne_of_lt (HB.out.lt hp y hy)) HI.out.rng RB.out hra.1 hra.2)
        go_wp2_with fail
        refine ht.out.mono ?_
        rintro e w2 ⟨s2, c, rfl, hc0, hc1, hblk2, hti, hgr⟩
        have hstep := Hide.mk (HI.out.step hlt HX.out hti hc0 hc1)
        have hcell := hblk2.cell (j := k + zb.length) (by rw [hti.len, HI.out.len]; omega)
        have hfr := hblk2.frozen (k + zb.length)
        have hset := Hide.mk (hblk2.set (k + zb.length) c)
        have hbel2 := hbel.grown hgr (by have := hbel.size; omega) (fun j hj => by simp at hj; omega)
        clear hti hgr hblk2 ht hbel
        go_wp2
        go_roundw
        case rel => exact ⟨k + 1, _, hlt, by go_num, hset.out, hstep.out, hbel2.setCell (Nat.le_refl _) _⟩
        case measure => simp [intOf]; omega
    · have hdone : Hide (Nt.val s = Nt.val za * Nt.val zb) := ⟨by
        have hkk : k = za.length := by omega
        have := HI.out
        rw [hkk] at this
        exact this.done⟩
      have hl := HK.out.lie (n := 0)
      have hcan := fun n hn hd => Hide.mk (Nt.can_take HI.out.rng (n := n) hn hd)
      have hval := fun n h hn => Hide.mk ((Nt.val_take (s := s) (n := n) h hn).trans hdone.out)
      have hlen := Hide.mk HI.out.len
      have hown := fun n hn hm => Hide.mk (HK.out.own (B := w.heap.size) (n := n) (Nat.le_refl _) hn hm)
      have ht := Hide.mk (fun hc hm => trim35 _ s.length s _ hl hc hm)
      rw [hlen.out] at ht hown
      clear hl
      go_wp2_with fail
      refine (ht.out (Nat.le_refl _) (by unfold maxLen; omega)).mono ?_
      rintro e w' ⟨rfl, n, hn, rfl, hz, hd⟩
      go_wp2
      go_ret
      exact ⟨_, _, rfl, (hown n hn (by unfold maxLen; omega)).out, (hcan n (by rw [hlen.out]; exact hn) hd).out, (hval n hz (by rw [hlen.out]; exact hn)).out, hbel⟩
end Go.Proofs.Ytcjmamlffbhnlaa
