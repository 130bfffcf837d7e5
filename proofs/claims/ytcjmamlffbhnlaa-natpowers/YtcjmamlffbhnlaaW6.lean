import Derived.Test.YtcjmamlffbhnlaaW5
namespace Go.Proofs.Ytcjmamlffbhnlaa
open Go.RowKit
set_option linter.unusedVariables false
/-- After k rounds: digits s, borrowed c. -/
structure DifInv (za zb s : List Int) (k : Nat) (c : Int) : Prop where
  len : s.length = za.length
  rng : Nt.Rng s
  eq : Nt.vp s k - c * 4294967296 ^ k = Nt.vp za k - Nt.vp zb k
  rest : ∀ j, k ≤ j → s.getD j 0 = za.getD j 0

theorem DifInv.start {za zb : List Int} (h : Nt.Rng za) : DifInv za zb (za ++ List.replicate 0 0) 0 0 :=
  ⟨by simp, rng_app 0 h, by simp [Nt.vp], fun j _ => getD_app j 0⟩
theorem bor_eq {y x c : Int} (hy : 0 ≤ y) (hy' : y < 4294967296) (hx : 0 ≤ x) (hx' : x < 4294967296) (hc : 0 ≤ c) (hc' : c ≤ 1) : (y - x - c) % 4294967296 - bor y (x + c) * 4294967296 = y - x - c := by
  unfold bor; split <;> omega
theorem DifInv.step {za zb s : List Int} {k : Nat} {c x : Int} (h : DifInv za zb s k c) (hk : k < s.length) (hx : x = zb.getD k 0) (hx0 : 0 ≤ x) (hx1 : x < 4294967296) (hc : 0 ≤ c) (hc' : c ≤ 1) :
    DifInv za zb (s.set k ((s.getD k 0 - x - c) % 4294967296)) (k + 1) (bor (s.getD k 0) (x + c)) := by
  refine ⟨by rw [List.length_set]; exact h.len, Nt.rng_set h.rng (by omega) (by omega), ?_, fun j hj => ?_⟩
  · exact Nt.dif_step hk h.eq (h.rest k (Nat.le_refl _)) hx (bor_eq (h.rng k).1 (h.rng k).2 hx0 hx1 hc hc')
  · rw [Nt.getD_set_ne (by omega)]; exact h.rest j (by omega)
theorem DifInv.done {za zb s : List Int} {k : Nat} (h : DifInv za zb s k 0) (hk : zb.length ≤ k) (hl : zb.length ≤ za.length) : Nt.val s = Nt.val za - Nt.val zb := by
  have e : ∀ m, k ≤ m → Nt.vp s m = Nt.vp za m - Nt.vp zb m := by
    intro m hm
    induction m with
    | zero =>
      have : k = 0 := by omega
      subst this
      have := h.eq
      omega
    | succ m ih =>
      by_cases e : k = m + 1
      · subst e; have := h.eq; omega
      · rw [Nt.vp_step, Nt.vp_step, Nt.vp_step, ih (by omega), h.rest m (by omega)]
        have : zb.getD m 0 = 0 := by simp [List.getD_eq_getElem?_getD, List.getElem?_eq_none (show zb.length ≤ m by omega)]
        rw [this]; omega
  have hl := h.len
  rw [Nt.val_vp (s := s) (k := s.length + k) (by omega), Nt.val_vp (s := za) (k := s.length + k) (by omega), Nt.val_vp (s := zb) (k := s.length + k) (by omega)]
  exact e _ (by omega)
theorem DifInv.top {za zb s : List Int} {c : Int} {k : Nat} (h : DifInv za zb s k c) (hk : k = za.length) (hl : zb.length ≤ za.length) (hv : Nt.val zb ≤ Nt.val za) (hc : 0 ≤ c) (hc' : c ≤ 1) : c = 0 := by
  subst hk
  have h1 := h.eq
  have h2 := (Nt.vp_bd h.rng za.length).2
  have h3 : Nt.vp za za.length = Nt.val za := rfl
  have h4 : Nt.vp zb za.length = Nt.val zb := (Nt.val_vp hl).symm
  by_cases e : c = 0
  · exact e
  · have : c = 1 := by omega
    subst this
    omega

set_option maxHeartbeats 1000000 in
theorem dif41 (a b : Option Addr) (ca cb : Nat) (za zb : List Int) (w : World) (ha : Lie w a za) (hb : Lie w b zb) (ra : Nt.Rng za) (rb : Nt.Rng zb) (hn : zb.length ≤ za.length) (hv : Nt.val zb ≤ Nt.val za) (hm : za.length ≤ 1000000) :
    Calls Try.prog 41 #[.slice a za.length ca, .slice b zb.length cb] w fun e w' => ∃ v zs, e = .returned v ∧ Own w.heap.size w' v zs ∧ Nt.Can zs ∧ Nt.val zs = Nt.val za - Nt.val zb ∧ Below w.heap.size w w' := by
  obtain ⟨i0, hi, hz0, hz1, hz2⟩ := info_parts Try.info49
  have hcs : Hide ((za.map (Value.int .u32)).length = Nat.min za.length za.length) := ⟨by simp⟩
  have hfit : Hide (0 + (za.map (Value.int .u32)).length ≤ ((List.replicate (za.length + 0) (0 : Int)).map (Value.int .u32)).length) := ⟨by simp⟩
  have RB := Hide.mk rb
  have RA := Hide.mk ra
  have HV := Hide.mk hv
  clear ra rb hv
  have HB := Hide.mk hb
  go_enter Try.func41, Try.ntmps41
  go_wp2_with (first
    | (at_make; refine wpList_make_full _ rfl _ _ 22 rfl w.heap.size 49 i0 (.int .u32 0) 1 Try.underlying22 hi hz0 hz1 .i64 .i64 _ _ za.length rfl rfl (by omega) (by omega) (by rw [hz2]; omega) (by unfold maxLen; omega) (Nat.le_refl _) ?_; intro w1 hown hgrow; have hblk1 := Hide.mk (blk_made hown); have hbel1 := below_of_grown hgrow; clear hown hgrow)
    | ((with_reducible apply at_copy); refine wpList_copy_splice rfl (.tmp 13) (.tmp 14) 22 22 rfl 49 Try.underlying22 Try.size49 (some ⟨w.heap.size, 0, none⟩) a za.length za.length za.length ca rfl rfl w.heap.size 0 ((List.replicate (za.length + 0) 0).map (Value.int .u32)) 49 hblk1.out (za.map (Value.int .u32)) hcs.out (fun hp => ⟨rfl, (ha.below hbel1 (Nat.le_refl _)).src (by simpa using hp)⟩) hfit.out (oneCell_ints za) w.heap.size w hbel1 (Nat.le_refl _) ?_; intro w2 hblk2 hbel2))
  have hblk3 := splice_blk (n := 0) hblk2.out
  clear hblk1 hblk2 hbel1 hcs hfit ha hi hz0 hz1 hz2 i0
  go_loopw [6, 18] (fun c i wr => ∃ (k : Nat) (s : List Int) (cc : Int), k ≤ zb.length ∧ i = .int .i64 k ∧ c = .int .u32 cc ∧ 0 ≤ cc ∧ cc ≤ 1 ∧ Blk wr w.heap.size s ∧ DifInv za zb s k cc ∧ Below w.heap.size w wr) (fun _ i _ => zb.length - (intOf i).toNat)
  case atStart => exact ⟨0, _, 0, Nat.zero_le _, rfl, rfl, by decide, by decide, hblk3, DifInv.start RA.out, hbel2⟩
  case round =>
    obtain ⟨k, s, cc, hk, rfl, rfl, hc0, hc1, hblk, hinv, hbel⟩ := hrel
    clear hblk3 hbel2
    by_cases hlt : k < zb.length
    · have hks : k < s.length := by rw [hinv.len]; omega
      have hcs := hblk.cell hks
      have hfs := hblk.frozen k
      have hstep := fun x => Hide.mk (fun h1 h2 h3 => hinv.step (x := x) hks h1 h2 h3 hc0 hc1)
      have hset := fun x => Hide.mk (hblk.set k x)
      have hrs := hinv.rng k
      have hrb := RB.out k
      clear hinv hblk
      rcases HB.out with rfl | ⟨bb, bo, rfl, hbc⟩
      · simp at hlt
      · have hcb : wr.cell? ⟨bb, bo + k, none⟩ = some (.int .u32 (zb.getD k 0)) := by
          have := hbc k hlt
          rw [hbel.cell (World.block_lt_of_cell? w _ this)]; exact this
        clear hbc
        generalize s.getD k 0 = y at *
        generalize zb.getD k 0 = x at *
        go_wp2_with (go_at_call 54; refine (sub32 _ _ _ (by omega) (by omega) (by omega) (by omega) (by omega) (by omega) _).mono ?_; rintro e w' ⟨rfl, rfl⟩)
        go_roundw
        case rel => exact ⟨k + 1, _, _, hlt, by go_num, rfl, (bor_bd _ _).1, (bor_bd _ _).2, (hset _).out, (hstep x).out rfl hrb.1 hrb.2, hbel.setCell (Nat.le_refl _) _⟩
        case measure => simp [intOf]; omega
    · have hinv2 : DifInv za zb s zb.length cc := by
        have hkk : k = zb.length := by omega
        rw [← hkk]; exact hinv
      clear hinv
      go_wp2
      go_loopw [6, 9] (fun c i wr => ∃ (k : Nat) (s : List Int) (cc : Int), zb.length ≤ k ∧ k ≤ za.length ∧ i = .int .i64 k ∧ c = .int .u32 cc ∧ 0 ≤ cc ∧ cc ≤ 1 ∧ (cc ≠ 0 → k < za.length) ∧ Blk wr w.heap.size s ∧ DifInv za zb s k cc ∧ Below w.heap.size w wr) (fun _ i _ => za.length - (intOf i).toNat)
      case atStart => exact ⟨zb.length, s, cc, Nat.le_refl _, by omega, rfl, rfl, hc0, hc1, fun hne => Nat.lt_of_le_of_ne hn (fun e => hne (hinv2.top e hn HV.out hc0 hc1)), hblk, hinv2, hbel⟩
      case round =>
        clear hblk hinv2 hbel hc0 hc1 hlt hk
        obtain ⟨k, s, cc, hk0, hk1, rfl, rfl, hc0, hc1, hne, hblk, hinv, hbel⟩ := hrel
        by_cases hcc : cc = 0
        · subst hcc
          have hl := hblk.lie (n := 0)
          have hcan := fun n hn hd => Hide.mk (Nt.can_take hinv.rng (n := n) hn hd)
          have hval := fun n h hn' => Hide.mk ((Nt.val_take (s := s) (n := n) h hn').trans (hinv.done hk0 hn))
          have hlen := Hide.mk hinv.len
          have hown := fun n hn hm => Hide.mk (hblk.own (B := w.heap.size) (n := n) (Nat.le_refl _) hn hm)
          have ht := Hide.mk (fun hc hm => trim35 _ s.length s _ hl hc hm)
          rw [hlen.out] at ht hown
          clear hl hinv hblk
          go_wp2_with fail
          refine (ht.out (Nat.le_refl _) (by unfold maxLen; omega)).mono ?_
          rintro e w' ⟨rfl, n, hn, rfl, hz, hd⟩
          go_wp2
          go_ret
          exact ⟨_, _, rfl, (hown n hn (by unfold maxLen; omega)).out, (hcan n (by rw [hlen.out]; exact hn) hd).out, (hval n hz (by rw [hlen.out]; exact hn)).out, hbel⟩
        · have hka := hne hcc
          have hks : k < s.length := by rw [hinv.len]; omega
          have hcs := hblk.cell hks
          have hfs := hblk.frozen k
          have hstep := Hide.mk (hinv.step (x := 0) hks (by simp [List.getD_eq_getElem?_getD, List.getElem?_eq_none hk0]) (by decide) (by decide) hc0 hc1)
          have hfin : Hide (bor (s.getD k 0) (0 + cc) ≠ 0 → k + 1 < za.length) := ⟨fun hne => Nat.lt_of_le_of_ne hka (fun e => hne (hstep.out.top e hn HV.out (bor_bd _ _).1 (bor_bd _ _).2))⟩
          have hset := fun x => Hide.mk (hblk.set k x)
          have hrs := hinv.rng k
          have hb0 : (cc != 0) = true := by simp [hcc]
          clear hinv hblk hne
          generalize s.getD k 0 = y at *
          go_wp2_with (go_at_call 54; refine (sub32 _ 0 _ (by omega) (by omega) (by omega) (by omega) (by omega) (by omega) _).mono ?_; rintro e w' ⟨rfl, rfl⟩)
          go_roundw
          case rel => exact ⟨k + 1, _, _, by omega, by omega, by go_num, rfl, (bor_bd _ _).1, (bor_bd _ _).2, (by have := hfin.out; rwa [Int.zero_add] at this), (hset _).out, (by have := hstep.out; rwa [Int.zero_add, Int.sub_zero] at this), hbel.setCell (Nat.le_refl _) _⟩
          case measure => simp [intOf]; omega
end Go.Proofs.Ytcjmamlffbhnlaa
