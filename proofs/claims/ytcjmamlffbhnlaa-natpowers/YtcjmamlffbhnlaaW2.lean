import Derived.Test.YtcjmamlffbhnlaaW1
namespace Go.Proofs.Ytcjmamlffbhnlaa
open Go.RowKit
set_option linter.unusedVariables false
theorem Try.size49 : (Try.prog.info? 49).map (·.size) = some 1 := by kernel_rfl

theorem oneCell_ints (zs : List Int) : ∀ v ∈ zs.map (Value.int .u32), v.oneCell' = true := by
  intro v hv
  obtain ⟨z, _, rfl⟩ := List.mem_map.1 hv
  rfl
theorem Lie.src {w : World} {a : Option Addr} {zs : List Int} (h : Lie w a zs) (hp : 0 < zs.length) : ∃ ad, a = some ad ∧ ∀ j v, (zs.map (Value.int .u32))[j]? = some v → w.cell? (ad.add j) = some v := by
  rcases h with rfl | ⟨b, o, rfl, hc⟩
  · simp at hp
  · refine ⟨_, rfl, fun j v hv => ?_⟩
    have hj : j < zs.length := by
      have := (List.getElem?_eq_some_iff.1 hv).1
      simpa using this
    have e := hc j hj
    have : (⟨b, o, none⟩ : Addr).add j = ⟨b, o + j, none⟩ := by unfold Addr.add; split <;> simp_all
    rw [this, e]
    rw [← hv]
    simp [List.getD_eq_getElem?_getD, hj]
theorem splice_blk {w : World} {g n : Nat} {za : List Int} (h : w.heap[g]? = some (.cells (splice ((List.replicate (za.length + n) (0 : Int)).map (Value.int .u32)) 0 (za.map (Value.int .u32))).toArray 49 (0, 0))) :
    Blk w g (za ++ List.replicate n 0) := by
  unfold Blk
  rw [h]
  have : splice ((List.replicate (za.length + n) (0 : Int)).map (Value.int .u32)) 0 (za.map (Value.int .u32)) = (za ++ List.replicate n 0).map (Value.int .u32) := by
    simp [splice]
  rw [this]

/-- A guard: the next operation is a copy. -/
theorem at_copy {P : Program} {w : World} {ops : Array Oper} {rest : List Oper} {dst : Option Tmp} {A : Array Operand} {T : Array TypeId} {ty : TypeId} {pos : String} {after : Array Edge} {gd : Option (Nat × Bool)} {a : Act} {Q : Exit → Act → World → Prop}
    (h : wpList P ops Q (⟨dst, .call { callee := .builtin .copy, args := A, argTypes := T }, ty, pos, after, gd⟩ :: rest) a w) : wpList P ops Q (⟨dst, .call { callee := .builtin .copy, args := A, argTypes := T }, ty, pos, after, gd⟩ :: rest) a w := h

/-- After k rounds: digits s, carry c. -/
structure SumInv (za zb s : List Int) (k : Nat) (c : Int) : Prop where
  len : s.length = za.length + 1
  rng : Nt.Rng s
  eq : Nt.vp s k + c * 4294967296 ^ k = Nt.vp za k + Nt.vp zb k
  rest : ∀ j, k ≤ j → s.getD j 0 = za.getD j 0

theorem getD_app {za : List Int} (j : Nat) (n : Nat) : (za ++ List.replicate n 0).getD j 0 = za.getD j 0 := by
  simp only [List.getD_eq_getElem?_getD, List.getElem?_append]
  split
  · rfl
  · rename_i h
    rw [List.getElem?_eq_none (l := za) (by omega)]
    simp only [List.getElem?_replicate]
    split <;> rfl
theorem rng_app {za : List Int} (n : Nat) (h : Nt.Rng za) : Nt.Rng (za ++ List.replicate n 0) := fun k => by rw [getD_app]; exact h k

theorem SumInv.start {za zb : List Int} (h : Nt.Rng za) : SumInv za zb (za ++ List.replicate 1 0) 0 0 :=
  ⟨by simp, rng_app 1 h, by simp [Nt.vp], fun j _ => getD_app j 1⟩
theorem SumInv.step {za zb s : List Int} {k : Nat} {c x : Int} (h : SumInv za zb s k c) (hk : k < s.length) (hx : x = zb.getD k 0) :
    SumInv za zb (s.set k ((s.getD k 0 + x + c) % 4294967296)) (k + 1) ((s.getD k 0 + x + c) / 4294967296) := by
  refine ⟨by rw [List.length_set]; exact h.len, Nt.rng_set h.rng (by omega) (by omega), ?_, fun j hj => ?_⟩
  · exact Nt.sum_step hk h.eq (h.rest k (Nat.le_refl _)) hx (by omega)
  · rw [Nt.getD_set_ne (by omega)]; exact h.rest j (by omega)
theorem SumInv.done {za zb s : List Int} {k : Nat} (h : SumInv za zb s k 0) (hk : zb.length ≤ k) : Nt.val s = Nt.val za + Nt.val zb := by
  have e : ∀ m, k ≤ m → Nt.vp s m = Nt.vp za m + Nt.vp zb m := by
    intro m hm
    induction m with
    | zero =>
      have : k = 0 := by omega
      subst this
      have := h.eq
      omega
    | succ m ih =>
      by_cases e : k = m + 1
      · subst e; have := h.eq; omega
      · rw [Nt.vp_step, Nt.vp_step, Nt.vp_step, ih (by omega), h.rest m (by omega)]
        have : zb.getD m 0 = 0 := by simp [List.getD_eq_getElem?_getD, List.getElem?_eq_none (show zb.length ≤ m by omega)]
        rw [this]; omega
  have hl := h.len
  rw [Nt.val_vp (s := s) (k := s.length + k) (by omega), Nt.val_vp (s := za) (k := s.length + k) (by omega), Nt.val_vp (s := zb) (k := s.length + k) (by omega)]
  exact e _ (by omega)
theorem SumInv.top {za zb s : List Int} {c : Int} (h : SumInv za zb s za.length c) : s.getD za.length 0 = 0 := by
  rw [h.rest _ (Nat.le_refl _)]
  simp [List.getD_eq_getElem?_getD]

set_option maxHeartbeats 1000000 in
theorem sum40_ge (a b : Option Addr) (ca cb : Nat) (za zb : List Int) (w : World) (ha : Lie w a za) (hb : Lie w b zb) (ra : Nt.Rng za) (rb : Nt.Rng zb) (hn : zb.length ≤ za.length) (hm : za.length ≤ 1000000) :
    Calls Try.prog 40 #[.slice a za.length ca, .slice b zb.length cb] w fun e w' => ∃ v zs, e = .returned v ∧ Own w.heap.size w' v zs ∧ Nt.Can zs ∧ Nt.val zs = Nt.val za + Nt.val zb ∧ Below w.heap.size w w' := by
  obtain ⟨i0, hi, hz0, hz1, hz2⟩ := info_parts Try.info49
  have hcs : Hide ((za.map (Value.int .u32)).length = Nat.min za.length (za.length + 1)) := ⟨by simp⟩
  have hfit : Hide (0 + (za.map (Value.int .u32)).length ≤ ((List.replicate (za.length + 1) (0 : Int)).map (Value.int .u32)).length) := ⟨by simp⟩
  have RB := Hide.mk rb
  have RA := Hide.mk ra
  clear ra rb
  have HB := Hide.mk hb
  go_enter Try.func40, Try.ntmps40
  go_wp2_with (first
    | (at_make; refine wpList_make_full _ rfl _ _ 22 rfl w.heap.size 49 i0 (.int .u32 0) 1 Try.underlying22 hi hz0 hz1 .i64 .i64 _ _ (za.length + 1) rfl rfl (by omega) (by omega) (by rw [hz2]; omega) (by unfold maxLen; omega) (Nat.le_refl _) ?_; intro w1 hown hgrow; have hblk1 := Hide.mk (blk_made hown); have hbel1 := below_of_grown hgrow; clear hown hgrow)
    | ((with_reducible apply at_copy); refine wpList_copy_splice rfl (.tmp 21) (.tmp 22) 22 22 rfl 49 Try.underlying22 Try.size49 (some ⟨w.heap.size, 0, none⟩) a (za.length + 1) (za.length + 1) za.length ca rfl rfl w.heap.size 0 ((List.replicate (za.length + 1) 0).map (Value.int .u32)) 49 hblk1.out (za.map (Value.int .u32)) hcs.out (fun hp => ⟨rfl, (ha.below hbel1 (Nat.le_refl _)).src (by simpa using hp)⟩) hfit.out (oneCell_ints za) w.heap.size w hbel1 (Nat.le_refl _) ?_; intro w2 hblk2 hbel2))
  have hblk3 := splice_blk hblk2.out
  clear hblk1 hblk2 hbel1 hcs hfit ha hi hz0 hz1 hz2 i0
  go_loopw [6, 26] (fun c i wr => ∃ (k : Nat) (s : List Int) (cc : Int), k ≤ zb.length ∧ i = .int .i64 k ∧ c = .int .u32 cc ∧ 0 ≤ cc ∧ cc ≤ 1 ∧ Blk wr w.heap.size s ∧ SumInv za zb s k cc ∧ Below w.heap.size w wr) (fun _ i _ => zb.length - (intOf i).toNat)
  case atStart => exact ⟨0, _, 0, Nat.zero_le _, rfl, rfl, by decide, by decide, hblk3, SumInv.start RA.out, hbel2⟩
  case round =>
    obtain ⟨k, s, cc, hk, rfl, rfl, hc0, hc1, hblk, hinv, hbel⟩ := hrel
    clear hblk3 hbel2
    by_cases hlt : k < zb.length
    · have hks : k < s.length := by rw [hinv.len]; omega
      have hcs := hblk.cell hks
      have hfs := hblk.frozen k
      have hstep := fun x => Hide.mk (hinv.step (x := x) hks)
      have hset := fun x => Hide.mk (hblk.set k x)
      have hrs := hinv.rng k
      have hrb := RB.out k
      clear hinv hblk
      rcases HB.out with rfl | ⟨bb, bo, rfl, hbc⟩
      · simp at hlt
      · have hcb : wr.cell? ⟨bb, bo + k, none⟩ = some (.int .u32 (zb.getD k 0)) := by
          have := hbc k hlt
          rw [hbel.cell (World.block_lt_of_cell? w _ this)]; exact this
        clear hbc
        generalize s.getD k 0 = y at *
        generalize zb.getD k 0 = x at *
        go_wp2_with (go_at_call 53; refine (add32 _ _ _ (by omega) (by omega) (by omega) (by omega) (by omega) (by omega) _).mono ?_; rintro e w' ⟨rfl, rfl⟩)
        go_roundw
        case rel => exact ⟨k + 1, _, _, hlt, by go_num, rfl, by omega, by omega, (hset _).out, (hstep x).out rfl, hbel.setCell (Nat.le_refl _) _⟩
        case measure => simp [intOf]; omega
    · have hinv2 : SumInv za zb s zb.length cc := by
        have hkk : k = zb.length := by omega
        rw [← hkk]; exact hinv
      clear hinv
      go_wp2
      go_loopw [6, 9] (fun c i wr => ∃ (k : Nat) (s : List Int) (cc : Int), zb.length ≤ k ∧ k ≤ za.length + 1 ∧ i = .int .i64 k ∧ c = .int .u32 cc ∧ 0 ≤ cc ∧ cc ≤ 1 ∧ (cc ≠ 0 → k ≤ za.length) ∧ Blk wr w.heap.size s ∧ SumInv za zb s k cc ∧ Below w.heap.size w wr) (fun _ i _ => za.length + 1 - (intOf i).toNat)
      case atStart => exact ⟨zb.length, s, cc, Nat.le_refl _, by omega, rfl, rfl, hc0, hc1, fun _ => hn, hblk, hinv2, hbel⟩
      case round =>
        clear hblk hinv2 hbel hc0 hc1 hlt hk
        obtain ⟨k, s, cc, hk0, hk1, rfl, rfl, hc0, hc1, hne, hblk, hinv, hbel⟩ := hrel
        by_cases hcc : cc = 0
        · subst hcc
          have hl := hblk.lie (n := 0)
          have hcan := fun n hn hd => Hide.mk (Nt.can_take hinv.rng (n := n) hn hd)
          have hval := fun n h hn => Hide.mk ((Nt.val_take (s := s) (n := n) h hn).trans (hinv.done hk0))
          have hlen := Hide.mk hinv.len
          have hown := fun n hn hm => Hide.mk (hblk.own (B := w.heap.size) (n := n) (Nat.le_refl _) hn hm)
          have ht := Hide.mk (fun hc hm => trim35 _ s.length s _ hl hc hm)
          rw [hlen.out] at ht hown
          clear hl hinv hblk
          go_wp2_with fail
          refine (ht.out (Nat.le_refl _) (by unfold maxLen; omega)).mono ?_
          rintro e w' ⟨rfl, n, hn, rfl, hz, hd⟩
          go_wp2
          go_ret
          exact ⟨_, _, rfl, (hown n hn (by unfold maxLen; omega)).out, (hcan n (by rw [hlen.out]; exact hn) hd).out, (hval n hz (by rw [hlen.out]; exact hn)).out, hbel⟩
        · have hka := hne hcc
          have hks : k < s.length := by rw [hinv.len]; omega
          have hcs := hblk.cell hks
          have hfs := hblk.frozen k
          have hstep := Hide.mk (hinv.step (x := 0) hks (by simp [List.getD_eq_getElem?_getD, List.getElem?_eq_none hk0]))
          have hset := fun x => Hide.mk (hblk.set k x)
          have hrs := hinv.rng k
          have htop : k = za.length → s.getD k 0 = 0 := fun e => by subst e; exact hinv.top
          have hb0 : (cc != 0) = true := by simp [hcc]
          clear hinv hblk hne
          generalize s.getD k 0 = y at *
          have hfin : Hide ((y + 0 + cc) / 4294967296 ≠ 0 → k + 1 ≤ za.length) := ⟨by
            intro h
            by_cases e : k = za.length
            · have := htop e; omega
            · omega⟩
          clear htop
          go_wp2_with (go_at_call 53; refine (add32 _ 0 _ (by omega) (by omega) (by omega) (by omega) (by omega) (by omega) _).mono ?_; rintro e w' ⟨rfl, rfl⟩)
          go_roundw
          case rel => exact ⟨k + 1, _, _, by omega, by omega, by go_num, rfl, by omega, by omega, (by have := hfin.out; rwa [Int.add_zero] at this), (hset _).out, (by have := hstep.out; rwa [Int.add_zero] at this), hbel.setCell (Nat.le_refl _) _⟩
          case measure => simp [intOf]; omega
set_option maxHeartbeats 1000000 in
theorem sum40_lt (a b : Option Addr) (ca cb : Nat) (za zb : List Int) (w : World) (ha : Lie w a za) (hb : Lie w b zb) (ra : Nt.Rng za) (rb : Nt.Rng zb) (hn' : zb.length < za.length) (hm : za.length ≤ 1000000) :
    Calls Try.prog 40 #[.slice b zb.length cb, .slice a za.length ca] w fun e w' => ∃ v zs, e = .returned v ∧ Own w.heap.size w' v zs ∧ Nt.Can zs ∧ Nt.val zs = Nt.val za + Nt.val zb ∧ Below w.heap.size w w' := by
  have hn : zb.length ≤ za.length := by omega
  obtain ⟨i0, hi, hz0, hz1, hz2⟩ := info_parts Try.info49
  have hcs : Hide ((za.map (Value.int .u32)).length = Nat.min za.length (za.length + 1)) := ⟨by simp⟩
  have hfit : Hide (0 + (za.map (Value.int .u32)).length ≤ ((List.replicate (za.length + 1) (0 : Int)).map (Value.int .u32)).length) := ⟨by simp⟩
  have RB := Hide.mk rb
  have RA := Hide.mk ra
  clear ra rb
  have HB := Hide.mk hb
  go_enter Try.func40, Try.ntmps40
  go_wp2_with (first
    | (at_make; refine wpList_make_full _ rfl _ _ 22 rfl w.heap.size 49 i0 (.int .u32 0) 1 Try.underlying22 hi hz0 hz1 .i64 .i64 _ _ (za.length + 1) rfl rfl (by omega) (by omega) (by rw [hz2]; omega) (by unfold maxLen; omega) (Nat.le_refl _) ?_; intro w1 hown hgrow; have hblk1 := Hide.mk (blk_made hown); have hbel1 := below_of_grown hgrow; clear hown hgrow)
    | ((with_reducible apply at_copy); refine wpList_copy_splice rfl (.tmp 21) (.tmp 22) 22 22 rfl 49 Try.underlying22 Try.size49 (some ⟨w.heap.size, 0, none⟩) a (za.length + 1) (za.length + 1) za.length ca rfl rfl w.heap.size 0 ((List.replicate (za.length + 1) 0).map (Value.int .u32)) 49 hblk1.out (za.map (Value.int .u32)) hcs.out (fun hp => ⟨rfl, (ha.below hbel1 (Nat.le_refl _)).src (by simpa using hp)⟩) hfit.out (oneCell_ints za) w.heap.size w hbel1 (Nat.le_refl _) ?_; intro w2 hblk2 hbel2))
  have hblk3 := splice_blk hblk2.out
  clear hblk1 hblk2 hbel1 hcs hfit ha hi hz0 hz1 hz2 i0
  go_loopw [6, 26] (fun c i wr => ∃ (k : Nat) (s : List Int) (cc : Int), k ≤ zb.length ∧ i = .int .i64 k ∧ c = .int .u32 cc ∧ 0 ≤ cc ∧ cc ≤ 1 ∧ Blk wr w.heap.size s ∧ SumInv za zb s k cc ∧ Below w.heap.size w wr) (fun _ i _ => zb.length - (intOf i).toNat)
  case atStart => exact ⟨0, _, 0, Nat.zero_le _, rfl, rfl, by decide, by decide, hblk3, SumInv.start RA.out, hbel2⟩
  case round =>
    obtain ⟨k, s, cc, hk, rfl, rfl, hc0, hc1, hblk, hinv, hbel⟩ := hrel
    clear hblk3 hbel2
    by_cases hlt : k < zb.length
    · have hks : k < s.length := by rw [hinv.len]; omega
      have hcs := hblk.cell hks
      have hfs := hblk.frozen k
      have hstep := fun x => Hide.mk (hinv.step (x := x) hks)
      have hset := fun x => Hide.mk (hblk.set k x)
      have hrs := hinv.rng k
      have hrb := RB.out k
      clear hinv hblk
      rcases HB.out with rfl | ⟨bb, bo, rfl, hbc⟩
      · simp at hlt
      · have hcb : wr.cell? ⟨bb, bo + k, none⟩ = some (.int .u32 (zb.getD k 0)) := by
          have := hbc k hlt
          rw [hbel.cell (World.block_lt_of_cell? w _ this)]; exact this
        clear hbc
        generalize s.getD k 0 = y at *
        generalize zb.getD k 0 = x at *
        go_wp2_with (go_at_call 53; refine (add32 _ _ _ (by omega) (by omega) (by omega) (by omega) (by omega) (by omega) _).mono ?_; rintro e w' ⟨rfl, rfl⟩)
        go_roundw
        case rel => exact ⟨k + 1, _, _, hlt, by go_num, rfl, by omega, by omega, (hset _).out, (hstep x).out rfl, hbel.setCell (Nat.le_refl _) _⟩
        case measure => simp [intOf]; omega
    · have hinv2 : SumInv za zb s zb.length cc := by
        have hkk : k = zb.length := by omega
        rw [← hkk]; exact hinv
      clear hinv
      go_wp2
      go_loopw [6, 9] (fun c i wr => ∃ (k : Nat) (s : List Int) (cc : Int), zb.length ≤ k ∧ k ≤ za.length + 1 ∧ i = .int .i64 k ∧ c = .int .u32 cc ∧ 0 ≤ cc ∧ cc ≤ 1 ∧ (cc ≠ 0 → k ≤ za.length) ∧ Blk wr w.heap.size s ∧ SumInv za zb s k cc ∧ Below w.heap.size w wr) (fun _ i _ => za.length + 1 - (intOf i).toNat)
      case atStart => exact ⟨zb.length, s, cc, Nat.le_refl _, by omega, rfl, rfl, hc0, hc1, fun _ => hn, hblk, hinv2, hbel⟩
      case round =>
        clear hblk hinv2 hbel hc0 hc1 hlt hk
        obtain ⟨k, s, cc, hk0, hk1, rfl, rfl, hc0, hc1, hne, hblk, hinv, hbel⟩ := hrel
        by_cases hcc : cc = 0
        · subst hcc
          have hl := hblk.lie (n := 0)
          have hcan := fun n hn hd => Hide.mk (Nt.can_take hinv.rng (n := n) hn hd)
          have hval := fun n h hn => Hide.mk ((Nt.val_take (s := s) (n := n) h hn).trans (hinv.done hk0))
          have hlen := Hide.mk hinv.len
          have hown := fun n hn hm => Hide.mk (hblk.own (B := w.heap.size) (n := n) (Nat.le_refl _) hn hm)
          have ht := Hide.mk (fun hc hm => trim35 _ s.length s _ hl hc hm)
          rw [hlen.out] at ht hown
          clear hl hinv hblk
          go_wp2_with fail
          refine (ht.out (Nat.le_refl _) (by unfold maxLen; omega)).mono ?_
          rintro e w' ⟨rfl, n, hn, rfl, hz, hd⟩
          go_wp2
          go_ret
          exact ⟨_, _, rfl, (hown n hn (by unfold maxLen; omega)).out, (hcan n (by rw [hlen.out]; exact hn) hd).out, (hval n hz (by rw [hlen.out]; exact hn)).out, hbel⟩
        · have hka := hne hcc
          have hks : k < s.length := by rw [hinv.len]; omega
          have hcs := hblk.cell hks
          have hfs := hblk.frozen k
          have hstep := Hide.mk (hinv.step (x := 0) hks (by simp [List.getD_eq_getElem?_getD, List.getElem?_eq_none hk0]))
          have hset := fun x => Hide.mk (hblk.set k x)
          have hrs := hinv.rng k
          have htop : k = za.length → s.getD k 0 = 0 := fun e => by subst e; exact hinv.top
          have hb0 : (cc != 0) = true := by simp [hcc]
          clear hinv hblk hne
          generalize s.getD k 0 = y at *
          have hfin : Hide ((y + 0 + cc) / 4294967296 ≠ 0 → k + 1 ≤ za.length) := ⟨by
            intro h
            by_cases e : k = za.length
            · have := htop e; omega
            · omega⟩
          clear htop
          go_wp2_with (go_at_call 53; refine (add32 _ 0 _ (by omega) (by omega) (by omega) (by omega) (by omega) (by omega) _).mono ?_; rintro e w' ⟨rfl, rfl⟩)
          go_roundw
          case rel => exact ⟨k + 1, _, _, by omega, by omega, by go_num, rfl, by omega, by omega, (by have := hfin.out; rwa [Int.add_zero] at this), (hset _).out, (by have := hstep.out; rwa [Int.add_zero] at this), hbel.setCell (Nat.le_refl _) _⟩
          case measure => simp [intOf]; omega

theorem sum40 (a b : Option Addr) (ca cb : Nat) (za zb : List Int) (w : World) (ha : Lie w a za) (hb : Lie w b zb) (ra : Nt.Rng za) (rb : Nt.Rng zb) (hm : za.length ≤ 1000000) (hm' : zb.length ≤ 1000000) :
    Calls Try.prog 40 #[.slice a za.length ca, .slice b zb.length cb] w fun e w' => ∃ v zs, e = .returned v ∧ Own w.heap.size w' v zs ∧ Nt.Can zs ∧ Nt.val zs = Nt.val za + Nt.val zb ∧ Below w.heap.size w w' := by
  by_cases h : zb.length ≤ za.length
  · exact sum40_ge a b ca cb za zb w ha hb ra rb h hm
  · refine (sum40_lt b a cb ca zb za w hb ha rb ra (by omega) hm').mono ?_
    rintro e w' ⟨v, zs, h1, h2, h3, h4, h5⟩
    exact ⟨v, zs, h1, h2, h3, by rw [h4]; omega, h5⟩
end Go.Proofs.Ytcjmamlffbhnlaa
