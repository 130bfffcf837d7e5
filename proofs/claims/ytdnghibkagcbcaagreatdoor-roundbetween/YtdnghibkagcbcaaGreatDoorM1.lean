import Derived.Test.YtdnghibkagcbcaaGreatDoorRoundBetweenPart1
namespace Go.Proofs.YtdnghibkagcbcaaGreatDoor
open Go.RowKit
set_option linter.unusedVariables false
set_option maxRecDepth 3000
set_option maxHeartbeats 400000 in
theorem add32 (x y c : Int) (hx : 0 ≤ x) (hx' : x < 4294967296) (hy : 0 ≤ y) (hy' : y < 4294967296) (hc : 0 ≤ c) (hc' : c ≤ 1) (w : World) :
    Calls Tryz.prog 162 #[.int .u32 x, .int .u32 y, .int .u32 c] w fun e w' => e = .returned (.tuple #[.int .u32 ((x + y + c) % 4294967296), .int .u32 ((x + y + c) / 4294967296)]) ∧ w = w' := by
  go_enter Tryz.func162, Tryz.ntmps162
  go_wp2
  go_ret2
  exact ⟨rfl, rfl⟩

/-- A fact kept from the walk. -/
structure Hide (p : Prop) : Prop where
  out : p

def mayB (zs : List Int) : Bool := zs.length == 0 || (decide (zs.length ≤ 4096) && zs.getD (zs.length - 1) 0 != 0)

set_option maxRecDepth 100000 in
theorem may13 (a : Option Addr) (cap : Nat) (zs : List Int) (w : World) (hl : Lie w a zs) (hm : zs.length ≤ maxLen) :
    Calls Tryz.prog 106 #[.slice a zs.length cap] w fun e w' => e = .returned (.bool (mayB zs)) ∧ w = w' := by
  unfold maxLen at hm
  by_cases h0 : zs.length = 0
  · have e : mayB zs = true := by simp [mayB, h0]
    rw [e, h0]
    go_enter Tryz.func106, Tryz.ntmps106
    go_wp2
    go_ret
    exact ⟨rfl, rfl⟩
  · rcases hl with rfl | ⟨b, o, rfl, hcell⟩
    · exact absurd rfl h0
    · have e : mayB zs = (decide (zs.length ≤ 4096) && zs.getD (zs.length - 1) 0 != 0) := by simp [mayB, h0]
      rw [e]
      have hck := hcell (zs.length - 1) (by omega)
      clear hcell e
      generalize zs.getD (zs.length - 1) 0 = x at *
      obtain ⟨k, hk⟩ : ∃ k, zs.length = k + 1 := ⟨zs.length - 1, by omega⟩
      rw [hk] at hck hm ⊢
      clear hk h0
      rw [Nat.add_sub_cancel] at hck
      have hk0 : ((k : Int) + 1 == 0) = false := by simp; omega
      by_cases h1 : k + 1 ≤ 4096
      · go_enter Tryz.func106, Tryz.ntmps106
        go_wp2
        go_ret
        exact ⟨by simp [h1], rfl⟩
      · go_enter Tryz.func106, Tryz.ntmps106
        go_wp2
        go_ret
        exact ⟨by simp, rfl⟩

theorem notLong39 (a : Option Addr) (n cap : Nat) (w : World) (hn : n ≤ 4096) :
    Calls Tryz.prog 149 #[.slice a n cap] w fun e w' => e = .returned (.tuple #[.slice a n cap, .int .i64 0]) ∧ w = w' := by
  go_enter Tryz.func149, Tryz.ntmps149
  go_wp2
  go_ret2
  exact ⟨rfl, rfl⟩
theorem notLong39_no (a : Option Addr) (n cap : Nat) (w : World) (hn : 4096 < n) :
    Calls Tryz.prog 149 #[.slice a n cap] w fun e w' => e = .returned (.tuple #[.slice none 0 0, .int .i64 3]) ∧ w = w' := by
  go_enter Tryz.func149, Tryz.ntmps149
  go_wp2
  go_ret2
  exact ⟨rfl, rfl⟩

set_option maxHeartbeats 400000 in
theorem trim35 (a : Option Addr) (cap : Nat) (zs : List Int) (w : World) (hl : Lie w a zs) (hc : zs.length ≤ cap) (hm : cap ≤ maxLen) :
    Calls Tryz.prog 127 #[.slice a zs.length cap] w fun e w' => w = w' ∧ ∃ n, n ≤ zs.length ∧ e = .returned (.slice a n cap) ∧ (∀ j, n ≤ j → zs.getD j 0 = 0) ∧ (n ≠ 0 → zs.getD (n - 1) 0 ≠ 0) := by
  unfold maxLen at hm
  have hpast : ∀ j, zs.length ≤ j → zs.getD j 0 = 0 := fun j hj => by simp [List.getD_eq_getElem?_getD, List.getElem?_eq_none hj]
  rcases hl with rfl | ⟨b, o, rfl, hcell⟩
  · go_enter Tryz.func127, Tryz.ntmps127
    go_wp2
    refine wp_loop_rounds 1 ?_
    rw [rounds_succ]
    go_wp2
    go_ret
    exact ⟨rfl, 0, Nat.le_refl _, rfl, fun j _ => by simp, fun h => absurd rfl h⟩
  · generalize hn : zs.length = n at *
    have hN : Hid (zs.length = n) := hn
    clear hn
    go_enter Tryz.func127, Tryz.ntmps127
    go_wp2
    go_loop [3] (fun i => ∃ k : Nat, k ≤ n ∧ i = .int .i64 k ∧ ∀ j, k ≤ j → zs.getD j 0 = 0) (fun i => (intOf i).toNat)
    case atStart => exact ⟨n, Nat.le_refl _, rfl, hpast⟩
    case round =>
      obtain ⟨k, hk, rfl, hz⟩ := hrel
      have HZ : Hid (∀ j, k ≤ j → zs.getD j 0 = 0) := hz
      clear hz hpast
      cases k with
      | zero =>
        go_wp2
        go_ret
        exact ⟨rfl, 0, Nat.zero_le _, rfl, HZ.out, fun h => absurd rfl h⟩
      | succ k =>
        have hck := hcell k (by omega)
        clear hcell
        generalize hx : zs.getD k 0 = x at *
        have HX : Hid (zs.getD k 0 = x) := hx
        clear hx
        by_cases h0 : x = 0
        · subst h0
          go_wp2
          go_round
          case rel =>
            refine ⟨k, by omega, by go_num, fun j hj => ?_⟩
            by_cases e : j = k
            · subst e; exact HX.out
            · exact HZ.out j (by omega)
          case measure => simp [intOf]; try omega
        · have hb : (x == 0) = false := by simp [h0]
          go_wp2
          go_ret
          exact ⟨rfl, k + 1, hk, by go_num, HZ.out, fun _ => by have h := HX.out; simp only [List.getD_eq_getElem?_getD, Nat.add_sub_cancel] at h ⊢; rw [h]; exact h0⟩

set_option maxHeartbeats 400000 in
theorem allMay37 (b : Nat) (a1 a2 : Option Addr) (c1 c2 : Nat) (z1 z2 : List Int) (w : World) (hb1 : w.cell? ⟨b, 0, none⟩ = some (.slice a1 z1.length c1)) (hb2 : w.cell? ⟨b, 1, none⟩ = some (.slice a2 z2.length c2))
    (h1 : Lie w a1 z1) (h2 : Lie w a2 z2) (m1 : z1.length ≤ maxLen) (m2 : z2.length ≤ maxLen) :
    Calls Tryz.prog 146 #[.slice (some ⟨b, 0, none⟩) 2 2] w fun e w' => e = .returned (.bool (mayB z1 && mayB z2)) ∧ w = w' := by
  have k1 := fun w' (h : Lie w' a1 z1) => may13 a1 c1 z1 w' h m1
  have k2 := fun w' (h : Lie w' a2 z2) => may13 a2 c2 z2 w' h m2
  generalize mayB z1 = p1 at *
  generalize mayB z2 = p2 at *
  have K1 := Hide.mk k1
  have K2 := Hide.mk k2
  clear k1 k2 m1 m2
  cases p1
  · go_enter Tryz.func146, Tryz.ntmps146
    go_wp2
    refine wp_loop_rounds 3 ?_
    rw [rounds_succ]
    go_wp2_with fail
    refine (K1.out _ h1).mono ?_
    rintro e w' ⟨rfl, rfl⟩
    go_wp2_with fail
    go_ret
    exact ⟨rfl, rfl⟩
  · cases p2
    · go_enter Tryz.func146, Tryz.ntmps146
      go_wp2
      refine wp_loop_rounds 3 ?_
      rw [rounds_succ]
      go_wp2_with fail
      refine (K1.out _ h1).mono ?_
      rintro e w' ⟨rfl, rfl⟩
      go_wp2_with fail
      rw [rounds_succ]
      go_wp2_with fail
      refine (K2.out _ h2).mono ?_
      rintro e w' ⟨rfl, rfl⟩
      go_wp2_with fail
      go_ret
      exact ⟨rfl, rfl⟩
    · go_enter Tryz.func146, Tryz.ntmps146
      go_wp2
      refine wp_loop_rounds 3 ?_
      rw [rounds_succ]
      go_wp2_with fail
      refine (K1.out _ h1).mono ?_
      rintro e w' ⟨rfl, rfl⟩
      go_wp2_with fail
      rw [rounds_succ]
      go_wp2_with fail
      refine (K2.out _ h2).mono ?_
      rintro e w' ⟨rfl, rfl⟩
      go_wp2_with fail
      rw [rounds_succ]
      go_wp2_with fail
      go_ret
      exact ⟨rfl, rfl⟩

theorem Tryz.size49 : (Tryz.prog.info? 108).map (·.size) = some 1 := by kernel_rfl

theorem oneCell_ints (zs : List Int) : ∀ v ∈ zs.map (Value.int .u32), v.oneCell' = true := by
  intro v hv
  obtain ⟨z, _, rfl⟩ := List.mem_map.1 hv
  rfl
theorem Lie.src {w : World} {a : Option Addr} {zs : List Int} (h : Lie w a zs) (hp : 0 < zs.length) : ∃ ad, a = some ad ∧ ∀ j v, (zs.map (Value.int .u32))[j]? = some v → w.cell? (ad.add j) = some v := by
  rcases h with rfl | ⟨b, o, rfl, hc⟩
  · simp at hp
  · refine ⟨_, rfl, fun j v hv => ?_⟩
    have hj : j < zs.length := by
      have := (List.getElem?_eq_some_iff.1 hv).1
      simpa using this
    have e := hc j hj
    have : (⟨b, o, none⟩ : Addr).add j = ⟨b, o + j, none⟩ := by unfold Addr.add; split <;> simp_all
    rw [this, e]
    rw [← hv]
    simp [List.getD_eq_getElem?_getD, hj]
theorem splice_blk {w : World} {g n : Nat} {za : List Int} (h : w.heap[g]? = some (.cells (splice ((List.replicate (za.length + n) (0 : Int)).map (Value.int .u32)) 0 (za.map (Value.int .u32))).toArray 108 (0, 0))) :
    Blk w g (za ++ List.replicate n 0) := by
  unfold Blk
  rw [h]
  have : splice ((List.replicate (za.length + n) (0 : Int)).map (Value.int .u32)) 0 (za.map (Value.int .u32)) = (za ++ List.replicate n 0).map (Value.int .u32) := by
    simp [splice]
  rw [this]

/-- A guard: the next operation is a copy. -/
theorem at_copy {P : Program} {w : World} {ops : Array Oper} {rest : List Oper} {dst : Option Tmp} {A : Array Operand} {T : Array TypeId} {ty : TypeId} {pos : String} {after : Array Edge} {gd : Option (Nat × Bool)} {a : Act} {Q : Exit → Act → World → Prop}
    (h : wpList P ops Q (⟨dst, .call { callee := .builtin .copy, args := A, argTypes := T }, ty, pos, after, gd⟩ :: rest) a w) : wpList P ops Q (⟨dst, .call { callee := .builtin .copy, args := A, argTypes := T }, ty, pos, after, gd⟩ :: rest) a w := h

/-- After k rounds: digits s, carry c. -/
structure SumInv (za zb s : List Int) (k : Nat) (c : Int) : Prop where
  len : s.length = za.length + 1
  rng : Nt.Rng s
  eq : Nt.vp s k + c * 4294967296 ^ k = Nt.vp za k + Nt.vp zb k
  rest : ∀ j, k ≤ j → s.getD j 0 = za.getD j 0

theorem getD_app {za : List Int} (j : Nat) (n : Nat) : (za ++ List.replicate n 0).getD j 0 = za.getD j 0 := by
  simp only [List.getD_eq_getElem?_getD, List.getElem?_append]
  split
  · rfl
  · rename_i h
    rw [List.getElem?_eq_none (l := za) (by omega)]
    simp only [List.getElem?_replicate]
    split <;> rfl
theorem rng_app {za : List Int} (n : Nat) (h : Nt.Rng za) : Nt.Rng (za ++ List.replicate n 0) := fun k => by rw [getD_app]; exact h k

theorem SumInv.start {za zb : List Int} (h : Nt.Rng za) : SumInv za zb (za ++ List.replicate 1 0) 0 0 :=
  ⟨by simp, rng_app 1 h, by simp [Nt.vp], fun j _ => getD_app j 1⟩
theorem SumInv.step {za zb s : List Int} {k : Nat} {c x : Int} (h : SumInv za zb s k c) (hk : k < s.length) (hx : x = zb.getD k 0) :
    SumInv za zb (s.set k ((s.getD k 0 + x + c) % 4294967296)) (k + 1) ((s.getD k 0 + x + c) / 4294967296) := by
  refine ⟨by rw [List.length_set]; exact h.len, Nt.rng_set h.rng (by omega) (by omega), ?_, fun j hj => ?_⟩
  · exact Nt.sum_step hk h.eq (h.rest k (Nat.le_refl _)) hx (by omega)
  · rw [Nt.getD_set_ne (by omega)]; exact h.rest j (by omega)
theorem SumInv.done {za zb s : List Int} {k : Nat} (h : SumInv za zb s k 0) (hk : zb.length ≤ k) : Nt.val s = Nt.val za + Nt.val zb := by
  have e : ∀ m, k ≤ m → Nt.vp s m = Nt.vp za m + Nt.vp zb m := by
    intro m hm
    induction m with
    | zero =>
      have : k = 0 := by omega
      subst this
      have := h.eq
      omega
    | succ m ih =>
      by_cases e : k = m + 1
      · subst e; have := h.eq; omega
      · rw [Nt.vp_step, Nt.vp_step, Nt.vp_step, ih (by omega), h.rest m (by omega)]
        have : zb.getD m 0 = 0 := by simp [List.getD_eq_getElem?_getD, List.getElem?_eq_none (show zb.length ≤ m by omega)]
        rw [this]; omega
  have hl := h.len
  rw [Nt.val_vp (s := s) (k := s.length + k) (by omega), Nt.val_vp (s := za) (k := s.length + k) (by omega), Nt.val_vp (s := zb) (k := s.length + k) (by omega)]
  exact e _ (by omega)
theorem SumInv.top {za zb s : List Int} {c : Int} (h : SumInv za zb s za.length c) : s.getD za.length 0 = 0 := by
  rw [h.rest _ (Nat.le_refl _)]
  simp [List.getD_eq_getElem?_getD]

set_option maxHeartbeats 1000000 in
theorem sum40_ge (a b : Option Addr) (ca cb : Nat) (za zb : List Int) (w : World) (ha : Lie w a za) (hb : Lie w b zb) (ra : Nt.Rng za) (rb : Nt.Rng zb) (hn : zb.length ≤ za.length) (hm : za.length ≤ 1000000) :
    Calls Tryz.prog 154 #[.slice a za.length ca, .slice b zb.length cb] w fun e w' => ∃ v zs, e = .returned v ∧ Own w.heap.size w' v zs ∧ Nt.Can zs ∧ Nt.val zs = Nt.val za + Nt.val zb ∧ Below w.heap.size w w' := by
  obtain ⟨i0, hi, hz0, hz1, hz2⟩ := info_parts Tryz.info49
  have hcs : Hide ((za.map (Value.int .u32)).length = Nat.min za.length (za.length + 1)) := ⟨by simp⟩
  have hfit : Hide (0 + (za.map (Value.int .u32)).length ≤ ((List.replicate (za.length + 1) (0 : Int)).map (Value.int .u32)).length) := ⟨by simp⟩
  have RB := Hide.mk rb
  have RA := Hide.mk ra
  clear ra rb
  have HB := Hide.mk hb
  go_enter Tryz.func154, Tryz.ntmps154
  go_wp2_with (first
    | (at_make; refine wpList_make_full _ rfl _ _ 24 rfl w.heap.size 108 i0 (.int .u32 0) 1 Tryz.underlying24 hi hz0 hz1 .i64 .i64 _ _ (za.length + 1) rfl rfl (by omega) (by omega) (by rw [hz2]; omega) (by unfold maxLen; omega) (Nat.le_refl _) ?_; intro w1 hown hgrow; have hblk1 := Hide.mk (blk_made hown); have hbel1 := below_of_grown hgrow; clear hown hgrow)
    | ((with_reducible apply at_copy); refine wpList_copy_splice rfl (.tmp 21) (.tmp 22) 24 24 rfl 108 Tryz.underlying24 Tryz.size49 (some ⟨w.heap.size, 0, none⟩) a (za.length + 1) (za.length + 1) za.length ca rfl rfl w.heap.size 0 ((List.replicate (za.length + 1) 0).map (Value.int .u32)) 108 hblk1.out (za.map (Value.int .u32)) hcs.out (fun hp => ⟨rfl, (ha.below hbel1 (Nat.le_refl _)).src (by simpa using hp)⟩) hfit.out (oneCell_ints za) w.heap.size w hbel1 (Nat.le_refl _) ?_; intro w2 hblk2 hbel2))
  have hblk3 := splice_blk hblk2.out
  clear hblk1 hblk2 hbel1 hcs hfit ha hi hz0 hz1 hz2 i0
  go_loopw [6, 26] (fun c i wr => ∃ (k : Nat) (s : List Int) (cc : Int), k ≤ zb.length ∧ i = .int .i64 k ∧ c = .int .u32 cc ∧ 0 ≤ cc ∧ cc ≤ 1 ∧ Blk wr w.heap.size s ∧ SumInv za zb s k cc ∧ Below w.heap.size w wr) (fun _ i _ => zb.length - (intOf i).toNat)
  case atStart => exact ⟨0, _, 0, Nat.zero_le _, rfl, rfl, by decide, by decide, hblk3, SumInv.start RA.out, hbel2⟩
  case round =>
    obtain ⟨k, s, cc, hk, rfl, rfl, hc0, hc1, hblk, hinv, hbel⟩ := hrel
    clear hblk3 hbel2
    by_cases hlt : k < zb.length
    · have hks : k < s.length := by rw [hinv.len]; omega
      have hcs := hblk.cell hks
      have hfs := hblk.frozen k
      have hstep := fun x => Hide.mk (hinv.step (x := x) hks)
      have hset := fun x => Hide.mk (hblk.set k x)
      have hrs := hinv.rng k
      have hrb := RB.out k
      clear hinv hblk
      rcases HB.out with rfl | ⟨bb, bo, rfl, hbc⟩
      · simp at hlt
      · have hcb : wr.cell? ⟨bb, bo + k, none⟩ = some (.int .u32 (zb.getD k 0)) := by
          have := hbc k hlt
          rw [hbel.cell (World.block_lt_of_cell? w _ this)]; exact this
        clear hbc
        generalize s.getD k 0 = y at *
        generalize zb.getD k 0 = x at *
        go_wp2_with (go_at_call 162; refine (add32 _ _ _ (by omega) (by omega) (by omega) (by omega) (by omega) (by omega) _).mono ?_; rintro e w' ⟨rfl, rfl⟩)
        go_roundw
        case rel => exact ⟨k + 1, _, _, hlt, by go_num, rfl, by omega, by omega, (hset _).out, (hstep x).out rfl, hbel.setCell (Nat.le_refl _) _⟩
        case measure => simp [intOf]; omega
    · have hinv2 : SumInv za zb s zb.length cc := by
        have hkk : k = zb.length := by omega
        rw [← hkk]; exact hinv
      clear hinv
      go_wp2
      go_loopw [6, 9] (fun c i wr => ∃ (k : Nat) (s : List Int) (cc : Int), zb.length ≤ k ∧ k ≤ za.length + 1 ∧ i = .int .i64 k ∧ c = .int .u32 cc ∧ 0 ≤ cc ∧ cc ≤ 1 ∧ (cc ≠ 0 → k ≤ za.length) ∧ Blk wr w.heap.size s ∧ SumInv za zb s k cc ∧ Below w.heap.size w wr) (fun _ i _ => za.length + 1 - (intOf i).toNat)
      case atStart => exact ⟨zb.length, s, cc, Nat.le_refl _, by omega, rfl, rfl, hc0, hc1, fun _ => hn, hblk, hinv2, hbel⟩
      case round =>
        clear hblk hinv2 hbel hc0 hc1 hlt hk
        obtain ⟨k, s, cc, hk0, hk1, rfl, rfl, hc0, hc1, hne, hblk, hinv, hbel⟩ := hrel
        by_cases hcc : cc = 0
        · subst hcc
          have hl := hblk.lie (n := 0)
          have hcan := fun n hn hd => Hide.mk (Nt.can_take hinv.rng (n := n) hn hd)
          have hval := fun n h hn => Hide.mk ((Nt.val_take (s := s) (n := n) h hn).trans (hinv.done hk0))
          have hlen := Hide.mk hinv.len
          have hown := fun n hn hm => Hide.mk (hblk.own (B := w.heap.size) (n := n) (Nat.le_refl _) hn hm)
          have ht := Hide.mk (fun hc hm => trim35 _ s.length s _ hl hc hm)
          rw [hlen.out] at ht hown
          clear hl hinv hblk
          go_wp2_with fail
          refine (ht.out (Nat.le_refl _) (by unfold maxLen; omega)).mono ?_
          rintro e w' ⟨rfl, n, hn, rfl, hz, hd⟩
          go_wp2
          go_ret
          exact ⟨_, _, rfl, (hown n hn (by unfold maxLen; omega)).out, (hcan n (by rw [hlen.out]; exact hn) hd).out, (hval n hz (by rw [hlen.out]; exact hn)).out, hbel⟩
        · have hka := hne hcc
          have hks : k < s.length := by rw [hinv.len]; omega
          have hcs := hblk.cell hks
          have hfs := hblk.frozen k
          have hstep := Hide.mk (hinv.step (x := 0) hks (by simp [List.getD_eq_getElem?_getD, List.getElem?_eq_none hk0]))
          have hset := fun x => Hide.mk (hblk.set k x)
          have hrs := hinv.rng k
          have htop : k = za.length → s.getD k 0 = 0 := fun e => by subst e; exact hinv.top
          have hb0 : (cc != 0) = true := by simp [hcc]
          clear hinv hblk hne
          generalize s.getD k 0 = y at *
          have hfin : Hide ((y + 0 + cc) / 4294967296 ≠ 0 → k + 1 ≤ za.length) := ⟨by
            intro h
            by_cases e : k = za.length
            · have := htop e; omega
            · omega⟩
          clear htop
          go_wp2_with (go_at_call 162; refine (add32 _ 0 _ (by omega) (by omega) (by omega) (by omega) (by omega) (by omega) _).mono ?_; rintro e w' ⟨rfl, rfl⟩)
          go_roundw
          case rel => exact ⟨k + 1, _, _, by omega, by omega, by go_num, rfl, by omega, by omega, (by have := hfin.out; rwa [Int.add_zero] at this), (hset _).out, (by have := hstep.out; rwa [Int.add_zero] at this), hbel.setCell (Nat.le_refl _) _⟩
          case measure => simp [intOf]; omega
set_option maxHeartbeats 1000000 in
theorem sum40_lt (a b : Option Addr) (ca cb : Nat) (za zb : List Int) (w : World) (ha : Lie w a za) (hb : Lie w b zb) (ra : Nt.Rng za) (rb : Nt.Rng zb) (hn' : zb.length < za.length) (hm : za.length ≤ 1000000) :
    Calls Tryz.prog 154 #[.slice b zb.length cb, .slice a za.length ca] w fun e w' => ∃ v zs, e = .returned v ∧ Own w.heap.size w' v zs ∧ Nt.Can zs ∧ Nt.val zs = Nt.val za + Nt.val zb ∧ Below w.heap.size w w' := by
  have hn : zb.length ≤ za.length := by omega
  obtain ⟨i0, hi, hz0, hz1, hz2⟩ := info_parts Tryz.info49
  have hcs : Hide ((za.map (Value.int .u32)).length = Nat.min za.length (za.length + 1)) := ⟨by simp⟩
  have hfit : Hide (0 + (za.map (Value.int .u32)).length ≤ ((List.replicate (za.length + 1) (0 : Int)).map (Value.int .u32)).length) := ⟨by simp⟩
  have RB := Hide.mk rb
  have RA := Hide.mk ra
  clear ra rb
  have HB := Hide.mk hb
  go_enter Tryz.func154, Tryz.ntmps154
  go_wp2_with (first
    | (at_make; refine wpList_make_full _ rfl _ _ 24 rfl w.heap.size 108 i0 (.int .u32 0) 1 Tryz.underlying24 hi hz0 hz1 .i64 .i64 _ _ (za.length + 1) rfl rfl (by omega) (by omega) (by rw [hz2]; omega) (by unfold maxLen; omega) (Nat.le_refl _) ?_; intro w1 hown hgrow; have hblk1 := Hide.mk (blk_made hown); have hbel1 := below_of_grown hgrow; clear hown hgrow)
    | ((with_reducible apply at_copy); refine wpList_copy_splice rfl (.tmp 21) (.tmp 22) 24 24 rfl 108 Tryz.underlying24 Tryz.size49 (some ⟨w.heap.size, 0, none⟩) a (za.length + 1) (za.length + 1) za.length ca rfl rfl w.heap.size 0 ((List.replicate (za.length + 1) 0).map (Value.int .u32)) 108 hblk1.out (za.map (Value.int .u32)) hcs.out (fun hp => ⟨rfl, (ha.below hbel1 (Nat.le_refl _)).src (by simpa using hp)⟩) hfit.out (oneCell_ints za) w.heap.size w hbel1 (Nat.le_refl _) ?_; intro w2 hblk2 hbel2))
  have hblk3 := splice_blk hblk2.out
  clear hblk1 hblk2 hbel1 hcs hfit ha hi hz0 hz1 hz2 i0
  go_loopw [6, 26] (fun c i wr => ∃ (k : Nat) (s : List Int) (cc : Int), k ≤ zb.length ∧ i = .int .i64 k ∧ c = .int .u32 cc ∧ 0 ≤ cc ∧ cc ≤ 1 ∧ Blk wr w.heap.size s ∧ SumInv za zb s k cc ∧ Below w.heap.size w wr) (fun _ i _ => zb.length - (intOf i).toNat)
  case atStart => exact ⟨0, _, 0, Nat.zero_le _, rfl, rfl, by decide, by decide, hblk3, SumInv.start RA.out, hbel2⟩
  case round =>
    obtain ⟨k, s, cc, hk, rfl, rfl, hc0, hc1, hblk, hinv, hbel⟩ := hrel
    clear hblk3 hbel2
    by_cases hlt : k < zb.length
    · have hks : k < s.length := by rw [hinv.len]; omega
      have hcs := hblk.cell hks
      have hfs := hblk.frozen k
      have hstep := fun x => Hide.mk (hinv.step (x := x) hks)
      have hset := fun x => Hide.mk (hblk.set k x)
      have hrs := hinv.rng k
      have hrb := RB.out k
      clear hinv hblk
      rcases HB.out with rfl | ⟨bb, bo, rfl, hbc⟩
      · simp at hlt
      · have hcb : wr.cell? ⟨bb, bo + k, none⟩ = some (.int .u32 (zb.getD k 0)) := by
          have := hbc k hlt
          rw [hbel.cell (World.block_lt_of_cell? w _ this)]; exact this
        clear hbc
        generalize s.getD k 0 = y at *
        generalize zb.getD k 0 = x at *
        go_wp2_with (go_at_call 162; refine (add32 _ _ _ (by omega) (by omega) (by omega) (by omega) (by omega) (by omega) _).mono ?_; rintro e w' ⟨rfl, rfl⟩)
        go_roundw
        case rel => exact ⟨k + 1, _, _, hlt, by go_num, rfl, by omega, by omega, (hset _).out, (hstep x).out rfl, hbel.setCell (Nat.le_refl _) _⟩
        case measure => simp [intOf]; omega
    · have hinv2 : SumInv za zb s zb.length cc := by
        have hkk : k = zb.length := by omega
        rw [← hkk]; exact hinv
      clear hinv
      go_wp2
      go_loopw [6, 9] (fun c i wr => ∃ (k : Nat) (s : List Int) (cc : Int), zb.length ≤ k ∧ k ≤ za.length + 1 ∧ i = .int .i64 k ∧ c = .int .u32 cc ∧ 0 ≤ cc ∧ cc ≤ 1 ∧ (cc ≠ 0 → k ≤ za.length) ∧ Blk wr w.heap.size s ∧ SumInv za zb s k cc ∧ Below w.heap.size w wr) (fun _ i _ => za.length + 1 - (intOf i).toNat)
      case atStart => exact ⟨zb.length, s, cc, Nat.le_refl _, by omega, rfl, rfl, hc0, hc1, fun _ => hn, hblk, hinv2, hbel⟩
      case round =>
        clear hblk hinv2 hbel hc0 hc1 hlt hk
        obtain ⟨k, s, cc, hk0, hk1, rfl, rfl, hc0, hc1, hne, hblk, hinv, hbel⟩ := hrel
        by_cases hcc : cc = 0
        · subst hcc
          have hl := hblk.lie (n := 0)
          have hcan := fun n hn hd => Hide.mk (Nt.can_take hinv.rng (n := n) hn hd)
          have hval := fun n h hn => Hide.mk ((Nt.val_take (s := s) (n := n) h hn).trans (hinv.done hk0))
          have hlen := Hide.mk hinv.len
          have hown := fun n hn hm => Hide.mk (hblk.own (B := w.heap.size) (n := n) (Nat.le_refl _) hn hm)
          have ht := Hide.mk (fun hc hm => trim35 _ s.length s _ hl hc hm)
          rw [hlen.out] at ht hown
          clear hl hinv hblk
          go_wp2_with fail
          refine (ht.out (Nat.le_refl _) (by unfold maxLen; omega)).mono ?_
          rintro e w' ⟨rfl, n, hn, rfl, hz, hd⟩
          go_wp2
          go_ret
          exact ⟨_, _, rfl, (hown n hn (by unfold maxLen; omega)).out, (hcan n (by rw [hlen.out]; exact hn) hd).out, (hval n hz (by rw [hlen.out]; exact hn)).out, hbel⟩
        · have hka := hne hcc
          have hks : k < s.length := by rw [hinv.len]; omega
          have hcs := hblk.cell hks
          have hfs := hblk.frozen k
          have hstep := Hide.mk (hinv.step (x := 0) hks (by simp [List.getD_eq_getElem?_getD, List.getElem?_eq_none hk0]))
          have hset := fun x => Hide.mk (hblk.set k x)
          have hrs := hinv.rng k
          have htop : k = za.length → s.getD k 0 = 0 := fun e => by subst e; exact hinv.top
          have hb0 : (cc != 0) = true := by simp [hcc]
          clear hinv hblk hne
          generalize s.getD k 0 = y at *
          have hfin : Hide ((y + 0 + cc) / 4294967296 ≠ 0 → k + 1 ≤ za.length) := ⟨by
            intro h
            by_cases e : k = za.length
            · have := htop e; omega
            · omega⟩
          clear htop
          go_wp2_with (go_at_call 162; refine (add32 _ 0 _ (by omega) (by omega) (by omega) (by omega) (by omega) (by omega) _).mono ?_; rintro e w' ⟨rfl, rfl⟩)
          go_roundw
          case rel => exact ⟨k + 1, _, _, by omega, by omega, by go_num, rfl, by omega, by omega, (by have := hfin.out; rwa [Int.add_zero] at this), (hset _).out, (by have := hstep.out; rwa [Int.add_zero] at this), hbel.setCell (Nat.le_refl _) _⟩
          case measure => simp [intOf]; omega

theorem sum40 (a b : Option Addr) (ca cb : Nat) (za zb : List Int) (w : World) (ha : Lie w a za) (hb : Lie w b zb) (ra : Nt.Rng za) (rb : Nt.Rng zb) (hm : za.length ≤ 1000000) (hm' : zb.length ≤ 1000000) :
    Calls Tryz.prog 154 #[.slice a za.length ca, .slice b zb.length cb] w fun e w' => ∃ v zs, e = .returned v ∧ Own w.heap.size w' v zs ∧ Nt.Can zs ∧ Nt.val zs = Nt.val za + Nt.val zb ∧ Below w.heap.size w w' := by
  by_cases h : zb.length ≤ za.length
  · exact sum40_ge a b ca cb za zb w ha hb ra rb h hm
  · refine (sum40_lt b a cb ca zb za w hb ha rb ra (by omega) hm').mono ?_
    rintro e w' ⟨v, zs, h1, h2, h3, h4, h5⟩
    exact ⟨v, zs, h1, h2, h3, by rw [h4]; omega, h5⟩

theorem getD_eq_of_same {za zb : List Int} (h : ∀ j, j < za.length → za.getD j 0 = zb.getD j 0) (hl : za.length = zb.length) : za = zb := by
  refine List.ext_getElem hl (fun i hi hi' => ?_)
  have := h i hi
  simpa [List.getD_eq_getElem?_getD, hi, hi'] using this

def sgn (x y : Int) : Int := if x < y then -1 else if y < x then 1 else 0
set_option maxHeartbeats 1000000 in
theorem cmp51 (x y : Int) (w : World) : Calls Tryz.prog 155 #[.int .i64 x, .int .i64 y] w fun e w' => e = .returned (.int .i64 (sgn x y)) ∧ w = w' := by
  unfold sgn
  rcases Int.lt_trichotomy x y with h | h | h
  · go_enter Tryz.func155, Tryz.ntmps155
    go_wp2
    go_ret
    exact ⟨by simp, rfl⟩
  · subst h
    go_enter Tryz.func155, Tryz.ntmps155
    go_wp2
    go_ret
    exact ⟨by simp, rfl⟩
  · have h' : ¬ x < y := by omega
    go_enter Tryz.func155, Tryz.ntmps155
    go_wp2
    go_ret
    exact ⟨by simp, rfl⟩
set_option maxHeartbeats 1000000 in
theorem cmp52 (x y : Int) (w : World) : Calls Tryz.prog 156 #[.int .u32 x, .int .u32 y] w fun e w' => e = .returned (.int .i64 (sgn x y)) ∧ w = w' := by
  unfold sgn
  rcases Int.lt_trichotomy x y with h | h | h
  · go_enter Tryz.func156, Tryz.ntmps156
    go_wp2
    go_ret
    exact ⟨by simp, rfl⟩
  · subst h
    go_enter Tryz.func156, Tryz.ntmps156
    go_wp2
    go_ret
    exact ⟨by simp, rfl⟩
  · have h' : ¬ x < y := by omega
    go_enter Tryz.func156, Tryz.ntmps156
    go_wp2
    go_ret
    exact ⟨by simp, rfl⟩

theorem sgn_lt {x y : Int} (h : x < y) : sgn x y = -1 := by simp [sgn, h]
theorem sgn_gt {x y : Int} (h : y < x) : sgn x y = 1 := by simp [sgn, h]; omega
theorem sgn_eq {x y : Int} (h : x = y) : sgn x y = 0 := by simp [sgn, h]

theorem cmp_len {za zb : List Int} (ha : Nt.Can za) (hb : Nt.Can zb) (h : za.length ≠ zb.length) : sgn (Nt.val za) (Nt.val zb) = sgn (za.length : Int) (zb.length : Int) := by
  rcases Nat.lt_or_gt_of_ne h with c | c
  · rw [sgn_lt (Nt.can_lt ha hb c), sgn_lt (by omega)]
  · rw [sgn_gt (Nt.can_lt hb ha c), sgn_gt (by omega)]
theorem cmp_at {za zb : List Int} (ha : Nt.Rng za) (hb : Nt.Rng zb) (hl : za.length = zb.length) {p : Nat} (hp : p < za.length) (hj : ∀ j, p < j → za.getD j 0 = zb.getD j 0) (hne : za.getD p 0 ≠ zb.getD p 0) :
    sgn (Nt.val za) (Nt.val zb) = sgn (za.getD p 0) (zb.getD p 0) := by
  rcases Int.lt_or_gt_of_ne hne with c | c
  · rw [sgn_lt c, sgn_lt]
    have := Nt.cmp_lt ha hb hp (fun j h1 _ => hj j h1) c
    unfold Nt.val; rw [← hl]; exact this
  · rw [sgn_gt c, sgn_gt]
    have := Nt.cmp_lt hb ha hp (fun j h1 _ => (hj j h1).symm) c
    unfold Nt.val; rw [← hl]; exact this

set_option maxHeartbeats 1000000 in
theorem compare38 (a b : Option Addr) (ca cb : Nat) (za zb : List Int) (w : World) (ha : Lie w a za) (hb : Lie w b zb) (qa : Nt.Can za) (qb : Nt.Can zb) (hm : za.length ≤ maxLen) :
    Calls Tryz.prog 143 #[.slice a za.length ca, .slice b zb.length cb] w fun e w' => e = .returned (.int .i64 (sgn (Nt.val za) (Nt.val zb))) ∧ Below w.heap.size w w' := by
  unfold maxLen at hm
  by_cases hne : za.length = zb.length
  · have h1 : ((za.length : Int) != (zb.length : Int)) = false := by simp [hne]
    have hpast : ∀ j, za.length ≤ j → za.getD j 0 = zb.getD j 0 := fun j hj => by simp [List.getD_eq_getElem?_getD, List.getElem?_eq_none hj, List.getElem?_eq_none (show zb.length ≤ j by omega)]
    have HP := Hide.mk hpast
    have HL := Hide.mk hne
    have HA := Hide.mk ha
    have HB := Hide.mk hb
    have QA := Hide.mk qa
    have QB := Hide.mk qb
    clear hne ha hb qa qb hpast
    go_enter Tryz.func143, Tryz.ntmps143
    go_wp2
    go_loopw [19] (fun i wr => ∃ k : Nat, k ≤ za.length ∧ i = .int .i64 k ∧ (∀ j, za.length - k ≤ j → za.getD j 0 = zb.getD j 0) ∧ Below w.heap.size w wr) (fun i _ => za.length - (intOf i).toNat)
    case atStart => exact ⟨0, Nat.zero_le _, rfl, HP.out, Below.refl _ _⟩
    case round =>
      obtain ⟨k, hk, rfl, hsame, hbel⟩ := hrel
      have HS := Hide.mk hsame
      clear hsame
      by_cases hlt : k < za.length
      · rcases HA.out with rfl | ⟨ba, oa, rfl, hac⟩
        · simp at hlt
        rcases HB.out with rfl | ⟨bb, ob, rfl, hbc⟩
        · have := HL.out; simp only [List.length_nil] at this; omega
        obtain ⟨p, hp⟩ : ∃ p, za.length = k + 1 + p := ⟨za.length - k - 1, by omega⟩
        have hp1 : p < za.length := by omega
        have hlt2 : p < zb.length := by rw [← HL.out]; exact hp1
        have hca : wr.cell? ⟨ba, oa + p, none⟩ = some (.int .u32 (za.getD p 0)) := by
          have := hac p hp1
          rw [hbel.cell (World.block_lt_of_cell? w _ this)]; exact this
        have hcb : wr.cell? ⟨bb, ob + p, none⟩ = some (.int .u32 (zb.getD p 0)) := by
          have := hbc p hlt2
          rw [hbel.cell (World.block_lt_of_cell? w _ this)]; exact this
        have hpi : (za.length : Int) - 1 - (k : Int) = (p : Int) := by omega
        have HSp : Hide (∀ j, p < j → za.getD j 0 = zb.getD j 0) := ⟨fun j hj => HS.out j (by omega)⟩
        have HPk := Hide.mk hp
        clear hac hbc hp
        generalize hx : za.getD p 0 = x at *
        generalize hy : zb.getD p 0 = y at *
        have HX := Hide.mk hx
        have HY := Hide.mk hy
        clear hx hy
        by_cases hxy : x = y
        · have hb1 : (x != y) = false := by simp [hxy]
          have HXY := Hide.mk hxy
          clear hxy
          go_wp2
          go_region
          all_goals go_wp2
          go_roundw
          case rel =>
            refine ⟨k + 1, by omega, by go_num, fun j hj => ?_, hbel.drew⟩
            have hpk := HPk.out
            by_cases e : j = p
            · subst e; rw [HX.out, HY.out]; exact HXY.out
            · exact HSp.out j (by omega)
          case measure => simp [intOf]; omega
        · have hb1 : (x != y) = true := by simp [hxy]
          go_wp2
          have HR : Hide (sgn (Nt.val za) (Nt.val zb) = sgn x y) := ⟨by rw [cmp_at QA.out.1 QB.out.1 HL.out hp1 HSp.out (by rw [HX.out, HY.out]; exact hxy), HX.out, HY.out]⟩
          go_region
          all_goals go_wp2
          go_region_with (go_at_call 156; refine (cmp52 _ _ _).mono ?_; rintro e w' ⟨rfl, rfl⟩)
          all_goals go_wp2
          all_goals go_ret
          all_goals exact ⟨by rw [HR.out]; rfl, hbel.drew.drew⟩
      · go_wp2
        go_ret
        refine ⟨?_, hbel⟩
        have : za = zb := getD_eq_of_same (fun j hj => HS.out j (by omega)) HL.out
        rw [this, sgn_eq rfl]; rfl
  · have h1 : ((za.length : Int) != (zb.length : Int)) = true := by simp; omega
    rw [cmp_len qa qb hne]
    go_enter Tryz.func143, Tryz.ntmps143
    go_wp2_with (go_at_call 155; refine (cmp51 _ _ _).mono ?_; rintro e w' ⟨rfl, rfl⟩)
    go_ret
    exact ⟨rfl, Below.refl _ _⟩

theorem top_bit (n : Nat) (h : n < 4294967296) : n / 2147483648 = (n.testBit 31).toNat := by
  rw [Nat.testBit_eq_decide_div_mod_eq]
  have e : (2 : Nat) ^ 31 = 2147483648 := by decide
  rw [e]
  by_cases c : n / 2147483648 % 2 = 1
  · simp [c]; omega
  · simp [c]; omega
theorem top_bit_iff (n : Nat) (h : n < 4294967296) : n.testBit 31 = decide (2147483648 ≤ n) := by
  rw [Nat.testBit_eq_decide_div_mod_eq]
  have e : (2 : Nat) ^ 31 = 2147483648 := by decide
  rw [e]
  by_cases c : 2147483648 ≤ n <;> simp [c] <;> omega

/-- What is borrowed. -/
def bor (x y : Int) : Int := if x < y then 1 else 0
theorem bor_bd (x y : Int) : 0 ≤ bor x y ∧ bor x y ≤ 1 := by unfold bor; split <;> omega
theorem borrow_nat (x y d : Nat) (hx : x < 4294967296) (hy : y < 4294967296) (hd : d < 4294967296) :
    (((4294967295 ^^^ x) &&& y) ||| ((4294967295 ^^^ (x ^^^ y)) &&& d)) / 2147483648 = if (x < 2147483648 ∧ 2147483648 ≤ y) ∨ ((2147483648 ≤ x ↔ 2147483648 ≤ y) ∧ 2147483648 ≤ d) then 1 else 0 := by
  have p : (4294967296 : Nat) = 2 ^ 32 := by decide
  have hm : 4294967295 < (2 : Nat) ^ 32 := by decide
  have h1 : (4294967295 ^^^ x) < 2 ^ 32 := Nat.xor_lt_two_pow hm (by omega)
  have h2 : x ^^^ y < 2 ^ 32 := Nat.xor_lt_two_pow (by omega) (by omega)
  have h3 : (4294967295 ^^^ (x ^^^ y)) < 2 ^ 32 := Nat.xor_lt_two_pow hm h2
  have h4 : ((4294967295 ^^^ x) &&& y) < 2 ^ 32 := Nat.and_lt_two_pow _ (by omega)
  have h5 : ((4294967295 ^^^ (x ^^^ y)) &&& d) < 2 ^ 32 := Nat.and_lt_two_pow _ (by omega)
  have h6 := Nat.or_lt_two_pow h4 h5
  rw [top_bit _ (by omega)]
  rw [Nat.testBit_or, Nat.testBit_and, Nat.testBit_and, Nat.testBit_xor, Nat.testBit_xor, Nat.testBit_xor, top_bit_iff x hx, top_bit_iff y hy, top_bit_iff d hd]
  have h7 : Nat.testBit 4294967295 31 = true := by decide
  rw [h7]
  by_cases c1 : 2147483648 ≤ x <;> by_cases c2 : 2147483648 ≤ y <;> by_cases c3 : 2147483648 ≤ d <;> simp [c1, c2, c3] <;> omega
theorem borrow_bit (x y c : Int) (hx : 0 ≤ x) (hx' : x < 4294967296) (hy : 0 ≤ y) (hy' : y < 4294967296) (hc : 0 ≤ c) (hc' : c ≤ 1) :
    bits .or .u32 (bits .and .u32 (bits .xor .u32 IntKind.u32.max x) y) (bits .and .u32 (bits .xor .u32 IntKind.u32.max (bits .xor .u32 x y)) ((x - y - c) % 4294967296)) / 2147483648 = bor x (y + c) := by
  obtain ⟨d, hd⟩ := Int.eq_ofNat_of_zero_le (show 0 ≤ (x - y - c) % 4294967296 by omega)
  have hd' : d < 4294967296 := by omega
  rw [hd]
  obtain ⟨x, rfl⟩ := Int.eq_ofNat_of_zero_le hx
  obtain ⟨y, rfl⟩ := Int.eq_ofNat_of_zero_le hy
  have em : IntKind.u32.max = ((4294967295 : Nat) : Int) := by rfl
  have hm : 4294967295 < (2 : Nat) ^ 32 := by decide
  have p : (2 : Nat) ^ 32 = 4294967296 := by decide
  have h1 : (4294967295 ^^^ x) < 2 ^ 32 := Nat.xor_lt_two_pow hm (by omega)
  have h2 : x ^^^ y < 2 ^ 32 := Nat.xor_lt_two_pow (by omega) (by omega)
  have h3 : (4294967295 ^^^ (x ^^^ y)) < 2 ^ 32 := Nat.xor_lt_two_pow hm h2
  have h4 : ((4294967295 ^^^ x) &&& y) < 2 ^ 32 := Nat.and_lt_two_pow _ (by omega)
  have h5 : ((4294967295 ^^^ (x ^^^ y)) &&& d) < 2 ^ 32 := Nat.and_lt_two_pow _ (by omega)
  rw [em, u32_xor_nat _ _ (by omega) (by omega), u32_and_nat _ _ (by omega) (by omega), u32_xor_nat _ _ (by omega) (by omega), u32_xor_nat _ _ (by omega) (by omega), u32_and_nat _ _ (by omega) (by omega), u32_or_nat _ _ (by omega) (by omega)]
  have hb := borrow_nat x y d (by omega) (by omega) hd'
  have e : ((((4294967295 ^^^ x) &&& y ||| (4294967295 ^^^ (x ^^^ y)) &&& d : Nat) : Int) / 2147483648) = (((4294967295 ^^^ x) &&& y ||| (4294967295 ^^^ (x ^^^ y)) &&& d) / 2147483648 : Nat) := by omega
  rw [e, hb]
  unfold bor
  clear hb e h1 h2 h3 h4 h5
  split <;> split <;> omega

set_option maxHeartbeats 400000 in
theorem sub32 (x y c : Int) (hx : 0 ≤ x) (hx' : x < 4294967296) (hy : 0 ≤ y) (hy' : y < 4294967296) (hc : 0 ≤ c) (hc' : c ≤ 1) (w : World) :
    Calls Tryz.prog 158 #[.int .u32 x, .int .u32 y, .int .u32 c] w fun e w' => e = .returned (.tuple #[.int .u32 ((x - y - c) % 4294967296), .int .u32 (bor x (y + c))]) ∧ w = w' := by
  rw [← borrow_bit x y c hx hx' hy hy' hc hc']
  go_enter Tryz.func158, Tryz.ntmps158
  go_wp2
  go_ret2
  exact ⟨rfl, rfl⟩

/-- After k rounds: digits s, borrowed c. -/
structure DifInv (za zb s : List Int) (k : Nat) (c : Int) : Prop where
  len : s.length = za.length
  rng : Nt.Rng s
  eq : Nt.vp s k - c * 4294967296 ^ k = Nt.vp za k - Nt.vp zb k
  rest : ∀ j, k ≤ j → s.getD j 0 = za.getD j 0

theorem DifInv.start {za zb : List Int} (h : Nt.Rng za) : DifInv za zb (za ++ List.replicate 0 0) 0 0 :=
  ⟨by simp, rng_app 0 h, by simp [Nt.vp], fun j _ => getD_app j 0⟩
theorem bor_eq {y x c : Int} (hy : 0 ≤ y) (hy' : y < 4294967296) (hx : 0 ≤ x) (hx' : x < 4294967296) (hc : 0 ≤ c) (hc' : c ≤ 1) : (y - x - c) % 4294967296 - bor y (x + c) * 4294967296 = y - x - c := by
  unfold bor; split <;> omega
theorem DifInv.step {za zb s : List Int} {k : Nat} {c x : Int} (h : DifInv za zb s k c) (hk : k < s.length) (hx : x = zb.getD k 0) (hx0 : 0 ≤ x) (hx1 : x < 4294967296) (hc : 0 ≤ c) (hc' : c ≤ 1) :
    DifInv za zb (s.set k ((s.getD k 0 - x - c) % 4294967296)) (k + 1) (bor (s.getD k 0) (x + c)) := by
  refine ⟨by rw [List.length_set]; exact h.len, Nt.rng_set h.rng (by omega) (by omega), ?_, fun j hj => ?_⟩
  · exact Nt.dif_step hk h.eq (h.rest k (Nat.le_refl _)) hx (bor_eq (h.rng k).1 (h.rng k).2 hx0 hx1 hc hc')
  · rw [Nt.getD_set_ne (by omega)]; exact h.rest j (by omega)
theorem DifInv.done {za zb s : List Int} {k : Nat} (h : DifInv za zb s k 0) (hk : zb.length ≤ k) (hl : zb.length ≤ za.length) : Nt.val s = Nt.val za - Nt.val zb := by
  have e : ∀ m, k ≤ m → Nt.vp s m = Nt.vp za m - Nt.vp zb m := by
    intro m hm
    induction m with
    | zero =>
      have : k = 0 := by omega
      subst this
      have := h.eq
      omega
    | succ m ih =>
      by_cases e : k = m + 1
      · subst e; have := h.eq; omega
      · rw [Nt.vp_step, Nt.vp_step, Nt.vp_step, ih (by omega), h.rest m (by omega)]
        have : zb.getD m 0 = 0 := by simp [List.getD_eq_getElem?_getD, List.getElem?_eq_none (show zb.length ≤ m by omega)]
        rw [this]; omega
  have hl := h.len
  rw [Nt.val_vp (s := s) (k := s.length + k) (by omega), Nt.val_vp (s := za) (k := s.length + k) (by omega), Nt.val_vp (s := zb) (k := s.length + k) (by omega)]
  exact e _ (by omega)
theorem DifInv.top {za zb s : List Int} {c : Int} {k : Nat} (h : DifInv za zb s k c) (hk : k = za.length) (hl : zb.length ≤ za.length) (hv : Nt.val zb ≤ Nt.val za) (hc : 0 ≤ c) (hc' : c ≤ 1) : c = 0 := by
  subst hk
  have h1 := h.eq
  have h2 := (Nt.vp_bd h.rng za.length).2
  have h3 : Nt.vp za za.length = Nt.val za := rfl
  have h4 : Nt.vp zb za.length = Nt.val zb := (Nt.val_vp hl).symm
  by_cases e : c = 0
  · exact e
  · have : c = 1 := by omega
    subst this
    omega

set_option maxHeartbeats 1000000 in
theorem dif41 (a b : Option Addr) (ca cb : Nat) (za zb : List Int) (w : World) (ha : Lie w a za) (hb : Lie w b zb) (ra : Nt.Rng za) (rb : Nt.Rng zb) (hn : zb.length ≤ za.length) (hv : Nt.val zb ≤ Nt.val za) (hm : za.length ≤ 1000000) :
    Calls Tryz.prog 145 #[.slice a za.length ca, .slice b zb.length cb] w fun e w' => ∃ v zs, e = .returned v ∧ Own w.heap.size w' v zs ∧ Nt.Can zs ∧ Nt.val zs = Nt.val za - Nt.val zb ∧ Below w.heap.size w w' := by
  obtain ⟨i0, hi, hz0, hz1, hz2⟩ := info_parts Tryz.info49
  have hcs : Hide ((za.map (Value.int .u32)).length = Nat.min za.length za.length) := ⟨by simp⟩
  have hfit : Hide (0 + (za.map (Value.int .u32)).length ≤ ((List.replicate (za.length + 0) (0 : Int)).map (Value.int .u32)).length) := ⟨by simp⟩
  have RB := Hide.mk rb
  have RA := Hide.mk ra
  have HV := Hide.mk hv
  clear ra rb hv
  have HB := Hide.mk hb
  go_enter Tryz.func145, Tryz.ntmps145
  go_wp2_with (first
    | (at_make; refine wpList_make_full _ rfl _ _ 24 rfl w.heap.size 108 i0 (.int .u32 0) 1 Tryz.underlying24 hi hz0 hz1 .i64 .i64 _ _ za.length rfl rfl (by omega) (by omega) (by rw [hz2]; omega) (by unfold maxLen; omega) (Nat.le_refl _) ?_; intro w1 hown hgrow; have hblk1 := Hide.mk (blk_made hown); have hbel1 := below_of_grown hgrow; clear hown hgrow)
    | ((with_reducible apply at_copy); refine wpList_copy_splice rfl (.tmp 13) (.tmp 14) 24 24 rfl 108 Tryz.underlying24 Tryz.size49 (some ⟨w.heap.size, 0, none⟩) a za.length za.length za.length ca rfl rfl w.heap.size 0 ((List.replicate (za.length + 0) 0).map (Value.int .u32)) 108 hblk1.out (za.map (Value.int .u32)) hcs.out (fun hp => ⟨rfl, (ha.below hbel1 (Nat.le_refl _)).src (by simpa using hp)⟩) hfit.out (oneCell_ints za) w.heap.size w hbel1 (Nat.le_refl _) ?_; intro w2 hblk2 hbel2))
  have hblk3 := splice_blk (n := 0) hblk2.out
  clear hblk1 hblk2 hbel1 hcs hfit ha hi hz0 hz1 hz2 i0
  go_loopw [6, 18] (fun c i wr => ∃ (k : Nat) (s : List Int) (cc : Int), k ≤ zb.length ∧ i = .int .i64 k ∧ c = .int .u32 cc ∧ 0 ≤ cc ∧ cc ≤ 1 ∧ Blk wr w.heap.size s ∧ DifInv za zb s k cc ∧ Below w.heap.size w wr) (fun _ i _ => zb.length - (intOf i).toNat)
  case atStart => exact ⟨0, _, 0, Nat.zero_le _, rfl, rfl, by decide, by decide, hblk3, DifInv.start RA.out, hbel2⟩
  case round =>
    obtain ⟨k, s, cc, hk, rfl, rfl, hc0, hc1, hblk, hinv, hbel⟩ := hrel
    clear hblk3 hbel2
    by_cases hlt : k < zb.length
    · have hks : k < s.length := by rw [hinv.len]; omega
      have hcs := hblk.cell hks
      have hfs := hblk.frozen k
      have hstep := fun x => Hide.mk (fun h1 h2 h3 => hinv.step (x := x) hks h1 h2 h3 hc0 hc1)
      have hset := fun x => Hide.mk (hblk.set k x)
      have hrs := hinv.rng k
      have hrb := RB.out k
      clear hinv hblk
      rcases HB.out with rfl | ⟨bb, bo, rfl, hbc⟩
      · simp at hlt
      · have hcb : wr.cell? ⟨bb, bo + k, none⟩ = some (.int .u32 (zb.getD k 0)) := by
          have := hbc k hlt
          rw [hbel.cell (World.block_lt_of_cell? w _ this)]; exact this
        clear hbc
        generalize s.getD k 0 = y at *
        generalize zb.getD k 0 = x at *
        go_wp2_with (go_at_call 158; refine (sub32 _ _ _ (by omega) (by omega) (by omega) (by omega) (by omega) (by omega) _).mono ?_; rintro e w' ⟨rfl, rfl⟩)
        go_roundw
        case rel => exact ⟨k + 1, _, _, hlt, by go_num, rfl, (bor_bd _ _).1, (bor_bd _ _).2, (hset _).out, (hstep x).out rfl hrb.1 hrb.2, hbel.setCell (Nat.le_refl _) _⟩
        case measure => simp [intOf]; omega
    · have hinv2 : DifInv za zb s zb.length cc := by
        have hkk : k = zb.length := by omega
        rw [← hkk]; exact hinv
      clear hinv
      go_wp2
      go_loopw [6, 9] (fun c i wr => ∃ (k : Nat) (s : List Int) (cc : Int), zb.length ≤ k ∧ k ≤ za.length ∧ i = .int .i64 k ∧ c = .int .u32 cc ∧ 0 ≤ cc ∧ cc ≤ 1 ∧ (cc ≠ 0 → k < za.length) ∧ Blk wr w.heap.size s ∧ DifInv za zb s k cc ∧ Below w.heap.size w wr) (fun _ i _ => za.length - (intOf i).toNat)
      case atStart => exact ⟨zb.length, s, cc, Nat.le_refl _, by omega, rfl, rfl, hc0, hc1, fun hne => Nat.lt_of_le_of_ne hn (fun e => hne (hinv2.top e hn HV.out hc0 hc1)), hblk, hinv2, hbel⟩
      case round =>
        clear hblk hinv2 hbel hc0 hc1 hlt hk
        obtain ⟨k, s, cc, hk0, hk1, rfl, rfl, hc0, hc1, hne, hblk, hinv, hbel⟩ := hrel
        by_cases hcc : cc = 0
        · subst hcc
          have hl := hblk.lie (n := 0)
          have hcan := fun n hn hd => Hide.mk (Nt.can_take hinv.rng (n := n) hn hd)
          have hval := fun n h hn' => Hide.mk ((Nt.val_take (s := s) (n := n) h hn').trans (hinv.done hk0 hn))
          have hlen := Hide.mk hinv.len
          have hown := fun n hn hm => Hide.mk (hblk.own (B := w.heap.size) (n := n) (Nat.le_refl _) hn hm)
          have ht := Hide.mk (fun hc hm => trim35 _ s.length s _ hl hc hm)
          rw [hlen.out] at ht hown
          clear hl hinv hblk
          go_wp2_with fail
          refine (ht.out (Nat.le_refl _) (by unfold maxLen; omega)).mono ?_
          rintro e w' ⟨rfl, n, hn, rfl, hz, hd⟩
          go_wp2
          go_ret
          exact ⟨_, _, rfl, (hown n hn (by unfold maxLen; omega)).out, (hcan n (by rw [hlen.out]; exact hn) hd).out, (hval n hz (by rw [hlen.out]; exact hn)).out, hbel⟩
        · have hka := hne hcc
          have hks : k < s.length := by rw [hinv.len]; omega
          have hcs := hblk.cell hks
          have hfs := hblk.frozen k
          have hstep := Hide.mk (hinv.step (x := 0) hks (by simp [List.getD_eq_getElem?_getD, List.getElem?_eq_none hk0]) (by decide) (by decide) hc0 hc1)
          have hfin : Hide (bor (s.getD k 0) (0 + cc) ≠ 0 → k + 1 < za.length) := ⟨fun hne => Nat.lt_of_le_of_ne hka (fun e => hne (hstep.out.top e hn HV.out (bor_bd _ _).1 (bor_bd _ _).2))⟩
          have hset := fun x => Hide.mk (hblk.set k x)
          have hrs := hinv.rng k
          have hb0 : (cc != 0) = true := by simp [hcc]
          clear hinv hblk hne
          generalize s.getD k 0 = y at *
          go_wp2_with (go_at_call 158; refine (sub32 _ 0 _ (by omega) (by omega) (by omega) (by omega) (by omega) (by omega) _).mono ?_; rintro e w' ⟨rfl, rfl⟩)
          go_roundw
          case rel => exact ⟨k + 1, _, _, by omega, by omega, by go_num, rfl, (bor_bd _ _).1, (bor_bd _ _).2, (by have := hfin.out; rwa [Int.zero_add] at this), (hset _).out, (by have := hstep.out; rwa [Int.zero_add, Int.sub_zero] at this), hbel.setCell (Nat.le_refl _) _⟩
          case measure => simp [intOf]; omega

theorem grown_trans {a b c : World} {row : Option Nat} (h : a.grownBy b row) (k : b.grownBy c row) : a.grownBy c row :=
  ⟨k.os.trans h.os, k.tape.trans h.tape, k.output.trans h.output, Nat.le_trans h.size k.size, fun i hi hr => (k.block i (Nat.lt_of_lt_of_le hi h.size) hr).trans (h.block i hi hr)⟩
theorem grown_refl (w : World) (row : Option Nat) : w.grownBy w row := ⟨rfl, rfl, rfl, Nat.le_refl _, fun _ _ _ => rfl⟩
theorem grown_set (w : World) (g j : Nat) (u : Value) : w.grownBy (w.setCell ⟨g, j, none⟩ u) (some g) :=
  ⟨rfl, rfl, rfl, by simp [World.setCell], fun k _ hne => Below.heap_setCell _ _ _ _ (fun e => hne (by rw [e]))⟩
theorem Lie.grown {w w' : World} {a : Option Addr} {zs : List Int} {g : Nat} (h : Lie w a zs) (hg : w.grownBy w' (some g)) (hne : 0 < zs.length → ∀ x, a = some x → x.block ≠ g) : Lie w' a zs := by
  rcases h with h | ⟨b, o, rfl, hc⟩
  · exact .inl h
  · refine .inr ⟨b, o, rfl, fun i hi => ?_⟩
    exact hg.cell (hc i hi) (by have := hne (by omega) _ rfl; simpa using this)

/-- After k rounds of addTimes: digits s, carry c. -/
structure TimesInv (s0 zb : List Int) (off : Nat) (d : Int) (s : List Int) (k : Nat) (c : Int) : Prop where
  len : s.length = s0.length
  rng : Nt.Rng s
  eq : Nt.vp s (off + k) + c * 4294967296 ^ (off + k) = Nt.vp s0 (off + k) + d * Nt.vp zb k * 4294967296 ^ off
  rest : ∀ j, off + k ≤ j → s.getD j 0 = s0.getD j 0
theorem TimesInv.start {s0 zb : List Int} {off : Nat} {d : Int} (h : Nt.Rng s0) : TimesInv s0 zb off d s0 0 0 := ⟨rfl, h, by simp [Nt.vp], fun _ _ => rfl⟩
theorem mul_bd {x d : Int} (hx : 0 ≤ x) (hx' : x < 4294967296) (hd : 0 ≤ d) (hd' : d < 4294967296) : 0 ≤ x * d ∧ x * d ≤ 18446744065119617025 := by
  have h1 : x * d ≤ 4294967295 * d := Int.mul_le_mul_of_nonneg_right (by omega) hd
  have h2 := Int.mul_nonneg hx hd
  omega
theorem TimesInv.step {s0 zb s : List Int} {off k : Nat} {d c x : Int} (h : TimesInv s0 zb off d s k c) (hk : off + k < s.length) (hx : x = zb.getD k 0) :
    TimesInv s0 zb off d (s.set (off + k) ((x * d + s.getD (off + k) 0 + c) % 4294967296)) (k + 1) ((x * d + s.getD (off + k) 0 + c) / 4294967296) := by
  refine ⟨by rw [List.length_set]; exact h.len, Nt.rng_set h.rng (by omega) (by omega), ?_, fun j hj => ?_⟩
  · have he := h.eq
    have hr := h.rest (off + k) (Nat.le_refl _)
    have hn : (x * d + s.getD (off + k) 0 + c) % 4294967296 + (x * d + s.getD (off + k) 0 + c) / 4294967296 * 4294967296 = x * d + s.getD (off + k) 0 + c := by omega
    rw [← Nat.add_assoc, Nt.vp_step, Nt.vp_step, Nt.vp_step, Nt.vp_set (Nat.le_refl _), Nt.getD_set_self hk, Nt.pw_succ, ← hr, ← hx]
    generalize (x * d + s.getD (off + k) 0 + c) % 4294967296 = n at *
    generalize (x * d + s.getD (off + k) 0 + c) / 4294967296 = c' at *
    rw [Nt.pw_add] at *
    generalize (4294967296 : Int) ^ off = P at *
    generalize (4294967296 : Int) ^ k = K at *
    grind
  · rw [Nt.getD_set_ne (by omega)]; exact h.rest j (by omega)

set_option maxHeartbeats 1000000 in
theorem times55 (g off cp : Nat) (b : Option Addr) (cb : Nat) (s0 zb : List Int) (d : Int) (w : World) (hblk0 : Blk w g s0) (hoff : off + zb.length ≤ s0.length) (hcp : zb.length ≤ cp) (hs : s0.length ≤ 1000000) (hcm : cp ≤ 1000000) (hb : Lie w b zb)
    (hne : 0 < zb.length → ∀ x, b = some x → x.block ≠ g) (rs : Nt.Rng s0) (rb : Nt.Rng zb) (hd : 0 ≤ d) (hd' : d < 4294967296) :
    Calls Tryz.prog 157 #[.slice (some ⟨g, off, none⟩) zb.length cp, .slice b zb.length cb, .int .u32 d] w fun e w' => ∃ s c, e = .returned (.int .u32 c) ∧ 0 ≤ c ∧ c < 4294967296 ∧ Blk w' g s ∧ TimesInv s0 zb off d s zb.length c ∧ w.grownBy w' (some g) := by
  have RB := Hide.mk rb
  have RS := Hide.mk rs
  have HB := Hide.mk hb
  have HN := Hide.mk hne
  have HK := Hide.mk hblk0
  clear rb rs hb hne hblk0
  go_enter Tryz.func157, Tryz.ntmps157
  go_wp2
  go_loopw [7, 17] (fun c i wr => ∃ (k : Nat) (s : List Int) (cc : Int), k ≤ zb.length ∧ i = .int .i64 k ∧ c = .int .u64 cc ∧ 0 ≤ cc ∧ cc < 4294967296 ∧ Blk wr g s ∧ TimesInv s0 zb off d s k cc ∧ w.grownBy wr (some g)) (fun _ i _ => zb.length - (intOf i).toNat)
  case atStart => exact ⟨0, _, 0, Nat.zero_le _, rfl, rfl, by decide, by decide, HK.out, TimesInv.start RS.out, grown_refl _ _⟩
  case round =>
    obtain ⟨k, s, cc, hk, rfl, rfl, hc0, hc1, hblk, hinv, hgr⟩ := hrel
    have HG := Hide.mk hgr
    clear hgr
    by_cases hlt : k < zb.length
    · have hks : off + k < s.length := by rw [hinv.len]; omega
      have hcs := hblk.cell hks
      have hfs := hblk.frozen (off + k)
      have hstep := fun x => Hide.mk (hinv.step (x := x) hks)
      have hset := fun x => Hide.mk (hblk.set (off + k) x)
      have hrs := hinv.rng (off + k)
      have hrb := RB.out k
      clear hinv hblk
      rcases HB.out with rfl | ⟨bb, bo, rfl, hbc⟩
      · simp at hlt
      · have hcb : wr.cell? ⟨bb, bo + k, none⟩ = some (.int .u32 (zb.getD k 0)) :=
          HG.out.cell (hbc k hlt) (by have := HN.out (by omega) _ rfl; simpa using this)
        clear hbc
        generalize s.getD (off + k) 0 = y at *
        generalize zb.getD k 0 = x at *
        have hxd := mul_bd hrb.1 hrb.2 hd hd'
        go_wp2
        go_roundw
        case rel => exact ⟨k + 1, _, _, hlt, by go_num, rfl, by omega, by omega, (hset _).out, (hstep x).out rfl, grown_trans HG.out (grown_set _ _ _ _)⟩
        case measure => simp [intOf]; omega
    · have hinv2 : Hide (TimesInv s0 zb off d s zb.length cc) := ⟨by
        have hkk : k = zb.length := by omega
        rw [← hkk]; exact hinv⟩
      have HK2 := Hide.mk hblk
      clear hinv hblk
      go_wp2
      go_ret
      exact ⟨s, cc, by first | rfl | go_num, hc0, hc1, HK2.out, hinv2.out, HG.out⟩

/-- After i rounds of product. -/
structure ProdInv (za zb s : List Int) (i : Nat) : Prop where
  len : s.length = za.length + zb.length
  rng : Nt.Rng s
  eq : Nt.vp s (i + zb.length) = Nt.vp za i * Nt.val zb
  rest : ∀ j, i + zb.length ≤ j → s.getD j 0 = 0
theorem getD_rep (n j : Nat) : (List.replicate n (0 : Int)).getD j 0 = 0 := by
  simp only [List.getD_eq_getElem?_getD, List.getElem?_replicate]; split <;> rfl
theorem vp_rep (n k : Nat) : Nt.vp (List.replicate n (0 : Int)) k = 0 := by
  induction k with
  | zero => rfl
  | succ k ih => rw [Nt.vp_step, ih, getD_rep]; omega
theorem ProdInv.start {za zb : List Int} : ProdInv za zb (List.replicate (za.length + zb.length) 0) 0 :=
  ⟨by simp, fun k => by rw [getD_rep]; decide, by rw [vp_rep]; simp [Nt.vp], fun j _ => getD_rep _ _⟩
theorem ProdInv.step {za zb s s' : List Int} {i : Nat} {c d : Int} (h : ProdInv za zb s i) (hi : i < za.length) (hd : d = za.getD i 0) (ht : TimesInv s zb i d s' zb.length c) (hc : 0 ≤ c) (hc' : c < 4294967296) :
    ProdInv za zb (s'.set (i + zb.length) c) (i + 1) := by
  have hl : i + zb.length < s'.length := by rw [ht.len, h.len]; omega
  refine ⟨by rw [List.length_set, ht.len]; exact h.len, Nt.rng_set ht.rng hc hc', ?_, fun j hj => ?_⟩
  · have e1 : i + 1 + zb.length = (i + zb.length) + 1 := by omega
    have he := ht.eq
    rw [h.eq] at he
    have ev : Nt.vp zb zb.length = Nt.val zb := rfl
    rw [ev] at he
    rw [e1, Nt.vp_step, Nt.vp_step, Nt.vp_set (Nat.le_refl _), Nt.getD_set_self hl, ← hd]
    rw [Nt.pw_add] at *
    generalize (4294967296 : Int) ^ i = P at *
    generalize (4294967296 : Int) ^ zb.length = K at *
    grind
  · rw [Nt.getD_set_ne (by omega), ht.rest j (by omega)]; exact h.rest j (by omega)
theorem ProdInv.done {za zb s : List Int} (h : ProdInv za zb s za.length) : Nt.val s = Nt.val za * Nt.val zb := by
  have := h.eq
  unfold Nt.val at *
  rw [h.len]; exact this

theorem Lie.lt {w : World} {a : Option Addr} {zs : List Int} (h : Lie w a zs) (hp : 0 < zs.length) : ∀ x, a = some x → x.block < w.heap.size := by
  intro x hx
  rcases h with rfl | ⟨b, o, rfl, hc⟩
  · simp at hp
  · cases hx
    exact World.block_lt_of_cell? w _ (hc 0 hp)

set_option maxHeartbeats 1000000 in
theorem product42 (a b : Option Addr) (ca cb : Nat) (za zb : List Int) (w : World) (ha : Lie w a za) (hb : Lie w b zb) (ra : Nt.Rng za) (rb : Nt.Rng zb) (hn : za.length ≤ 100000) (hm : zb.length ≤ 100000) :
    Calls Tryz.prog 144 #[.slice a za.length ca, .slice b zb.length cb] w fun e w' => ∃ v zs, e = .returned v ∧ Own w.heap.size w' v zs ∧ Nt.Can zs ∧ Nt.val zs = Nt.val za * Nt.val zb ∧ Below w.heap.size w w' := by
  obtain ⟨i0, hi, hz0, hz1, hz2⟩ := info_parts Tryz.info49
  have RB := Hide.mk rb
  have RA := Hide.mk ra
  have HA := Hide.mk ha
  have HB := Hide.mk hb
  clear ra rb ha hb
  go_enter Tryz.func144, Tryz.ntmps144
  go_wp2_with (at_make; refine wpList_make_full _ rfl _ _ 24 rfl w.heap.size 108 i0 (.int .u32 0) 1 Tryz.underlying24 hi hz0 hz1 .i64 .i64 _ _ (za.length + zb.length) rfl rfl (by omega) (by omega) (by rw [hz2]; omega) (by unfold maxLen; omega) (Nat.le_refl _) ?_; intro w1 hown hgrow; have hblk1 := Hide.mk (blk_made hown); have hbel1 := below_of_grown hgrow; clear hown hgrow)
  clear hi hz0 hz1 hz2 i0
  go_loopw [16] (fun i wr => ∃ (k : Nat) (s : List Int), k ≤ za.length ∧ i = .int .i64 k ∧ Blk wr w.heap.size s ∧ ProdInv za zb s k ∧ Below w.heap.size w wr) (fun i _ => za.length - (intOf i).toNat)
  case atStart => exact ⟨0, _, Nat.zero_le _, rfl, hblk1.out, ProdInv.start, hbel1⟩
  case round =>
    obtain ⟨k, s, hk, rfl, hblk, hinv, hbel⟩ := hrel
    clear hblk1 hbel1
    have HI := Hide.mk hinv
    have HK := Hide.mk hblk
    clear hinv hblk
    by_cases hlt : k < za.length
    · rcases HA.out with rfl | ⟨ba, oa, rfl, hac⟩
      · simp at hlt
      · have hca : wr.cell? ⟨ba, oa + k, none⟩ = some (.int .u32 (za.getD k 0)) := by
          have := hac k hlt
          rw [hbel.cell (World.block_lt_of_cell? w _ this)]; exact this
        have hra := RA.out k
        clear hac
        generalize hx : za.getD k 0 = x at *
        have HX := Hide.mk hx.symm
        clear hx
        have ht := Hide.mk (times55 w.heap.size k (za.length + zb.length - k) b cb s zb x wr HK.out (by rw [HI.out.len]; omega) (by omega) (by rw [HI.out.len]; omega) (by omega) (HB.out.below hbel (Nat.le_refl _)) (fun hp y hy => Nat.ne_of_lt (HB.out.lt hp y hy)) HI.out.rng RB.out hra.1 hra.2)
        go_wp2_with fail
        refine ht.out.mono ?_
        rintro e w2 ⟨s2, c, rfl, hc0, hc1, hblk2, hti, hgr⟩
        have hstep := Hide.mk (HI.out.step hlt HX.out hti hc0 hc1)
        have hcell := hblk2.cell (j := k + zb.length) (by rw [hti.len, HI.out.len]; omega)
        have hfr := hblk2.frozen (k + zb.length)
        have hset := Hide.mk (hblk2.set (k + zb.length) c)
        have hbel2 := hbel.grown hgr (by have := hbel.size; omega) (fun j hj => by simp at hj; omega)
        clear hti hgr hblk2 ht hbel
        go_wp2
        go_roundw
        case rel => exact ⟨k + 1, _, hlt, by go_num, hset.out, hstep.out, hbel2.setCell (Nat.le_refl _) _⟩
        case measure => simp [intOf]; omega
    · have hdone : Hide (Nt.val s = Nt.val za * Nt.val zb) := ⟨by
        have hkk : k = za.length := by omega
        have := HI.out
        rw [hkk] at this
        exact this.done⟩
      have hl := HK.out.lie (n := 0)
      have hcan := fun n hn hd => Hide.mk (Nt.can_take HI.out.rng (n := n) hn hd)
      have hval := fun n h hn => Hide.mk ((Nt.val_take (s := s) (n := n) h hn).trans hdone.out)
      have hlen := Hide.mk HI.out.len
      have hown := fun n hn hm => Hide.mk (HK.out.own (B := w.heap.size) (n := n) (Nat.le_refl _) hn hm)
      have ht := Hide.mk (fun hc hm => trim35 _ s.length s _ hl hc hm)
      rw [hlen.out] at ht hown
      clear hl
      go_wp2_with fail
      refine (ht.out (Nat.le_refl _) (by unfold maxLen; omega)).mono ?_
      rintro e w' ⟨rfl, n, hn, rfl, hz, hd⟩
      go_wp2
      go_ret
      exact ⟨_, _, rfl, (hown n hn (by unfold maxLen; omega)).out, (hcan n (by rw [hlen.out]; exact hn) hd).out, (hval n hz (by rw [hlen.out]; exact hn)).out, hbel⟩
end Go.Proofs.YtdnghibkagcbcaaGreatDoor
