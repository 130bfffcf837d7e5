import Derived.Test.YtdnghibkagcbcaaGreatDoorM2
import Derived.Lib.BitFns
import Derived.Lib.Walk
namespace Go.Proofs.YtdnghibkagcbcaaGreatDoor
open Go.RowKit
set_option linter.unusedVariables false
set_option maxRecDepth 3000
theorem two_pow_le (p : Nat) (h : p < 32) : (1 : Int) ≤ 2 ^ p ∧ (2 : Int) ^ p ≤ 2147483648 := by
  have h1 : (0 : Int) < 2 ^ p := Int.pow_pos (by decide)
  refine ⟨by omega, ?_⟩
  have : ∀ m : Nat, p ≤ m → (2 : Int) ^ p ≤ 2 ^ m := by
    intro m hm
    induction m with
    | zero => have : p = 0 := by omega
              subst this; exact Int.le_refl _
    | succ m ih =>
      by_cases e : p = m + 1
      · subst e; exact Int.le_refl _
      · have := ih (by omega)
        have h2 : (0 : Int) < 2 ^ m := Int.pow_pos (by decide)
        rw [Int.pow_succ]; omega
  have h31 := this 31 (by omega)
  have e : (2 : Int) ^ 31 = 2147483648 := by decide
  omega
/-- 2^p goes into 2^32. -/
theorem two_pow_div (p : Nat) (h : p < 32) : ∃ m : Int, 4294967296 = 2 ^ p * m ∧ 0 < m := by
  refine ⟨2 ^ (32 - p), ?_, Int.pow_pos (by decide)⟩
  rw [← Int.pow_add]
  have : p + (32 - p) = 32 := by omega
  rw [this]; decide
theorem low_multiple (x : Int) (p : Nat) (h : p < 32) : (x * 2 ^ p) % 4294967296 % 2 ^ p = 0 ∧ (x * 2 ^ p) % 4294967296 ≤ 4294967296 - 2 ^ p := by
  obtain ⟨m, hm, hpos⟩ := two_pow_div p h
  have h1 : (0 : Int) < 2 ^ p := Int.pow_pos (by decide)
  have e : (x * 2 ^ p) % 4294967296 = (x % m) * 2 ^ p := by
    rw [hm, Int.mul_comm x, Int.mul_emod_mul_of_pos _ _ h1, Int.mul_comm]
  rw [e]
  refine ⟨Int.mul_emod_left _ _, ?_⟩
  have h2 := Int.emod_lt_of_pos x hpos
  have h3 : (x % m + 1) * 2 ^ p ≤ m * 2 ^ p := Int.mul_le_mul_of_nonneg_right (by omega) (by omega)
  rw [Int.add_mul] at h3
  rw [Int.mul_comm m] at h3
  omega
theorem or32_join (y t : Int) (p : Nat) (hy : 0 ≤ y) (hy' : y < 2 ^ p) (hp : p < 32) (ht : 0 ≤ t) (ht' : t < 4294967296) (hm : t % 2 ^ p = 0) : bits .or .u32 y t = y + t := by
  have hb := two_pow_le p hp
  rw [u32_or y t hy (by omega) ht ht']
  have e : ((2 ^ p : Nat) : Int) = (2 : Int) ^ p := by simp
  have := nat_join p t.toNat y.toNat (by
    have h1 : ((t.toNat % 2 ^ p : Nat) : Int) = t % 2 ^ p := by
      rw [Int.natCast_emod, e, Int.toNat_of_nonneg ht]
    rw [hm] at h1
    omega) (by omega)
  rw [Nat.or_comm, this]; omega

/-- After k rounds of shiftUp. -/
structure UpInv (za s : List Int) (wh p k : Nat) : Prop where
  len : s.length = za.length + wh + 1
  rng : Nt.Rng s
  eq : Nt.vp s (wh + k + 1) = Nt.vp za k * 2 ^ p * 4294967296 ^ wh
  top : s.getD (wh + k) 0 < 2 ^ p
  rest : ∀ j, wh + k < j → s.getD j 0 = 0
theorem UpInv.start {za : List Int} {wh p : Nat} : UpInv za (List.replicate (za.length + wh + 1) 0) wh p 0 :=
  ⟨by simp, fun k => by rw [getD_rep]; decide, by rw [vp_rep]; simp [Nt.vp], by rw [getD_rep]; exact Int.pow_pos (by decide), fun j _ => getD_rep _ _⟩
theorem shl_bd {x : Int} {p : Nat} (hx : 0 ≤ x) (hx' : x < 4294967296) (hp : p < 32) : 0 ≤ x * 2 ^ p ∧ x * 2 ^ p ≤ 4294967295 * 2 ^ p := by
  have h1 : (0 : Int) < 2 ^ p := Int.pow_pos (by decide)
  exact ⟨Int.mul_nonneg hx (by omega), Int.mul_le_mul_of_nonneg_right (by omega) (by omega)⟩
theorem UpInv.step {za s : List Int} {wh p k : Nat} {x : Int} (h : UpInv za s wh p k) (hp : p < 32) (hk : k < za.length) (hx : x = za.getD k 0) (hx0 : 0 ≤ x) (hx1 : x < 4294967296) :
    UpInv za ((s.set (wh + k) (s.getD (wh + k) 0 + x * 2 ^ p % 4294967296)).set (wh + k + 1) (x * 2 ^ p / 4294967296)) wh p (k + 1) := by
  have hl := h.len
  have h0 := h.rng (wh + k)
  have ht := h.top
  have hlm := low_multiple x p hp
  have hb := shl_bd hx0 hx1 hp
  have hpp := two_pow_le p hp
  have hhi : x * 2 ^ p / 4294967296 < 2 ^ p := by omega
  refine ⟨by simp [hl], Nt.rng_set (Nt.rng_set h.rng (by omega) (by omega)) (by omega) (by omega), ?_, ?_, fun j hj => ?_⟩
  · have e1 : wh + (k + 1) + 1 = (wh + k + 1) + 1 := by omega
    rw [e1, Nt.vp_step, Nt.getD_set_self (by simp; omega), Nt.vp_set (Nat.le_refl _), Nt.vp_step, Nt.getD_set_self (by omega), Nt.vp_set (Nat.le_refl _), Nt.vp_step za k, ← hx]
    have he := h.eq
    rw [Nt.vp_step] at he
    rw [Nt.pw_succ (wh + k), Nt.pw_add]
    rw [Nt.pw_add] at he
    have hn : x * 2 ^ p % 4294967296 + x * 2 ^ p / 4294967296 * 4294967296 = x * 2 ^ p := by omega
    generalize x * 2 ^ p % 4294967296 = lo at *
    generalize x * 2 ^ p / 4294967296 = hi at *
    generalize (4294967296 : Int) ^ wh = P at *
    generalize (4294967296 : Int) ^ k = K at *
    generalize (2 : Int) ^ p = T at *
    grind
  · rw [show wh + (k + 1) = wh + k + 1 by omega, Nt.getD_set_self (by simp; omega)]; exact hhi
  · rw [Nt.getD_set_ne (by omega), Nt.getD_set_ne (by omega)]; exact h.rest j (by omega)
theorem UpInv.done {za s : List Int} {wh p : Nat} (h : UpInv za s wh p za.length) : Nt.val s = Nt.val za * 2 ^ p * 4294967296 ^ wh := by
  have := h.eq
  unfold Nt.val
  rw [h.len, show za.length + wh + 1 = wh + za.length + 1 by omega]; exact this

set_option maxHeartbeats 1000000 in
theorem shiftUp63 (a : Option Addr) (ca : Nat) (za : List Int) (w : World) (n : Int) (wh p : Nat) (hq : n / 32 = (wh : Int)) (hr : n % 32 = (p : Int)) (hn0 : 0 ≤ n) (hn1 : n ≤ 1000000) (hp : p < 32) (hw : wh ≤ 100000) (ha : Lie w a za) (ra : Nt.Rng za) (hm : za.length ≤ 100000) :
    Calls Tryz.prog 139 #[.slice a za.length ca, .int .i64 n] w fun e w' => ∃ v zs, e = .returned v ∧ Own w.heap.size w' v zs ∧ Nt.Can zs ∧ Nt.val zs = Nt.val za * 2 ^ p * 4294967296 ^ wh ∧ Below w.heap.size w w' := by
  obtain ⟨i0, hi, hz0, hz1, hz2⟩ := info_parts Tryz.info49
  have RA := Hide.mk ra
  have HA := Hide.mk ha
  clear ra ha
  go_enter Tryz.func139, Tryz.ntmps139
  go_wp2_with (at_make; refine wpList_make_full _ rfl _ _ 24 rfl w.heap.size 108 i0 (.int .u32 0) 1 Tryz.underlying24 hi hz0 hz1 .i64 .i64 _ _ (za.length + wh + 1) rfl rfl (by omega) (by omega) (by rw [hz2]; omega) (by unfold maxLen; omega) (Nat.le_refl _) ?_; intro w1 hown hgrow; have hblk1 := Hide.mk (blk_made hown); have hbel1 := below_of_grown hgrow; clear hown hgrow)
  clear hi hz0 hz1 hz2 i0
  go_loopw [23] (fun i wr => ∃ (k : Nat) (s : List Int), k ≤ za.length ∧ i = .int .i64 k ∧ Blk wr w.heap.size s ∧ UpInv za s wh p k ∧ Below w.heap.size w wr) (fun i _ => za.length - (intOf i).toNat)
  case atStart => exact ⟨0, _, Nat.zero_le _, rfl, hblk1.out, UpInv.start, hbel1⟩
  case round =>
    obtain ⟨k, s, hk, rfl, hblk, hinv, hbel⟩ := hrel
    have HK := Hide.mk hblk
    have HI := Hide.mk hinv
    clear hblk hblk1 hbel1 hinv
    by_cases hlt : k < za.length
    · obtain ⟨ba, oa, rfl⟩ := lie_some HA.out (by omega)
      have hca := lie_cell (HA.out.below hbel (Nat.le_refl _)) rfl hlt
      have hra := RA.out k
      have hc1 := HK.out.cell (j := wh + k) (by rw [HI.out.len]; omega)
      have hc2 := HK.out.cell (j := wh + k + 1) (by rw [HI.out.len]; omega)
      have hf1 := HK.out.frozen (wh + k)
      have hf2 := HK.out.frozen (wh + k + 1)
      have hrs := HI.out.rng (wh + k)
      have hstep := fun x => Hide.mk (fun h => HI.out.step (x := x) hp hlt h)
      have hset := fun x y => Hide.mk ((HK.out.set (wh + k) x).set (wh + k + 1) y)
      have hor : Hide (bits .or .u32 (s.getD (wh + k) 0) (za.getD k 0 * 2 ^ p % 4294967296) = s.getD (wh + k) 0 + za.getD k 0 * 2 ^ p % 4294967296) := ⟨or32_join _ _ p hrs.1 HI.out.top hp (by omega) (by omega) (low_multiple _ p hp).1⟩
      have hsb := shl_bd hra.1 hra.2 hp
      have htp := two_pow_le p hp
      clear HK
      generalize za.getD k 0 = x at *
      generalize s.getD (wh + k) 0 = y at *
      generalize s.getD (wh + k + 1) 0 = y2 at *
      go_wp2
      go_roundw
      case rel => exact ⟨k + 1, _, hlt, by go_num, by rw [hor.out]; exact (hset _ _).out, (hstep x).out rfl hra.1 hra.2, (hbel.setCell (Nat.le_refl _) _).setCell (Nat.le_refl _) _⟩
      case measure => simp [intOf]; omega
    · have hdone : Hide (Nt.val s = Nt.val za * 2 ^ p * 4294967296 ^ wh) := ⟨by
        have hkk : k = za.length := by omega
        have := HI.out
        rw [hkk] at this
        exact this.done⟩
      have hl := HK.out.lie (n := 0)
      have hcan := fun n hn hd => Hide.mk (Nt.can_take HI.out.rng (n := n) hn hd)
      have hval := fun n h hn => Hide.mk ((Nt.val_take (s := s) (n := n) h hn).trans hdone.out)
      have hlen := Hide.mk HI.out.len
      have hown := fun n hn hm => Hide.mk (HK.out.own (B := w.heap.size) (n := n) (Nat.le_refl _) hn hm)
      have ht := Hide.mk (fun hc hm => trim35 _ s.length s _ hl hc hm)
      rw [hlen.out] at ht hown
      clear hl
      go_wp2_with fail
      refine (ht.out (Nat.le_refl _) (by unfold maxLen; omega)).mono ?_
      rintro e w' ⟨rfl, n, hn, rfl, hz, hd⟩
      go_wp2
      go_ret
      exact ⟨_, _, rfl, (hown n hn (by unfold maxLen; omega)).out, (hcan n (by rw [hlen.out]; exact hn) hd).out, (hval n hz (by rw [hlen.out]; exact hn)).out, hbel⟩

theorem or64_hi (y x : Int) (h0 : 0 ≤ x) (h1 : x < 4294967296) (h2 : 0 ≤ y) (h3 : y < 4294967296) : bits .or .u64 (y * 4294967296) x = y * 4294967296 + x := by
  rw [u64_or _ x (by omega) (by omega) h0 (by omega)]
  have := nat_join 32 (y * 4294967296).toNat x.toNat (by omega) (by omega)
  rw [this]; omega
theorem and64_lo (t : Int) (h0 : 0 ≤ t) (h1 : t < 18446744073709551616) : bits .and .u64 t 4294967295 = t % 4294967296 := by
  rw [u64_and t _ h0 h1 (by decide) (by decide)]
  have : t.toNat &&& (4294967295 : Int).toNat = t.toNat % 2 ^ 32 := Nat.and_two_pow_sub_one_eq_mod t.toNat 32
  rw [this]
  have e : (2 : Nat) ^ 32 = 4294967296 := by decide
  rw [e]; omega

theorem down_digit (hi above x : Int) (p : Nat) (hp : p < 32) (hab : above = hi % 4294967296) (hx : 0 ≤ x) (hx' : x < 4294967296) :
    ((above * 4294967296 + x) / 2 ^ p) % 4294967296 + 4294967296 * (hi / 2 ^ p) = (x + 4294967296 * hi) / 2 ^ p := by
  obtain ⟨M, hM, hpos⟩ := two_pow_div p hp
  have hT : (0 : Int) < 2 ^ p := Int.pow_pos (by decide)
  generalize (2 : Int) ^ p = T at *
  have e1 : (above * 4294967296 + x) / T = above * M + x / T := by
    have : above * 4294967296 + x = x + T * (above * M) := by rw [hM]; grind
    rw [this, Int.add_mul_ediv_left _ _ (by omega)]; omega
  have e2 : (x + 4294967296 * hi) / T = hi * M + x / T := by
    have : x + 4294967296 * hi = x + T * (hi * M) := by rw [hM]; grind
    rw [this, Int.add_mul_ediv_left _ _ (by omega)]; omega
  rw [e1, e2]
  have h1 := Int.emod_add_mul_ediv above T
  have h2 := Int.emod_add_mul_ediv hi T
  have hr : hi % T = above % T := by
    rw [hab, Int.emod_emod_of_dvd _ ⟨M, hM⟩]
  have hr0 := Int.emod_nonneg above (show T ≠ 0 by omega)
  have hr1 := Int.emod_lt_of_pos above hT
  rw [hr] at h2
  generalize above % T = r at *
  generalize above / T = q1 at *
  generalize hi / T = q2 at *
  have hxt : x / T < M := Int.ediv_lt_of_lt_mul hT (by rw [Int.mul_comm, ← hM]; exact hx')
  have hxt0 : 0 ≤ x / T := Int.ediv_nonneg hx (by omega)
  generalize x / T = xt at *
  have hm0 : 0 ≤ r * M := Int.mul_nonneg hr0 (by omega)
  have hm1 : (r + 1) * M ≤ T * M := Int.mul_le_mul_of_nonneg_right (by omega) (by omega)
  rw [Int.add_mul, ← hM] at hm1
  have e3 : above * M + xt = (r * M + xt) + 4294967296 * q1 := by rw [← h1, hM]; grind
  rw [e3, Int.add_mul_emod_self_left, Int.emod_eq_of_lt (by omega) (by omega), ← h2, hM]
  grind

theorem val_drop_step {s : List Int} {m : Nat} (h : m < s.length) : Nt.val (s.drop m) = s.getD m 0 + 4294967296 * Nt.val (s.drop (m + 1)) := by
  rw [List.drop_eq_getElem_cons h, val_cons]
  simp [List.getD_eq_getElem?_getD, h]
theorem rng_drop {s : List Int} (h : Nt.Rng s) (m : Nat) : Nt.Rng (s.drop m) := by
  intro k
  have := h (m + k)
  simpa [List.getD_eq_getElem?_getD] using this
theorem val_drop_mod {s : List Int} (h : Nt.Rng s) (m : Nat) : Nt.val (s.drop m) % 4294967296 = s.getD m 0 := by
  by_cases c : m < s.length
  · rw [val_drop_step c]
    have := h m
    omega
  · rw [List.drop_eq_nil_of_le (by omega), getD_past (by omega)]; rfl
theorem val_drop_split {s : List Int} (m : Nat) (h : m ≤ s.length) : Nt.val s = Nt.vp s m + 4294967296 ^ m * Nt.val (s.drop m) := by
  induction m with
  | zero => simp [Nt.vp]
  | succ m ih =>
    rw [ih (by omega), val_drop_step (show m < s.length by omega), Nt.vp_step, Nt.pw_succ]
    generalize (4294967296 : Int) ^ m = P
    grind
theorem val_drop_div {s : List Int} (hr : Nt.Rng s) (m : Nat) (h : m ≤ s.length) : Nt.val (s.drop m) = Nt.val s / 4294967296 ^ m := by
  have h1 := Nt.vp_bd hr m
  have h2 := Nt.pw_pos m
  rw [val_drop_split m h, Int.add_mul_ediv_left _ _ (by omega), Int.ediv_eq_zero_of_lt h1.1 h1.2]
  omega

/-- Digits from m on are settled. -/
structure DownInv (za s : List Int) (wh p m : Nat) : Prop where
  len : s.length + wh = za.length
  rng : Nt.Rng s
  eq : Nt.val (s.drop m) = Nt.val (za.drop (wh + m)) / 2 ^ p
theorem DownInv.start {za s : List Int} {wh p n : Nat} (hn : n + wh = za.length) (hs : s = List.replicate n 0) : DownInv za s wh p n := by
  subst hs
  refine ⟨by simp; omega, fun k => by rw [getD_rep]; decide, ?_⟩
  rw [List.drop_eq_nil_of_le (by simp), List.drop_eq_nil_of_le (by omega), Nt.val_nil]
  simp
theorem DownInv.step {za s : List Int} {wh p m : Nat} (h : DownInv za s wh p (m + 1)) (hp : p < 32) (ra : Nt.Rng za) (hm : m < s.length) (x ab : Int) (hx : x = za.getD (wh + m) 0) (hab : ab = za.getD (wh + (m + 1)) 0) :
    DownInv za (s.set m ((ab * 4294967296 + x) / 2 ^ p % 4294967296)) wh p m := by
  have hl := h.len
  refine ⟨by rw [List.length_set]; exact hl, Nt.rng_set h.rng (by omega) (by omega), ?_⟩
  rw [val_drop_step (by rw [List.length_set]; exact hm), Nt.getD_set_self hm]
  have e : (s.set m ((ab * 4294967296 + x) / 2 ^ p % 4294967296)).drop (m + 1) = s.drop (m + 1) := by
    rw [List.drop_set_of_lt (by omega)]
  rw [e, h.eq, val_drop_step (s := za) (m := wh + m) (by omega), ← hx]
  have hh := ra (wh + m)
  rw [← hx] at hh
  exact down_digit _ _ _ p hp (by rw [hab, val_drop_mod ra]) hh.1 hh.2
theorem DownInv.done {za s : List Int} {wh p : Nat} (h : DownInv za s wh p 0) (ra : Nt.Rng za) : Nt.val s = Nt.val za / (4294967296 ^ wh * 2 ^ p) := by
  have e := h.eq
  have hl := h.len
  rw [List.drop_zero, Nat.add_zero, val_drop_div ra wh (by omega)] at e
  rw [e, Int.ediv_ediv_of_nonneg (Int.le_of_lt (Nt.pw_pos _))]

set_option maxHeartbeats 1000000 in
theorem shiftDown62 (a : Option Addr) (ca : Nat) (za : List Int) (w : World) (n : Int) (wh p : Nat) (hq : n / 32 = (wh : Int)) (hr : n % 32 = (p : Int)) (hn0 : 0 ≤ n) (hn1 : n ≤ 1000000) (hp : p < 32) (hw : wh ≤ za.length) (ha : Lie w a za) (ra : Nt.Rng za) (hm : za.length ≤ 100000) :
    Calls Tryz.prog 140 #[.slice a za.length ca, .int .i64 n] w fun e w' => ∃ v zs, e = .returned v ∧ Own w.heap.size w' v zs ∧ Nt.Can zs ∧ Nt.val zs = Nt.val za / (4294967296 ^ wh * 2 ^ p) ∧ Below w.heap.size w w' := by
  obtain ⟨i0, hi, hz0, hz1, hz2⟩ := info_parts Tryz.info49
  obtain ⟨t, ht⟩ : ∃ t, za.length = t + wh := ⟨za.length - wh, by omega⟩
  have HT := Hide.mk ht
  have RA := Hide.mk ra
  have HA := Hide.mk ha
  have hsub : (za.length : Int) - (wh : Int) = (t : Int) := by omega
  clear ra ha ht
  go_enter Tryz.func140, Tryz.ntmps140
  go_wp2_with (at_make; refine wpList_make_full _ rfl _ _ 24 rfl w.heap.size 108 i0 (.int .u32 0) 1 Tryz.underlying24 hi hz0 hz1 .i64 .i64 _ _ t rfl rfl (by omega) (by omega) (by rw [hz2]; omega) (by unfold maxLen; omega) (Nat.le_refl _) ?_; intro w1 hown hgrow; have hblk1 := Hide.mk (blk_made hown); have hbel1 := below_of_grown hgrow; clear hown hgrow)
  clear hi hz0 hz1 hz2 i0
  go_loopw [8, 23] (fun ab i wr => ∃ (k : Nat) (s : List Int), k ≤ t ∧ i = .int .i64 k ∧ ab = .int .u64 (za.getD (wh + (t - k)) 0) ∧ Blk wr w.heap.size s ∧ DownInv za s wh p (t - k) ∧ Below w.heap.size w wr) (fun _ i _ => t - (intOf i).toNat)
  case atStart => exact ⟨0, _, Nat.zero_le _, rfl, by rw [getD_past (by have := HT.out; omega)], hblk1.out, DownInv.start (by have := HT.out; omega) rfl, hbel1⟩
  case round =>
    obtain ⟨k, s, hk, rfl, rfl, hblk, hinv, hbel⟩ := hrel
    have HK := Hide.mk hblk
    have HI := Hide.mk hinv
    clear hblk hblk1 hbel1 hinv
    have hlen := Hide.mk HI.out.len
    by_cases hlt : k < t
    · obtain ⟨m, hm2⟩ : ∃ m, t = k + 1 + m := ⟨t - k - 1, by omega⟩
      have HM := Hide.mk hm2
      have hmt : m < t := by omega
      have e1 : t - k = m + 1 := by omega
      have e2 : t - (k + 1) = m := by omega
      have hpi : (t : Int) - 1 - (k : Int) = (m : Int) := by omega
      have E2 := Hide.mk e2
      have ht := HT.out
      obtain ⟨ba, oa, rfl⟩ := lie_some HA.out (by omega)
      have hca : wr.cell? ⟨ba, oa + (wh + m), none⟩ = _ := lie_cell (HA.out.below hbel (Nat.le_refl _)) rfl (i := wh + m) (by omega)
      have hra := RA.out (wh + m)
      have hrb := RA.out (wh + (m + 1))
      have hls : s.length = t := by have := hlen.out; omega
      have hc1 := HK.out.cell (j := m) (by omega)
      have hf1 := HK.out.frozen m
      have hi2 := HI.out
      rw [e1] at hi2
      have hstep := fun x ab => Hide.mk (fun h1 h2 => hi2.step hp RA.out (by omega) x ab h1 h2)
      have hset := fun x => Hide.mk (HK.out.set m x)
      rw [e1]
      clear HK hi2 e1 e2 hm2 ht hls HI
      generalize hx : za.getD (wh + m) 0 = x at *
      generalize za.getD (wh + (m + 1)) 0 = ab at *
      generalize s.getD m 0 = y at *
      have HX := Hide.mk hx
      clear hx
      have hor := or64_hi ab x hra.1 hra.2 hrb.1 hrb.2
      have hand : bits .and .u64 (ab * 4294967296 + x) 4294967295 = x := by rw [and64_lo _ (by omega) (by omega)]; omega
      go_wp2
      go_roundw
      case rel => exact ⟨k + 1, _, hlt, by go_num, by rw [E2.out, HX.out], (hset _).out, by rw [E2.out]; exact (hstep x ab).out rfl rfl, hbel.setCell (Nat.le_refl _) _⟩
      case measure => simp [intOf]; omega
    · have hdone : Hide (Nt.val s = Nt.val za / (4294967296 ^ wh * 2 ^ p)) := ⟨by
        have hkk : t - k = 0 := by omega
        have := HI.out
        rw [hkk] at this
        exact this.done RA.out⟩
      have hls : s.length = t := by have := hlen.out; have := HT.out; omega
      have hlen := Hide.mk hls
      have hl := HK.out.lie (n := 0)
      have hcan := fun n hn hd => Hide.mk (Nt.can_take HI.out.rng (n := n) hn hd)
      have hval := fun n h hn => Hide.mk ((Nt.val_take (s := s) (n := n) h hn).trans hdone.out)
      have hown := fun n hn hm => Hide.mk (HK.out.own (B := w.heap.size) (n := n) (Nat.le_refl _) hn hm)
      have ht := Hide.mk (fun hc hm => trim35 _ s.length s _ hl hc hm)
      rw [hlen.out] at ht hown
      clear hl hls
      go_wp2_with fail
      refine (ht.out (Nat.le_refl _) (by unfold maxLen; omega)).mono ?_
      rintro e w' ⟨rfl, n, hn, rfl, hz, hd⟩
      go_wp2
      go_ret
      exact ⟨_, _, rfl, (hown n hn (by unfold maxLen; omega)).out, (hcan n (by rw [hlen.out]; exact hn) hd).out, (hval n hz (by rw [hlen.out]; exact hn)).out, hbel⟩


set_option maxHeartbeats 4000000 in
set_option maxRecDepth 100000 in
theorem len68 (x : Int) (w : World) (h0 : 0 ≤ x) (h1 : x ≤ 4294967295) :
    Calls Tryz.prog 131 #[.int .u32 x] w fun e w' => e = .returned (.int .i64 (Lib.bitLen x.toNat)) ∧ w = w' := by
  by_cases c1 : 65536 ≤ x
  · by_cases c2 : 256 ≤ x / 65536
    · have i0 : (0 : Int) ≤ x / 65536 / 256 := by omega
      have i1 : x / 65536 / 256 ≤ 255 := by omega
      have hl := Lib.len8_of (x / 65536 / 256) i0 i1
      have hb : ((Lib.bitLen (x / 65536 / 256).toNat : Nat) : Int) ≤ 8 := by have := Lib.bitLen_le8' (x / 65536 / 256) i0 i1; omega
      have HF : Hide (((Lib.bitLen x.toNat : Nat) : Int) = 24 + ((Lib.bitLen (x / 65536 / 256).toNat : Nat) : Int)) := ⟨by
        have e : (x / 65536 / 256).toNat = x.toNat / 16777216 := by omega
        rw [e, Lib.bitLen_shift24 x.toNat (by omega) (by omega)]; omega⟩
      generalize Lib.bitLen (x / 65536 / 256).toNat = L at *
      rw [HF.out]
      go_enter Tryz.func131, Tryz.ntmps131
      go_wp2
      go_ret
      exact ⟨rfl, rfl⟩
    · have i0 : (0 : Int) ≤ x / 65536 := by omega
      have i1 : x / 65536 ≤ 255 := by omega
      have hl := Lib.len8_of (x / 65536) i0 i1
      have hb : ((Lib.bitLen (x / 65536).toNat : Nat) : Int) ≤ 8 := by have := Lib.bitLen_le8' (x / 65536) i0 i1; omega
      have HF : Hide (((Lib.bitLen x.toNat : Nat) : Int) = 16 + ((Lib.bitLen (x / 65536).toNat : Nat) : Int)) := ⟨by
        have e : (x / 65536).toNat = x.toNat / 65536 := by omega
        rw [e, Lib.bitLen_shift16 x.toNat (by omega) (by omega)]; omega⟩
      generalize Lib.bitLen (x / 65536).toNat = L at *
      rw [HF.out]
      go_enter Tryz.func131, Tryz.ntmps131
      go_wp2
      go_ret
      exact ⟨rfl, rfl⟩
  · by_cases c2 : 256 ≤ x
    · have i0 : (0 : Int) ≤ x / 256 := by omega
      have i1 : x / 256 ≤ 255 := by omega
      have hl := Lib.len8_of (x / 256) i0 i1
      have hb : ((Lib.bitLen (x / 256).toNat : Nat) : Int) ≤ 8 := by have := Lib.bitLen_le8' (x / 256) i0 i1; omega
      have HF : Hide (((Lib.bitLen x.toNat : Nat) : Int) = 8 + ((Lib.bitLen (x / 256).toNat : Nat) : Int)) := ⟨by
        have e : (x / 256).toNat = x.toNat / 256 := by omega
        rw [e, Lib.bitLen_shift8 x.toNat (by omega) (by omega)]; omega⟩
      generalize Lib.bitLen (x / 256).toNat = L at *
      rw [HF.out]
      go_enter Tryz.func131, Tryz.ntmps131
      go_wp2
      go_ret
      exact ⟨rfl, rfl⟩
    · have hl := Lib.len8_of x h0 (by omega)
      have i1 : x ≤ 255 := by omega
      have hb : ((Lib.bitLen x.toNat : Nat) : Int) ≤ 8 := by have := Lib.bitLen_le8' x h0 i1; omega
      generalize Lib.bitLen x.toNat = L at *
      go_enter Tryz.func131, Tryz.ntmps131
      go_wp2
      go_ret
      exact ⟨by first | rfl | simp, rfl⟩

theorem bitLen_bd : ∀ (f x : Nat), x < 2 ^ f → f ≤ 63 → x < 2 ^ Lib.bitLen x ∧ (x ≠ 0 → 2 ^ Lib.bitLen x ≤ 2 * x) ∧ Lib.bitLen x ≤ f := by
  intro f
  induction f with
  | zero =>
    intro x hx _
    have : x = 0 := by simpa using hx
    subst this
    decide
  | succ f ih =>
    intro x hx hf
    by_cases h0 : x = 0
    · subst h0
      refine ⟨by decide, fun h => absurd rfl h, ?_⟩
      have : Lib.bitLen 0 = 0 := by decide
      omega
    · have h64 : x < 2 ^ 64 := Nat.lt_of_lt_of_le hx (Nat.pow_le_pow_right (by decide) (by omega))
      have e := Lib.bitLen_half x h0 h64
      have h2 : x / 2 < 2 ^ f := by rw [Nat.pow_succ] at hx; omega
      obtain ⟨i1, i2, i3⟩ := ih (x / 2) h2 (by omega)
      rw [e, Nat.add_comm, Nat.pow_succ]
      refine ⟨by omega, fun _ => ?_, by omega⟩
      by_cases c : x / 2 = 0
      · rw [c]
        have : Lib.bitLen 0 = 0 := by decide
        rw [this]; simp; omega
      · have := i2 c; omega
theorem bitLen32 (x : Int) (h0 : 0 < x) (h1 : x < 4294967296) : ∃ L : Nat, Lib.bitLen x.toNat = L ∧ 1 ≤ L ∧ L ≤ 32 ∧ x < 2 ^ L ∧ (2 : Int) ^ L ≤ 2 * x := by
  have h := bitLen_bd 32 x.toNat (by have e : (2 : Nat) ^ 32 = 4294967296 := by decide
                                     omega) (by decide)
  obtain ⟨i1, i2, i3⟩ := h
  have i2 := i2 (by omega)
  refine ⟨_, rfl, ?_, i3, ?_, ?_⟩
  · by_cases c : Lib.bitLen x.toNat = 0
    · rw [c] at i1; simp at i1; omega
    · omega
  · have : ((2 ^ Lib.bitLen x.toNat : Nat) : Int) = 2 ^ Lib.bitLen x.toNat := by simp
    omega
  · have : ((2 ^ Lib.bitLen x.toNat : Nat) : Int) = 2 ^ Lib.bitLen x.toNat := by simp
    omega

set_option maxHeartbeats 1000000 in
theorem lz66 (x : Int) (w : World) (h0 : 0 ≤ x) (h1 : x ≤ 4294967295) (L : Nat) (hL : Lib.bitLen x.toNat = L) (hb : L ≤ 32) :
    Calls Tryz.prog 165 #[.int .u32 x] w fun e w' => e = .returned (.int .i64 (32 - (L : Int))) ∧ w = w' := by
  have HL := Hide.mk (len68 x w h0 h1)
  rw [hL] at HL
  clear hL
  go_enter Tryz.func165, Tryz.ntmps165
  go_wp2_with fail
  refine HL.out.mono ?_
  rintro e w' ⟨rfl, rfl⟩
  go_wp2
  go_ret
  exact ⟨rfl, rfl⟩

set_option maxHeartbeats 1000000 in
theorem clone56 (a : Option Addr) (ca : Nat) (za : List Int) (w : World) (ha : Lie w a za) (hl : za.length ≤ 1000000) :
    Calls Tryz.prog 159 #[.slice a za.length ca] w fun e w' => ∃ a' c, e = .returned (.slice a' za.length c) ∧ Own w.heap.size w' (.slice a' za.length c) za ∧ Below w.heap.size w w' := by
  obtain ⟨i0, hi, hz0, hz1, hz2⟩ := info_parts Tryz.info49
  have hown : Hide (Own w.heap.size (w.alloc (.cells #[] 108)) (.slice (some ⟨w.heap.size, 0, none⟩) 0 0) []) := ⟨World.ownsRow_made w #[] 0 (Nat.le_refl _) (by unfold maxLen; omega) (by simp)⟩
  have heq := fun (w : World) (a : Option Addr) (l c : Nat) => Lib.run_eql_slice_nil (P := Tryz.prog) w 24 108 a l c 0 0 Tryz.underlying24
  cases a with
  | none =>
    have hz : za = [] := by
      rcases ha with h | ⟨b, o, h, _⟩
      · exact h
      · cases h
    subst hz
    go_enter Tryz.func159, Tryz.ntmps159
    go_wp2
    go_ret
    exact ⟨none, 0, rfl, Own.nil _ _, Below.refl _ _⟩
  | some ad =>
    have hs : Hide (∀ j v, (za.map (Value.int .u32))[j]? = some v → (w.alloc (.cells #[] 108)).cell? (ad.add j) = some v) := ⟨by
      by_cases h0 : 0 < za.length
      · obtain ⟨ad', e, h⟩ := (ha.below (below_alloc w (.cells #[] 108)) (Nat.le_refl _)).src h0
        cases e
        exact h
      · have : za = [] := List.length_eq_zero_iff.1 (by omega)
        subst this
        intro j v h
        simp at h⟩
    have h1 := Hide.mk (oneCell_ints za)
    have hmm : Hide (0 + za.length ≤ maxLen) := ⟨by unfold maxLen; omega⟩
    clear ha
    go_enter Tryz.func159, Tryz.ntmps159
    go_wp2_with (at_builtin; refine wpList_append_own _ rfl (.tmp 5) (.tmp 6) 24 rfl w.heap.size 108 i0 (.int .u32 0) 1 4 Tryz.underlying24 hi hz0 hz1 hz2 rfl (by decide) _ 0 [] rfl hown.out ad za.length ca (za.map (Value.int .u32)) rfl (by simp) hs.out h1.out hmm.out (by omega) (by simp) ?_; intro v' w1 hown' hgrow _)
    have hown2 : Own w.heap.size w1 v' za := by
      unfold Own
      simpa using hown'
    have hb : Below w.heap.size w w1 := own_grown hown.out hgrow (below_alloc _ _) (by simp)
    obtain ⟨a', c, hv, _⟩ := hown2.lie
    have HO := Hide.mk hown2
    have HV := Hide.mk hv
    clear hown' hgrow hown2 hi hz0 hz1 hz2 hs h1 hmm hown heq
    rw [hv]
    clear hv
    go_wp2
    go_ret
    exact ⟨a', c, rfl, by rw [← HV.out]; exact HO.out, hb⟩

/-- The first digits of block g, which has c cells, are s. -/
def Rw (w : World) (g c : Nat) (s : List Int) : Prop := ∃ cur : Array Value, w.heap[g]? = some (.cells cur 108 (0, 0)) ∧ cur.size = c ∧ s.length ≤ c ∧ cur.toList.take s.length = s.map (Value.int .u32)
theorem Rw.cell {w : World} {g c : Nat} {s : List Int} (h : Rw w g c s) {j : Nat} (hj : j < s.length) : w.cell? ⟨g, j, none⟩ = some (.int .u32 (s.getD j 0)) := by
  obtain ⟨cur, h1, _, h2, h3⟩ := h
  rw [cell_of_row w g j _ 108 (0, 0) h1]
  have e : (cur.toList.take s.length)[j]? = cur.toList[j]? := by rw [List.getElem?_take, if_pos hj]
  have : cur.toList[j]? = some (.int .u32 (s.getD j 0)) := by
    rw [← e, h3]
    simp [List.getD_eq_getElem?_getD, hj]
  simpa using this
theorem Rw.frozen {w : World} {g c : Nat} {s : List Int} (h : Rw w g c s) (j : Nat) : w.frozen? ⟨g, j, none⟩ = false := by
  obtain ⟨cur, h1, _⟩ := h
  exact frozen_of_row w g j _ 108 h1
theorem Rw.set {w : World} {g c : Nat} {s : List Int} (h : Rw w g c s) (j : Nat) (x : Int) : Rw (w.setCell ⟨g, j, none⟩ (.int .u32 x)) g c (s.set j x) := by
  obtain ⟨cur, h1, h0, h2, h3⟩ := h
  refine ⟨_, heap_setCell_same w g j _ 108 _ h1, by simpa using h0, by simpa using h2, ?_⟩
  rw [List.length_set, Array.toList_setIfInBounds, List.take_set, h3, List.map_set]
theorem Own.rw {B : Nat} {w : World} {a : Option Addr} {c : Nat} {zs : List Int} (h : Own B w (.slice a zs.length c) zs) (hp : 0 < zs.length) : ∃ g, a = some ⟨g, 0, none⟩ ∧ B ≤ g ∧ Rw w g c zs ∧ zs.length ≤ c ∧ c ≤ maxLen := by
  rcases h.2 with ⟨hv, h0⟩ | ⟨g, cap, cur, hv, hB, hg, hn, hm, hsz, ht⟩
  · omega
  · simp only [Value.slice.injEq] at hv
    obtain ⟨rfl, _, rfl⟩ := hv
    exact ⟨g, rfl, hB, ⟨cur, hg, by omega, hn, by rw [Nat.mul_one] at ht; exact ht⟩, hn, hm⟩
theorem Rw.own {B : Nat} {w : World} {g c n : Nat} {s : List Int} (h : Rw w g c s) (hB : B ≤ g) (hn : n ≤ s.length) (hm : c ≤ maxLen) : Own B w (.slice (some ⟨g, 0, none⟩) n c) (s.take n) := by
  obtain ⟨cur, h1, h0, h2, h3⟩ := h
  have hl : (s.take n).length = n := by rw [List.length_take]; omega
  unfold Own
  rw [hl]
  refine ⟨by simp; omega, .inr ⟨g, c, cur, rfl, hB, h1, by omega, hm, by omega, ?_⟩⟩
  rw [Nat.mul_one, List.map_take, ← h3, List.take_take, Nat.min_eq_left hn]
theorem Rw.lie {w : World} {g c : Nat} {s : List Int} (h : Rw w g c s) : Lie w (some ⟨g, 0, none⟩) s := .inr ⟨g, 0, rfl, fun i hi => by rw [Nat.zero_add]; exact h.cell hi⟩

/-- Digits from m on are divided. -/
structure DivInv (s0 s : List Int) (d : Int) (m : Nat) (l : Int) : Prop where
  len : s.length = s0.length
  rng : Nt.Rng s
  low : ∀ j, j < m → s.getD j 0 = s0.getD j 0
  eq : Nt.val (s0.drop m) = d * Nt.val (s.drop m) + l
  l0 : 0 ≤ l
  l1 : l < d
theorem DivInv.start {s0 : List Int} {d : Int} (hr : Nt.Rng s0) (hd : 0 < d) : DivInv s0 s0 d s0.length 0 :=
  ⟨rfl, hr, fun _ _ => rfl, by rw [List.drop_eq_nil_of_le (Nat.le_refl _), Nt.val_nil]; omega, Int.le_refl _, hd⟩
theorem quo_bd {l x d : Int} (hl : 0 ≤ l) (hl' : l < d) (hx : 0 ≤ x) (hx' : x < 4294967296) : 0 ≤ (l * 4294967296 + x) / d ∧ (l * 4294967296 + x) / d < 4294967296 ∧ 0 ≤ (l * 4294967296 + x) % d ∧ (l * 4294967296 + x) % d < d := by
  have hd : 0 < d := by omega
  refine ⟨Int.ediv_nonneg (by omega) (by omega), Int.ediv_lt_of_lt_mul hd ?_, Int.emod_nonneg _ (by omega), Int.emod_lt_of_pos _ hd⟩
  omega
theorem DivInv.step {s0 s : List Int} {d l : Int} {m : Nat} (h : DivInv s0 s d (m + 1) l) (hm : m < s.length) (r0 : Nt.Rng s0) (x : Int) (hx : x = s.getD m 0) :
    DivInv s0 (s.set m ((l * 4294967296 + x) / d)) d m ((l * 4294967296 + x) % d) := by
  have hl := h.len
  have hx2 : x = s0.getD m 0 := by rw [hx]; exact h.low m (by omega)
  have hxr := r0 m
  rw [← hx2] at hxr
  have hq := quo_bd h.l0 h.l1 hxr.1 hxr.2
  refine ⟨by rw [List.length_set]; exact hl, Nt.rng_set h.rng hq.1 hq.2.1, fun j hj => ?_, ?_, hq.2.2.1, hq.2.2.2⟩
  · rw [Nt.getD_set_ne (by omega)]; exact h.low j (by omega)
  · rw [val_drop_step (s := s0) (m := m) (by omega), val_drop_step (s := s.set m _) (m := m) (by rw [List.length_set]; exact hm), Nt.getD_set_self hm, List.drop_set_of_lt (by omega), h.eq, ← hx2]
    have := Int.emod_add_mul_ediv (l * 4294967296 + x) d
    generalize (l * 4294967296 + x) % d = r at *
    generalize (l * 4294967296 + x) / d = q at *
    grind

set_option maxHeartbeats 1000000 in
theorem divideBy57 (g cap : Nat) (s0 : List Int) (d : Int) (w : World) (hrow0 : Rw w g cap s0) (hm : s0.length ≤ 1000000) (rs : Nt.Rng s0) (hd : 0 < d) (hd' : d < 4294967296) :
    Calls Tryz.prog 160 #[.slice (some ⟨g, 0, none⟩) s0.length cap, .int .u32 d] w fun e w' => ∃ s l, e = .returned (.int .u32 l) ∧ Rw w' g cap s ∧ DivInv s0 s d 0 l ∧ w.grownBy w' (some g) := by
  have RS := Hide.mk rs
  have HK := Hide.mk hrow0
  clear rs hrow0
  have hne : (d == 0) = false := by simp; omega
  go_enter Tryz.func160, Tryz.ntmps160
  go_wp2
  go_loopw [5, 11] (fun c i wr => ∃ (k : Nat) (s : List Int) (l : Int), k ≤ s0.length ∧ i = .int .i64 k ∧ c = .int .u64 l ∧ 0 ≤ l ∧ l < d ∧ Rw wr g cap s ∧ DivInv s0 s d (s0.length - k) l ∧ w.grownBy wr (some g)) (fun _ i _ => s0.length - (intOf i).toNat)
  case atStart => exact ⟨0, _, 0, Nat.zero_le _, rfl, rfl, by decide, hd, HK.out, DivInv.start RS.out hd, grown_refl _ _⟩
  case round =>
    obtain ⟨k, s, l, hk, rfl, rfl, hl0, hl1, hrow, hinv, hgr⟩ := hrel
    have HG := Hide.mk hgr
    have HR := Hide.mk hrow
    have HI := Hide.mk hinv
    clear hgr hrow hinv
    by_cases hlt : k < s0.length
    · obtain ⟨m, hm2⟩ : ∃ m, s0.length = k + 1 + m := ⟨s0.length - k - 1, by omega⟩
      have e1 : s0.length - k = m + 1 := by omega
      have e2 : s0.length - (k + 1) = m := by omega
      have hpi : (s0.length : Int) - 1 - (k : Int) = (m : Int) := by omega
      have hm0 : m < s0.length := by omega
      have E2 := Hide.mk e2
      have hi2 := HI.out
      rw [e1] at hi2
      have hls : m < s.length := by rw [hi2.len]; omega
      have hc1 := HR.out.cell hls
      have hf1 := HR.out.frozen m
      have hrx : 0 ≤ s.getD m 0 ∧ s.getD m 0 < 4294967296 := hi2.rng m
      have hstep := fun x => Hide.mk (fun h => hi2.step hls RS.out x h)
      have hset := fun x => Hide.mk (HR.out.set m x)
      clear hi2 e1 e2 hm2 HI HR
      generalize s.getD m 0 = x at *
      have hor := or64_hi l x hrx.1 hrx.2 hl0 (by omega)
      have hqb := quo_bd hl0 hl1 hrx.1 hrx.2
      go_wp2
      go_roundw
      case rel => exact ⟨k + 1, _, _, hlt, by go_num, rfl, hqb.2.2.1, hqb.2.2.2, (hset _).out, by rw [E2.out]; exact (hstep x).out rfl, grown_trans HG.out (grown_set _ _ _ _)⟩
      case measure => simp [intOf]; omega
    · have hinv2 : Hide (DivInv s0 s d 0 l) := ⟨by
        have hkk : s0.length - k = 0 := by omega
        have := HI.out
        rw [hkk] at this; exact this⟩
      go_wp2
      go_ret
      exact ⟨s, l, by first | rfl | go_num, HR.out, hinv2.out, HG.out⟩

/-- k digits of q times v are taken from T0: what is left is T, and c is borrowed. -/
structure TakeInv (T0 zv : List Int) (q : Int) (T : List Int) (k : Nat) (c : Int) : Prop where
  len : T.length = T0.length
  rng : Nt.Rng T
  eq : Nt.vp T k - c * 4294967296 ^ k = Nt.vp T0 k - q * Nt.vp zv k
  rest : ∀ j, k ≤ j → T.getD j 0 = T0.getD j 0
theorem TakeInv.start {T0 zv : List Int} {q : Int} (h : Nt.Rng T0) : TakeInv T0 zv q T0 0 0 := ⟨rfl, h, by simp [Nt.vp], fun _ _ => rfl⟩
theorem TakeInv.step {T0 zv T : List Int} {k : Nat} {q c x n c' : Int} (h : TakeInv T0 zv q T k c) (hk : k < T.length) (hx : x = zv.getD k 0) (hn : n - c' * 4294967296 = T.getD k 0 - x * q - c) (h0 : 0 ≤ n) (h1 : n < 4294967296) :
    TakeInv T0 zv q (T.set k n) (k + 1) c' := by
  refine ⟨by rw [List.length_set]; exact h.len, Nt.rng_set h.rng h0 h1, ?_, fun j hj => ?_⟩
  · have he := h.eq
    have hr := h.rest k (Nat.le_refl _)
    rw [Nt.vp_step, Nt.vp_step, Nt.vp_step, Nt.vp_set (Nat.le_refl _), Nt.getD_set_self hk, Nt.pw_succ, ← hr, ← hx]
    generalize (4294967296 : Int) ^ k = K at *
    grind
  · rw [Nt.getD_set_ne (by omega)]; exact h.rest j (by omega)
theorem getD_pre {P T : List Int} {off k : Nat} (h : P.length = off) : (P ++ T).getD (off + k) 0 = T.getD k 0 := by
  subst h; rw [List.getD_eq_getElem?_getD, List.getElem?_append_right (by omega)]; simp [List.getD_eq_getElem?_getD]
theorem set_pre {P T : List Int} {off k : Nat} {x : Int} (h : P.length = off) : (P ++ T).set (off + k) x = P ++ T.set k x := by
  subst h; rw [List.set_append_right _ _ (by omega)]; simp
theorem rng_pre {P T : List Int} (hP : Nt.Rng P) (hT : Nt.Rng T) : Nt.Rng (P ++ T) := by
  intro k
  by_cases c : k < P.length
  · have := hP k
    simpa [List.getD_eq_getElem?_getD, List.getElem?_append, c] using this
  · have := hT (k - P.length)
    have e : (P ++ T).getD k 0 = T.getD (k - P.length) 0 := by
      have := getD_pre (P := P) (T := T) (off := P.length) (k := k - P.length) rfl
      rw [show P.length + (k - P.length) = k by omega] at this
      exact this
    rw [e]; exact this

/-- The borrow of one column: t is x q and what was borrowed, u the digit. -/
theorem take_col {u t : Int} (hu : 0 ≤ u) (hu' : u < 4294967296) (ht : 0 ≤ t) (ht' : t ≤ 18446744069414584320) :
    ((u - t % 4294967296) % 18446744073709551616) % 4294967296 - (t / 4294967296 + (u - t % 4294967296) % 18446744073709551616 / 9223372036854775808) * 4294967296 = u - t ∧ 0 ≤ t / 4294967296 + (u - t % 4294967296) % 18446744073709551616 / 9223372036854775808 ∧ t / 4294967296 + (u - t % 4294967296) % 18446744073709551616 / 9223372036854775808 ≤ 4294967295 := by omega

theorem wrap_u64_mod (n : Int) : IntKind.u64.wrap n = n % 18446744073709551616 := by simp [IntKind.wrap, IntKind.bits, IntKind.signed]
theorem take_colw {u t : Int} (hu : 0 ≤ u) (hu' : u < 4294967296) (ht : 0 ≤ t) (ht' : t ≤ 18446744069414584320) :
    IntKind.u64.wrap (u - t % 4294967296) % 4294967296 - IntKind.u64.wrap (t / 4294967296 + IntKind.u64.wrap (u - t % 4294967296) / 9223372036854775808) * 4294967296 = u - t ∧ 0 ≤ IntKind.u64.wrap (t / 4294967296 + IntKind.u64.wrap (u - t % 4294967296) / 9223372036854775808) ∧ IntKind.u64.wrap (t / 4294967296 + IntKind.u64.wrap (u - t % 4294967296) / 9223372036854775808) ≤ 4294967295 := by
  have h := take_col hu hu' ht ht'
  rw [wrap_u64_mod, wrap_u64_mod]
  omega
/-- The last column. -/
theorem take_top {u c : Int} (hu : 0 ≤ u) (hu' : u < 4294967296) (hc : 0 ≤ c) (hc' : c ≤ 4294967295) :
    IntKind.u64.wrap (u - c) % 4294967296 = u - c + (if IntKind.u64.wrap (u - c) / 9223372036854775808 != 0 then 4294967296 else 0) := by
  rw [wrap_u64_mod]
  by_cases h : u < c
  · have e : (u - c) % 18446744073709551616 / 9223372036854775808 = 1 := by omega
    rw [e]; simp; omega
  · have e : (u - c) % 18446744073709551616 / 9223372036854775808 = 0 := by omega
    rw [e]; simp; omega
theorem TakeInv.done {T0 zv T : List Int} {q c n : Int} {f : Bool} (h : TakeInv T0 zv q T zv.length c) (hl : zv.length < T.length) (hn : n = T.getD zv.length 0 - c + (if f then 4294967296 else 0)) :
    Nt.vp (T.set zv.length n) (zv.length + 1) = Nt.vp T0 (zv.length + 1) - q * Nt.val zv + (if f then 4294967296 ^ (zv.length + 1) else 0) := by
  have he := h.eq
  have hr := h.rest zv.length (Nat.le_refl _)
  have ev : Nt.vp zv zv.length = Nt.val zv := rfl
  rw [ev] at he
  rw [Nt.vp_step, Nt.vp_step, Nt.vp_set (Nat.le_refl _), Nt.getD_set_self hl, Nt.pw_succ, ← hr]
  generalize (4294967296 : Int) ^ zv.length = K at *
  cases f
  · simp only [Bool.false_eq_true, if_false] at hn ⊢
    subst hn
    grind
  · simp only [if_true] at hn ⊢
    subst hn
    grind

set_option maxHeartbeats 2000000 in
theorem take71 (g off cu : Nat) (b : Option Addr) (cb : Nat) (P T0 zv : List Int) (q : Int) (w : World) (hblk0 : Blk w g (P ++ T0)) (hP : P.length = off) (hT : zv.length + 1 ≤ T0.length) (hs : (P ++ T0).length ≤ 1000000) (hb : Lie w b zv)
    (hne : 0 < zv.length → ∀ x, b = some x → x.block ≠ g) (rT : Nt.Rng T0) (rv : Nt.Rng zv) (hq : 0 ≤ q) (hq' : q < 4294967296) :
    Calls Tryz.prog 168 #[.slice (some ⟨g, off, none⟩) (zv.length + 1) cu, .slice b zv.length cb, .int .u32 q] w fun e w' => ∃ T f, e = .returned (.bool f) ∧ Blk w' g (P ++ T) ∧ T.length = T0.length ∧ Nt.Rng T ∧ Nt.vp T (zv.length + 1) = Nt.vp T0 (zv.length + 1) - q * Nt.val zv + (if f then 4294967296 ^ (zv.length + 1) else 0) ∧ (∀ j, zv.length + 1 ≤ j → T.getD j 0 = T0.getD j 0) ∧ w.grownBy w' (some g) := by
  have RV := Hide.mk rv
  have RT := Hide.mk rT
  have HB := Hide.mk hb
  have HN := Hide.mk hne
  have HK := Hide.mk hblk0
  have HP := Hide.mk hP
  have hls : off + T0.length ≤ 1000000 := by rw [List.length_append, hP] at hs; exact hs
  clear rv rT hb hne hblk0 hP hs
  go_enter Tryz.func168, Tryz.ntmps168
  go_wp2
  go_loopw [8, 18] (fun c i wr => ∃ (k : Nat) (T : List Int) (cc : Int), k ≤ zv.length ∧ i = .int .i64 k ∧ c = .int .u64 cc ∧ 0 ≤ cc ∧ cc ≤ 4294967295 ∧ Blk wr g (P ++ T) ∧ TakeInv T0 zv q T k cc ∧ w.grownBy wr (some g)) (fun _ i _ => zv.length - (intOf i).toNat)
  case atStart => exact ⟨0, _, 0, Nat.zero_le _, rfl, rfl, by decide, by decide, HK.out, TakeInv.start RT.out, grown_refl _ _⟩
  case round =>
    obtain ⟨k, T, cc, hk, rfl, rfl, hc0, hc1, hblk, hinv, hgr⟩ := hrel
    have HG := Hide.mk hgr
    have HI := Hide.mk hinv
    have HR := Hide.mk hblk
    clear hgr hblk hinv
    have hlT : Hide (T.length = T0.length) := ⟨HI.out.len⟩
    by_cases hlt : k < zv.length
    · have hkT : k < T.length := by rw [hlT.out]; omega
      have hcs := HR.out.cell (j := off + k) (by rw [List.length_append, HP.out]; omega)
      have hfs := HR.out.frozen (off + k)
      rw [getD_pre HP.out] at hcs
      have hset := fun x => Hide.mk (HR.out.set (off + k) x)
      simp only [set_pre HP.out] at hset
      have hstep := fun x n c' => Hide.mk (fun h1 h2 h3 h4 => HI.out.step (x := x) (n := n) (c' := c') hkT h1 h2 h3 h4)
      have hrs := HI.out.rng k
      have hrb := RV.out k
      obtain ⟨bb, bo, rfl⟩ := lie_some HB.out (by omega)
      have hcb : wr.cell? ⟨bb, bo + k, none⟩ = some (.int .u32 (zv.getD k 0)) :=
        HG.out.cell (lie_cell HB.out rfl hlt) (by have := HN.out (by omega) _ rfl; simpa using this)
      clear HI HR hkT
      generalize T.getD k 0 = y at *
      generalize zv.getD k 0 = x at *
      have hxd := mul_bd hrb.1 hrb.2 hq hq'
      have hand := and64_lo (x * q + cc) (by omega) (by omega)
      have HC := Hide.mk (take_colw (u := y) (t := x * q + cc) hrs.1 hrs.2 (by omega) (by omega))
      go_wp2
      go_roundw
      case rel => exact ⟨k + 1, _, _, hlt, by go_num, rfl, HC.out.2.1, HC.out.2.2, (hset _).out, (hstep x _ _).out rfl (by have := HC.out.1; omega) (by omega) (by omega), grown_trans HG.out (grown_set _ _ _ _)⟩
      case measure => simp [intOf]; omega
    · have hinv2 : Hide (TakeInv T0 zv q T zv.length cc) := ⟨by
        have hkk : k = zv.length := by omega
        rw [← hkk]; exact HI.out⟩
      have hkT : zv.length < T.length := by rw [hlT.out]; omega
      have hcs := HR.out.cell (j := off + zv.length) (by rw [List.length_append, HP.out]; omega)
      have hfs := HR.out.frozen (off + zv.length)
      rw [getD_pre HP.out] at hcs
      have hset := fun x => Hide.mk (HR.out.set (off + zv.length) x)
      simp only [set_pre HP.out] at hset
      have hrs := hinv2.out.rng zv.length
      have hdone := fun n f => Hide.mk (hinv2.out.done (n := n) (f := f) hkT)
      have htop := Hide.mk (take_top hrs.1 hrs.2 hc0 hc1)
      have hrest : Hide (∀ n j, zv.length + 1 ≤ j → (T.set zv.length n).getD j 0 = T0.getD j 0) := ⟨fun n j hj => by rw [Nt.getD_set_ne (by omega)]; exact hinv2.out.rest j (by omega)⟩
      have hrng : Hide (∀ n, 0 ≤ n → n < 4294967296 → Nt.Rng (T.set zv.length n)) := ⟨fun n h0 h1 => Nt.rng_set hinv2.out.rng h0 h1⟩
      clear HI HR hinv2 hkT
      generalize T.getD zv.length 0 = y at *
      go_wp2
      go_ret
      exact ⟨T.set zv.length (IntKind.u64.wrap (y - cc) % 4294967296), IntKind.u64.wrap (y - cc) / 9223372036854775808 != 0, rfl, (hset _).out, by rw [List.length_set]; exact hlT.out, hrng.out _ (by omega) (by omega), (hdone _ _).out htop.out, hrest.out _, grown_trans HG.out (grown_set _ _ _ _)⟩

/-- k digits of v are added to T0: T, with carry c. -/
structure GiveInv (T0 zv T : List Int) (k : Nat) (c : Int) : Prop where
  len : T.length = T0.length
  rng : Nt.Rng T
  eq : Nt.vp T k + c * 4294967296 ^ k = Nt.vp T0 k + Nt.vp zv k
  rest : ∀ j, k ≤ j → T.getD j 0 = T0.getD j 0
theorem GiveInv.start {T0 zv : List Int} (h : Nt.Rng T0) : GiveInv T0 zv T0 0 0 := ⟨rfl, h, by simp [Nt.vp], fun _ _ => rfl⟩
theorem GiveInv.step {T0 zv T : List Int} {k : Nat} {c x : Int} (h : GiveInv T0 zv T k c) (hk : k < T.length) (hx : x = zv.getD k 0) :
    GiveInv T0 zv (T.set k ((T.getD k 0 + x + c) % 4294967296)) (k + 1) ((T.getD k 0 + x + c) / 4294967296) := by
  refine ⟨by rw [List.length_set]; exact h.len, Nt.rng_set h.rng (by omega) (by omega), ?_, fun j hj => ?_⟩
  · exact Nt.sum_step hk h.eq (h.rest k (Nat.le_refl _)) hx (by omega)
  · rw [Nt.getD_set_ne (by omega)]; exact h.rest j (by omega)
theorem GiveInv.done {T0 zv T : List Int} {c : Int} (h : GiveInv T0 zv T zv.length c) (hl : zv.length < T.length) :
    Nt.vp (T.set zv.length ((T.getD zv.length 0 + c) % 4294967296)) (zv.length + 1) = Nt.vp T0 (zv.length + 1) + Nt.val zv - (T.getD zv.length 0 + c) / 4294967296 * 4294967296 ^ (zv.length + 1) := by
  have he := h.eq
  have hr := h.rest zv.length (Nat.le_refl _)
  have ev : Nt.vp zv zv.length = Nt.val zv := rfl
  rw [ev] at he
  have hn : (T.getD zv.length 0 + c) % 4294967296 + (T.getD zv.length 0 + c) / 4294967296 * 4294967296 = T.getD zv.length 0 + c := by omega
  rw [Nt.vp_step, Nt.vp_step, Nt.vp_set (Nat.le_refl _), Nt.getD_set_self hl, Nt.pw_succ, ← hr]
  generalize (T.getD zv.length 0 + c) % 4294967296 = n at *
  generalize (T.getD zv.length 0 + c) / 4294967296 = f at *
  generalize (4294967296 : Int) ^ zv.length = K at *
  grind

set_option maxHeartbeats 2000000 in
theorem give72 (g off cu : Nat) (b : Option Addr) (cb : Nat) (P T0 zv : List Int) (w : World) (hblk0 : Blk w g (P ++ T0)) (hP : P.length = off) (hT : zv.length + 1 ≤ T0.length) (hs : (P ++ T0).length ≤ 1000000) (hb : Lie w b zv)
    (hne : 0 < zv.length → ∀ x, b = some x → x.block ≠ g) (rT : Nt.Rng T0) (rv : Nt.Rng zv) :
    Calls Tryz.prog 169 #[.slice (some ⟨g, off, none⟩) (zv.length + 1) cu, .slice b zv.length cb] w fun e w' => ∃ T f, e = .returned (.tuple #[]) ∧ Blk w' g (P ++ T) ∧ T.length = T0.length ∧ Nt.Rng T ∧ 0 ≤ f ∧ f ≤ 1 ∧ Nt.vp T (zv.length + 1) = Nt.vp T0 (zv.length + 1) + Nt.val zv - f * 4294967296 ^ (zv.length + 1) ∧ (∀ j, zv.length + 1 ≤ j → T.getD j 0 = T0.getD j 0) ∧ w.grownBy w' (some g) := by
  have RV := Hide.mk rv
  have RT := Hide.mk rT
  have HB := Hide.mk hb
  have HN := Hide.mk hne
  have HK := Hide.mk hblk0
  have HP := Hide.mk hP
  have hls : off + T0.length ≤ 1000000 := by rw [List.length_append, hP] at hs; exact hs
  clear rv rT hb hne hblk0 hP hs
  go_enter Tryz.func169, Tryz.ntmps169
  go_wp2
  go_loopw [4, 9] (fun c i wr => ∃ (k : Nat) (T : List Int) (cc : Int), k ≤ zv.length ∧ i = .int .i64 k ∧ c = .int .u32 cc ∧ 0 ≤ cc ∧ cc ≤ 1 ∧ Blk wr g (P ++ T) ∧ GiveInv T0 zv T k cc ∧ w.grownBy wr (some g)) (fun _ i _ => zv.length - (intOf i).toNat)
  case atStart => exact ⟨0, _, 0, Nat.zero_le _, rfl, rfl, by decide, by decide, HK.out, GiveInv.start RT.out, grown_refl _ _⟩
  case round =>
    obtain ⟨k, T, cc, hk, rfl, rfl, hc0, hc1, hblk, hinv, hgr⟩ := hrel
    have HG := Hide.mk hgr
    have HI := Hide.mk hinv
    have HR := Hide.mk hblk
    clear hgr hblk hinv
    have hlT : Hide (T.length = T0.length) := ⟨HI.out.len⟩
    by_cases hlt : k < zv.length
    · have hkT : k < T.length := by rw [hlT.out]; omega
      have hcs := HR.out.cell (j := off + k) (by rw [List.length_append, HP.out]; omega)
      have hfs := HR.out.frozen (off + k)
      rw [getD_pre HP.out] at hcs
      have hset := fun x => Hide.mk (HR.out.set (off + k) x)
      simp only [set_pre HP.out] at hset
      have hstep := fun x => Hide.mk (fun h1 => HI.out.step (x := x) hkT h1)
      have hrs := HI.out.rng k
      have hrb := RV.out k
      obtain ⟨bb, bo, rfl⟩ := lie_some HB.out (by omega)
      have hcb : wr.cell? ⟨bb, bo + k, none⟩ = some (.int .u32 (zv.getD k 0)) :=
        HG.out.cell (lie_cell HB.out rfl hlt) (by have := HN.out (by omega) _ rfl; simpa using this)
      clear HI HR hkT
      generalize T.getD k 0 = y at *
      generalize zv.getD k 0 = x at *
      go_wp2_with (go_at_call 162; refine (add32 _ _ _ (by omega) (by omega) (by omega) (by omega) (by omega) (by omega) _).mono ?_; rintro e w' ⟨rfl, rfl⟩)
      go_roundw
      case rel => exact ⟨k + 1, _, _, hlt, by go_num, rfl, by omega, by omega, (hset _).out, (hstep x).out rfl, grown_trans HG.out (grown_set _ _ _ _)⟩
      case measure => simp [intOf]; omega
    · have hinv2 : Hide (GiveInv T0 zv T zv.length cc) := ⟨by
        have hkk : k = zv.length := by omega
        rw [← hkk]; exact HI.out⟩
      have hkT : zv.length < T.length := by rw [hlT.out]; omega
      have hcs := HR.out.cell (j := off + zv.length) (by rw [List.length_append, HP.out]; omega)
      have hfs := HR.out.frozen (off + zv.length)
      rw [getD_pre HP.out] at hcs
      have hset := fun x => Hide.mk (HR.out.set (off + zv.length) x)
      simp only [set_pre HP.out] at hset
      have hrs := hinv2.out.rng zv.length
      have hdone := Hide.mk (hinv2.out.done hkT)
      have hrest : Hide (∀ n j, zv.length + 1 ≤ j → (T.set zv.length n).getD j 0 = T0.getD j 0) := ⟨fun n j hj => by rw [Nt.getD_set_ne (by omega)]; exact hinv2.out.rest j (by omega)⟩
      have hrng : Hide (∀ n, 0 ≤ n → n < 4294967296 → Nt.Rng (T.set zv.length n)) := ⟨fun n h0 h1 => Nt.rng_set hinv2.out.rng h0 h1⟩
      clear HI HR hinv2 hkT
      generalize T.getD zv.length 0 = y at *
      go_wp2
      go_end0
      exact ⟨T.set zv.length ((y + cc) % 4294967296), (y + cc) / 4294967296, rfl, (hset _).out, by rw [List.length_set]; exact hlT.out, hrng.out _ (by omega) (by omega), by omega, by omega, hdone.out, hrest.out _, grown_trans HG.out (grown_set _ _ _ _)⟩

/-- A digit that is guessed from three digits by two: what the loop keeps. -/
structure GuInv (hi nx a b c q l : Int) : Prop where
  eq : q * hi + l = a * 4294967296 + b
  q0 : 0 ≤ q
  l0 : 0 ≤ l
  mx : 4294967295 < q + 1 ∨ (a * 4294967296 + b) * 4294967296 + c < (q + 1) * (hi * 4294967296 + nx)
theorem GuInv.start {hi nx a b c : Int} (hh : 2147483648 ≤ hi) (hn : 0 ≤ nx) (ha : 0 ≤ a) (hb : 0 ≤ b) (hc : c < 4294967296) : GuInv hi nx a b c ((a * 4294967296 + b) / hi) ((a * 4294967296 + b) % hi) := by
  have h1 := Int.emod_add_mul_ediv (a * 4294967296 + b) hi
  have h2 := Int.emod_nonneg (a * 4294967296 + b) (show hi ≠ 0 by omega)
  have h3 := Int.emod_lt_of_pos (a * 4294967296 + b) (show 0 < hi by omega)
  have h4 : 0 ≤ (a * 4294967296 + b) / hi := Int.ediv_nonneg (by omega) (by omega)
  refine ⟨?_, h4, h2, .inr ?_⟩
  · rw [Int.mul_comm]; omega
  · generalize (a * 4294967296 + b) / hi = q at *
    have h5 : 0 ≤ (q + 1) * nx := Int.mul_nonneg (by omega) hn
    have h6 : (q + 1) * (hi * 4294967296 + nx) = (hi * q + hi) * 4294967296 + (q + 1) * nx := by grind
    rw [h6]
    generalize (q + 1) * nx = y at *
    generalize hi * q = z at *
    omega
theorem GuInv.down {hi nx a b c q l : Int} (h : GuInv hi nx a b c q l) (hq : 4294967295 < q ∨ l * 4294967296 + c < q * nx) (hq1 : 1 ≤ q) (hh : 0 ≤ hi) : GuInv hi nx a b c (q - 1) (l + hi) := by
  have he := h.eq
  have hl := h.l0
  refine ⟨by rw [Int.sub_mul]; omega, by omega, by omega, ?_⟩
  rw [show q - 1 + 1 = q by omega]
  rcases hq with hq | hq
  · exact .inl hq
  · refine .inr ?_
    rw [← he]
    have : q * (hi * 4294967296 + nx) = q * hi * 4294967296 + q * nx := by grind
    rw [this]
    generalize q * hi = z at *
    generalize q * nx = y at *
    omega
/-- What is told: the greatest digit that will do for the highest digits. -/
structure Guess (hi nx a b c q : Int) : Prop where
  q0 : 0 ≤ q
  q1 : q ≤ 4294967295
  le : q * (hi * 4294967296 + nx) ≤ (a * 4294967296 + b) * 4294967296 + c
  mx : 4294967295 < q + 1 ∨ (a * 4294967296 + b) * 4294967296 + c < (q + 1) * (hi * 4294967296 + nx)
theorem GuInv.done {hi nx a b c q l : Int} (h : GuInv hi nx a b c q l) (hq : q ≤ 4294967295) (hx : q * nx ≤ l * 4294967296 + c) : Guess hi nx a b c q := by
  refine ⟨h.q0, hq, ?_, h.mx⟩
  have he := h.eq
  rw [← he]
  have : q * (hi * 4294967296 + nx) = q * hi * 4294967296 + q * nx := by grind
  rw [this]
  generalize q * hi = z at *
  generalize q * nx = y at *
  omega
theorem GuInv.over {hi nx a b c q l : Int} (h : GuInv hi nx a b c q l) (hl : 4294967295 < l) (hh : 2147483648 ≤ hi) (hab : a ≤ hi) (hb : b < 4294967296) (hc : 0 ≤ c) (hn : 0 ≤ nx) (hn' : nx < 4294967296) : Guess hi nx a b c q := by
  have he := h.eq
  have hq0 := h.q0
  have hq : q < 4294967296 := by
    by_cases g : q < 4294967296
    · exact g
    · have h1 : 4294967296 * hi ≤ q * hi := Int.mul_le_mul_of_nonneg_right (by omega) (by omega)
      generalize q * hi = z at *
      omega
  have h2 : q * nx ≤ 4294967296 * 4294967296 := Int.mul_le_mul (by omega) (by omega) hn (by decide)
  exact h.done (by omega) (by omega)

set_option maxHeartbeats 4000000 in
theorem guess70 (g off cu bb bo cb m : Nat) (hi nx ua ub uc : Int) (w : World)
    (h1 : w.cell? ⟨bb, bo + (m + 1), none⟩ = some (.int .u32 hi)) (h2 : w.cell? ⟨bb, bo + m, none⟩ = some (.int .u32 nx))
    (h3 : w.cell? ⟨g, off + (m + 2), none⟩ = some (.int .u32 ua)) (h4 : w.cell? ⟨g, off + (m + 1), none⟩ = some (.int .u32 ub)) (h5 : w.cell? ⟨g, off + m, none⟩ = some (.int .u32 uc))
    (hm : m ≤ 1000000) (hh : 2147483648 ≤ hi) (hh' : hi < 4294967296) (hn : 0 ≤ nx) (hn' : nx < 4294967296) (ha : 0 ≤ ua) (ha' : ua ≤ hi) (hb : 0 ≤ ub) (hb' : ub < 4294967296) (hc : 0 ≤ uc) (hc' : uc < 4294967296) :
    Calls Tryz.prog 167 #[.slice (some ⟨g, off, none⟩) (m + 3) cu, .slice (some ⟨bb, bo, none⟩) (m + 2) cb] w fun e w' => ∃ q, e = .returned (.int .u32 q) ∧ Guess hi nx ua ub uc q ∧ Below w.heap.size w w' := by
  have hor := or64_hi ua ub hb hb' ha (by omega)
  have hne : (hi == 0) = false := by simp; omega
  have HS := Hide.mk (GuInv.start (hi := hi) (nx := nx) (a := ua) (b := ub) (c := uc) hh hn ha hb hc')
  go_enter Tryz.func167, Tryz.ntmps167
  go_wp2
  go_region
  all_goals go_wp2
  go_region
  all_goals go_wp2
  go_region
  all_goals go_wp2
  have hst := HS.out
  have hl0 := hst.l0
  have hl1 := Int.emod_lt_of_pos (ua * 4294967296 + ub) (show 0 < hi by omega)
  have hqt : (ua * 4294967296 + ub) / hi < 18446744073709551616 := by
    refine Int.ediv_lt_of_lt_mul (by omega) ?_
    omega
  have HQ := Hide.mk hqt
  clear hst hqt
  go_loopw [9, 10] (fun qv lv wr => ∃ q l : Int, qv = .int .u64 q ∧ lv = .int .u64 l ∧ q ≤ 18446744073709551615 ∧ l ≤ 4294967295 ∧ GuInv hi nx ua ub uc q l ∧ Below w.heap.size w wr) (fun _ lv _ => (4294967296 - intOf lv).toNat)
  case atStart => exact ⟨_, _, rfl, rfl, by have := HQ.out; omega, by omega, HS.out, (Below.refl _ _).drew.drew.drew⟩
  case round =>
    obtain ⟨q, l, rfl, rfl, hq, hl, hinv, hbel⟩ := hrel
    have h5r : wr.cell? ⟨g, off + m, none⟩ = some (.int .u32 uc) := by rw [hbel.cell (World.block_lt_of_cell? w _ h5)]; exact h5
    have HI := Hide.mk hinv
    have hq0 := hinv.q0
    have hl00 := hinv.l0
    clear hinv hl0 hl1 h1 h2 h3 h4 h5 hor
    have hor2 := or64_hi l uc hc hc' hl00 (by omega)
    by_cases hbig : 4294967295 < q
    · have HD := Hide.mk (HI.out.down (.inl hbig) (by omega) (by omega))
      by_cases hov : 4294967295 < l + hi
      · have HO := Hide.mk (HD.out.over hov hh ha' hb' hc hn hn')
        go_wp2
        go_ret
        exact ⟨q - 1, by have := HO.out.q1; have := HO.out.q0; go_num, HO.out, hbel⟩
      · go_wp2
        go_roundw
        case rel => exact ⟨q - 1, l + hi, rfl, rfl, by omega, by omega, HD.out, hbel⟩
        case measure => simp [intOf]; omega
    · have hnb := mul_bd hq0 (show q < 4294967296 by omega) hn hn'
      by_cases hbig2 : l * 4294967296 + uc < q * nx
      · have hq1 : 1 ≤ q := by
          by_cases g : q = 0
          · subst g; simp at hbig2; omega
          · omega
        have HD := Hide.mk (HI.out.down (.inr hbig2) hq1 (by omega))
        by_cases hov : 4294967295 < l + hi
        · have HO := Hide.mk (HD.out.over hov hh ha' hb' hc hn hn')
          go_wp2
          go_ret
          exact ⟨q - 1, by have := HO.out.q1; have := HO.out.q0; go_num, HO.out, hbel⟩
        · go_wp2
          go_roundw
          case rel => exact ⟨q - 1, l + hi, rfl, rfl, by omega, by omega, HD.out, hbel⟩
          case measure => simp [intOf]; omega
      · have HO := Hide.mk (HI.out.done (by omega) (by omega))
        go_wp2
        go_ret
        exact ⟨q, by have := HO.out.q1; have := HO.out.q0; go_num, HO.out, hbel⟩

theorem guess_fits {zv T0 : List Int} {m : Nat} {q : Int} (hl : zv.length = m + 2) (rv : Nt.Rng zv) (rT : Nt.Rng T0) (hh : 2147483648 ≤ zv.getD (m + 1) 0) (hU : Nt.vp T0 (m + 3) < Nt.val zv * 4294967296)
    (h : Guess (zv.getD (m + 1) 0) (zv.getD m 0) (T0.getD (m + 2) 0) (T0.getD (m + 1) 0) (T0.getD m 0) q) :
    -Nt.val zv < Nt.vp T0 (m + 3) - q * Nt.val zv ∧ Nt.vp T0 (m + 3) - q * Nt.val zv < Nt.val zv := by
  have eV : Nt.val zv = Nt.vp zv m + (zv.getD (m + 1) 0 * 4294967296 + zv.getD m 0) * 4294967296 ^ m := by
    unfold Nt.val
    rw [hl, Nt.vp_step, Nt.vp_step, Nt.pw_succ]
    generalize (4294967296 : Int) ^ m = M
    grind
  have eU : Nt.vp T0 (m + 3) = Nt.vp T0 m + ((T0.getD (m + 2) 0 * 4294967296 + T0.getD (m + 1) 0) * 4294967296 + T0.getD m 0) * 4294967296 ^ m := by
    rw [Nt.vp_step, Nt.vp_step, Nt.vp_step, Nt.pw_succ (m + 1), Nt.pw_succ m]
    generalize (4294967296 : Int) ^ m = M
    grind
  have bv := Nt.vp_bd rv m
  have bu := Nt.vp_bd rT m
  have hM := Nt.pw_pos m
  have hn := rv m
  obtain ⟨q0, q1, le, mx⟩ := h
  generalize Nt.val zv = V at *
  generalize Nt.vp T0 (m + 3) = U at *
  generalize Nt.vp zv m = v at *
  generalize Nt.vp T0 m = u at *
  generalize (T0.getD (m + 2) 0 * 4294967296 + T0.getD (m + 1) 0) * 4294967296 + T0.getD m 0 = U3 at *
  generalize hV2 : zv.getD (m + 1) 0 * 4294967296 + zv.getD m 0 = V2 at *
  generalize (4294967296 : Int) ^ m = M at *
  have hV2b : 4294967296 ≤ V2 := by omega
  constructor
  · -- q V < U + V
    have h1 : q * V2 * M ≤ U3 * M := Int.mul_le_mul_of_nonneg_right le (by omega)
    have h2 : q * v ≤ 4294967295 * v := Int.mul_le_mul_of_nonneg_right q1 bv.1
    have h3 : 4294967296 * M ≤ V2 * M := Int.mul_le_mul_of_nonneg_right hV2b (by omega)
    have e : q * V = q * v + q * V2 * M := by rw [eV]; grind
    generalize q * v = a1 at *
    generalize q * V2 * M = a2 at *
    generalize U3 * M = a3 at *
    generalize V2 * M = a4 at *
    omega
  · by_cases c : U - q * V < V
    · exact c
    · exfalso
      have c2 : (q + 1) * V ≤ U := by rw [Int.add_mul]; omega
      rcases mx with mx | mx
      · have hq : q = 4294967295 := by omega
        subst hq
        have : (4294967295 + 1 : Int) * V = V * 4294967296 := by omega
        omega
      · have h1 : (U3 + 1) * M ≤ (q + 1) * V2 * M := Int.mul_le_mul_of_nonneg_right (by omega) (by omega)
        have h2 : 0 ≤ (q + 1) * v := Int.mul_nonneg (by omega) bv.1
        have e : (q + 1) * V = (q + 1) * v + (q + 1) * V2 * M := by rw [eV]; grind
        rw [Int.add_mul] at h1
        generalize (q + 1) * v = a1 at *
        generalize (q + 1) * V2 * M = a2 at *
        generalize U3 * M = a3 at *
        omega

/-- The next digit of a quotient: what is left stands in T. -/
structure Next (T0 zv T : List Int) (q : Int) : Prop where
  q0 : 0 ≤ q
  q1 : q < 4294967296
  len : T.length = T0.length
  rng : Nt.Rng T
  eq : Nt.vp T (zv.length + 1) = Nt.vp T0 (zv.length + 1) - q * Nt.val zv
  lt : Nt.vp T (zv.length + 1) < Nt.val zv
  rest : ∀ j, zv.length + 1 ≤ j → T.getD j 0 = T0.getD j 0

theorem grown_of_below {w w' : World} {row : Option Nat} (h : Below w.heap.size w w') : w.grownBy w' row := ⟨h.os, h.tape, h.output, h.size, fun k hk _ => h.block k hk⟩

set_option maxHeartbeats 4000000 in
theorem next67 (g off cu bb bo cb m : Nat) (P T0 zv : List Int) (w : World) (hblk0 : Blk w g (P ++ T0)) (hP : P.length = off) (hz : zv.length = m + 2) (hT : m + 3 ≤ T0.length) (hs : (P ++ T0).length ≤ 1000000) (hb : Lie w (some ⟨bb, bo, none⟩) zv)
    (hne : bb ≠ g) (rT : Nt.Rng T0) (rv : Nt.Rng zv) (hh : 2147483648 ≤ zv.getD (m + 1) 0) (hU : Nt.vp T0 (m + 3) < Nt.val zv * 4294967296) :
    Calls Tryz.prog 166 #[.slice (some ⟨g, off, none⟩) (m + 3) cu, .slice (some ⟨bb, bo, none⟩) (m + 2) cb] w fun e w' => ∃ T q, e = .returned (.int .u32 q) ∧ Blk w' g (P ++ T) ∧ Next T0 zv T q ∧ w.grownBy w' (some g) := by
  have hls : off + T0.length ≤ 1000000 := by rw [List.length_append, hP] at hs; exact hs
  have hpl : (P ++ T0).length = off + T0.length := by rw [List.length_append, hP]
  have c1 : w.cell? ⟨bb, bo + (m + 1), none⟩ = _ := lie_cell hb rfl (i := m + 1) (by omega)
  have c2 : w.cell? ⟨bb, bo + m, none⟩ = _ := lie_cell hb rfl (i := m) (by omega)
  have c3 := hblk0.cell (j := off + (m + 2)) (by omega)
  have c4 := hblk0.cell (j := off + (m + 1)) (by omega)
  have c5 := hblk0.cell (j := off + m) (by omega)
  rw [getD_pre hP] at c3 c4 c5
  have hab : T0.getD (m + 2) 0 ≤ zv.getD (m + 1) 0 := by
    -- else T0 were not below v times the base
    by_cases c : T0.getD (m + 2) 0 ≤ zv.getD (m + 1) 0
    · exact c
    · exfalso
      have e1 : Nt.val zv = Nt.vp zv (m + 1) + zv.getD (m + 1) 0 * 4294967296 ^ (m + 1) := by unfold Nt.val; rw [hz, Nt.vp_step]
      have e2 : Nt.vp T0 (m + 3) = Nt.vp T0 (m + 2) + T0.getD (m + 2) 0 * (4294967296 ^ (m + 1) * 4294967296) := by rw [Nt.vp_step, Nt.pw_succ]
      have b1 := Nt.vp_bd rv (m + 1)
      have b2 := Nt.vp_bd rT (m + 2)
      have hM := Nt.pw_pos (m + 1)
      generalize (4294967296 : Int) ^ (m + 1) = M at *
      have h1 : (zv.getD (m + 1) 0 + 1) * (M * 4294967296) ≤ T0.getD (m + 2) 0 * (M * 4294967296) := Int.mul_le_mul_of_nonneg_right (by omega) (by omega)
      have e3 : (zv.getD (m + 1) 0 + 1) * (M * 4294967296) = zv.getD (m + 1) 0 * M * 4294967296 + M * 4294967296 := by grind
      rw [e3] at h1
      rw [e1, e2] at hU
      generalize zv.getD (m + 1) 0 * M = a1 at *
      generalize T0.getD (m + 2) 0 * (M * 4294967296) = a2 at *
      omega
  have G := Hide.mk (guess70 g off cu bb bo cb m _ _ _ _ _ w c1 c2 c3 c4 c5 (by omega) hh (rv (m + 1)).2 (rv m).1 (rv m).2 (rT (m + 2)).1 hab (rT (m + 1)).1 (rT (m + 1)).2 (rT m).1 (rT m).2)
  have HG := fun q h => Hide.mk (guess_fits (q := q) hz rv rT hh hU h)
  have HK := fun W (h : Below w.heap.size w W) q h0 h1 => Hide.mk (take71 g off cu (some ⟨bb, bo, none⟩) cb P T0 zv q W (hblk0.below h hblk0.lt) hP (by omega) hs (hb.below h (Nat.le_refl _)) (fun _ x hx => by cases hx; exact hne) rT rv h0 h1)
  have HV := fun W T (hl : T.length = T0.length) hr hk (hli : Lie W (some ⟨bb, bo, none⟩) zv) => Hide.mk (give72 g off cu (some ⟨bb, bo, none⟩) cb P T zv W hk hP (by omega) (by rw [List.length_append, hl, hP]; exact hls) hli (fun _ x hx => by cases hx; exact hne) hr rv)
  have HL := Hide.mk hb
  have HZ := Hide.mk hz
  have RV := Hide.mk (Nt.val_bd rv)
  have UB := Hide.mk (Nt.vp_bd rT (m + 3)).1
  rw [hz] at HK HV
  clear c1 c2 c3 c4 c5 hab hblk0 hb rT rv hh hU hpl hs hz
  go_enter Tryz.func166, Tryz.ntmps166
  go_wp2_with fail
  refine G.out.mono ?_
  rintro e w1 ⟨q, rfl, hgu, hb1⟩
  have hq0 := hgu.q0
  have hq1 := hgu.q1
  have HF := HG q hgu
  have HKq := HK w1 hb1 q hq0 (by omega)
  clear hgu HG HK G
  go_wp2_with fail
  refine HKq.out.mono ?_
  rintro e w2 ⟨T, f, rfl, hk2, hl2, hr2, he2, hj2, hg2⟩
  have HB2 : Hide (w.grownBy w2 (some g)) := ⟨grown_trans (grown_of_below hb1) hg2⟩
  have HL2 := Hide.mk ((HL.out.below hb1 (Nat.le_refl _)).grown hg2 (fun _ x hx => by cases hx; exact hne))
  have HE := Hide.mk he2
  have HJ := Hide.mk hj2
  have HK2 := Hide.mk hk2
  have HR2 := Hide.mk hr2
  have HN2 := Hide.mk hl2
  clear hk2 hr2 he2 hj2 hg2 hb1 hl2 HKq HL
  have hb3 := Nt.vp_bd HR2.out (m + 3)
  have HB3 := Hide.mk hb3
  clear hb3
  cases f
  · go_wp2_with fail
    go_ret
    refine ⟨T, q, rfl, HK2.out, ⟨hq0, by omega, HN2.out, HR2.out, ?_, ?_, ?_⟩, HB2.out⟩
    · rw [HZ.out]; have := HE.out; simp only [Bool.false_eq_true, if_false] at this; rw [this]; omega
    · rw [HZ.out]; have := HE.out; simp only [Bool.false_eq_true, if_false] at this; rw [this, show m + 2 + 1 = m + 3 from rfl]; have := HF.out; omega
    · rw [HZ.out]; exact HJ.out
  · have HVq := HV w2 T HN2.out HR2.out HK2.out HL2.out
    have hqp : 1 ≤ q := by
      have h1 := HE.out
      have h2 := HF.out
      have h3 := HB3.out
      have h4 := RV.out
      by_cases c : q = 0
      · subst c
        exfalso
        simp only [if_true] at h1
        have h5 := UB.out
        rw [show m + 2 + 1 = m + 3 from rfl] at h1
        generalize (4294967296 : Int) ^ (m + 3) = X at *
        omega
      · omega
    clear HV
    go_wp2_with fail
    refine HVq.out.mono ?_
    rintro e w3 ⟨T2, f2, rfl, hk3, hl3, hr3, hf0, hf1, he3, hj3, hg3⟩
    have HFIN : Hide (Next T0 zv T2 (q - 1) ∧ Blk w3 g (P ++ T2) ∧ w.grownBy w3 (some g)) := ⟨by
      have h1 := HE.out
      have h2 := HF.out
      have h3 := HB3.out
      have h4 := RV.out
      have h5 := Nt.vp_bd hr3 (m + 3)
      simp only [if_true] at h1
      have e : m + 2 + 1 = m + 3 := rfl
      rw [e] at h1 he3
      have hf : f2 = 1 := by
        by_cases c : f2 = 0
        · exfalso
          subst c
          rw [h1] at he3
          generalize (4294967296 : Int) ^ (m + 3) = X at *
          omega
        · omega
      subst hf
      have he4 : Nt.vp T2 (m + 3) = Nt.vp T0 (m + 3) - (q - 1) * Nt.val zv := by
        rw [he3, h1, Int.sub_mul]
        generalize (4294967296 : Int) ^ (m + 3) = X at *
        omega
      refine ⟨⟨by omega, by omega, by rw [hl3]; exact HN2.out, hr3, by rw [HZ.out]; exact he4, ?_, ?_⟩, hk3, grown_trans HB2.out hg3⟩
      · rw [HZ.out, e, he4, Int.sub_mul]
        generalize q * Nt.val zv = y at *
        omega
      · rw [HZ.out]; intro j hj; rw [hj3 j hj]; exact HJ.out j hj⟩
    clear hk3 hr3 he3 hj3 hg3 hl3 HVq
    go_wp2
    go_ret
    exact ⟨T2, q - 1, by go_num, HFIN.out.2.1, HFIN.out.1, HFIN.out.2.2⟩
end Go.Proofs.YtdnghibkagcbcaaGreatDoor
