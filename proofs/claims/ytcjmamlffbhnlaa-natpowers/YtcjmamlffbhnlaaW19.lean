import Derived.Test.YtcjmamlffbhnlaaW18
namespace Go.Proofs.Ytcjmamlffbhnlaa
open Go.RowKit
set_option linter.unusedVariables false
theorem or64_hi (y x : Int) (h0 : 0 ≤ x) (h1 : x < 4294967296) (h2 : 0 ≤ y) (h3 : y < 4294967296) : bits .or .u64 (y * 4294967296) x = y * 4294967296 + x := by
  rw [u64_or _ x (by omega) (by omega) h0 (by omega)]
  have := nat_join 32 (y * 4294967296).toNat x.toNat (by omega) (by omega)
  rw [this]; omega
theorem and64_lo (t : Int) (h0 : 0 ≤ t) (h1 : t < 18446744073709551616) : bits .and .u64 t 4294967295 = t % 4294967296 := by
  rw [u64_and t _ h0 h1 (by decide) (by decide)]
  have : t.toNat &&& (4294967295 : Int).toNat = t.toNat % 2 ^ 32 := Nat.and_two_pow_sub_one_eq_mod t.toNat 32
  rw [this]
  have e : (2 : Nat) ^ 32 = 4294967296 := by decide
  rw [e]; omega

theorem down_digit (hi above x : Int) (p : Nat) (hp : p < 32) (hab : above = hi % 4294967296) (hx : 0 ≤ x) (hx' : x < 4294967296) :
    ((above * 4294967296 + x) / 2 ^ p) % 4294967296 + 4294967296 * (hi / 2 ^ p) = (x + 4294967296 * hi) / 2 ^ p := by
  obtain ⟨M, hM, hpos⟩ := two_pow_div p hp
  have hT : (0 : Int) < 2 ^ p := Int.pow_pos (by decide)
  generalize (2 : Int) ^ p = T at *
  have e1 : (above * 4294967296 + x) / T = above * M + x / T := by
    have : above * 4294967296 + x = x + T * (above * M) := by rw [hM]; grind
    rw [this, Int.add_mul_ediv_left _ _ (by omega)]; omega
  have e2 : (x + 4294967296 * hi) / T = hi * M + x / T := by
    have : x + 4294967296 * hi = x + T * (hi * M) := by rw [hM]; grind
    rw [this, Int.add_mul_ediv_left _ _ (by omega)]; omega
  rw [e1, e2]
  have h1 := Int.emod_add_mul_ediv above T
  have h2 := Int.emod_add_mul_ediv hi T
  have hr : hi % T = above % T := by
    rw [hab, Int.emod_emod_of_dvd _ ⟨M, hM⟩]
  have hr0 := Int.emod_nonneg above (show T ≠ 0 by omega)
  have hr1 := Int.emod_lt_of_pos above hT
  rw [hr] at h2
  generalize above % T = r at *
  generalize above / T = q1 at *
  generalize hi / T = q2 at *
  have hxt : x / T < M := Int.ediv_lt_of_lt_mul hT (by rw [Int.mul_comm, ← hM]; exact hx')
  have hxt0 : 0 ≤ x / T := Int.ediv_nonneg hx (by omega)
  generalize x / T = xt at *
  have hm0 : 0 ≤ r * M := Int.mul_nonneg hr0 (by omega)
  have hm1 : (r + 1) * M ≤ T * M := Int.mul_le_mul_of_nonneg_right (by omega) (by omega)
  rw [Int.add_mul, ← hM] at hm1
  have e3 : above * M + xt = (r * M + xt) + 4294967296 * q1 := by rw [← h1, hM]; grind
  rw [e3, Int.add_mul_emod_self_left, Int.emod_eq_of_lt (by omega) (by omega), ← h2, hM]
  grind

theorem val_drop_step {s : List Int} {m : Nat} (h : m < s.length) : Nt.val (s.drop m) = s.getD m 0 + 4294967296 * Nt.val (s.drop (m + 1)) := by
  rw [List.drop_eq_getElem_cons h, val_cons]
  simp [List.getD_eq_getElem?_getD, h]
theorem rng_drop {s : List Int} (h : Nt.Rng s) (m : Nat) : Nt.Rng (s.drop m) := by
  intro k
  have := h (m + k)
  simpa [List.getD_eq_getElem?_getD] using this
theorem val_drop_mod {s : List Int} (h : Nt.Rng s) (m : Nat) : Nt.val (s.drop m) % 4294967296 = s.getD m 0 := by
  by_cases c : m < s.length
  · rw [val_drop_step c]
    have := h m
    omega
  · rw [List.drop_eq_nil_of_le (by omega), getD_past (by omega)]; rfl
theorem val_drop_split {s : List Int} (m : Nat) (h : m ≤ s.length) : Nt.val s = Nt.vp s m + 4294967296 ^ m * Nt.val (s.drop m) := by
  induction m with
  | zero => simp [Nt.vp]
  | succ m ih =>
    rw [ih (by omega), val_drop_step (show m < s.length by omega), Nt.vp_step, Nt.pw_succ]
    generalize (4294967296 : Int) ^ m = P
    grind
theorem val_drop_div {s : List Int} (hr : Nt.Rng s) (m : Nat) (h : m ≤ s.length) : Nt.val (s.drop m) = Nt.val s / 4294967296 ^ m := by
  have h1 := Nt.vp_bd hr m
  have h2 := Nt.pw_pos m
  rw [val_drop_split m h, Int.add_mul_ediv_left _ _ (by omega), Int.ediv_eq_zero_of_lt h1.1 h1.2]
  omega

/-- Digits from m on are settled. -/
structure DownInv (za s : List Int) (wh p m : Nat) : Prop where
  len : s.length + wh = za.length
  rng : Nt.Rng s
  eq : Nt.val (s.drop m) = Nt.val (za.drop (wh + m)) / 2 ^ p
theorem DownInv.start {za s : List Int} {wh p n : Nat} (hn : n + wh = za.length) (hs : s = List.replicate n 0) : DownInv za s wh p n := by
  subst hs
  refine ⟨by simp; omega, fun k => by rw [getD_rep]; decide, ?_⟩
  rw [List.drop_eq_nil_of_le (by simp), List.drop_eq_nil_of_le (by omega), Nt.val_nil]
  simp
theorem DownInv.step {za s : List Int} {wh p m : Nat} (h : DownInv za s wh p (m + 1)) (hp : p < 32) (ra : Nt.Rng za) (hm : m < s.length) (x ab : Int) (hx : x = za.getD (wh + m) 0) (hab : ab = za.getD (wh + (m + 1)) 0) :
    DownInv za (s.set m ((ab * 4294967296 + x) / 2 ^ p % 4294967296)) wh p m := by
  have hl := h.len
  refine ⟨by rw [List.length_set]; exact hl, Nt.rng_set h.rng (by omega) (by omega), ?_⟩
  rw [val_drop_step (by rw [List.length_set]; exact hm), Nt.getD_set_self hm]
  have e : (s.set m ((ab * 4294967296 + x) / 2 ^ p % 4294967296)).drop (m + 1) = s.drop (m + 1) := by
    rw [List.drop_set_of_lt (by omega)]
  rw [e, h.eq, val_drop_step (s := za) (m := wh + m) (by omega), ← hx]
  have hh := ra (wh + m)
  rw [← hx] at hh
  exact down_digit _ _ _ p hp (by rw [hab, val_drop_mod ra]) hh.1 hh.2
theorem DownInv.done {za s : List Int} {wh p : Nat} (h : DownInv za s wh p 0) (ra : Nt.Rng za) : Nt.val s = Nt.val za / (4294967296 ^ wh * 2 ^ p) := by
  have e := h.eq
  have hl := h.len
  rw [List.drop_zero, Nat.add_zero, val_drop_div ra wh (by omega)] at e
  rw [e, Int.ediv_ediv_of_nonneg (Int.le_of_lt (Nt.pw_pos _))]

set_option maxHeartbeats 1000000 in
theorem shiftDown62 (a : Option Addr) (ca : Nat) (za : List Int) (w : World) (n : Int) (wh p : Nat) (hq : n / 32 = (wh : Int)) (hr : n % 32 = (p : Int)) (hn0 : 0 ≤ n) (hn1 : n ≤ 1000000) (hp : p < 32) (hw : wh ≤ za.length) (ha : Lie w a za) (ra : Nt.Rng za) (hm : za.length ≤ 100000) :
    Calls Try.prog 62 #[.slice a za.length ca, .int .i64 n] w fun e w' => ∃ v zs, e = .returned v ∧ Own w.heap.size w' v zs ∧ Nt.Can zs ∧ Nt.val zs = Nt.val za / (4294967296 ^ wh * 2 ^ p) ∧ Below w.heap.size w w' := by
  obtain ⟨i0, hi, hz0, hz1, hz2⟩ := info_parts Try.info49
  obtain ⟨t, ht⟩ : ∃ t, za.length = t + wh := ⟨za.length - wh, by omega⟩
  have HT := Hide.mk ht
  have RA := Hide.mk ra
  have HA := Hide.mk ha
  have hsub : (za.length : Int) - (wh : Int) = (t : Int) := by omega
  clear ra ha ht
  go_enter Try.func62, Try.ntmps62
  go_wp2_with (at_make; refine wpList_make_full _ rfl _ _ 22 rfl w.heap.size 49 i0 (.int .u32 0) 1 Try.underlying22 hi hz0 hz1 .i64 .i64 _ _ t rfl rfl (by omega) (by omega) (by rw [hz2]; omega) (by unfold maxLen; omega) (Nat.le_refl _) ?_; intro w1 hown hgrow; have hblk1 := Hide.mk (blk_made hown); have hbel1 := below_of_grown hgrow; clear hown hgrow)
  clear hi hz0 hz1 hz2 i0
  go_loopw [8, 23] (fun ab i wr => ∃ (k : Nat) (s : List Int), k ≤ t ∧ i = .int .i64 k ∧ ab = .int .u64 (za.getD (wh + (t - k)) 0) ∧ Blk wr w.heap.size s ∧ DownInv za s wh p (t - k) ∧ Below w.heap.size w wr) (fun _ i _ => t - (intOf i).toNat)
  case atStart => exact ⟨0, _, Nat.zero_le _, rfl, by rw [getD_past (by have := HT.out; omega)], hblk1.out, DownInv.start (by have := HT.out; omega) rfl, hbel1⟩
  case round =>
    obtain ⟨k, s, hk, rfl, rfl, hblk, hinv, hbel⟩ := hrel
    have HK := Hide.mk hblk
    have HI := Hide.mk hinv
    clear hblk hblk1 hbel1 hinv
    have hlen := Hide.mk HI.out.len
    by_cases hlt : k < t
    · obtain ⟨m, hm2⟩ : ∃ m, t = k + 1 + m := ⟨t - k - 1, by omega⟩
      have HM := Hide.mk hm2
      have hmt : m < t := by omega
      have e1 : t - k = m + 1 := by omega
      have e2 : t - (k + 1) = m := by omega
      have hpi : (t : Int) - 1 - (k : Int) = (m : Int) := by omega
      have E2 := Hide.mk e2
      have ht := HT.out
      obtain ⟨ba, oa, rfl⟩ := lie_some HA.out (by omega)
      have hca : wr.cell? ⟨ba, oa + (wh + m), none⟩ = _ := lie_cell (HA.out.below hbel (Nat.le_refl _)) rfl (i := wh + m) (by omega)
      have hra := RA.out (wh + m)
      have hrb := RA.out (wh + (m + 1))
      have hls : s.length = t := by have := hlen.out; omega
      have hc1 := HK.out.cell (j := m) (by omega)
      have hf1 := HK.out.frozen m
      have hi2 := HI.out
      rw [e1] at hi2
      have hstep := fun x ab => Hide.mk (fun h1 h2 => hi2.step hp RA.out (by omega) x ab h1 h2)
      have hset := fun x => Hide.mk (HK.out.set m x)
      rw [e1]
      clear HK hi2 e1 e2 hm2 ht hls HI
      generalize hx : za.getD (wh + m) 0 = x at *
      generalize za.getD (wh + (m + 1)) 0 = ab at *
      generalize s.getD m 0 = y at *
      have HX := Hide.mk hx
      clear hx
      have hor := or64_hi ab x hra.1 hra.2 hrb.1 hrb.2
      have hand : bits .and .u64 (ab * 4294967296 + x) 4294967295 = x := by rw [and64_lo _ (by omega) (by omega)]; omega
      go_wp2
      go_roundw
      case rel => exact ⟨k + 1, _, hlt, by go_num, by rw [E2.out, HX.out], (hset _).out, by rw [E2.out]; exact (hstep x ab).out rfl rfl, hbel.setCell (Nat.le_refl _) _⟩
      case measure => simp [intOf]; omega
    · have hdone : Hide (Nt.val s = Nt.val za / (4294967296 ^ wh * 2 ^ p)) := ⟨by
        have hkk : t - k = 0 := by omega
        have := HI.out
        rw [hkk] at this
        exact this.done RA.out⟩
      have hls : s.length = t := by have := hlen.out; have := HT.out; omega
      have hlen := Hide.mk hls
      have hl := HK.out.lie (n := 0)
      have hcan := fun n hn hd => Hide.mk (Nt.can_take HI.out.rng (n := n) hn hd)
      have hval := fun n h hn => Hide.mk ((Nt.val_take (s := s) (n := n) h hn).trans hdone.out)
      have hown := fun n hn hm => Hide.mk (HK.out.own (B := w.heap.size) (n := n) (Nat.le_refl _) hn hm)
      have ht := Hide.mk (fun hc hm => trim35 _ s.length s _ hl hc hm)
      rw [hlen.out] at ht hown
      clear hl hls
      go_wp2_with fail
      refine (ht.out (Nat.le_refl _) (by unfold maxLen; omega)).mono ?_
      rintro e w' ⟨rfl, n, hn, rfl, hz, hd⟩
      go_wp2
      go_ret
      exact ⟨_, _, rfl, (hown n hn (by unfold maxLen; omega)).out, (hcan n (by rw [hlen.out]; exact hn) hd).out, (hval n hz (by rw [hlen.out]; exact hn)).out, hbel⟩
end Go.Proofs.Ytcjmamlffbhnlaa
