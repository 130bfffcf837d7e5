import Derived.Test.YtcjmamlffbhnlaaW17
namespace Go.Proofs.Ytcjmamlffbhnlaa
open Go.RowKit
set_option linter.unusedVariables false
theorem two_pow_le (p : Nat) (h : p < 32) : (1 : Int) ≤ 2 ^ p ∧ (2 : Int) ^ p ≤ 2147483648 := by
  have h1 : (0 : Int) < 2 ^ p := Int.pow_pos (by decide)
  refine ⟨by omega, ?_⟩
  have : ∀ m : Nat, p ≤ m → (2 : Int) ^ p ≤ 2 ^ m := by
    intro m hm
    induction m with
    | zero => have : p = 0 := by omega
              subst this; exact Int.le_refl _
    | succ m ih =>
      by_cases e : p = m + 1
      · subst e; exact Int.le_refl _
      · have := ih (by omega)
        have h2 : (0 : Int) < 2 ^ m := Int.pow_pos (by decide)
        rw [Int.pow_succ]; omega
  have h31 := this 31 (by omega)
  have e : (2 : Int) ^ 31 = 2147483648 := by decide
  omega
/-- 2^p goes into 2^32. -/
theorem two_pow_div (p : Nat) (h : p < 32) : ∃ m : Int, 4294967296 = 2 ^ p * m ∧ 0 < m := by
  refine ⟨2 ^ (32 - p), ?_, Int.pow_pos (by decide)⟩
  rw [← Int.pow_add]
  have : p + (32 - p) = 32 := by omega
  rw [this]; decide
theorem low_multiple (x : Int) (p : Nat) (h : p < 32) : (x * 2 ^ p) % 4294967296 % 2 ^ p = 0 ∧ (x * 2 ^ p) % 4294967296 ≤ 4294967296 - 2 ^ p := by
  obtain ⟨m, hm, hpos⟩ := two_pow_div p h
  have h1 : (0 : Int) < 2 ^ p := Int.pow_pos (by decide)
  have e : (x * 2 ^ p) % 4294967296 = (x % m) * 2 ^ p := by
    rw [hm, Int.mul_comm x, Int.mul_emod_mul_of_pos _ _ h1, Int.mul_comm]
  rw [e]
  refine ⟨Int.mul_emod_left _ _, ?_⟩
  have h2 := Int.emod_lt_of_pos x hpos
  have h3 : (x % m + 1) * 2 ^ p ≤ m * 2 ^ p := Int.mul_le_mul_of_nonneg_right (by omega) (by omega)
  rw [Int.add_mul] at h3
  rw [Int.mul_comm m] at h3
  omega
theorem or32_join (y t : Int) (p : Nat) (hy : 0 ≤ y) (hy' : y < 2 ^ p) (hp : p < 32) (ht : 0 ≤ t) (ht' : t < 4294967296) (hm : t % 2 ^ p = 0) : bits .or .u32 y t = y + t := by
  have hb := two_pow_le p hp
  rw [u32_or y t hy (by omega) ht ht']
  have e : ((2 ^ p : Nat) : Int) = (2 : Int) ^ p := by simp
  have := nat_join p t.toNat y.toNat (by
    have h1 : ((t.toNat % 2 ^ p : Nat) : Int) = t % 2 ^ p := by
      rw [Int.natCast_emod, e, Int.toNat_of_nonneg ht]
    rw [hm] at h1
    omega) (by omega)
  rw [Nat.or_comm, this]; omega

/-- After k rounds of shiftUp. -/
structure UpInv (za s : List Int) (wh p k : Nat) : Prop where
  len : s.length = za.length + wh + 1
  rng : Nt.Rng s
  eq : Nt.vp s (wh + k + 1) = Nt.vp za k * 2 ^ p * 4294967296 ^ wh
  top : s.getD (wh + k) 0 < 2 ^ p
  rest : ∀ j, wh + k < j → s.getD j 0 = 0
theorem UpInv.start {za : List Int} {wh p : Nat} : UpInv za (List.replicate (za.length + wh + 1) 0) wh p 0 :=
  ⟨by simp, fun k => by rw [getD_rep]; decide, by rw [vp_rep]; simp [Nt.vp], by rw [getD_rep]; exact Int.pow_pos (by decide), fun j _ => getD_rep _ _⟩
theorem shl_bd {x : Int} {p : Nat} (hx : 0 ≤ x) (hx' : x < 4294967296) (hp : p < 32) : 0 ≤ x * 2 ^ p ∧ x * 2 ^ p ≤ 4294967295 * 2 ^ p := by
  have h1 : (0 : Int) < 2 ^ p := Int.pow_pos (by decide)
  exact ⟨Int.mul_nonneg hx (by omega), Int.mul_le_mul_of_nonneg_right (by omega) (by omega)⟩
theorem UpInv.step {za s : List Int} {wh p k : Nat} {x : Int} (h : UpInv za s wh p k) (hp : p < 32) (hk : k < za.length) (hx : x = za.getD k 0) (hx0 : 0 ≤ x) (hx1 : x < 4294967296) :
    UpInv za ((s.set (wh + k) (s.getD (wh + k) 0 + x * 2 ^ p % 4294967296)).set (wh + k + 1) (x * 2 ^ p / 4294967296)) wh p (k + 1) := by
  have hl := h.len
  have h0 := h.rng (wh + k)
  have ht := h.top
  have hlm := low_multiple x p hp
  have hb := shl_bd hx0 hx1 hp
  have hpp := two_pow_le p hp
  have hhi : x * 2 ^ p / 4294967296 < 2 ^ p := by omega
  refine ⟨by simp [hl], Nt.rng_set (Nt.rng_set h.rng (by omega) (by omega)) (by omega) (by omega), ?_, ?_, fun j hj => ?_⟩
  · have e1 : wh + (k + 1) + 1 = (wh + k + 1) + 1 := by omega
    rw [e1, Nt.vp_step, Nt.getD_set_self (by simp; omega), Nt.vp_set (Nat.le_refl _), Nt.vp_step, Nt.getD_set_self (by omega), Nt.vp_set (Nat.le_refl _), Nt.vp_step za k, ← hx]
    have he := h.eq
    rw [Nt.vp_step] at he
    rw [Nt.pw_succ (wh + k), Nt.pw_add]
    rw [Nt.pw_add] at he
    have hn : x * 2 ^ p % 4294967296 + x * 2 ^ p / 4294967296 * 4294967296 = x * 2 ^ p := by omega
    generalize x * 2 ^ p % 4294967296 = lo at *
    generalize x * 2 ^ p / 4294967296 = hi at *
    generalize (4294967296 : Int) ^ wh = P at *
    generalize (4294967296 : Int) ^ k = K at *
    generalize (2 : Int) ^ p = T at *
    grind
  · rw [show wh + (k + 1) = wh + k + 1 by omega, Nt.getD_set_self (by simp; omega)]; exact hhi
  · rw [Nt.getD_set_ne (by omega), Nt.getD_set_ne (by omega)]; exact h.rest j (by omega)
theorem UpInv.done {za s : List Int} {wh p : Nat} (h : UpInv za s wh p za.length) : Nt.val s = Nt.val za * 2 ^ p * 4294967296 ^ wh := by
  have := h.eq
  unfold Nt.val
  rw [h.len, show za.length + wh + 1 = wh + za.length + 1 by omega]; exact this

set_option maxHeartbeats 1000000 in
theorem shiftUp63 (a : Option Addr) (ca : Nat) (za : List Int) (w : World) (n : Int) (wh p : Nat) (hq : n / 32 = (wh : Int)) (hr : n % 32 = (p : Int)) (hn0 : 0 ≤ n) (hn1 : n ≤ 1000000) (hp : p < 32) (hw : wh ≤ 100000) (ha : Lie w a za) (ra : Nt.Rng za) (hm : za.length ≤ 100000) :
    Calls Try.prog 63 #[.slice a za.length ca, .int .i64 n] w fun e w' => ∃ v zs, e = .returned v ∧ Own w.heap.size w' v zs ∧ Nt.Can zs ∧ Nt.val zs = Nt.val za * 2 ^ p * 4294967296 ^ wh ∧ Below w.heap.size w w' := by
  obtain ⟨i0, hi, hz0, hz1, hz2⟩ := info_parts Try.info49
  have RA := Hide.mk ra
  have HA := Hide.mk ha
  clear ra ha
  go_enter Try.func63, Try.ntmps63
  go_wp2_with (at_make; refine wpList_make_full _ rfl _ _ 22 rfl w.heap.size 49 i0 (.int .u32 0) 1 Try.underlying22 hi hz0 hz1 .i64 .i64 _ _ (za.length + wh + 1) rfl rfl (by omega) (by omega) (by rw [hz2]; omega) (by unfold maxLen; omega) (Nat.le_refl _) ?_; intro w1 hown hgrow; have hblk1 := Hide.mk (blk_made hown); have hbel1 := below_of_grown hgrow; clear hown hgrow)
  clear hi hz0 hz1 hz2 i0
  go_loopw [23] (fun i wr => ∃ (k : Nat) (s : List Int), k ≤ za.length ∧ i = .int .i64 k ∧ Blk wr w.heap.size s ∧ UpInv za s wh p k ∧ Below w.heap.size w wr) (fun i _ => za.length - (intOf i).toNat)
  case atStart => exact ⟨0, _, Nat.zero_le _, rfl, hblk1.out, UpInv.start, hbel1⟩
  case round =>
    obtain ⟨k, s, hk, rfl, hblk, hinv, hbel⟩ := hrel
    have HK := Hide.mk hblk
    have HI := Hide.mk hinv
    clear hblk hblk1 hbel1 hinv
    by_cases hlt : k < za.length
    · obtain ⟨ba, oa, rfl⟩ := lie_some HA.out (by omega)
      have hca := lie_cell (HA.out.below hbel (Nat.le_refl _)) rfl hlt
      have hra := RA.out k
      have hc1 := HK.out.cell (j := wh + k) (by rw [HI.out.len]; omega)
      have hc2 := HK.out.cell (j := wh + k + 1) (by rw [HI.out.len]; omega)
      have hf1 := HK.out.frozen (wh + k)
      have hf2 := HK.out.frozen (wh + k + 1)
      have hrs := HI.out.rng (wh + k)
      have hstep := fun x => Hide.mk (fun h => HI.out.step (x := x) hp hlt h)
      have hset := fun x y => Hide.mk ((HK.out.set (wh + k) x).set (wh + k + 1) y)
      have hor : Hide (bits .or .u32 (s.getD (wh + k) 0) (za.getD k 0 * 2 ^ p % 4294967296) = s.getD (wh + k) 0 + za.getD k 0 * 2 ^ p % 4294967296) := ⟨or32_join _ _ p hrs.1 HI.out.top hp (by omega) (by omega) (low_multiple _ p hp).1⟩
      have hsb := shl_bd hra.1 hra.2 hp
      have htp := two_pow_le p hp
      clear HK
      generalize za.getD k 0 = x at *
      generalize s.getD (wh + k) 0 = y at *
      generalize s.getD (wh + k + 1) 0 = y2 at *
      go_wp2
      go_roundw
      case rel => exact ⟨k + 1, _, hlt, by go_num, by rw [hor.out]; exact (hset _ _).out, (hstep x).out rfl hra.1 hra.2, (hbel.setCell (Nat.le_refl _) _).setCell (Nat.le_refl _) _⟩
      case measure => simp [intOf]; omega
    · have hdone : Hide (Nt.val s = Nt.val za * 2 ^ p * 4294967296 ^ wh) := ⟨by
        have hkk : k = za.length := by omega
        have := HI.out
        rw [hkk] at this
        exact this.done⟩
      have hl := HK.out.lie (n := 0)
      have hcan := fun n hn hd => Hide.mk (Nt.can_take HI.out.rng (n := n) hn hd)
      have hval := fun n h hn => Hide.mk ((Nt.val_take (s := s) (n := n) h hn).trans hdone.out)
      have hlen := Hide.mk HI.out.len
      have hown := fun n hn hm => Hide.mk (HK.out.own (B := w.heap.size) (n := n) (Nat.le_refl _) hn hm)
      have ht := Hide.mk (fun hc hm => trim35 _ s.length s _ hl hc hm)
      rw [hlen.out] at ht hown
      clear hl
      go_wp2_with fail
      refine (ht.out (Nat.le_refl _) (by unfold maxLen; omega)).mono ?_
      rintro e w' ⟨rfl, n, hn, rfl, hz, hd⟩
      go_wp2
      go_ret
      exact ⟨_, _, rfl, (hown n hn (by unfold maxLen; omega)).out, (hcan n (by rw [hlen.out]; exact hn) hd).out, (hval n hz (by rw [hlen.out]; exact hn)).out, hbel⟩
end Go.Proofs.Ytcjmamlffbhnlaa
