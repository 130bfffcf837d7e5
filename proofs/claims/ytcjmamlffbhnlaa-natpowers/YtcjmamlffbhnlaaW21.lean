import Derived.Test.YtcjmamlffbhnlaaW20
namespace Go.Proofs.Ytcjmamlffbhnlaa
open Go.RowKit
set_option linter.unusedVariables false
/-- Digits from m on are divided. -/
structure DivInv (s0 s : List Int) (d : Int) (m : Nat) (l : Int) : Prop where
  len : s.length = s0.length
  rng : Nt.Rng s
  low : ∀ j, j < m → s.getD j 0 = s0.getD j 0
  eq : Nt.val (s0.drop m) = d * Nt.val (s.drop m) + l
  l0 : 0 ≤ l
  l1 : l < d
theorem DivInv.start {s0 : List Int} {d : Int} (hr : Nt.Rng s0) (hd : 0 < d) : DivInv s0 s0 d s0.length 0 :=
  ⟨rfl, hr, fun _ _ => rfl, by rw [List.drop_eq_nil_of_le (Nat.le_refl _), Nt.val_nil]; omega, Int.le_refl _, hd⟩
theorem quo_bd {l x d : Int} (hl : 0 ≤ l) (hl' : l < d) (hx : 0 ≤ x) (hx' : x < 4294967296) : 0 ≤ (l * 4294967296 + x) / d ∧ (l * 4294967296 + x) / d < 4294967296 ∧ 0 ≤ (l * 4294967296 + x) % d ∧ (l * 4294967296 + x) % d < d := by
  have hd : 0 < d := by omega
  refine ⟨Int.ediv_nonneg (by omega) (by omega), Int.ediv_lt_of_lt_mul hd ?_, Int.emod_nonneg _ (by omega), Int.emod_lt_of_pos _ hd⟩
  omega
theorem DivInv.step {s0 s : List Int} {d l : Int} {m : Nat} (h : DivInv s0 s d (m + 1) l) (hm : m < s.length) (r0 : Nt.Rng s0) (x : Int) (hx : x = s.getD m 0) :
    DivInv s0 (s.set m ((l * 4294967296 + x) / d)) d m ((l * 4294967296 + x) % d) := by
  have hl := h.len
  have hx2 : x = s0.getD m 0 := by rw [hx]; exact h.low m (by omega)
  have hxr := r0 m
  rw [← hx2] at hxr
  have hq := quo_bd h.l0 h.l1 hxr.1 hxr.2
  refine ⟨by rw [List.length_set]; exact hl, Nt.rng_set h.rng hq.1 hq.2.1, fun j hj => ?_, ?_, hq.2.2.1, hq.2.2.2⟩
  · rw [Nt.getD_set_ne (by omega)]; exact h.low j (by omega)
  · rw [val_drop_step (s := s0) (m := m) (by omega), val_drop_step (s := s.set m _) (m := m) (by rw [List.length_set]; exact hm), Nt.getD_set_self hm, List.drop_set_of_lt (by omega), h.eq, ← hx2]
    have := Int.emod_add_mul_ediv (l * 4294967296 + x) d
    generalize (l * 4294967296 + x) % d = r at *
    generalize (l * 4294967296 + x) / d = q at *
    grind

set_option maxHeartbeats 1000000 in
theorem divideBy57 (g cap : Nat) (s0 : List Int) (d : Int) (w : World) (hrow0 : Rw w g cap s0) (hm : s0.length ≤ 1000000) (rs : Nt.Rng s0) (hd : 0 < d) (hd' : d < 4294967296) :
    Calls Try.prog 57 #[.slice (some ⟨g, 0, none⟩) s0.length cap, .int .u32 d] w fun e w' => ∃ s l, e = .returned (.int .u32 l) ∧ Rw w' g cap s ∧ DivInv s0 s d 0 l ∧ w.grownBy w' (some g) := by
  have RS := Hide.mk rs
  have HK := Hide.mk hrow0
  clear rs hrow0
  have hne : (d == 0) = false := by simp; omega
  go_enter Try.func57, Try.ntmps57
  go_wp2
  go_loopw [5, 11] (fun c i wr => ∃ (k : Nat) (s : List Int) (l : Int), k ≤ s0.length ∧ i = .int .i64 k ∧ c = .int .u64 l ∧ 0 ≤ l ∧ l < d ∧ Rw wr g cap s ∧ DivInv s0 s d (s0.length - k) l ∧ w.grownBy wr (some g)) (fun _ i _ => s0.length - (intOf i).toNat)
  case atStart => exact ⟨0, _, 0, Nat.zero_le _, rfl, rfl, by decide, hd, HK.out, DivInv.start RS.out hd, grown_refl _ _⟩
  case round =>
    obtain ⟨k, s, l, hk, rfl, rfl, hl0, hl1, hrow, hinv, hgr⟩ := hrel
    have HG := Hide.mk hgr
    have HR := Hide.mk hrow
    have HI := Hide.mk hinv
    clear hgr hrow hinv
    by_cases hlt : k < s0.length
    · obtain ⟨m, hm2⟩ : ∃ m, s0.length = k + 1 + m := ⟨s0.length - k - 1, by omega⟩
      have e1 : s0.length - k = m + 1 := by omega
      have e2 : s0.length - (k + 1) = m := by omega
      have hpi : (s0.length : Int) - 1 - (k : Int) = (m : Int) := by omega
      have hm0 : m < s0.length := by omega
      have E2 := Hide.mk e2
      have hi2 := HI.out
      rw [e1] at hi2
      have hls : m < s.length := by rw [hi2.len]; omega
      have hc1 := HR.out.cell hls
      have hf1 := HR.out.frozen m
      have hrx : 0 ≤ s.getD m 0 ∧ s.getD m 0 < 4294967296 := hi2.rng m
      have hstep := fun x => Hide.mk (fun h => hi2.step hls RS.out x h)
      have hset := fun x => Hide.mk (HR.out.set m x)
      clear hi2 e1 e2 hm2 HI HR
      generalize s.getD m 0 = x at *
      have hor := or64_hi l x hrx.1 hrx.2 hl0 (by omega)
      have hqb := quo_bd hl0 hl1 hrx.1 hrx.2
      go_wp2
      go_roundw
      case rel => exact ⟨k + 1, _, _, hlt, by go_num, rfl, hqb.2.2.1, hqb.2.2.2, (hset _).out, by rw [E2.out]; exact (hstep x).out rfl, grown_trans HG.out (grown_set _ _ _ _)⟩
      case measure => simp [intOf]; omega
    · have hinv2 : Hide (DivInv s0 s d 0 l) := ⟨by
        have hkk : s0.length - k = 0 := by omega
        have := HI.out
        rw [hkk] at this; exact this⟩
      go_wp2
      go_ret
      exact ⟨s, l, by first | rfl | go_num, HR.out, hinv2.out, HG.out⟩

/-- k digits of q times v are taken from T0: what is left is T, and c is borrowed. -/
structure TakeInv (T0 zv : List Int) (q : Int) (T : List Int) (k : Nat) (c : Int) : Prop where
  len : T.length = T0.length
  rng : Nt.Rng T
  eq : Nt.vp T k - c * 4294967296 ^ k = Nt.vp T0 k - q * Nt.vp zv k
  rest : ∀ j, k ≤ j → T.getD j 0 = T0.getD j 0
theorem TakeInv.start {T0 zv : List Int} {q : Int} (h : Nt.Rng T0) : TakeInv T0 zv q T0 0 0 := ⟨rfl, h, by simp [Nt.vp], fun _ _ => rfl⟩
theorem TakeInv.step {T0 zv T : List Int} {k : Nat} {q c x n c' : Int} (h : TakeInv T0 zv q T k c) (hk : k < T.length) (hx : x = zv.getD k 0) (hn : n - c' * 4294967296 = T.getD k 0 - x * q - c) (h0 : 0 ≤ n) (h1 : n < 4294967296) :
    TakeInv T0 zv q (T.set k n) (k + 1) c' := by
  refine ⟨by rw [List.length_set]; exact h.len, Nt.rng_set h.rng h0 h1, ?_, fun j hj => ?_⟩
  · have he := h.eq
    have hr := h.rest k (Nat.le_refl _)
    rw [Nt.vp_step, Nt.vp_step, Nt.vp_step, Nt.vp_set (Nat.le_refl _), Nt.getD_set_self hk, Nt.pw_succ, ← hr, ← hx]
    generalize (4294967296 : Int) ^ k = K at *
    grind
  · rw [Nt.getD_set_ne (by omega)]; exact h.rest j (by omega)
theorem getD_pre {P T : List Int} {off k : Nat} (h : P.length = off) : (P ++ T).getD (off + k) 0 = T.getD k 0 := by
  subst h; rw [List.getD_eq_getElem?_getD, List.getElem?_append_right (by omega)]; simp [List.getD_eq_getElem?_getD]
theorem set_pre {P T : List Int} {off k : Nat} {x : Int} (h : P.length = off) : (P ++ T).set (off + k) x = P ++ T.set k x := by
  subst h; rw [List.set_append_right _ _ (by omega)]; simp
theorem rng_pre {P T : List Int} (hP : Nt.Rng P) (hT : Nt.Rng T) : Nt.Rng (P ++ T) := by
  intro k
  by_cases c : k < P.length
  · have := hP k
    simpa [List.getD_eq_getElem?_getD, List.getElem?_append, c] using this
  · have := hT (k - P.length)
    have e : (P ++ T).getD k 0 = T.getD (k - P.length) 0 := by
      have := getD_pre (P := P) (T := T) (off := P.length) (k := k - P.length) rfl
      rw [show P.length + (k - P.length) = k by omega] at this
      exact this
    rw [e]; exact this

/-- The borrow of one column: t is x q and what was borrowed, u the digit. -/
theorem take_col {u t : Int} (hu : 0 ≤ u) (hu' : u < 4294967296) (ht : 0 ≤ t) (ht' : t ≤ 18446744069414584320) :
    ((u - t % 4294967296) % 18446744073709551616) % 4294967296 - (t / 4294967296 + (u - t % 4294967296) % 18446744073709551616 / 9223372036854775808) * 4294967296 = u - t ∧ 0 ≤ t / 4294967296 + (u - t % 4294967296) % 18446744073709551616 / 9223372036854775808 ∧ t / 4294967296 + (u - t % 4294967296) % 18446744073709551616 / 9223372036854775808 ≤ 4294967295 := by omega
end Go.Proofs.Ytcjmamlffbhnlaa
