import Derived.Test.YtgfpbmjknknflaaRankExtremesPart1
import Derived.Lib.BitFns
import Derived.Lib.Walk
namespace Go.Proofs.Ytgfpbmjknknflaa
open Go.RowKit
set_option linter.unusedVariables false
set_option maxRecDepth 3000
theorem two_pow_le (p : Nat) (h : p < 32) : (1 : Int) ≤ 2 ^ p ∧ (2 : Int) ^ p ≤ 2147483648 := by
  have h1 : (0 : Int) < 2 ^ p := Int.pow_pos (by decide)
  refine ⟨by omega, ?_⟩
  have : ∀ m : Nat, p ≤ m → (2 : Int) ^ p ≤ 2 ^ m := by
    intro m hm
    induction m with
    | zero => have : p = 0 := by omega
              subst this; exact Int.le_refl _
    | succ m ih =>
      by_cases e : p = m + 1
      · subst e; exact Int.le_refl _
      · have := ih (by omega)
        have h2 : (0 : Int) < 2 ^ m := Int.pow_pos (by decide)
        rw [Int.pow_succ]; omega
  have h31 := this 31 (by omega)
  have e : (2 : Int) ^ 31 = 2147483648 := by decide
  omega
/-- 2^p goes into 2^32. -/
theorem two_pow_div (p : Nat) (h : p < 32) : ∃ m : Int, 4294967296 = 2 ^ p * m ∧ 0 < m := by
  refine ⟨2 ^ (32 - p), ?_, Int.pow_pos (by decide)⟩
  rw [← Int.pow_add]
  have : p + (32 - p) = 32 := by omega
  rw [this]; decide
theorem low_multiple (x : Int) (p : Nat) (h : p < 32) : (x * 2 ^ p) % 4294967296 % 2 ^ p = 0 ∧ (x * 2 ^ p) % 4294967296 ≤ 4294967296 - 2 ^ p := by
  obtain ⟨m, hm, hpos⟩ := two_pow_div p h
  have h1 : (0 : Int) < 2 ^ p := Int.pow_pos (by decide)
  have e : (x * 2 ^ p) % 4294967296 = (x % m) * 2 ^ p := by
    rw [hm, Int.mul_comm x, Int.mul_emod_mul_of_pos _ _ h1, Int.mul_comm]
  rw [e]
  refine ⟨Int.mul_emod_left _ _, ?_⟩
  have h2 := Int.emod_lt_of_pos x hpos
  have h3 : (x % m + 1) * 2 ^ p ≤ m * 2 ^ p := Int.mul_le_mul_of_nonneg_right (by omega) (by omega)
  rw [Int.add_mul] at h3
  rw [Int.mul_comm m] at h3
  omega
/-- After k rounds of shiftUp. -/
structure UpInv (za s : List Int) (wh p k : Nat) : Prop where
  len : s.length = za.length + wh + 1
  rng : Nt.Rng s
  eq : Nt.vp s (wh + k + 1) = Nt.vp za k * 2 ^ p * 4294967296 ^ wh
  top : s.getD (wh + k) 0 < 2 ^ p
  rest : ∀ j, wh + k < j → s.getD j 0 = 0
theorem UpInv.start {za : List Int} {wh p : Nat} : UpInv za (List.replicate (za.length + wh + 1) 0) wh p 0 :=
  ⟨by simp, fun k => by rw [getD_rep]; decide, by rw [vp_rep]; simp [Nt.vp], by rw [getD_rep]; exact Int.pow_pos (by decide), fun j _ => getD_rep _ _⟩
theorem shl_bd {x : Int} {p : Nat} (hx : 0 ≤ x) (hx' : x < 4294967296) (hp : p < 32) : 0 ≤ x * 2 ^ p ∧ x * 2 ^ p ≤ 4294967295 * 2 ^ p := by
  have h1 : (0 : Int) < 2 ^ p := Int.pow_pos (by decide)
  exact ⟨Int.mul_nonneg hx (by omega), Int.mul_le_mul_of_nonneg_right (by omega) (by omega)⟩
theorem UpInv.step {za s : List Int} {wh p k : Nat} {x : Int} (h : UpInv za s wh p k) (hp : p < 32) (hk : k < za.length) (hx : x = za.getD k 0) (hx0 : 0 ≤ x) (hx1 : x < 4294967296) :
    UpInv za ((s.set (wh + k) (s.getD (wh + k) 0 + x * 2 ^ p % 4294967296)).set (wh + k + 1) (x * 2 ^ p / 4294967296)) wh p (k + 1) := by
  have hl := h.len
  have h0 := h.rng (wh + k)
  have ht := h.top
  have hlm := low_multiple x p hp
  have hb := shl_bd hx0 hx1 hp
  have hpp := two_pow_le p hp
  have hhi : x * 2 ^ p / 4294967296 < 2 ^ p := by omega
  refine ⟨by simp [hl], Nt.rng_set (Nt.rng_set h.rng (by omega) (by omega)) (by omega) (by omega), ?_, ?_, fun j hj => ?_⟩
  · have e1 : wh + (k + 1) + 1 = (wh + k + 1) + 1 := by omega
    rw [e1, Nt.vp_step, Nt.getD_set_self (by simp; omega), Nt.vp_set (Nat.le_refl _), Nt.vp_step, Nt.getD_set_self (by omega), Nt.vp_set (Nat.le_refl _), Nt.vp_step za k, ← hx]
    have he := h.eq
    rw [Nt.vp_step] at he
    rw [Nt.pw_succ (wh + k), Nt.pw_add]
    rw [Nt.pw_add] at he
    have hn : x * 2 ^ p % 4294967296 + x * 2 ^ p / 4294967296 * 4294967296 = x * 2 ^ p := by omega
    generalize x * 2 ^ p % 4294967296 = lo at *
    generalize x * 2 ^ p / 4294967296 = hi at *
    generalize (4294967296 : Int) ^ wh = P at *
    generalize (4294967296 : Int) ^ k = K at *
    generalize (2 : Int) ^ p = T at *
    grind
  · rw [show wh + (k + 1) = wh + k + 1 by omega, Nt.getD_set_self (by simp; omega)]; exact hhi
  · rw [Nt.getD_set_ne (by omega), Nt.getD_set_ne (by omega)]; exact h.rest j (by omega)
theorem UpInv.done {za s : List Int} {wh p : Nat} (h : UpInv za s wh p za.length) : Nt.val s = Nt.val za * 2 ^ p * 4294967296 ^ wh := by
  have := h.eq
  unfold Nt.val
  rw [h.len, show za.length + wh + 1 = wh + za.length + 1 by omega]; exact this

theorem down_digit (hi above x : Int) (p : Nat) (hp : p < 32) (hab : above = hi % 4294967296) (hx : 0 ≤ x) (hx' : x < 4294967296) :
    ((above * 4294967296 + x) / 2 ^ p) % 4294967296 + 4294967296 * (hi / 2 ^ p) = (x + 4294967296 * hi) / 2 ^ p := by
  obtain ⟨M, hM, hpos⟩ := two_pow_div p hp
  have hT : (0 : Int) < 2 ^ p := Int.pow_pos (by decide)
  generalize (2 : Int) ^ p = T at *
  have e1 : (above * 4294967296 + x) / T = above * M + x / T := by
    have : above * 4294967296 + x = x + T * (above * M) := by rw [hM]; grind
    rw [this, Int.add_mul_ediv_left _ _ (by omega)]; omega
  have e2 : (x + 4294967296 * hi) / T = hi * M + x / T := by
    have : x + 4294967296 * hi = x + T * (hi * M) := by rw [hM]; grind
    rw [this, Int.add_mul_ediv_left _ _ (by omega)]; omega
  rw [e1, e2]
  have h1 := Int.emod_add_mul_ediv above T
  have h2 := Int.emod_add_mul_ediv hi T
  have hr : hi % T = above % T := by
    rw [hab, Int.emod_emod_of_dvd _ ⟨M, hM⟩]
  have hr0 := Int.emod_nonneg above (show T ≠ 0 by omega)
  have hr1 := Int.emod_lt_of_pos above hT
  rw [hr] at h2
  generalize above % T = r at *
  generalize above / T = q1 at *
  generalize hi / T = q2 at *
  have hxt : x / T < M := Int.ediv_lt_of_lt_mul hT (by rw [Int.mul_comm, ← hM]; exact hx')
  have hxt0 : 0 ≤ x / T := Int.ediv_nonneg hx (by omega)
  generalize x / T = xt at *
  have hm0 : 0 ≤ r * M := Int.mul_nonneg hr0 (by omega)
  have hm1 : (r + 1) * M ≤ T * M := Int.mul_le_mul_of_nonneg_right (by omega) (by omega)
  rw [Int.add_mul, ← hM] at hm1
  have e3 : above * M + xt = (r * M + xt) + 4294967296 * q1 := by rw [← h1, hM]; grind
  rw [e3, Int.add_mul_emod_self_left, Int.emod_eq_of_lt (by omega) (by omega), ← h2, hM]
  grind

theorem val_drop_step {s : List Int} {m : Nat} (h : m < s.length) : Nt.val (s.drop m) = s.getD m 0 + 4294967296 * Nt.val (s.drop (m + 1)) := by
  rw [List.drop_eq_getElem_cons h, val_cons]
  simp [List.getD_eq_getElem?_getD, h]
theorem rng_drop {s : List Int} (h : Nt.Rng s) (m : Nat) : Nt.Rng (s.drop m) := by
  intro k
  have := h (m + k)
  simpa [List.getD_eq_getElem?_getD] using this
theorem val_drop_mod {s : List Int} (h : Nt.Rng s) (m : Nat) : Nt.val (s.drop m) % 4294967296 = s.getD m 0 := by
  by_cases c : m < s.length
  · rw [val_drop_step c]
    have := h m
    omega
  · rw [List.drop_eq_nil_of_le (by omega), getD_past (by omega)]; rfl
theorem val_drop_split {s : List Int} (m : Nat) (h : m ≤ s.length) : Nt.val s = Nt.vp s m + 4294967296 ^ m * Nt.val (s.drop m) := by
  induction m with
  | zero => simp [Nt.vp]
  | succ m ih =>
    rw [ih (by omega), val_drop_step (show m < s.length by omega), Nt.vp_step, Nt.pw_succ]
    generalize (4294967296 : Int) ^ m = P
    grind
theorem val_drop_div {s : List Int} (hr : Nt.Rng s) (m : Nat) (h : m ≤ s.length) : Nt.val (s.drop m) = Nt.val s / 4294967296 ^ m := by
  have h1 := Nt.vp_bd hr m
  have h2 := Nt.pw_pos m
  rw [val_drop_split m h, Int.add_mul_ediv_left _ _ (by omega), Int.ediv_eq_zero_of_lt h1.1 h1.2]
  omega

/-- Digits from m on are settled. -/
structure DownInv (za s : List Int) (wh p m : Nat) : Prop where
  len : s.length + wh = za.length
  rng : Nt.Rng s
  eq : Nt.val (s.drop m) = Nt.val (za.drop (wh + m)) / 2 ^ p
theorem DownInv.start {za s : List Int} {wh p n : Nat} (hn : n + wh = za.length) (hs : s = List.replicate n 0) : DownInv za s wh p n := by
  subst hs
  refine ⟨by simp; omega, fun k => by rw [getD_rep]; decide, ?_⟩
  rw [List.drop_eq_nil_of_le (by simp), List.drop_eq_nil_of_le (by omega), Nt.val_nil]
  simp
theorem DownInv.step {za s : List Int} {wh p m : Nat} (h : DownInv za s wh p (m + 1)) (hp : p < 32) (ra : Nt.Rng za) (hm : m < s.length) (x ab : Int) (hx : x = za.getD (wh + m) 0) (hab : ab = za.getD (wh + (m + 1)) 0) :
    DownInv za (s.set m ((ab * 4294967296 + x) / 2 ^ p % 4294967296)) wh p m := by
  have hl := h.len
  refine ⟨by rw [List.length_set]; exact hl, Nt.rng_set h.rng (by omega) (by omega), ?_⟩
  rw [val_drop_step (by rw [List.length_set]; exact hm), Nt.getD_set_self hm]
  have e : (s.set m ((ab * 4294967296 + x) / 2 ^ p % 4294967296)).drop (m + 1) = s.drop (m + 1) := by
    rw [List.drop_set_of_lt (by omega)]
  rw [e, h.eq, val_drop_step (s := za) (m := wh + m) (by omega), ← hx]
  have hh := ra (wh + m)
  rw [← hx] at hh
  exact down_digit _ _ _ p hp (by rw [hab, val_drop_mod ra]) hh.1 hh.2
theorem DownInv.done {za s : List Int} {wh p : Nat} (h : DownInv za s wh p 0) (ra : Nt.Rng za) : Nt.val s = Nt.val za / (4294967296 ^ wh * 2 ^ p) := by
  have e := h.eq
  have hl := h.len
  rw [List.drop_zero, Nat.add_zero, val_drop_div ra wh (by omega)] at e
  rw [e, Int.ediv_ediv_of_nonneg (Int.le_of_lt (Nt.pw_pos _))]

theorem bitLen_bd : ∀ (f x : Nat), x < 2 ^ f → f ≤ 63 → x < 2 ^ Lib.bitLen x ∧ (x ≠ 0 → 2 ^ Lib.bitLen x ≤ 2 * x) ∧ Lib.bitLen x ≤ f := by
  intro f
  induction f with
  | zero =>
    intro x hx _
    have : x = 0 := by simpa using hx
    subst this
    decide
  | succ f ih =>
    intro x hx hf
    by_cases h0 : x = 0
    · subst h0
      refine ⟨by decide, fun h => absurd rfl h, ?_⟩
      have : Lib.bitLen 0 = 0 := by decide
      omega
    · have h64 : x < 2 ^ 64 := Nat.lt_of_lt_of_le hx (Nat.pow_le_pow_right (by decide) (by omega))
      have e := Lib.bitLen_half x h0 h64
      have h2 : x / 2 < 2 ^ f := by rw [Nat.pow_succ] at hx; omega
      obtain ⟨i1, i2, i3⟩ := ih (x / 2) h2 (by omega)
      rw [e, Nat.add_comm, Nat.pow_succ]
      refine ⟨by omega, fun _ => ?_, by omega⟩
      by_cases c : x / 2 = 0
      · rw [c]
        have : Lib.bitLen 0 = 0 := by decide
        rw [this]; simp; omega
      · have := i2 c; omega
theorem bitLen32 (x : Int) (h0 : 0 < x) (h1 : x < 4294967296) : ∃ L : Nat, Lib.bitLen x.toNat = L ∧ 1 ≤ L ∧ L ≤ 32 ∧ x < 2 ^ L ∧ (2 : Int) ^ L ≤ 2 * x := by
  have h := bitLen_bd 32 x.toNat (by have e : (2 : Nat) ^ 32 = 4294967296 := by decide
                                     omega) (by decide)
  obtain ⟨i1, i2, i3⟩ := h
  have i2 := i2 (by omega)
  refine ⟨_, rfl, ?_, i3, ?_, ?_⟩
  · by_cases c : Lib.bitLen x.toNat = 0
    · rw [c] at i1; simp at i1; omega
    · omega
  · have : ((2 ^ Lib.bitLen x.toNat : Nat) : Int) = 2 ^ Lib.bitLen x.toNat := by simp
    omega
  · have : ((2 ^ Lib.bitLen x.toNat : Nat) : Int) = 2 ^ Lib.bitLen x.toNat := by simp
    omega

/-- The first digits of block g, which has c cells, are s. -/
def Rw (w : World) (g c : Nat) (s : List Int) : Prop := ∃ cur : Array Value, w.heap[g]? = some (.cells cur 112 (0, 0)) ∧ cur.size = c ∧ s.length ≤ c ∧ cur.toList.take s.length = s.map (Value.int .u32)
theorem Rw.cell {w : World} {g c : Nat} {s : List Int} (h : Rw w g c s) {j : Nat} (hj : j < s.length) : w.cell? ⟨g, j, none⟩ = some (.int .u32 (s.getD j 0)) := by
  obtain ⟨cur, h1, _, h2, h3⟩ := h
  rw [cell_of_row w g j _ 112 (0, 0) h1]
  have e : (cur.toList.take s.length)[j]? = cur.toList[j]? := by rw [List.getElem?_take, if_pos hj]
  have : cur.toList[j]? = some (.int .u32 (s.getD j 0)) := by
    rw [← e, h3]
    simp [List.getD_eq_getElem?_getD, hj]
  simpa using this
theorem Rw.frozen {w : World} {g c : Nat} {s : List Int} (h : Rw w g c s) (j : Nat) : w.frozen? ⟨g, j, none⟩ = false := by
  obtain ⟨cur, h1, _⟩ := h
  exact frozen_of_row w g j _ 112 h1
theorem Rw.set {w : World} {g c : Nat} {s : List Int} (h : Rw w g c s) (j : Nat) (x : Int) : Rw (w.setCell ⟨g, j, none⟩ (.int .u32 x)) g c (s.set j x) := by
  obtain ⟨cur, h1, h0, h2, h3⟩ := h
  refine ⟨_, heap_setCell_same w g j _ 112 _ h1, by simpa using h0, by simpa using h2, ?_⟩
  rw [List.length_set, Array.toList_setIfInBounds, List.take_set, h3, List.map_set]
theorem Own.rw {B : Nat} {w : World} {a : Option Addr} {c : Nat} {zs : List Int} (h : Own B w (.slice a zs.length c) zs) (hp : 0 < zs.length) : ∃ g, a = some ⟨g, 0, none⟩ ∧ B ≤ g ∧ Rw w g c zs ∧ zs.length ≤ c ∧ c ≤ maxLen := by
  rcases h.2 with ⟨hv, h0⟩ | ⟨g, cap, cur, hv, hB, hg, hn, hm, hsz, ht⟩
  · omega
  · simp only [Value.slice.injEq] at hv
    obtain ⟨rfl, _, rfl⟩ := hv
    exact ⟨g, rfl, hB, ⟨cur, hg, by omega, hn, by rw [Nat.mul_one] at ht; exact ht⟩, hn, hm⟩
theorem Rw.own {B : Nat} {w : World} {g c n : Nat} {s : List Int} (h : Rw w g c s) (hB : B ≤ g) (hn : n ≤ s.length) (hm : c ≤ maxLen) : Own B w (.slice (some ⟨g, 0, none⟩) n c) (s.take n) := by
  obtain ⟨cur, h1, h0, h2, h3⟩ := h
  have hl : (s.take n).length = n := by rw [List.length_take]; omega
  unfold Own
  rw [hl]
  refine ⟨by simp; omega, .inr ⟨g, c, cur, rfl, hB, h1, by omega, hm, by omega, ?_⟩⟩
  rw [Nat.mul_one, List.map_take, ← h3, List.take_take, Nat.min_eq_left hn]
theorem Rw.lie {w : World} {g c : Nat} {s : List Int} (h : Rw w g c s) : Lie w (some ⟨g, 0, none⟩) s := .inr ⟨g, 0, rfl, fun i hi => by rw [Nat.zero_add]; exact h.cell hi⟩

/-- Digits from m on are divided. -/
structure DivInv (s0 s : List Int) (d : Int) (m : Nat) (l : Int) : Prop where
  len : s.length = s0.length
  rng : Nt.Rng s
  low : ∀ j, j < m → s.getD j 0 = s0.getD j 0
  eq : Nt.val (s0.drop m) = d * Nt.val (s.drop m) + l
  l0 : 0 ≤ l
  l1 : l < d
theorem DivInv.start {s0 : List Int} {d : Int} (hr : Nt.Rng s0) (hd : 0 < d) : DivInv s0 s0 d s0.length 0 :=
  ⟨rfl, hr, fun _ _ => rfl, by rw [List.drop_eq_nil_of_le (Nat.le_refl _), Nt.val_nil]; omega, Int.le_refl _, hd⟩
theorem quo_bd {l x d : Int} (hl : 0 ≤ l) (hl' : l < d) (hx : 0 ≤ x) (hx' : x < 4294967296) : 0 ≤ (l * 4294967296 + x) / d ∧ (l * 4294967296 + x) / d < 4294967296 ∧ 0 ≤ (l * 4294967296 + x) % d ∧ (l * 4294967296 + x) % d < d := by
  have hd : 0 < d := by omega
  refine ⟨Int.ediv_nonneg (by omega) (by omega), Int.ediv_lt_of_lt_mul hd ?_, Int.emod_nonneg _ (by omega), Int.emod_lt_of_pos _ hd⟩
  omega
theorem DivInv.step {s0 s : List Int} {d l : Int} {m : Nat} (h : DivInv s0 s d (m + 1) l) (hm : m < s.length) (r0 : Nt.Rng s0) (x : Int) (hx : x = s.getD m 0) :
    DivInv s0 (s.set m ((l * 4294967296 + x) / d)) d m ((l * 4294967296 + x) % d) := by
  have hl := h.len
  have hx2 : x = s0.getD m 0 := by rw [hx]; exact h.low m (by omega)
  have hxr := r0 m
  rw [← hx2] at hxr
  have hq := quo_bd h.l0 h.l1 hxr.1 hxr.2
  refine ⟨by rw [List.length_set]; exact hl, Nt.rng_set h.rng hq.1 hq.2.1, fun j hj => ?_, ?_, hq.2.2.1, hq.2.2.2⟩
  · rw [Nt.getD_set_ne (by omega)]; exact h.low j (by omega)
  · rw [val_drop_step (s := s0) (m := m) (by omega), val_drop_step (s := s.set m _) (m := m) (by rw [List.length_set]; exact hm), Nt.getD_set_self hm, List.drop_set_of_lt (by omega), h.eq, ← hx2]
    have := Int.emod_add_mul_ediv (l * 4294967296 + x) d
    generalize (l * 4294967296 + x) % d = r at *
    generalize (l * 4294967296 + x) / d = q at *
    grind

/-- k digits of q times v are taken from T0: what is left is T, and c is borrowed. -/
structure TakeInv (T0 zv : List Int) (q : Int) (T : List Int) (k : Nat) (c : Int) : Prop where
  len : T.length = T0.length
  rng : Nt.Rng T
  eq : Nt.vp T k - c * 4294967296 ^ k = Nt.vp T0 k - q * Nt.vp zv k
  rest : ∀ j, k ≤ j → T.getD j 0 = T0.getD j 0
theorem TakeInv.start {T0 zv : List Int} {q : Int} (h : Nt.Rng T0) : TakeInv T0 zv q T0 0 0 := ⟨rfl, h, by simp [Nt.vp], fun _ _ => rfl⟩
theorem TakeInv.step {T0 zv T : List Int} {k : Nat} {q c x n c' : Int} (h : TakeInv T0 zv q T k c) (hk : k < T.length) (hx : x = zv.getD k 0) (hn : n - c' * 4294967296 = T.getD k 0 - x * q - c) (h0 : 0 ≤ n) (h1 : n < 4294967296) :
    TakeInv T0 zv q (T.set k n) (k + 1) c' := by
  refine ⟨by rw [List.length_set]; exact h.len, Nt.rng_set h.rng h0 h1, ?_, fun j hj => ?_⟩
  · have he := h.eq
    have hr := h.rest k (Nat.le_refl _)
    rw [Nt.vp_step, Nt.vp_step, Nt.vp_step, Nt.vp_set (Nat.le_refl _), Nt.getD_set_self hk, Nt.pw_succ, ← hr, ← hx]
    generalize (4294967296 : Int) ^ k = K at *
    grind
  · rw [Nt.getD_set_ne (by omega)]; exact h.rest j (by omega)
theorem getD_pre {P T : List Int} {off k : Nat} (h : P.length = off) : (P ++ T).getD (off + k) 0 = T.getD k 0 := by
  subst h; rw [List.getD_eq_getElem?_getD, List.getElem?_append_right (by omega)]; simp [List.getD_eq_getElem?_getD]
theorem rng_pre {P T : List Int} (hP : Nt.Rng P) (hT : Nt.Rng T) : Nt.Rng (P ++ T) := by
  intro k
  by_cases c : k < P.length
  · have := hP k
    simpa [List.getD_eq_getElem?_getD, List.getElem?_append, c] using this
  · have := hT (k - P.length)
    have e : (P ++ T).getD k 0 = T.getD (k - P.length) 0 := by
      have := getD_pre (P := P) (T := T) (off := P.length) (k := k - P.length) rfl
      rw [show P.length + (k - P.length) = k by omega] at this
      exact this
    rw [e]; exact this

theorem TakeInv.done {T0 zv T : List Int} {q c n : Int} {f : Bool} (h : TakeInv T0 zv q T zv.length c) (hl : zv.length < T.length) (hn : n = T.getD zv.length 0 - c + (if f then 4294967296 else 0)) :
    Nt.vp (T.set zv.length n) (zv.length + 1) = Nt.vp T0 (zv.length + 1) - q * Nt.val zv + (if f then 4294967296 ^ (zv.length + 1) else 0) := by
  have he := h.eq
  have hr := h.rest zv.length (Nat.le_refl _)
  have ev : Nt.vp zv zv.length = Nt.val zv := rfl
  rw [ev] at he
  rw [Nt.vp_step, Nt.vp_step, Nt.vp_set (Nat.le_refl _), Nt.getD_set_self hl, Nt.pw_succ, ← hr]
  generalize (4294967296 : Int) ^ zv.length = K at *
  cases f
  · simp only [Bool.false_eq_true, if_false] at hn ⊢
    subst hn
    grind
  · simp only [if_true] at hn ⊢
    subst hn
    grind

/-- k digits of v are added to T0: T, with carry c. -/
structure GiveInv (T0 zv T : List Int) (k : Nat) (c : Int) : Prop where
  len : T.length = T0.length
  rng : Nt.Rng T
  eq : Nt.vp T k + c * 4294967296 ^ k = Nt.vp T0 k + Nt.vp zv k
  rest : ∀ j, k ≤ j → T.getD j 0 = T0.getD j 0
theorem GiveInv.start {T0 zv : List Int} (h : Nt.Rng T0) : GiveInv T0 zv T0 0 0 := ⟨rfl, h, by simp [Nt.vp], fun _ _ => rfl⟩
theorem GiveInv.step {T0 zv T : List Int} {k : Nat} {c x : Int} (h : GiveInv T0 zv T k c) (hk : k < T.length) (hx : x = zv.getD k 0) :
    GiveInv T0 zv (T.set k ((T.getD k 0 + x + c) % 4294967296)) (k + 1) ((T.getD k 0 + x + c) / 4294967296) := by
  refine ⟨by rw [List.length_set]; exact h.len, Nt.rng_set h.rng (by omega) (by omega), ?_, fun j hj => ?_⟩
  · exact Nt.sum_step hk h.eq (h.rest k (Nat.le_refl _)) hx (by omega)
  · rw [Nt.getD_set_ne (by omega)]; exact h.rest j (by omega)
theorem GiveInv.done {T0 zv T : List Int} {c : Int} (h : GiveInv T0 zv T zv.length c) (hl : zv.length < T.length) :
    Nt.vp (T.set zv.length ((T.getD zv.length 0 + c) % 4294967296)) (zv.length + 1) = Nt.vp T0 (zv.length + 1) + Nt.val zv - (T.getD zv.length 0 + c) / 4294967296 * 4294967296 ^ (zv.length + 1) := by
  have he := h.eq
  have hr := h.rest zv.length (Nat.le_refl _)
  have ev : Nt.vp zv zv.length = Nt.val zv := rfl
  rw [ev] at he
  have hn : (T.getD zv.length 0 + c) % 4294967296 + (T.getD zv.length 0 + c) / 4294967296 * 4294967296 = T.getD zv.length 0 + c := by omega
  rw [Nt.vp_step, Nt.vp_step, Nt.vp_set (Nat.le_refl _), Nt.getD_set_self hl, Nt.pw_succ, ← hr]
  generalize (T.getD zv.length 0 + c) % 4294967296 = n at *
  generalize (T.getD zv.length 0 + c) / 4294967296 = f at *
  generalize (4294967296 : Int) ^ zv.length = K at *
  grind

/-- A digit that is guessed from three digits by two: what the loop keeps. -/
structure GuInv (hi nx a b c q l : Int) : Prop where
  eq : q * hi + l = a * 4294967296 + b
  q0 : 0 ≤ q
  l0 : 0 ≤ l
  mx : 4294967295 < q + 1 ∨ (a * 4294967296 + b) * 4294967296 + c < (q + 1) * (hi * 4294967296 + nx)
theorem GuInv.start {hi nx a b c : Int} (hh : 2147483648 ≤ hi) (hn : 0 ≤ nx) (ha : 0 ≤ a) (hb : 0 ≤ b) (hc : c < 4294967296) : GuInv hi nx a b c ((a * 4294967296 + b) / hi) ((a * 4294967296 + b) % hi) := by
  have h1 := Int.emod_add_mul_ediv (a * 4294967296 + b) hi
  have h2 := Int.emod_nonneg (a * 4294967296 + b) (show hi ≠ 0 by omega)
  have h3 := Int.emod_lt_of_pos (a * 4294967296 + b) (show 0 < hi by omega)
  have h4 : 0 ≤ (a * 4294967296 + b) / hi := Int.ediv_nonneg (by omega) (by omega)
  refine ⟨?_, h4, h2, .inr ?_⟩
  · rw [Int.mul_comm]; omega
  · generalize (a * 4294967296 + b) / hi = q at *
    have h5 : 0 ≤ (q + 1) * nx := Int.mul_nonneg (by omega) hn
    have h6 : (q + 1) * (hi * 4294967296 + nx) = (hi * q + hi) * 4294967296 + (q + 1) * nx := by grind
    rw [h6]
    generalize (q + 1) * nx = y at *
    generalize hi * q = z at *
    omega
/-- What is told: the greatest digit that will do for the highest digits. -/
structure Guess (hi nx a b c q : Int) : Prop where
  q0 : 0 ≤ q
  q1 : q ≤ 4294967295
  le : q * (hi * 4294967296 + nx) ≤ (a * 4294967296 + b) * 4294967296 + c
  mx : 4294967295 < q + 1 ∨ (a * 4294967296 + b) * 4294967296 + c < (q + 1) * (hi * 4294967296 + nx)
theorem GuInv.done {hi nx a b c q l : Int} (h : GuInv hi nx a b c q l) (hq : q ≤ 4294967295) (hx : q * nx ≤ l * 4294967296 + c) : Guess hi nx a b c q := by
  refine ⟨h.q0, hq, ?_, h.mx⟩
  have he := h.eq
  rw [← he]
  have : q * (hi * 4294967296 + nx) = q * hi * 4294967296 + q * nx := by grind
  rw [this]
  generalize q * hi = z at *
  generalize q * nx = y at *
  omega
theorem GuInv.over {hi nx a b c q l : Int} (h : GuInv hi nx a b c q l) (hl : 4294967295 < l) (hh : 2147483648 ≤ hi) (hab : a ≤ hi) (hb : b < 4294967296) (hc : 0 ≤ c) (hn : 0 ≤ nx) (hn' : nx < 4294967296) : Guess hi nx a b c q := by
  have he := h.eq
  have hq0 := h.q0
  have hq : q < 4294967296 := by
    by_cases g : q < 4294967296
    · exact g
    · have h1 : 4294967296 * hi ≤ q * hi := Int.mul_le_mul_of_nonneg_right (by omega) (by omega)
      generalize q * hi = z at *
      omega
  have h2 : q * nx ≤ 4294967296 * 4294967296 := Int.mul_le_mul (by omega) (by omega) hn (by decide)
  exact h.done (by omega) (by omega)

/-- The next digit of a quotient: what is left stands in T. -/
structure Next (T0 zv T : List Int) (q : Int) : Prop where
  q0 : 0 ≤ q
  q1 : q < 4294967296
  len : T.length = T0.length
  rng : Nt.Rng T
  eq : Nt.vp T (zv.length + 1) = Nt.vp T0 (zv.length + 1) - q * Nt.val zv
  lt : Nt.vp T (zv.length + 1) < Nt.val zv
  rest : ∀ j, zv.length + 1 ≤ j → T.getD j 0 = T0.getD j 0

end Go.Proofs.Ytgfpbmjknknflaa

namespace Go.Proofs.Ytgfpbmjknknflaa
open Go.RowKit
set_option linter.unusedVariables false
set_option maxRecDepth 3000
theorem val_append (P T : List Int) : Nt.val (P ++ T) = Nt.val P + 4294967296 ^ P.length * Nt.val T := by
  induction P with
  | nil => simp [Nt.val_nil]
  | cons d P ih =>
    rw [List.cons_append, val_cons, ih, val_cons, List.length_cons, Nt.pw_succ]
    generalize (4294967296 : Int) ^ P.length = X
    grind
theorem vp_of_small {T : List Int} (hr : Nt.Rng T) {n : Nat} (hn : n ≤ T.length) (h : Nt.val T < 4294967296 ^ n) : Nt.vp T n = Nt.val T ∧ Nt.val (T.drop n) = 0 := by
  have e := val_drop_split (s := T) n hn
  have h1 := Nt.vp_bd hr n
  have h2 := Nt.val_bd (rng_drop hr n)
  have hp := Nt.pw_pos n
  have h3 : Nt.val (T.drop n) = 0 := by
    by_cases c : Nt.val (T.drop n) = 0
    · exact c
    · exfalso
      have : 4294967296 ^ n * 1 ≤ 4294967296 ^ n * Nt.val (T.drop n) := Int.mul_le_mul_of_nonneg_left (by omega) (by omega)
      omega
  rw [h3] at e
  exact ⟨by omega, h3⟩
theorem drop_eq_of_getD {T T0 : List Int} {n : Nat} (hl : T.length = T0.length) (h : ∀ j, n ≤ j → T.getD j 0 = T0.getD j 0) : T.drop n = T0.drop n := by
  refine getD_eq_of_same (fun j _ => ?_) (by simp [hl])
  have := h (n + j) (by omega)
  simpa [List.getD_eq_getElem?_getD] using this

/-- Digits from t on of the quotient are told: Q; what is left of U0 stands in U. -/
structure LongInv (U0 zv U Q : List Int) (t : Nat) : Prop where
  lu : U.length = U0.length
  ru : Nt.Rng U
  rq : Nt.Rng Q
  eq : Nt.val U0 = Nt.val (Q.drop t) * 4294967296 ^ t * Nt.val zv + Nt.val U
  lt : Nt.val (U.drop t) < Nt.val zv
theorem LongInv.window {U0 zv U Q : List Int} {t m : Nat} (h : LongInv U0 zv U Q (t + 1)) (ht : t + m + 3 ≤ U.length) (hz : zv.length = m + 2) (rv : Nt.Rng zv) :
    Nt.vp (U.drop t) (m + 3) = Nt.val (U.drop t) ∧ Nt.val ((U.drop t).drop (m + 3)) = 0 ∧ Nt.val (U.drop t) < Nt.val zv * 4294967296 := by
  have e := val_drop_step (s := U) (m := t) (by omega)
  have h1 := h.lt
  have h2 := h.ru t
  have h3 := (Nt.val_bd rv).2
  have hlt : Nt.val (U.drop t) < Nt.val zv * 4294967296 := by omega
  have h4 := vp_of_small (T := U.drop t) (rng_drop h.ru t) (n := m + 3) (by rw [List.length_drop]; omega) (by
    rw [hz, show m + 2 = m + 2 from rfl] at h3
    rw [show m + 3 = m + 2 + 1 from rfl, Nt.pw_succ]
    omega)
  exact ⟨h4.1, h4.2, hlt⟩
theorem LongInv.step {U0 zv U Q T : List Int} {t m : Nat} {q : Int} (h : LongInv U0 zv U Q (t + 1)) (ht : t + m + 3 ≤ U.length) (htq : t < Q.length) (hz : zv.length = m + 2) (rv : Nt.Rng zv) (hn : Next (U.drop t) zv T q) :
    LongInv U0 zv (U.take t ++ T) (Q.set t q) t := by
  obtain ⟨e1, e2, e3⟩ := h.window ht hz rv
  have hpl : (U.take t).length = t := by rw [List.length_take]; omega
  have hTl := hn.len
  rw [List.length_drop] at hTl
  have eT : Nt.val T = Nt.val (U.drop t) - q * Nt.val zv := by
    have a1 := val_drop_split (s := T) (m + 3) (by omega)
    have a2 := drop_eq_of_getD hn.len (n := m + 3) (by have := hn.rest; rw [hz] at this; exact this)
    have a3 := hn.eq
    rw [hz] at a3
    rw [a1, a2, e2, a3, show m + 2 + 1 = m + 3 from rfl, e1]; omega
  have hTlt : Nt.val T < Nt.val zv := by
    have a1 := val_drop_split (s := T) (m + 3) (by omega)
    have a2 := drop_eq_of_getD hn.len (n := m + 3) (by have := hn.rest; rw [hz] at this; exact this)
    have a3 := hn.lt
    rw [hz, show m + 2 + 1 = m + 3 from rfl] at a3
    rw [a1, a2, e2]; omega
  refine ⟨by rw [List.length_append, hpl, hTl]; have := h.lu; omega, rng_pre (Nt.rng_take h.ru t) hn.rng, Nt.rng_set h.rq hn.q0 hn.q1, ?_, ?_⟩
  · have b1 : Nt.val U = Nt.val (U.take t) + 4294967296 ^ t * Nt.val (U.drop t) := by
      have := val_append (U.take t) (U.drop t)
      rw [List.take_append_drop, hpl] at this
      exact this
    have b2 := val_append (U.take t) T
    rw [hpl] at b2
    have b3 := val_drop_step (s := Q.set t q) (m := t) (by rw [List.length_set]; exact htq)
    have b5 : (Q.set t q).drop (t + 1) = Q.drop (t + 1) := List.drop_set_of_lt (by omega)
    rw [Nt.getD_set_self htq, b5] at b3
    have b4 := h.eq
    rw [Nt.pw_succ] at b4
    rw [b4, b3, b2, b1, eT]
    generalize (4294967296 : Int) ^ t = X
    grind
  · have : (U.take t ++ T).drop t = T := by
      rw [List.drop_append_of_le_length (by omega), List.drop_eq_nil_of_le (by omega), List.nil_append]
    rw [this]; exact hTlt

theorem pow2_split (n wh p : Nat) (h : n = 32 * wh + p) : (2 : Int) ^ n = 4294967296 ^ wh * 2 ^ p := by
  subst h
  rw [Int.pow_add, Int.pow_mul]
  rfl
theorem LongInv.start {zu zv za zb : List Int} {p n ee m : Nat} (cu : Nt.Can zu) (hv : Nt.val zu = Nt.val za * 2 ^ p) (hvv : Nt.val zv = Nt.val zb * 2 ^ p) (ca : Nt.Can za) (cb : Nt.Can zb) (hz : zb.length = m + 2) (he : za.length = m + 2 + ee) (hl : zu.length + n = za.length + 1) :
    LongInv (zu ++ List.replicate n 0) zv (zu ++ List.replicate n 0) (List.replicate (ee + 1) 0) (ee + 1) := by
  have hr := rng_app n cu.1
  refine ⟨rfl, hr, fun k => by rw [getD_rep]; decide, ?_, ?_⟩
  · rw [List.drop_eq_nil_of_le (by simp), Nt.val_nil]; omega
  · have hval : Nt.val (zu ++ List.replicate n 0) = Nt.val zu := by
      rw [val_append]
      have : Nt.val (List.replicate n (0 : Int)) = 0 := vp_rep _ _
      rw [this]; omega
    rw [val_drop_div hr (ee + 1) (by simp; omega), hval, hv, hvv]
    refine Int.ediv_lt_of_lt_mul (Nt.pw_pos _) ?_
    have h1 := (Nt.val_bd ca.1).2
    have h2 := can_ge cb (by omega)
    have hT : (0 : Int) < 2 ^ p := Int.pow_pos (by decide)
    have h3 : (4294967296 : Int) ^ (zb.length - 1) * 4294967296 ^ (ee + 1) ≤ Nt.val zb * 4294967296 ^ (ee + 1) := Int.mul_le_mul_of_nonneg_right h2 (Int.le_of_lt (Nt.pw_pos _))
    rw [← Nt.pw_add, hz, show m + 2 - 1 + (ee + 1) = za.length by omega] at h3
    have h4 : Nt.val za * 2 ^ p < Nt.val zb * 4294967296 ^ (ee + 1) * 2 ^ p := Int.mul_lt_mul_of_pos_right (by omega) hT
    have e : Nt.val zb * 2 ^ p * 4294967296 ^ (ee + 1) = Nt.val zb * 4294967296 ^ (ee + 1) * 2 ^ p := by grind
    rw [e]; exact h4
/-- What a division answers. -/
def Divs (w w' : World) (za zb : List Int) (v : Value → Value → Value) (e : Ending) : Prop := ∃ zq zr aq cq ar cr, e = .returned (v (.slice aq zq.length cq) (.slice ar zr.length cr)) ∧ Own w.heap.size w' (.slice aq zq.length cq) zq ∧ Own w.heap.size w' (.slice ar zr.length cr) zr ∧ Nt.Can zq ∧ Nt.Can zr ∧ Nt.val za = Nt.val zq * Nt.val zb + Nt.val zr ∧ Nt.val zr < Nt.val zb ∧ Below w.heap.size w w'
def two (x y : Value) : Value := .tuple #[x, y]

def three (x y : Value) : Value := .tuple #[x, y, .int .i64 0]
/-- How many bits: BL. -/
structure Bits (x : Int) (BL : Nat) : Prop where
  lt : x < 2 ^ BL
  le : (2 : Int) ^ BL ≤ 2 * x
theorem bits_top {za : List Int} {k L : Nat} (hr : Nt.Rng za) (hz : za.length = k + 1) (h1 : za.getD k 0 < 2 ^ L) (h2 : (2 : Int) ^ L ≤ 2 * za.getD k 0) : Bits (Nt.val za) (32 * k + L) := by
  have e : Nt.val za = Nt.vp za k + za.getD k 0 * 4294967296 ^ k := by unfold Nt.val; rw [hz, Nt.vp_step]
  have b := Nt.vp_bd hr k
  have hp := Nt.pw_pos k
  have e2 : (2 : Int) ^ (32 * k + L) = 2 ^ L * 4294967296 ^ k := by
    rw [Int.pow_add, Int.pow_mul, show (2 : Int) ^ 32 = 4294967296 by decide, Int.mul_comm]
  refine ⟨?_, ?_⟩
  · rw [e, e2]
    have : (za.getD k 0 + 1) * 4294967296 ^ k ≤ 2 ^ L * 4294967296 ^ k := Int.mul_le_mul_of_nonneg_right (by omega) (by omega)
    rw [Int.add_mul] at this
    omega
  · rw [e, e2]
    have : 2 ^ L * 4294967296 ^ k ≤ 2 * za.getD k 0 * 4294967296 ^ k := Int.mul_le_mul_of_nonneg_right h2 (by omega)
    rw [Int.mul_assoc] at this
    omega

/-- One step of Newton's, kept to one on either side. -/
theorem newton {m a T y f g : Int} (ha : 1 ≤ a) (hT : 1 ≤ T) (hy : 2 * y = T * a) (hTa : T ≤ 2 * a) (h1 : T * T * ((a - 1) * (a - 1)) < m) (h2 : m < T * T * ((a + 1) * (a + 1))) (hm : m = 4 * y * f + g) (hg0 : 0 ≤ g) (hg1 : g < 4 * y) (hf : 0 ≤ f) :
    (y + f - 1) * (y + f - 1) < m ∧ m < (y + f + 1) * (y + f + 1) := by
  have hTa1 : 1 ≤ T * a := by
    have : 1 * 1 ≤ T * a := Int.mul_le_mul hT ha (by decide) (by omega)
    omega
  have hy1 : 1 ≤ y := by omega
  have hTT : T * T ≤ 4 * y := by
    have : T * T ≤ T * (2 * a) := Int.mul_le_mul_of_nonneg_left hTa (by omega)
    have e : T * (2 * a) = 2 * (T * a) := by grind
    omega
  have e1 : T * T * ((a - 1) * (a - 1)) = (2 * y - T) * (2 * y - T) := by rw [hy]; grind
  have e2 : T * T * ((a + 1) * (a + 1)) = (2 * y + T) * (2 * y + T) := by rw [hy]; grind
  rw [e1] at h1
  rw [e2] at h2
  constructor
  · by_cases c : (y + f - 1) * (y + f - 1) < m
    · exact c
    · exfalso
      generalize ht : y + f - 1 = t at *
      have hf2 : f = t - y + 1 := by omega
      subst hf2
      have ht0 : 0 ≤ t := by omega
      -- (t - 2y)^2 >= 4y
      have c1 : m ≤ t * t := by omega
      have c2 : 4 * y ≤ (t - 2 * y) * (t - 2 * y) := by
        have : 4 * y * (t - y + 1) ≤ t * t := by omega
        have e : (t - 2 * y) * (t - 2 * y) = t * t - 4 * y * (t - y + 1) + 4 * y := by grind
        omega
      rcases (show t < 2 * y - T + 1 ∨ 2 * y - T + 1 ≤ t by omega) with d | d
      · have : t * t ≤ (2 * y - T) * (2 * y - T) := Int.mul_le_mul (by omega) (by omega) ht0 (by omega)
        omega
      · rcases (show t < 2 * y + T ∨ 2 * y + T ≤ t by omega) with d2 | d2
        · -- |t - 2y| < T
          have d3 : (t - 2 * y) * (t - 2 * y) < T * T := by
            have p1 : 0 < T - (t - 2 * y) := by omega
            have p2 : 0 < T + (t - 2 * y) := by omega
            have p3 := Int.mul_pos p1 p2
            have e : (T - (t - 2 * y)) * (T + (t - 2 * y)) = T * T - (t - 2 * y) * (t - 2 * y) := by grind
            omega
          omega
        · have d3 : 4 * y * (y + T + 1) ≤ 4 * y * (t - y + 1) := Int.mul_le_mul_of_nonneg_left (by omega) (by omega)
          have e : (2 * y + T) * (2 * y + T) = 4 * y * (y + T + 1) - 4 * y + T * T := by grind
          omega
  · have e : (y + f + 1) * (y + f + 1) = (y - (f + 1)) * (y - (f + 1)) + 4 * y * f + 4 * y := by grind
    have : 0 ≤ (y - (f + 1)) * (y - (f + 1)) := by
      rcases (show y - (f + 1) < 0 ∨ 0 ≤ y - (f + 1) by omega) with d | d
      · exact Int.mul_nonneg_of_nonpos_of_nonpos (by omega) (by omega)
      · exact Int.mul_nonneg d d
    omega

/-- a is a root, one too great at most, of as much of n as d bits of its root say. -/
structure RootInv (n : Int) (c d : Nat) (a : Int) : Prop where
  one : 1 ≤ a
  lo : (a - 1) * (a - 1) < n / 2 ^ (2 * (c - d))
  hi : n / 2 ^ (2 * (c - d)) < (a + 1) * (a + 1)
theorem p2pos (k : Nat) : (0 : Int) < 2 ^ k := Int.pow_pos (by decide)
theorem p2mono {i j : Nat} (h : i ≤ j) : (2 : Int) ^ i ≤ 2 ^ j := by
  obtain ⟨k, rfl⟩ : ∃ k, j = i + k := ⟨j - i, by omega⟩
  rw [Int.pow_add]
  have := p2pos k
  have : 2 ^ i * 1 ≤ (2 : Int) ^ i * 2 ^ k := Int.mul_le_mul_of_nonneg_left (by omega) (Int.le_of_lt (p2pos i))
  omega
theorem sq_lt {x y : Int} (hy : 0 ≤ y) (h : x * x < y * y) : x < y := by
  by_cases c : x < y
  · exact c
  · have : y * y ≤ x * x := Int.mul_le_mul (by omega) (by omega) hy (by omega)
    omega
theorem RootInv.step {n a : Int} {c e d : Nat} (h : RootInv n c e a) (hed : e < d) (hdc : d ≤ c) (hd2 : d ≤ 2 * e + 1) (hn : (2 : Int) ^ (2 * c) ≤ n) :
    RootInv n c d (a * 2 ^ (d - e - 1) + n / 2 ^ (2 * c - e - d + 1) / a) := by
  obtain ⟨h1, h2, h3⟩ := h
  obtain ⟨k, rfl⟩ : ∃ k, d = e + 1 + k := ⟨d - e - 1, by omega⟩
  have hn0 : 0 ≤ n := by have := p2pos (2 * c); omega
  have eM : n / 2 ^ (2 * (c - e)) = n / 2 ^ (2 * (c - (e + 1 + k))) / (2 ^ (k + 1) * 2 ^ (k + 1)) := by
    rw [Int.ediv_ediv_of_nonneg (Int.le_of_lt (p2pos _)), ← Int.pow_add, ← Int.pow_add, show 2 * (c - (e + 1 + k)) + (k + 1 + (k + 1)) = 2 * (c - e) by omega]
  have eP : n / 2 ^ (2 * c - e - (e + 1 + k) + 1) / a = n / 2 ^ (2 * (c - (e + 1 + k))) / (4 * (a * 2 ^ k)) := by
    rw [Int.ediv_ediv_of_nonneg (Int.le_of_lt (p2pos _)), Int.ediv_ediv_of_nonneg (Int.le_of_lt (p2pos _))]
    congr 1
    rw [show 2 * c - e - (e + 1 + k) + 1 = 2 * (c - (e + 1 + k)) + (k + 2) by omega, Int.pow_add, Int.pow_add 2 k 2]
    have : (2 : Int) ^ 2 = 4 := by decide
    rw [this]
    generalize (2 : Int) ^ (2 * (c - (e + 1 + k))) = X
    generalize (2 : Int) ^ k = Y
    grind
  have hM : (2 : Int) ^ (2 * e) ≤ n / 2 ^ (2 * (c - e)) := by
    refine Int.le_ediv_of_mul_le (p2pos _) ?_
    rw [← Int.pow_add, show 2 * e + 2 * (c - e) = 2 * c by omega]; exact hn
  have hae : (2 : Int) ^ e < a + 1 := by
    refine sq_lt (by omega) ?_
    rw [← Int.pow_add, show e + e = 2 * e by omega]
    omega
  have hT : (2 : Int) ^ (k + 1) ≤ 2 * a := by
    have := p2mono (show k + 1 ≤ e + 1 by omega)
    rw [Int.pow_succ 2 e] at this
    omega
  rw [eP, show e + 1 + k - e - 1 = k by omega]
  rw [eM] at h2 h3
  suffices hs : ∀ b, b = a * 2 ^ k + n / 2 ^ (2 * (c - (e + 1 + k))) / (4 * (a * 2 ^ k)) → 1 ≤ b ∧ (b - 1) * (b - 1) < n / 2 ^ (2 * (c - (e + 1 + k))) ∧ n / 2 ^ (2 * (c - (e + 1 + k))) < (b + 1) * (b + 1) from
    ⟨(hs _ rfl).1, (hs _ rfl).2.1, (hs _ rfl).2.2⟩
  intro b hb
  have hm0 : 0 ≤ n / 2 ^ (2 * (c - (e + 1 + k))) := Int.ediv_nonneg hn0 (Int.le_of_lt (p2pos _))
  generalize n / 2 ^ (2 * (c - (e + 1 + k))) = m at *
  have hT1 : (1 : Int) ≤ 2 ^ (k + 1) := by have := p2pos (k + 1); omega
  have hy : 2 * (a * 2 ^ k) = 2 ^ (k + 1) * a := by rw [Int.pow_succ]; grind
  generalize (2 : Int) ^ (k + 1) = T at *
  have hyp : 1 ≤ a * 2 ^ k := by
    have : 1 * 1 ≤ a * 2 ^ k := Int.mul_le_mul h1 (by have := p2pos k; omega) (by decide) (by omega)
    omega
  generalize a * 2 ^ k = y at *
  have hTT : 0 < T * T := Int.mul_pos (by omega) (by omega)
  have q1 := Int.emod_add_mul_ediv m (T * T)
  have q2 := Int.emod_nonneg m (show T * T ≠ 0 by omega)
  have q3 := Int.emod_lt_of_pos m hTT
  have r1 := Int.emod_add_mul_ediv m (4 * y)
  have r2 := Int.emod_nonneg m (show 4 * y ≠ 0 by omega)
  have r3 := Int.emod_lt_of_pos m (show 0 < 4 * y by omega)
  have r4 : 0 ≤ m / (4 * y) := Int.ediv_nonneg hm0 (by omega)
  generalize m / (T * T) = M at *
  have hl : T * T * ((a - 1) * (a - 1)) < m := by
    have : T * T * ((a - 1) * (a - 1) + 1) ≤ T * T * M := Int.mul_le_mul_of_nonneg_left (by omega) (by omega)
    rw [Int.mul_add] at this
    omega
  have hh : m < T * T * ((a + 1) * (a + 1)) := by
    have : T * T * (M + 1) ≤ T * T * ((a + 1) * (a + 1)) := Int.mul_le_mul_of_nonneg_left (by omega) (by omega)
    rw [Int.mul_add] at this
    omega
  generalize m / (4 * y) = f at *
  generalize m % (4 * y) = g at *
  have := newton h1 hT1 hy hT hl hh (show m = 4 * y * f + g by omega) r2 r3 r4
  subst hb
  exact ⟨by omega, this.1, this.2⟩

theorem RootInv.start {n : Int} {BL c : Nat} (hb : Bits n BL) (hc : c = (BL - 1) / 2) (h1 : 1 ≤ BL) : RootInv n c 0 1 ∧ (2 : Int) ^ (2 * c) ≤ n := by
  obtain ⟨hlt, hle⟩ := hb
  have e1 : (2 : Int) ^ BL = 2 * 2 ^ (BL - 1) := by
    obtain ⟨k, rfl⟩ : ∃ k, BL = k + 1 := ⟨BL - 1, by omega⟩
    rw [Int.pow_succ, Nat.add_sub_cancel]; omega
  have lo : (2 : Int) ^ (2 * c) ≤ n := by
    have := p2mono (show 2 * c ≤ BL - 1 by omega)
    omega
  have hi : n < 2 ^ (2 * c) * 4 := by
    have := p2mono (show BL ≤ 2 * c + 2 by omega)
    rw [Int.pow_add] at this
    have e : (2 : Int) ^ 2 = 4 := by decide
    omega
  refine ⟨⟨by decide, ?_, ?_⟩, lo⟩
  · rw [Nat.sub_zero]
    have : 1 ≤ n / 2 ^ (2 * c) := Int.le_ediv_of_mul_le (p2pos _) (by omega)
    omega
  · rw [Nat.sub_zero]
    have : n / 2 ^ (2 * c) < 4 := Int.ediv_lt_of_lt_mul (p2pos _) (by omega)
    omega
theorem RootInv.len {n a : Int} {c d : Nat} (h : RootInv n c d a) (hn : 0 ≤ n) : a ≤ n + 1 := by
  have h1 := h.lo
  have h2 := h.one
  have h3 : n / 2 ^ (2 * (c - d)) ≤ n := Int.ediv_le_self _ hn
  have h4 : (a - 1) * 1 ≤ (a - 1) * (a - 1) ∨ a = 1 := by
    by_cases e : a = 1
    · exact .inr e
    · exact .inl (Int.mul_le_mul_of_nonneg_left (by omega) (by omega))
  rcases h4 with h4 | h4 <;> omega
theorem up_val (x : Int) (u : Nat) : x * 2 ^ (u % 32) * 4294967296 ^ (u / 32) = x * 2 ^ u := by
  rw [pow2_split u (u / 32) (u % 32) (by omega), Int.mul_assoc, Int.mul_comm (2 ^ (u % 32))]
/-- What a root answers. -/
def Roots (w w' : World) (za : List Int) (e : Ending) : Prop := ∃ zr a c, e = .returned (.tuple #[.slice a zr.length c, .bool (decide (Nt.val zr * Nt.val zr = Nt.val za)), .int .i64 0]) ∧ Own w.heap.size w' (.slice a zr.length c) zr ∧ Nt.Can zr ∧ Nt.val zr * Nt.val zr ≤ Nt.val za ∧ Nt.val za < (Nt.val zr + 1) * (Nt.val zr + 1) ∧ Below w.heap.size w w'

end Go.Proofs.Ytgfpbmjknknflaa
