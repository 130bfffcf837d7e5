import Derived.Test.YtchmljbkophdaaaGreatDoorRoundRootsPart12
import Derived.Test.YtchmljbkophdaaaGreatDoorRoundRootsPart7
import Derived.Test.YtchmljbkophdaaaGreatDoorRoundRootsPart9
import Derived.Test.YtchmljbkophdaaaGreatDoorRoundRootsPart8
namespace Go.Proofs.YtchmljbkophdaaaGreatDoor
open Go.RowKit Go.Wd Go.Box
set_option linter.unusedVariables false
set_option maxRecDepth 20000
theorem isqrt_ex (m : Nat) : ∃ r : Nat, r * r ≤ m ∧ m < (r + 1) * (r + 1) := by
  induction m with
  | zero => exact ⟨0, by decide, by decide⟩
  | succ m ih =>
    obtain ⟨r, h1, h2⟩ := ih
    by_cases h : m + 1 < (r + 1) * (r + 1)
    · exact ⟨r, by omega, h⟩
    · have e : (r + 1 + 1) * (r + 1 + 1) = (r + 1) * (r + 1) + 2 * r + 3 := by grind
      exact ⟨r + 1, by omega, by omega⟩
theorem isqrtI {m : Int} (h : 0 ≤ m) : ∃ r : Int, 0 ≤ r ∧ r * r ≤ m ∧ m < (r + 1) * (r + 1) := by
  obtain ⟨r, h1, h2⟩ := isqrt_ex m.toNat
  refine ⟨r, by omega, ?_, ?_⟩
  · have : ((r * r : Nat) : Int) ≤ m := by omega
    rw [Int.natCast_mul] at this; exact this
  · have : m < (((r + 1) * (r + 1) : Nat) : Int) := by omega
    rw [Int.natCast_mul] at this; exact this
theorem rt_ex {x : Int} (hx : 0 ≤ x) (e i : Int) : ∃ r g, RtAt x e i r g := by
  obtain ⟨r, h0, h1, h2⟩ := isqrtI (m := x * 2 ^ (e + 2 * i).toNat / 2 ^ (-(e + 2 * i)).toNat) (Int.ediv_nonneg (Int.mul_nonneg hx (Int.le_of_lt (p2pos _))) (Int.le_of_lt (p2pos _)))
  exact ⟨r, _, rt_of rfl h0 h1 h2⟩
theorem sq_lt_of {a b : Int} (ha : 0 ≤ a) (hb : 0 ≤ b) (h : a * a < b * b) : a < b := by
  refine Classical.byContradiction fun c => ?_
  have := sq_mono hb (show b ≤ a by omega)
  omega
/-- How many bits the root has. -/
theorem rt_bits_ge {x e i r : Int} {g : Bool} {L : Nat} (h : RtAt x e i r g) (bx : Bits x L) (k : Nat) (hk : (2 * k : Int) + 1 ≤ L + (e + 2 * i)) : 2 ^ k ≤ r := by
  have hn := h.nn
  have h1 := h.lt
  have h2 := (bx.up (e + 2 * i).toNat).le
  have h3 := p2le (show k + k + (-(e + 2 * i)).toNat + 1 ≤ L + (e + 2 * i).toNat by omega)
  rw [Int.pow_succ, Int.pow_add, Int.pow_add] at h3
  have hp := p2pos (-(e + 2 * i)).toNat
  have h4 : 2 ^ k * 2 ^ k * 2 ^ (-(e + 2 * i)).toNat < (r + 1) * (r + 1) * 2 ^ (-(e + 2 * i)).toNat := by omega
  have h5 := Int.lt_of_mul_lt_mul_right h4 (by omega)
  have := sq_lt_of (by have := p2pos k; omega) (by omega) h5
  omega
theorem rt_bits_lt {x e i r : Int} {g : Bool} {L : Nat} (h : RtAt x e i r g) (bx : Bits x L) (k : Nat) (hk : (L : Int) + (e + 2 * i) ≤ 2 * k) : r < 2 ^ k := by
  have hn := h.nn
  have h1 := h.le
  have h2 := (bx.up (e + 2 * i).toNat).lt
  have h3 := p2le (show L + (e + 2 * i).toNat ≤ k + k + (-(e + 2 * i)).toNat by omega)
  rw [Int.pow_add 2 (k + k), Int.pow_add 2 k] at h3
  have hp := p2pos (-(e + 2 * i)).toNat
  have h4 : r * r * 2 ^ (-(e + 2 * i)).toNat < 2 ^ k * 2 ^ k * 2 ^ (-(e + 2 * i)).toNat := by omega
  exact sq_lt_of hn (by have := p2pos k; omega) (Int.lt_of_mul_lt_mul_right h4 (by omega))
/-- The quotient of two numbers, cut to b bits. -/
structure QAt (x y : Int) (b : Nat) (i : Int) : Prop where
  bits : BitLen (qf x y i) b
theorem q_prog {x y : Int} {La Lb : Nat} (bx : Bits x La) (bY : Bits y Lb) (hx : 0 < x) (hy : 0 < y) (b : Nat) (hb : 1 ≤ b) (i : Int) (hi : (b : Int) + Lb - La ≤ i) {B : Nat} (hB : BitLen (qf x y i) B) : b ≤ B := by
  obtain ⟨k, rfl⟩ : ∃ k, b = k + 1 := ⟨b - 1, by omega⟩
  exact bl_ge hB (qf_ge bx bY hy k i (by omega))
theorem q_idx {x y i j : Int} (hy : 0 < y) {b : Nat} (hb : 0 < b) (h : BitLen (qf x y i) b) (k : BitLen (qf x y j) b) : i = j := (qFam x y hy).idx (⟨rfl, rfl⟩ : _ ∧ _) (⟨rfl, rfl⟩ : _ ∧ _) h k hb
theorem quoT (n1 n2 : Bool) (a1 a2 : Option Addr) (c1 c2 : Nat) (z1 z2 : List Int) (e1 e2 : Int) (w : World) (l1 : Lie w a1 z1) (l2 : Lie w a2 z2) (g1 : DG n1 z1 e1) (g2 : DG n2 z2 e2) (hT : Tab w) (bits : Int) (b : Nat) (hbb : bits = (b : Int)) (hb1 : 1 ≤ bits) (hb2 : bits ≤ 8192) (hz1 : 0 < z1.length) (hz2 : 0 < z2.length) {i : Int} (hi : BitLen (qf (Nt.val z1) (Nt.val z2) i) b) :
    Calls Tryz.prog 95 #[dV n1 a1 z1.length c1 e1, dV n2 a2 z2.length c2 e2, .int .i64 bits] w fun e w' => DCut w w' (sv (n1 != n2) (qf (Nt.val z1) (Nt.val z2) i)) (e1 - e2 - i) (qg (Nt.val z1) (Nt.val z2) i) e := by
  have p1 := g1.pos hz1
  have p2 := g2.pos hz2
  obtain ⟨La, hLa⟩ := bitLen_ex (Int.le_of_lt p1)
  obtain ⟨Lb, hLb⟩ := bitLen_ex (Int.le_of_lt p2)
  have bx : Bits (Nt.val z1) La := by rcases hLa with ⟨h, _⟩ | ⟨_, h⟩; omega; exact h
  have bY : Bits (Nt.val z2) Lb := by rcases hLb with ⟨h, _⟩ | ⟨_, h⟩; omega; exact h
  have s1 := g_size g1 bx
  have s2 := g_size g2 bY
  obtain ⟨B, hB⟩ := bitLen_ex (qf_nn (Int.le_of_lt p1) p2 (bits + Lb - La))
  have h1 := q_prog bx bY p1 p2 b (by omega) _ (by omega) hB
  have h2 : B ≤ b + 1 := bl_le hB (qf_lt bx bY p2 (b + 1) _ (by omega))
  have hd := hB.down (B - b)
  rw [← qf_down _ _ p2, show B - (B - b) = b by omega] at hd
  have e := q_idx p2 (by omega) hd hi
  have := quo_good n1 n2 a1 a2 c1 c2 z1 z2 e1 e2 bits w l1 l2 g1 g2 hT hb1 hb2 hz1 hz2 bx bY _ rfl hB (by omega) (B - b) (by omega)
  rw [← qf_down _ _ p2, ← qg_down _ _ p2, e, show e1 - e2 - (bits + Lb - La) + ((B - b : Nat) : Int) = e1 - e2 - i by omega] at this
  exact this
theorem tm_even {a : Int} (h : a.tmod 2 = 0) : ∃ i, a = 2 * i := ⟨a.tdiv 2, by have := Int.mul_tdiv_add_tmod a 2; omega⟩
theorem tm_odd {a : Int} (h : ¬ a.tmod 2 = 0) : ∃ i, a = 2 * i + 1 := by
  have h1 := Int.mul_tdiv_add_tmod a 2
  have h2 : a.tmod 2 = 1 ∨ a.tmod 2 = -1 := by
    by_cases h0 : 0 ≤ a
    · rw [Int.tmod_eq_emod_of_nonneg h0] at h ⊢; omega
    · have e : a.tmod 2 = -((-a).tmod 2) := by rw [Int.neg_tmod, Int.neg_neg]
      rw [e, Int.tmod_eq_emod_of_nonneg (by omega)] at h ⊢; omega
  rcases h2 with h2 | h2
  · exact ⟨a.tdiv 2, by omega⟩
  · exact ⟨a.tdiv 2 - 1, by omega⟩
/-- The root of a number, cut to b bits. -/
structure RAt (x e : Int) (b : Nat) (i r : Int) (g : Bool) : Prop where
  rt : RtAt x e i r g
  bits : BitLen r b
theorem rootT (a : Option Addr) (c : Nat) (zs : List Int) (ex : Int) (w : World) (l : Lie w a zs) (g : DG false zs ex) (hT : Tab w) (bits : Int) (b : Nat) (hbb : bits = (b : Int)) (hb1 : 1 ≤ bits) (hb2 : bits ≤ 8192) (hz : 0 < zs.length) {i r : Int} {more : Bool} (hR : RAt (Nt.val zs) ex b i r more) :
    Calls Tryz.prog 98 #[dV false a zs.length c ex, .int .i64 bits] w fun e w' => DCut w w' (sv false r) (-i) more e := by
  have p1 := g.pos hz
  obtain ⟨La, hLa⟩ := bitLen_ex (Int.le_of_lt p1)
  have bx : Bits (Nt.val zs) La := by rcases hLa with ⟨h, _⟩ | ⟨_, h⟩; omega; exact h
  have s1 := g_size g bx
  have key : ∀ up j : Int, up = ex + 2 * j → up ≤ 2 * bits - La → 2 * bits - La - 1 ≤ up → RtAt (Nt.val zs) ex j r more ∧ j = i := by
    intro up j h1 h2 h3
    obtain ⟨r2, g2, h4⟩ := rt_ex (Int.le_of_lt p1) ex j
    obtain ⟨B, hB⟩ := bitLen_ex h4.nn
    obtain ⟨k, hk⟩ : ∃ k, b = k + 1 := ⟨b - 1, by omega⟩
    have k1 := bl_ge hB (rt_bits_ge h4 bx k (by omega))
    have k2 := bl_le hB (rt_bits_lt h4 bx b (by omega))
    obtain rfl : B = b := by omega
    have e := (rtFam _ _).idx h4 hR.rt hB hR.bits (by omega)
    subst e
    exact ⟨hR.rt, rfl⟩
  have hd0 : max ((b : Int) - bits) 0 = ((0 : Nat) : Int) := by omega
  by_cases hp : (ex - (2 * bits - (La : Int))).tmod 2 = 0
  · obtain ⟨j, hj⟩ := tm_even hp
    obtain ⟨k1, k2⟩ := key (2 * bits - (La : Int)) (-j) (by omega) (by omega) (by omega)
    have := root_even a c zs ex bits w l g hT hb1 hb2 hz bx hp _ (-j) r more rfl (by omega) k1 hR.bits (by omega) 0 hd0
    rw [k2, Int.pow_zero, Int.ediv_one, Int.emod_one, show -i + ((0 : Nat) : Int) = -i by omega] at this
    simpa using this
  · obtain ⟨j, hj⟩ := tm_odd hp
    obtain ⟨k1, k2⟩ := key (2 * bits - (La : Int) - 1) (-j - 1) (by omega) (by omega) (by omega)
    have := root_odd a c zs ex bits w l g hT hb1 hb2 hz bx hp _ (-j - 1) r more rfl (by omega) k1 hR.bits (by omega) 0 hd0
    rw [k2, Int.pow_zero, Int.ediv_one, Int.emod_one, show -i + ((0 : Nat) : Int) = -i by omega] at this
    simpa using this
theorem r_at {x : Int} {L : Nat} (bx : Bits x L) (hx : 0 < x) (e : Int) (b : Nat) (hb : 1 ≤ b) : ∃ i r g, RAt x e b i r g ∧ 2 * (b : Int) - L - 1 ≤ e + 2 * i ∧ e + 2 * i ≤ 2 * b - L := by
  obtain ⟨j, hj⟩ : ∃ j : Int, 2 * (b : Int) - L - 1 ≤ e + 2 * j ∧ e + 2 * j ≤ 2 * b - L := ⟨(2 * (b : Int) - L - e) / 2, by omega⟩
  obtain ⟨r, g, h⟩ := rt_ex (Int.le_of_lt hx) e j
  obtain ⟨B, hB⟩ := bitLen_ex h.nn
  obtain ⟨k, hk⟩ : ∃ k, b = k + 1 := ⟨b - 1, by omega⟩
  have k1 := bl_ge hB (rt_bits_ge h bx k (by omega))
  have k2 := bl_le hB (rt_bits_lt h bx b (by omega))
  obtain rfl : B = b := by omega
  exact ⟨j, r, g, ⟨h, hB⟩, hj.1, hj.2⟩
theorem rRootT (a : Option Addr) (c : Nat) (zs : List Int) (ex : Int) (w : World) (l : Lie w a zs) (g : DG false zs ex) (bits : Int) (b : Nat) (hbb : bits = (b : Int)) (hb1 : 1 ≤ bits) (hb2 : bits ≤ 8192) (hz : 0 < zs.length) {i r : Int} {more : Bool} (hR : RAt (Nt.val zs) ex b i r more) :
    Calls Tryz.prog 65 #[dV false a zs.length c ex, .int .i64 bits] w fun e w' => RCut w w' (sv false r) (-i) more e := by
  have p1 := g.pos hz
  obtain ⟨La, hLa⟩ := bitLen_ex (Int.le_of_lt p1)
  have bx : Bits (Nt.val zs) La := by rcases hLa with ⟨h, _⟩ | ⟨_, h⟩; omega; exact h
  have s1 := g_size g bx
  have key : ∀ (n : Nat) (j : Int), (n : Int) = ex + 2 * j → 2 * bits + 2 - La ≤ n → (n : Int) ≤ 1 ∨ (n : Int) ≤ 2 * bits + 3 - La → ∃ (r2 : Int) (g2 : Bool) (C d : Nat), RtAt (Nt.val zs) ex j r2 g2 ∧ 0 < r2 ∧ BitLen r2 C ∧ C ≤ 131072 ∧ max ((C : Int) - bits) 0 = (d : Int) ∧ -j + (d : Int) = -i ∧ r2 / 2 ^ d = r ∧ (decide (r2 % 2 ^ d ≠ 0) || g2) = more := by
    intro n j h1 h2 h3
    obtain ⟨r2, g2, h4⟩ := rt_ex (Int.le_of_lt p1) ex j
    obtain ⟨C, hC⟩ := bitLen_ex h4.nn
    have k1 := bl_ge hC (rt_bits_ge h4 bx b (by omega))
    have k2 : C ≤ 131072 := by
      rcases h3 with h3 | h3
      · have := bl_le hC (rt_bits_lt h4 bx La (by omega)); omega
      · have := bl_le hC (rt_bits_lt h4 bx (b + 2) (by omega)); omega
    have q := (rtFam _ _).down _ _ _ (C - b) h4
    have hd := hC.down (C - b)
    rw [show C - (C - b) = b by omega] at hd
    have e := (rtFam _ _).idx q hR.rt hd hR.bits (by omega)
    rw [e] at q
    obtain ⟨u1, u2⟩ := (rtFam _ _).uniq _ _ _ _ _ q hR.rt
    refine ⟨r2, g2, C, C - b, h4, ?_, hC, k2, by omega, by omega, u1, u2⟩
    rcases hC with ⟨_, h⟩ | ⟨h, _⟩
    · omega
    · exact h
  by_cases hneg : 2 * bits + 2 - (La : Int) < 0
  · by_cases hp : ex.tmod 2 = 0
    · obtain ⟨j, hj⟩ := tm_even hp
      obtain ⟨r2, g2, C, d, h4, h5, hC, h6, h7, h8, h9, h10⟩ := key 0 (-j) (by omega) (by omega) (.inl (by decide))
      have := rRoot_lowe a c zs ex bits w l g hb1 hb2 hz bx 0 rfl hp hneg (by decide) (-j) r2 g2 (by omega) h4 h5 hC h6 d h7
      rw [h8, h9, h10] at this
      exact this
    · obtain ⟨j, hj⟩ := tm_odd hp
      obtain ⟨r2, g2, C, d, h4, h5, hC, h6, h7, h8, h9, h10⟩ := key 1 (-j) (by omega) (by omega) (.inl (by decide))
      have := rRoot_lowo a c zs ex bits w l g hb1 hb2 hz bx 1 rfl hp hneg (by decide) (-j) r2 g2 (by omega) h4 h5 hC h6 d h7
      rw [h8, h9, h10] at this
      exact this
  · by_cases hp : (ex - (2 * bits + 2 - (La : Int))).tmod 2 = 0
    · obtain ⟨j, hj⟩ := tm_even hp
      obtain ⟨n, hN⟩ : ∃ n : Nat, 2 * bits + 2 - (La : Int) = (n : Int) := ⟨(2 * bits + 2 - (La : Int)).toNat, by omega⟩
      obtain ⟨r2, g2, C, d, h4, h5, hC, h6, h7, h8, h9, h10⟩ := key n (-j) (by omega) (by omega) (.inr (by omega))
      have := rRoot_upe a c zs ex bits w l g hb1 hb2 hz bx n hN hp (by omega) (by omega) (-j) r2 g2 (by omega) h4 h5 hC h6 d h7
      rw [h8, h9, h10] at this
      exact this
    · obtain ⟨j, hj⟩ := tm_odd hp
      obtain ⟨n, hN⟩ : ∃ n : Nat, 2 * bits + 2 - (La : Int) + 1 = (n : Int) := ⟨(2 * bits + 2 - (La : Int) + 1).toNat, by omega⟩
      obtain ⟨r2, g2, C, d, h4, h5, hC, h6, h7, h8, h9, h10⟩ := key n (-j) (by omega) (by omega) (.inr (by omega))
      have := rRoot_upo a c zs ex bits w l g hb1 hb2 hz bx n hN hp (by omega) (by omega) (-j) r2 g2 (by omega) h4 h5 hC h6 d h7
      rw [h8, h9, h10] at this
      exact this
/-- An answer that is cut: a number, or out of range. -/
theorem dcut_num {w w' : World} {s E : Int} {q : Bool} {e : Ending} (h : DCut w w' s E q e) (hs : (s.natAbs : Int) < 4294967296 ^ 4096) (hr : s = 0 ∨ ∃ t : Nat, LowBit (s.natAbs : Int) t ∧ -16777216 ≤ E + t ∧ E + t ≤ 16777216) :
    ∃ n' z' x' a' c', e = .returned (.tuple #[dV n' a' (List.length z') c' x', .bool q, .int .i64 0]) ∧ Fm s E n' z' x' ∧ z'.length ≤ 4096 ∧ Lie w' a' z' ∧ WrA w.heap.size w' a' z'.length ∧ Below w.heap.size w w' := by
  obtain ⟨n4, a4, k4, c4, x4, code, lost, rfl, h4, h5, h6⟩ := h
  obtain ⟨rfl, z2, rfl, h7, F, l2, w2⟩ := h4.num hs hr
  obtain rfl := h5 rfl
  exact ⟨n4, z2, x4, a4, c4, rfl, F, h7, l2, w2, h4.bel⟩
end Go.Proofs.YtchmljbkophdaaaGreatDoor

namespace Go.Proofs.YtchmljbkophdaaaGreatDoor
set_option linter.unusedVariables false
/-- A number between two multiples of a unit: h counts half units, g tells whether there is more. -/
structure Place (h : Int) (g : Bool) : Prop where
  nn : 0 ≤ h
theorem half_split (x : Int) (out : Nat) (h1 : 1 ≤ out) : x / 2 ^ out = x / 2 ^ (out - 1) / 2 ∧ x % 2 ^ out = 2 ^ (out - 1) * (x / 2 ^ (out - 1) % 2) + x % 2 ^ (out - 1) := by
  have e : (2 : Int) ^ out = 2 ^ (out - 1) * 2 ^ 1 := by rw [← Int.pow_add]; congr 1; omega
  refine ⟨?_, ?_⟩
  · rw [e, cut_div (p2pos _), Int.pow_succ, Int.pow_zero, Int.one_mul]
  · rw [e, mod_split (p2pos _), Int.pow_succ, Int.pow_zero, Int.one_mul]
/-- What goes out at the lower end, moved to the upper end. -/
theorem out_math (x : Int) (h0 : 0 ≤ x) (out : Nat) (h1 : 1 ≤ out) (h2 : out ≤ 64) {h r : Int} (hh : x / 2 ^ (out - 1) = h) (hr : x % 2 ^ (out - 1) = r) :
    x / 2 ^ out = h / 2 ∧ x * 2 ^ (64 - out) % 2 ^ 64 = (2 ^ (out - 1) * (h % 2) + r) * 2 ^ (64 - out) ∧ (x * 2 ^ (64 - out) % 2 ^ 64 = 0 ↔ h % 2 = 0 ∧ r = 0) ∧ (x * 2 ^ (64 - out) % 2 ^ 64 < 2 ^ 63 ↔ h % 2 = 0) ∧ (x * 2 ^ (64 - out) % 2 ^ 64 = 2 ^ 63 ↔ h % 2 = 1 ∧ r = 0) := by
  obtain ⟨s1, s2⟩ := half_split x out h1
  rw [hh] at s1
  rw [hh, hr] at s2
  have hp := p2pos (out - 1)
  have hq := p2pos (64 - out)
  have r0 := Int.emod_nonneg x (show (2 : Int) ^ (out - 1) ≠ 0 by omega)
  have r1 := Int.emod_lt_of_pos x hp
  rw [hr] at r0 r1
  have e64 : (2 : Int) ^ 64 = 2 ^ out * 2 ^ (64 - out) := by rw [← Int.pow_add]; congr 1; omega
  have e63 : (2 : Int) ^ 63 = 2 ^ (out - 1) * 2 ^ (64 - out) := by rw [← Int.pow_add]; congr 1; omega
  have key : x * 2 ^ (64 - out) % 2 ^ 64 = (2 ^ (out - 1) * (h % 2) + r) * 2 ^ (64 - out) := by
    rw [e64, Int.mul_comm x, Int.mul_comm (2 ^ out), Int.mul_emod_mul_of_pos _ _ hq, s2, Int.mul_comm]
  have hm : h % 2 = 0 ∨ h % 2 = 1 := by omega
  refine ⟨s1, key, ?_, ?_, ?_⟩
  · rw [key]
    rcases hm with hm | hm
    · rw [hm, Int.mul_zero, Int.zero_add]
      refine ⟨fun c => ⟨rfl, ?_⟩, fun c => by rw [c.2, Int.zero_mul]⟩
      rcases Int.mul_eq_zero.1 c with c | c <;> omega
    · rw [hm, Int.mul_one]
      refine ⟨fun c => ?_, fun c => absurd c.1 (by decide)⟩
      rcases Int.mul_eq_zero.1 c with c | c <;> omega
  · rw [key, e63]
    rcases hm with hm | hm
    · rw [hm, Int.mul_zero, Int.zero_add]
      exact ⟨fun _ => rfl, fun _ => Int.mul_lt_mul_of_pos_right r1 hq⟩
    · rw [hm, Int.mul_one]
      refine ⟨fun c => ?_, fun c => absurd c (by decide)⟩
      have := Int.lt_of_mul_lt_mul_right c (by omega)
      omega
  · rw [key, e63]
    rcases hm with hm | hm
    · rw [hm, Int.mul_zero, Int.zero_add]
      refine ⟨fun c => ?_, fun c => absurd c.1 (by decide)⟩
      have := Int.eq_of_mul_eq_mul_right (show (2 : Int) ^ (64 - out) ≠ 0 by omega) c
      omega
    · rw [hm, Int.mul_one]
      refine ⟨fun c => ⟨rfl, ?_⟩, fun c => by rw [c.2, Int.add_zero]⟩
      have := Int.eq_of_mul_eq_mul_right (show (2 : Int) ^ (64 - out) ≠ 0 by omega) c
      omega
/-- A number as rounding sees it: its highest 64 bits, and whether there is more. -/
structure SeenAt (P : Int → Int → Bool → Prop) (E top high : Int) (more : Bool) : Prop where
  at64 : P (E - (top - 64)) high more
  ge : 2 ^ 63 ≤ high
  lt : high < 2 ^ 64
/-- In half units of 2^unit, above the last bit that is seen. -/
theorem SeenAt.half {P : Int → Int → Bool → Prop} (F : Fam P) {E top high : Int} {more : Bool} (S : SeenAt P E top high more) (unit : Int) (out : Nat) (h1 : 1 ≤ out) (ho : unit - (top - 64) = (out : Int)) :
    P (E - (unit - 1)) (high / 2 ^ (out - 1)) (decide (high % 2 ^ (out - 1) ≠ 0) || more) := by
  have := F.down _ _ _ (out - 1) S.at64
  rw [show E - (top - 64) - ((out - 1 : Nat) : Int) = E - (unit - 1) by omega] at this
  exact this
end Go.Proofs.YtchmljbkophdaaaGreatDoor

namespace Go.Proofs.YtchmljbkophdaaaGreatDoor
open Go.Wd
set_option linter.unusedVariables false
/-- A format's precision, and the power of two below which its finite numbers lie. -/
def pr (b : Bool) : Nat := match b with | true => 53 | false => 24
def hi (b : Bool) : Int := match b with | true => 1024 | false => 128
/-- Where a number lies between two multiples of a unit, h counting half units, g telling whether there is more: 0 on the nearer one, 1 below half way, 2 half way, 3 beyond. -/
def plc (h : Int) (g : Bool) : Int := 2 * (h % 2) + (if g then 1 else 0)
/-- Is the outer one of two neighbours taken? -/
def outw (m : Int) (n odd : Bool) (p : Int) : Bool :=
  if m = 1 then (if p = 2 then odd else decide (2 ≤ p)) else if m = 2 then decide (2 ≤ p) else if m = 4 then !n else if m = 5 then n else false
/-- The units that are taken. -/
def tk (m : Int) (n : Bool) (h : Int) (g : Bool) : Int :=
  if plc h g = 0 then h / 2 else if outw m n (decide (h / 2 % 2 = 1)) (plc h g) then h / 2 + 1 else h / 2
def ovw (b : Bool) (m : Int) (n : Bool) : Int := sd b (if outw m n false 3 then inf b else inf b - 1) n
/-- The unit of a number with the top T. -/
def ulp (b : Bool) (T : Int) : Int := max (T - pr b) (lo b)
/-- The word and the flags to which a number is rounded: h, g in half units of its unit, i, j in half units of the finer one. -/
def rdW (b : Bool) (m : Int) (n : Bool) (T h : Int) (g : Bool) : Int :=
  if 2 ^ (hi b - ulp b T).toNat ≤ tk m n h g then ovw b m n else sd b ((ulp b T - lo b) * fr b + tk m n h g) n
def rdX (b : Bool) (m : Int) (n : Bool) (T h : Int) (g : Bool) (i : Int) (j : Bool) : Int :=
  if 2 ^ (hi b - ulp b T).toNat ≤ tk m n h g then 20 else if plc h g = 0 then 0 else if tk m n i j < 2 ^ (lo b + pr b - 1 - (T - pr b)).toNat then 24 else 16
def gx (S : Int) (d : Nat) (q : Bool) : Bool := decide (S % 2 ^ d ≠ 0) || q
theorem plc_cases (h : Int) (g : Bool) : (plc h g = 0 ∧ h % 2 = 0 ∧ g = false) ∨ (plc h g = 1 ∧ h % 2 = 0 ∧ g = true) ∨ (plc h g = 2 ∧ h % 2 = 1 ∧ g = false) ∨ (plc h g = 3 ∧ h % 2 = 1 ∧ g = true) := by
  unfold plc
  rcases (show h % 2 = 0 ∨ h % 2 = 1 by omega) with e | e <;> cases g <;> simp [e]
theorem tk_bd (m : Int) (n : Bool) (h : Int) (g : Bool) : h / 2 ≤ tk m n h g ∧ tk m n h g ≤ h / 2 + 1 := by
  unfold tk
  split
  · omega
  · split <;> omega
theorem bl_lt_iff {u : Int} {L : Nat} (h : BitLen u L) (k : Int) (hk : 0 ≤ k ∨ 0 < u) : (k < L ↔ 2 ^ k.toNat ≤ u) := by
  constructor
  · intro c
    rcases h with ⟨rfl, rfl⟩ | ⟨h0, h⟩
    · omega
    · by_cases k0 : 0 ≤ k
      · obtain ⟨j, rfl⟩ : ∃ j : Nat, L = j + 1 := ⟨L - 1, by omega⟩
        have h1 := p2le (show k.toNat + 1 ≤ j + 1 by omega)
        have h2 := h.le
        rw [Int.pow_succ, Int.pow_succ] at h1
        rw [Int.pow_succ] at h2
        omega
      · rw [show k.toNat = 0 by omega, Int.pow_zero]; omega
  · intro c
    have := bl_ge h c
    omega
theorem ulp_ge (b : Bool) (T : Int) : T - pr b ≤ ulp b T ∧ lo b ≤ ulp b T ∧ (ulp b T = lo b ∨ ulp b T = T - pr b) := by unfold ulp; omega
theorem pr_bd (b : Bool) : 24 ≤ pr b ∧ pr b ≤ 53 := by cases b <;> simp [pr]
theorem fr_pr (b : Bool) : fr b = 2 ^ (pr b - 1) := by cases b <;> rfl
theorem fc_pr (b : Bool) : fc b + 1 = pr b := by cases b <;> rfl
/-- A number that is seen by its k highest bits. -/
theorem seen_half {S : Int} {k : Nat} (hS : BitLen S k) (hk : 64 ≤ k + 4) (b : Bool) (T : Int) (d : Nat) (hd : (d : Int) = ulp b T - 1 - (T - k)) : 0 ≤ S / 2 ^ d ∧ S / 2 ^ d < 2 ^ (pr b + 1) ∧ (ulp b T ≠ lo b → 2 ^ pr b ≤ S / 2 ^ d) := by
  have hp := pr_bd b
  obtain ⟨u1, u2, u3⟩ := ulp_ge b T
  have hb := hS.down d
  have h0 : 0 ≤ S := by rcases hS with ⟨h, _⟩ | ⟨h, _⟩ <;> omega
  refine ⟨Int.ediv_nonneg h0 (Int.le_of_lt (p2pos d)), ?_, fun c => ?_⟩
  · rcases hb with ⟨h, _⟩ | ⟨_, h⟩
    · rw [h]; exact p2pos _
    · exact Int.lt_of_lt_of_le h.lt (p2le (by omega))
  · rcases hb with ⟨_, h⟩ | ⟨h0, h⟩
    · omega
    · have h1 := h.le
      rw [show k - d = pr b + 1 by omega, Int.pow_succ] at h1
      omega
theorem halfu_lt {h : Int} {k : Nat} (c : h < 2 ^ (k + 1)) : h / 2 < 2 ^ k := by rw [Int.pow_succ] at c; omega
theorem halfu_ge {h : Int} {k : Nat} (c : 2 ^ (k + 1) ≤ h) : 2 ^ k ≤ h / 2 := by rw [Int.pow_succ] at c; omega
/-- What is taken has at most as many units as the precision lets, and few ones only of the least unit. -/
theorem tk_fits {S : Int} {k : Nat} (hS : BitLen S k) (hk : 64 ≤ k + 4) (b : Bool) (T : Int) (d : Nat) (hd : (d : Int) = ulp b T - 1 - (T - k)) (m : Int) (n g : Bool) :
    0 ≤ tk m n (S / 2 ^ d) g ∧ tk m n (S / 2 ^ d) g ≤ 2 ^ pr b ∧ (ulp b T ≠ lo b → 2 ^ (pr b - 1) ≤ tk m n (S / 2 ^ d) g) := by
  obtain ⟨h1, h2, h3⟩ := seen_half hS hk b T d hd
  have hp := pr_bd b
  have h4 := tk_bd m n (S / 2 ^ d) g
  have h5 := halfu_lt h2
  refine ⟨by omega, by omega, fun c => ?_⟩
  have h6 := h3 c
  rw [show pr b = pr b - 1 + 1 by omega] at h6
  have := halfu_ge h6
  omega
/-- The unit of the number that is taken is the same, or the next one. -/
theorem unit_same (b : Bool) {u unit : Int} {L : Nat} (hL : BitLen u L) (h0 : 0 < u) (h1 : u ≤ 2 ^ pr b) (h2 : unit ≠ lo b → 2 ^ (pr b - 1) ≤ u) (h3 : lo b ≤ unit) :
    (ulp b (L + unit) = unit ∧ L ≤ pr b) ∨ (ulp b (L + unit) = unit + 1 ∧ u = 2 ^ pr b) := by
  have hp := pr_bd b
  unfold ulp
  by_cases c : u = 2 ^ pr b
  · subst c
    have a := bl_ge hL (Int.le_refl _)
    have b' := bl_le hL (k := pr b + 1) (by rw [Int.pow_succ]; have := p2pos (pr b); omega)
    exact .inr ⟨by omega, rfl⟩
  · have a := bl_le hL (k := pr b) (by omega)
    refine .inl ⟨?_, a⟩
    by_cases e : unit = lo b
    · omega
    · have := bl_ge hL (h2 e)
      omega
theorem word_same (b : Bool) {u unit ex x : Int} {L B t k : Nat} (hL : BitLen u L) (h0 : 0 < u) (h1 : u ≤ 2 ^ pr b) (h2 : unit ≠ lo b → 2 ^ (pr b - 1) ≤ u) (h3 : lo b ≤ unit) (hx : u = x * 2 ^ t) (he : ex = unit + t) (hB : (B : Int) + ex = L + unit) (hk : (k : Int) = ex - ulp b (B + ex)) :
    (ulp b (B + ex) - lo b) * fr b + x * 2 ^ k = (unit - lo b) * fr b + u := by
  have hp := pr_bd b
  rw [hB] at hk ⊢
  rcases unit_same b hL h0 h1 h2 h3 with ⟨e, _⟩ | ⟨e, eu⟩
  · rw [e] at hk ⊢
    rw [show k = t by omega, ← hx]
  · rw [e] at hk ⊢
    have e2 : x * 2 ^ t = 2 * (x * 2 ^ k) := by
      rw [show t = k + 1 by omega, Int.pow_succ]; generalize (2 : Int) ^ k = P; grind
    rw [← hx, eu, show pr b = pr b - 1 + 1 by omega, Int.pow_succ, ← fr_pr] at e2
    have e3 : u = 2 * fr b := by rw [eu, show pr b = pr b - 1 + 1 by omega, Int.pow_succ, ← fr_pr]; omega
    rw [show unit + 1 - lo b = (unit - lo b) + 1 by omega, Int.add_mul, Int.one_mul]
    omega
end Go.Proofs.YtchmljbkophdaaaGreatDoor

namespace Go.Proofs.YtchmljbkophdaaaGreatDoor
open Go.RowKit Go.Wd Go.Box
set_option linter.unusedVariables false
set_option maxRecDepth 3000
set_option maxHeartbeats 2000000 in
theorem cmpF_pl (n1 n2 : Bool) (a1 a2 : Option Addr) (c1 c2 k1 k2 : Nat) (e1 e2 t1 t2 : Int) (w : World) (h1 : SgnOf n1 k1 1) (h2 : SgnOf n2 k2 1) (b1 : -100000000 ≤ t1) (b2 : t1 ≤ 100000000) (b3 : -100000000 ≤ t2) (b4 : t2 ≤ 100000000) (ht : t1 < t2)
    (hT1 : ∀ W, Below w.heap.size w W → Calls Tryz.prog 55 #[dV n1 a1 k1 c1 e1] W fun e w' => e = .returned (.int .i64 t1) ∧ Below W.heap.size W w')
    (hT2 : ∀ W, Below w.heap.size w W → Calls Tryz.prog 55 #[dV n2 a2 k2 c2 e2] W fun e w' => e = .returned (.int .i64 t2) ∧ Below W.heap.size W w') :
    Calls Tryz.prog 38 #[dV n1 a1 k1 c1 e1, dV n2 a2 k2 c2 e2] w fun e w' => e = .returned (.int .i64 (-1)) ∧ Below w.heap.size w w' := by
  have HT1 := fun W hW => Hide.mk (hT1 W hW)
  have HT2 := fun W hW => Hide.mk (hT2 W hW)
  clear hT1 hT2
  have B1 := ((Bx.nil w).push (DO n1 a1 k1 c1 e1)).push (DO n2 a2 k2 c2 e2)
  go_enter Tryz.func38, Tryz.ntmps38
  go_wp2_with fail
  rw [show (w.alloc (DO n1 a1 k1 c1 e1)).heap.size = w.heap.size + 1 by simp] at B1
  generalize hw1 : (w.alloc (DO n1 a1 k1 c1 e1)).alloc (DO n2 a2 k2 c2 e2) = w1 at *
  clear hw1
  have HI := B1.drew
  have sh := fun W (hW : Bx w [(w.heap.size + 1, DO n2 a2 k2 c2 e2), (w.heap.size, DO n1 a1 k1 c1 e1)] W) => And.intro (cells3 hW (w.heap.size + 1) _ _ _ _ (.head _)).1 (cells3 hW w.heap.size _ _ _ _ (.tail _ (.head _))).1
  refine Drawn.enter (Bx w [(w.heap.size + 1, DO n2 a2 k2 c2 e2), (w.heap.size, DO n1 a1 k1 c1 e1)]) (by kernel_rfl) ?_
  refine Drawn.take (i := 0) (v := ?v0) rfl (by kernel_rfl) (by kernel_rfl) (by kernel_rfl) (fun _ _ _ h => h) (by kernel_rfl) (fun W hW => ?_) HI ?_
  rotate_left
  · have ⟨⟨s0, s1, s2⟩, q0, q3, q4⟩ := sh W hW
    go_simp <;> exact rfl
  refine Drawn.take (i := 2) (v := ?v1) rfl (by kernel_rfl) (by kernel_rfl) (by kernel_rfl) (fun _ _ _ h => h) (by kernel_rfl) (fun W hW => ?_) HI ?_
  rotate_left
  · have ⟨⟨s0, s1, s2⟩, q0, q3, q4⟩ := sh W hW
    go_simp <;> exact rfl
  refine Drawn.one (j := 1) (by kernel_rfl) rfl (fun K hK => ?_)
  go_simp
  refine (rSgnAny n1 a1 c1 k1 e1 1 h1 _).mono ?_
  rintro e wn ⟨rfl, hn⟩
  refine hK _ _ (HI.keep hn) ?_
  clear hK K
  replace HI := HI.keep hn
  clear hn
  refine Drawn.one (j := 3) (by kernel_rfl) rfl (fun K hK => ?_)
  go_simp
  refine (rSgnAny n2 a2 c2 k2 e2 1 h2 _).mono ?_
  rintro e wn ⟨rfl, hn⟩
  refine hK _ _ (HI.keep hn) ?_
  clear hK K
  replace HI := HI.keep hn
  clear hn
  refine Drawn.take (i := 4) (v := ?v2) rfl (by kernel_rfl) (by kernel_rfl) (by kernel_rfl) (fun _ _ _ h => h) (by kernel_rfl) (fun W hW => ?_) HI ?_
  rotate_left
  · have ⟨⟨s0, s1, s2⟩, q0, q3, q4⟩ := sh W hW
    go_simp <;> exact rfl
  refine Drawn.take (i := 5) (v := ?v3) rfl (by kernel_rfl) (by kernel_rfl) (by kernel_rfl) (fun _ _ _ h => h) (by kernel_rfl) (fun W hW => ?_) HI ?_
  rotate_left
  · have ⟨⟨s0, s1, s2⟩, q0, q3, q4⟩ := sh W hW
    go_simp <;> exact rfl
  refine Drawn.done (by kernel_rfl) ?_
  try go_simp
  go_wp2_with fail
  replace HI := HI.drew
  refine Drawn.enter (Bx w [(w.heap.size + 1, DO n2 a2 k2 c2 e2), (w.heap.size, DO n1 a1 k1 c1 e1)]) (by kernel_rfl) ?_
  refine Drawn.take (i := 0) (v := ?v4) rfl (by kernel_rfl) (by kernel_rfl) (by kernel_rfl) (fun _ _ _ h => h) (by kernel_rfl) (fun W hW => ?_) HI ?_
  rotate_left
  · have ⟨⟨s0, s1, s2⟩, q0, q3, q4⟩ := sh W hW
    go_simp <;> exact rfl
  refine Drawn.take (i := 2) (v := ?v5) rfl (by kernel_rfl) (by kernel_rfl) (by kernel_rfl) (fun _ _ _ h => h) (by kernel_rfl) (fun W hW => ?_) HI ?_
  rotate_left
  · have ⟨⟨s0, s1, s2⟩, q0, q3, q4⟩ := sh W hW
    go_simp <;> exact rfl
  refine Drawn.one (j := 1) (by kernel_rfl) rfl (fun K hK => ?_)
  go_simp
  refine ((HT1 _ HI.bel).out).mono ?_
  rintro e wn ⟨rfl, hn⟩
  refine hK _ _ (HI.keep hn) ?_
  clear hK K
  replace HI := HI.keep hn
  clear hn
  refine Drawn.one (j := 3) (by kernel_rfl) rfl (fun K hK => ?_)
  go_simp
  refine ((HT2 _ HI.bel).out).mono ?_
  rintro e wn ⟨rfl, hn⟩
  refine hK _ _ (HI.keep hn) ?_
  clear hK K
  replace HI := HI.keep hn
  clear hn
  refine Drawn.take (i := 4) (v := .bool true) rfl (by kernel_rfl) (by kernel_rfl) (by kernel_rfl) (fun _ _ _ h => h) (by kernel_rfl) (fun W hW => ?_) HI ?_
  · have ⟨⟨s0, s1, s2⟩, q0, q3, q4⟩ := sh W hW
    go_simp <;> (first | (simp; omega) | omega)
  refine Drawn.done (by kernel_rfl) ?_
  try go_simp
  go_wp2_with fail
  replace HI := HI.drew
  refine Drawn.enter (Bx w [(w.heap.size + 1, DO n2 a2 k2 c2 e2), (w.heap.size, DO n1 a1 k1 c1 e1)]) (by kernel_rfl) ?_
  refine Drawn.take (i := 0) (v := ?v6) rfl (by kernel_rfl) (by kernel_rfl) (by kernel_rfl) (fun _ _ _ h => h) (by kernel_rfl) (fun W hW => ?_) HI ?_
  rotate_left
  · have ⟨⟨s0, s1, s2⟩, q0, q3, q4⟩ := sh W hW
    go_simp <;> exact rfl
  refine Drawn.take (i := 2) (v := ?v7) rfl (by kernel_rfl) (by kernel_rfl) (by kernel_rfl) (fun _ _ _ h => h) (by kernel_rfl) (fun W hW => ?_) HI ?_
  rotate_left
  · have ⟨⟨s0, s1, s2⟩, q0, q3, q4⟩ := sh W hW
    go_simp <;> exact rfl
  refine Drawn.take (i := 5) (v := ?v8) rfl (by kernel_rfl) (by kernel_rfl) (by kernel_rfl) (fun _ _ _ h => h) (by kernel_rfl) (fun W hW => ?_) HI ?_
  rotate_left
  · have ⟨⟨s0, s1, s2⟩, q0, q3, q4⟩ := sh W hW
    go_simp <;> exact rfl
  refine Drawn.take (i := 6) (v := .bool true) rfl (by kernel_rfl) (by kernel_rfl) (by kernel_rfl) (fun _ _ _ h => h) (by kernel_rfl) (fun W hW => ?_) HI ?_
  · have ⟨⟨s0, s1, s2⟩, q0, q3, q4⟩ := sh W hW
    go_simp <;> (first | rfl | (simp; omega))
  refine Drawn.one (j := 1) (by kernel_rfl) rfl (fun K hK => ?_)
  go_simp
  refine ((HT1 _ HI.bel).out).mono ?_
  rintro e wn ⟨rfl, hn⟩
  refine hK _ _ (HI.keep hn) ?_
  clear hK K
  replace HI := HI.keep hn
  clear hn
  refine Drawn.one (j := 3) (by kernel_rfl) rfl (fun K hK => ?_)
  go_simp
  refine ((HT2 _ HI.bel).out).mono ?_
  rintro e wn ⟨rfl, hn⟩
  refine hK _ _ (HI.keep hn) ?_
  clear hK K
  replace HI := HI.keep hn
  clear hn
  refine Drawn.take (i := 4) (v := .bool true) rfl (by kernel_rfl) (by kernel_rfl) (by kernel_rfl) (fun _ _ _ h => h) (by kernel_rfl) (fun W hW => ?_) HI ?_
  · have ⟨⟨s0, s1, s2⟩, q0, q3, q4⟩ := sh W hW
    go_simp <;> (first | omega | (simp; omega))
  refine Drawn.take (i := 7) (v := .bool true) rfl (by kernel_rfl) (by kernel_rfl) (by kernel_rfl) (fun _ _ _ h => h) (by kernel_rfl) (fun W hW => ?_) HI ?_
  · have ⟨⟨s0, s1, s2⟩, q0, q3, q4⟩ := sh W hW
    go_simp <;> (rfl)
  refine Drawn.done (by kernel_rfl) ?_
  try go_simp
  clear sh
  go_wp2
  go_ret
  exact ⟨rfl, HI.bel⟩
set_option maxHeartbeats 2000000 in
theorem cmpF_pg (n1 n2 : Bool) (a1 a2 : Option Addr) (c1 c2 k1 k2 : Nat) (e1 e2 t1 t2 : Int) (w : World) (h1 : SgnOf n1 k1 1) (h2 : SgnOf n2 k2 1) (b1 : -100000000 ≤ t1) (b2 : t1 ≤ 100000000) (b3 : -100000000 ≤ t2) (b4 : t2 ≤ 100000000) (ht : t2 < t1)
    (hT1 : ∀ W, Below w.heap.size w W → Calls Tryz.prog 55 #[dV n1 a1 k1 c1 e1] W fun e w' => e = .returned (.int .i64 t1) ∧ Below W.heap.size W w')
    (hT2 : ∀ W, Below w.heap.size w W → Calls Tryz.prog 55 #[dV n2 a2 k2 c2 e2] W fun e w' => e = .returned (.int .i64 t2) ∧ Below W.heap.size W w') :
    Calls Tryz.prog 38 #[dV n1 a1 k1 c1 e1, dV n2 a2 k2 c2 e2] w fun e w' => e = .returned (.int .i64 (1)) ∧ Below w.heap.size w w' := by
  have HT1 := fun W hW => Hide.mk (hT1 W hW)
  have HT2 := fun W hW => Hide.mk (hT2 W hW)
  clear hT1 hT2
  have B1 := ((Bx.nil w).push (DO n1 a1 k1 c1 e1)).push (DO n2 a2 k2 c2 e2)
  go_enter Tryz.func38, Tryz.ntmps38
  go_wp2_with fail
  rw [show (w.alloc (DO n1 a1 k1 c1 e1)).heap.size = w.heap.size + 1 by simp] at B1
  generalize hw1 : (w.alloc (DO n1 a1 k1 c1 e1)).alloc (DO n2 a2 k2 c2 e2) = w1 at *
  clear hw1
  have HI := B1.drew
  have sh := fun W (hW : Bx w [(w.heap.size + 1, DO n2 a2 k2 c2 e2), (w.heap.size, DO n1 a1 k1 c1 e1)] W) => And.intro (cells3 hW (w.heap.size + 1) _ _ _ _ (.head _)).1 (cells3 hW w.heap.size _ _ _ _ (.tail _ (.head _))).1
  refine Drawn.enter (Bx w [(w.heap.size + 1, DO n2 a2 k2 c2 e2), (w.heap.size, DO n1 a1 k1 c1 e1)]) (by kernel_rfl) ?_
  refine Drawn.take (i := 0) (v := ?v9) rfl (by kernel_rfl) (by kernel_rfl) (by kernel_rfl) (fun _ _ _ h => h) (by kernel_rfl) (fun W hW => ?_) HI ?_
  rotate_left
  · have ⟨⟨s0, s1, s2⟩, q0, q3, q4⟩ := sh W hW
    go_simp <;> exact rfl
  refine Drawn.take (i := 2) (v := ?v10) rfl (by kernel_rfl) (by kernel_rfl) (by kernel_rfl) (fun _ _ _ h => h) (by kernel_rfl) (fun W hW => ?_) HI ?_
  rotate_left
  · have ⟨⟨s0, s1, s2⟩, q0, q3, q4⟩ := sh W hW
    go_simp <;> exact rfl
  refine Drawn.one (j := 1) (by kernel_rfl) rfl (fun K hK => ?_)
  go_simp
  refine (rSgnAny n1 a1 c1 k1 e1 1 h1 _).mono ?_
  rintro e wn ⟨rfl, hn⟩
  refine hK _ _ (HI.keep hn) ?_
  clear hK K
  replace HI := HI.keep hn
  clear hn
  refine Drawn.one (j := 3) (by kernel_rfl) rfl (fun K hK => ?_)
  go_simp
  refine (rSgnAny n2 a2 c2 k2 e2 1 h2 _).mono ?_
  rintro e wn ⟨rfl, hn⟩
  refine hK _ _ (HI.keep hn) ?_
  clear hK K
  replace HI := HI.keep hn
  clear hn
  refine Drawn.take (i := 4) (v := ?v11) rfl (by kernel_rfl) (by kernel_rfl) (by kernel_rfl) (fun _ _ _ h => h) (by kernel_rfl) (fun W hW => ?_) HI ?_
  rotate_left
  · have ⟨⟨s0, s1, s2⟩, q0, q3, q4⟩ := sh W hW
    go_simp <;> exact rfl
  refine Drawn.take (i := 5) (v := ?v12) rfl (by kernel_rfl) (by kernel_rfl) (by kernel_rfl) (fun _ _ _ h => h) (by kernel_rfl) (fun W hW => ?_) HI ?_
  rotate_left
  · have ⟨⟨s0, s1, s2⟩, q0, q3, q4⟩ := sh W hW
    go_simp <;> exact rfl
  refine Drawn.done (by kernel_rfl) ?_
  try go_simp
  go_wp2_with fail
  replace HI := HI.drew
  refine Drawn.enter (Bx w [(w.heap.size + 1, DO n2 a2 k2 c2 e2), (w.heap.size, DO n1 a1 k1 c1 e1)]) (by kernel_rfl) ?_
  refine Drawn.take (i := 0) (v := ?v13) rfl (by kernel_rfl) (by kernel_rfl) (by kernel_rfl) (fun _ _ _ h => h) (by kernel_rfl) (fun W hW => ?_) HI ?_
  rotate_left
  · have ⟨⟨s0, s1, s2⟩, q0, q3, q4⟩ := sh W hW
    go_simp <;> exact rfl
  refine Drawn.take (i := 2) (v := ?v14) rfl (by kernel_rfl) (by kernel_rfl) (by kernel_rfl) (fun _ _ _ h => h) (by kernel_rfl) (fun W hW => ?_) HI ?_
  rotate_left
  · have ⟨⟨s0, s1, s2⟩, q0, q3, q4⟩ := sh W hW
    go_simp <;> exact rfl
  refine Drawn.one (j := 1) (by kernel_rfl) rfl (fun K hK => ?_)
  go_simp
  refine ((HT1 _ HI.bel).out).mono ?_
  rintro e wn ⟨rfl, hn⟩
  refine hK _ _ (HI.keep hn) ?_
  clear hK K
  replace HI := HI.keep hn
  clear hn
  refine Drawn.one (j := 3) (by kernel_rfl) rfl (fun K hK => ?_)
  go_simp
  refine ((HT2 _ HI.bel).out).mono ?_
  rintro e wn ⟨rfl, hn⟩
  refine hK _ _ (HI.keep hn) ?_
  clear hK K
  replace HI := HI.keep hn
  clear hn
  refine Drawn.take (i := 4) (v := .bool true) rfl (by kernel_rfl) (by kernel_rfl) (by kernel_rfl) (fun _ _ _ h => h) (by kernel_rfl) (fun W hW => ?_) HI ?_
  · have ⟨⟨s0, s1, s2⟩, q0, q3, q4⟩ := sh W hW
    go_simp <;> (first | (simp; omega) | omega)
  refine Drawn.done (by kernel_rfl) ?_
  try go_simp
  go_wp2_with fail
  replace HI := HI.drew
  refine Drawn.enter (Bx w [(w.heap.size + 1, DO n2 a2 k2 c2 e2), (w.heap.size, DO n1 a1 k1 c1 e1)]) (by kernel_rfl) ?_
  refine Drawn.take (i := 0) (v := ?v15) rfl (by kernel_rfl) (by kernel_rfl) (by kernel_rfl) (fun _ _ _ h => h) (by kernel_rfl) (fun W hW => ?_) HI ?_
  rotate_left
  · have ⟨⟨s0, s1, s2⟩, q0, q3, q4⟩ := sh W hW
    go_simp <;> exact rfl
  refine Drawn.take (i := 2) (v := ?v16) rfl (by kernel_rfl) (by kernel_rfl) (by kernel_rfl) (fun _ _ _ h => h) (by kernel_rfl) (fun W hW => ?_) HI ?_
  rotate_left
  · have ⟨⟨s0, s1, s2⟩, q0, q3, q4⟩ := sh W hW
    go_simp <;> exact rfl
  refine Drawn.take (i := 5) (v := ?v17) rfl (by kernel_rfl) (by kernel_rfl) (by kernel_rfl) (fun _ _ _ h => h) (by kernel_rfl) (fun W hW => ?_) HI ?_
  rotate_left
  · have ⟨⟨s0, s1, s2⟩, q0, q3, q4⟩ := sh W hW
    go_simp <;> exact rfl
  refine Drawn.take (i := 6) (v := .bool true) rfl (by kernel_rfl) (by kernel_rfl) (by kernel_rfl) (fun _ _ _ h => h) (by kernel_rfl) (fun W hW => ?_) HI ?_
  · have ⟨⟨s0, s1, s2⟩, q0, q3, q4⟩ := sh W hW
    go_simp <;> (first | rfl | (simp; omega))
  refine Drawn.one (j := 1) (by kernel_rfl) rfl (fun K hK => ?_)
  go_simp
  refine ((HT1 _ HI.bel).out).mono ?_
  rintro e wn ⟨rfl, hn⟩
  refine hK _ _ (HI.keep hn) ?_
  clear hK K
  replace HI := HI.keep hn
  clear hn
  refine Drawn.one (j := 3) (by kernel_rfl) rfl (fun K hK => ?_)
  go_simp
  refine ((HT2 _ HI.bel).out).mono ?_
  rintro e wn ⟨rfl, hn⟩
  refine hK _ _ (HI.keep hn) ?_
  clear hK K
  replace HI := HI.keep hn
  clear hn
  refine Drawn.take (i := 4) (v := .bool false) rfl (by kernel_rfl) (by kernel_rfl) (by kernel_rfl) (fun _ _ _ h => h) (by kernel_rfl) (fun W hW => ?_) HI ?_
  · have ⟨⟨s0, s1, s2⟩, q0, q3, q4⟩ := sh W hW
    go_simp <;> (first | omega | (simp; omega))
  refine Drawn.take (i := 7) (v := .bool false) rfl (by kernel_rfl) (by kernel_rfl) (by kernel_rfl) (fun _ _ _ h => h) (by kernel_rfl) (fun W hW => ?_) HI ?_
  · have ⟨⟨s0, s1, s2⟩, q0, q3, q4⟩ := sh W hW
    go_simp <;> (rfl)
  refine Drawn.done (by kernel_rfl) ?_
  try go_simp
  clear sh
  go_wp2
  go_ret
  exact ⟨rfl, HI.bel⟩
set_option maxHeartbeats 2000000 in
theorem cmpF_eq (n1 n2 : Bool) (a1 a2 : Option Addr) (c1 c2 k1 k2 : Nat) (e1 e2 t1 t2 : Int) (w : World) (h1 : SgnOf n1 k1 1) (h2 : SgnOf n2 k2 1) (b1 : -100000000 ≤ t1) (b2 : t1 ≤ 100000000) (b3 : -100000000 ≤ t2) (b4 : t2 ≤ 100000000) (ht : t1 = t2) (v : Int)
    (hT1 : ∀ W, Below w.heap.size w W → Calls Tryz.prog 55 #[dV n1 a1 k1 c1 e1] W fun e w' => e = .returned (.int .i64 t1) ∧ Below W.heap.size W w')
    (hT2 : ∀ W, Below w.heap.size w W → Calls Tryz.prog 55 #[dV n2 a2 k2 c2 e2] W fun e w' => e = .returned (.int .i64 t2) ∧ Below W.heap.size W w')
    (hD : ∀ W, Below w.heap.size w W → Calls Tryz.prog 35 #[dV n1 a1 k1 c1 e1, dV n2 a2 k2 c2 e2] W fun e w' => ∃ (n : Bool) (k : Nat) (x : Int) (a : Option Addr) (c : Nat), e = .returned (dV n a k c x) ∧ SgnOf n k v ∧ Below W.heap.size W w') :
    Calls Tryz.prog 38 #[dV n1 a1 k1 c1 e1, dV n2 a2 k2 c2 e2] w fun e w' => e = .returned (.int .i64 (v)) ∧ Below w.heap.size w w' := by
  have HT1 := fun W hW => Hide.mk (hT1 W hW)
  have HT2 := fun W hW => Hide.mk (hT2 W hW)
  have HD := fun W hW => Hide.mk (hD W hW)
  clear hT1 hT2 hD
  have B1 := ((Bx.nil w).push (DO n1 a1 k1 c1 e1)).push (DO n2 a2 k2 c2 e2)
  go_enter Tryz.func38, Tryz.ntmps38
  go_wp2_with fail
  rw [show (w.alloc (DO n1 a1 k1 c1 e1)).heap.size = w.heap.size + 1 by simp] at B1
  generalize hw1 : (w.alloc (DO n1 a1 k1 c1 e1)).alloc (DO n2 a2 k2 c2 e2) = w1 at *
  clear hw1
  have HI := B1.drew
  have sh := fun W (hW : Bx w [(w.heap.size + 1, DO n2 a2 k2 c2 e2), (w.heap.size, DO n1 a1 k1 c1 e1)] W) => And.intro (cells3 hW (w.heap.size + 1) _ _ _ _ (.head _)).1 (cells3 hW w.heap.size _ _ _ _ (.tail _ (.head _))).1
  refine Drawn.enter (Bx w [(w.heap.size + 1, DO n2 a2 k2 c2 e2), (w.heap.size, DO n1 a1 k1 c1 e1)]) (by kernel_rfl) ?_
  refine Drawn.take (i := 0) (v := ?v18) rfl (by kernel_rfl) (by kernel_rfl) (by kernel_rfl) (fun _ _ _ h => h) (by kernel_rfl) (fun W hW => ?_) HI ?_
  rotate_left
  · have ⟨⟨s0, s1, s2⟩, q0, q3, q4⟩ := sh W hW
    go_simp <;> exact rfl
  refine Drawn.take (i := 2) (v := ?v19) rfl (by kernel_rfl) (by kernel_rfl) (by kernel_rfl) (fun _ _ _ h => h) (by kernel_rfl) (fun W hW => ?_) HI ?_
  rotate_left
  · have ⟨⟨s0, s1, s2⟩, q0, q3, q4⟩ := sh W hW
    go_simp <;> exact rfl
  refine Drawn.one (j := 1) (by kernel_rfl) rfl (fun K hK => ?_)
  go_simp
  refine (rSgnAny n1 a1 c1 k1 e1 1 h1 _).mono ?_
  rintro e wn ⟨rfl, hn⟩
  refine hK _ _ (HI.keep hn) ?_
  clear hK K
  replace HI := HI.keep hn
  clear hn
  refine Drawn.one (j := 3) (by kernel_rfl) rfl (fun K hK => ?_)
  go_simp
  refine (rSgnAny n2 a2 c2 k2 e2 1 h2 _).mono ?_
  rintro e wn ⟨rfl, hn⟩
  refine hK _ _ (HI.keep hn) ?_
  clear hK K
  replace HI := HI.keep hn
  clear hn
  refine Drawn.take (i := 4) (v := ?v20) rfl (by kernel_rfl) (by kernel_rfl) (by kernel_rfl) (fun _ _ _ h => h) (by kernel_rfl) (fun W hW => ?_) HI ?_
  rotate_left
  · have ⟨⟨s0, s1, s2⟩, q0, q3, q4⟩ := sh W hW
    go_simp <;> exact rfl
  refine Drawn.take (i := 5) (v := ?v21) rfl (by kernel_rfl) (by kernel_rfl) (by kernel_rfl) (fun _ _ _ h => h) (by kernel_rfl) (fun W hW => ?_) HI ?_
  rotate_left
  · have ⟨⟨s0, s1, s2⟩, q0, q3, q4⟩ := sh W hW
    go_simp <;> exact rfl
  refine Drawn.done (by kernel_rfl) ?_
  try go_simp
  go_wp2_with fail
  replace HI := HI.drew
  refine Drawn.enter (Bx w [(w.heap.size + 1, DO n2 a2 k2 c2 e2), (w.heap.size, DO n1 a1 k1 c1 e1)]) (by kernel_rfl) ?_
  refine Drawn.take (i := 0) (v := ?v22) rfl (by kernel_rfl) (by kernel_rfl) (by kernel_rfl) (fun _ _ _ h => h) (by kernel_rfl) (fun W hW => ?_) HI ?_
  rotate_left
  · have ⟨⟨s0, s1, s2⟩, q0, q3, q4⟩ := sh W hW
    go_simp <;> exact rfl
  refine Drawn.take (i := 2) (v := ?v23) rfl (by kernel_rfl) (by kernel_rfl) (by kernel_rfl) (fun _ _ _ h => h) (by kernel_rfl) (fun W hW => ?_) HI ?_
  rotate_left
  · have ⟨⟨s0, s1, s2⟩, q0, q3, q4⟩ := sh W hW
    go_simp <;> exact rfl
  refine Drawn.one (j := 1) (by kernel_rfl) rfl (fun K hK => ?_)
  go_simp
  refine ((HT1 _ HI.bel).out).mono ?_
  rintro e wn ⟨rfl, hn⟩
  refine hK _ _ (HI.keep hn) ?_
  clear hK K
  replace HI := HI.keep hn
  clear hn
  refine Drawn.one (j := 3) (by kernel_rfl) rfl (fun K hK => ?_)
  go_simp
  refine ((HT2 _ HI.bel).out).mono ?_
  rintro e wn ⟨rfl, hn⟩
  refine hK _ _ (HI.keep hn) ?_
  clear hK K
  replace HI := HI.keep hn
  clear hn
  refine Drawn.take (i := 4) (v := .bool false) rfl (by kernel_rfl) (by kernel_rfl) (by kernel_rfl) (fun _ _ _ h => h) (by kernel_rfl) (fun W hW => ?_) HI ?_
  · have ⟨⟨s0, s1, s2⟩, q0, q3, q4⟩ := sh W hW
    go_simp <;> (first | omega | (simp; omega))
  refine Drawn.done (by kernel_rfl) ?_
  try go_simp
  obtain ⟨⟨s0, s1, s2⟩, q0, q3, q4⟩ := sh _ HI
  clear sh
  go_wp2_with fail
  refine (HD _ HI.bel).out.mono ?_
  rintro e w9 ⟨n9, k9, x9, a9, c9, rfl, HS, h9⟩
  replace HI := HI.keep h9
  have HSS := fun W => Hide.mk (rSgnAny n9 a9 c9 k9 x9 v HS W)
  clear h9 HS s0 s1 s2 q0 q3 q4
  go_wp2_with fail
  refine (HSS _).out.mono ?_
  rintro e w10 ⟨rfl, h10⟩
  replace HI := HI.keep h10
  clear h10 HSS
  go_wp2
  go_ret
  exact ⟨rfl, HI.bel⟩
end Go.Proofs.YtchmljbkophdaaaGreatDoor

namespace Go.Proofs.YtchmljbkophdaaaGreatDoor
open Go.RowKit Go.Wd Go.Box
set_option linter.unusedVariables false
set_option maxRecDepth 3000
/-- A way to round, and a number as it is seen. -/
abbrev wyV (b : Bool) (m : Int) : Value := .agg #[.int .u8 (fm b), .int .i64 (pr b : Nat), .int .i64 (lo b), .int .i64 (hi b), .int .u8 m]
abbrev wyO (b : Bool) (m : Int) : Obj := .cells #[.int .u8 (fm b), .int .i64 (pr b : Nat), .int .i64 (lo b), .int .i64 (hi b), .int .u8 m] 66 (0, 0)
abbrev snV (n : Bool) (T high : Int) (more : Bool) : Value := .agg #[.bool n, .int .i64 T, .int .u64 high, .bool more]
abbrev snO (n : Bool) (T high : Int) (more : Bool) : Obj := .cells #[.bool n, .int .i64 T, .int .u64 high, .bool more] 72 (0, 0)
theorem way_cells {w W : World} {L : List (Nat × Obj)} (h : Bx w L W) (g : Nat) (b : Bool) (m : Int) (hm : (g, wyO b m) ∈ L) :
    W.cell? ⟨g, 0, none⟩ = some (.int .u8 (fm b)) ∧ W.cell? ⟨g, 1, none⟩ = some (.int .i64 (pr b : Nat)) ∧ W.cell? ⟨g, 2, none⟩ = some (.int .i64 (lo b)) ∧ W.cell? ⟨g, 3, none⟩ = some (.int .i64 (hi b)) ∧ W.cell? ⟨g, 4, none⟩ = some (.int .u8 m) :=
  ⟨h.cell g _ _ hm 0, h.cell g _ _ hm 1, h.cell g _ _ hm 2, h.cell g _ _ hm 3, h.cell g _ _ hm 4⟩
theorem seen_cells {w W : World} {L : List (Nat × Obj)} (h : Bx w L W) (g : Nat) (n : Bool) (T high : Int) (more : Bool) (hm : (g, snO n T high more) ∈ L) :
    W.cell? ⟨g, 0, none⟩ = some (.bool n) ∧ W.cell? ⟨g, 1, none⟩ = some (.int .i64 T) ∧ W.cell? ⟨g, 2, none⟩ = some (.int .u64 high) ∧ W.cell? ⟨g, 3, none⟩ = some (.bool more) :=
  ⟨h.cell g _ _ hm 0, h.cell g _ _ hm 1, h.cell g _ _ hm 2, h.cell g _ _ hm 3⟩
def Mode (m : Int) : Prop := m = 1 ∨ m = 2 ∨ m = 3 ∨ m = 4 ∨ m = 5
theorem wOutward (b : Bool) (m : Int) (n odd : Bool) (p : Int) (hm : Mode m) (w : World) :
    Calls Tryz.prog 83 #[wyV b m, .bool n, .bool odd, .int .i64 p] w fun e w' => e = .returned (.bool (outw m n odd p)) ∧ Below w.heap.size w w' := by
  have B1 := (Bx.nil w).push (wyO b m)
  obtain ⟨e0, e1, e2, e3, e4⟩ := way_cells B1 w.heap.size b m (.head _)
  by_cases hp : p = 2
  · subst hp
    rcases hm with rfl | rfl | rfl | rfl | rfl <;>
      (go_enter Tryz.func83, Tryz.ntmps83; go_wp2; go_ret; exact ⟨by simp [outw], B1.bel⟩)
  · have hp2 : (p == 2) = false := beq_eq_false_iff_ne.2 hp
    rcases hm with rfl | rfl | rfl | rfl | rfl <;>
      (go_enter Tryz.func83, Tryz.ntmps83; go_wp2; go_ret; exact ⟨by simp [outw, hp], B1.bel⟩)
theorem wBetween_far (n : Bool) (T high : Int) (more : Bool) (unit : Int) (w : World) (hT1 : -100000000 ≤ T) (hT2 : T ≤ 100000000) (hu1 : -100000000 ≤ unit) (hu2 : unit ≤ 100000000) (ho : 64 < unit - (T - 64)) :
    Calls Tryz.prog 109 #[snV n T high more, .int .i64 unit] w fun e w' => e = .returned (.tuple #[.int .u64 0, .int .i64 1]) ∧ Below w.heap.size w w' := by
  have B1 := (Bx.nil w).push (snO n T high more)
  obtain ⟨e0, e1, e2, e3⟩ := seen_cells B1 w.heap.size n T high more (.head _)
  go_enter Tryz.func109, Tryz.ntmps109
  go_wp2
  go_ret2
  exact ⟨rfl, B1.bel⟩
def Btw (R p : Int) (more : Bool) : Prop := (p = 0 ∧ R = 0 ∧ more = false) ∨ (p = 1 ∧ R = 0 ∧ more = true) ∨ (p = 1 ∧ R ≠ 0 ∧ R < 9223372036854775808) ∨ (p = 2 ∧ R = 9223372036854775808 ∧ more = false) ∨ (p = 3 ∧ R = 9223372036854775808 ∧ more = true) ∨ (p = 3 ∧ 9223372036854775808 < R)
theorem wBetween_near (n : Bool) (T high : Int) (more : Bool) (unit : Int) (k : Nat) (R near p : Int) (w : World) (hT1 : -100000000 ≤ T) (hT2 : T ≤ 100000000) (hu1 : -100000000 ≤ unit) (hu2 : unit ≤ 100000000) (hk : unit - (T - 64) = (k : Int)) (ho : k ≤ 64) (hs : high / 2 ^ k = near) (hR : high * 2 ^ (64 - k) % 18446744073709551616 = R) (hB : Btw R p more) :
    Calls Tryz.prog 109 #[snV n T high more, .int .i64 unit] w fun e w' => e = .returned (.tuple #[.int .u64 near, .int .i64 p]) ∧ Below w.heap.size w w' := by
  have B1 := (Bx.nil w).push (snO n T high more)
  obtain ⟨e0, e1, e2, e3⟩ := seen_cells B1 w.heap.size n T high more (.head _)
  have HB := Hide.mk hB
  have HK := Hide.mk hk
  have HS := Hide.mk hs
  have HR := Hide.mk hR
  have hle : ¬ 64 < unit - (T - 64) := by omega
  clear hB hs hR
  go_enter Tryz.func109, Tryz.ntmps109
  go_wp2_with fail
  clear hk hle e0 e1 e2 e3
  generalize hw1 : w.alloc (snO n T high more) = w1 at *
  clear hw1
  have HI := B1.drew
  have sh := fun W (hW : Bx w [(w.heap.size, snO n T high more)] W) => seen_cells hW w.heap.size n T high more (.head _)
  refine Drawn.enter (Bx w [(w.heap.size, snO n T high more)]) (by kernel_rfl) ?_
  refine Drawn.take (i := 0) (v := ?v0) rfl (by kernel_rfl) (by kernel_rfl) (by kernel_rfl) (fun _ _ _ h => h) (by kernel_rfl) (fun W hW => ?_) HI ?_
  rotate_left
  · have ⟨e0, e1, e2, e3⟩ := sh W hW
    go_simp <;> exact rfl
  refine Drawn.take (i := 1) (v := ?v1) rfl (by kernel_rfl) (by kernel_rfl) (by kernel_rfl) (fun _ _ _ h => h) (by kernel_rfl) (fun W hW => ?_) HI ?_
  rotate_left
  · have ⟨e0, e1, e2, e3⟩ := sh W hW
    go_simp <;> exact rfl
  refine Drawn.take (i := 2) (v := ?v2) rfl (by kernel_rfl) (by kernel_rfl) (by kernel_rfl) (fun _ _ _ h => h) (by kernel_rfl) (fun W hW => ?_) HI ?_
  rotate_left
  · have ⟨e0, e1, e2, e3⟩ := sh W hW
    go_simp <;> exact rfl
  refine Drawn.take (i := 3) (v := .int .u64 near) rfl (by kernel_rfl) (by kernel_rfl) (by kernel_rfl) (fun _ _ _ h => h) (by kernel_rfl) (fun W hW => ?_) HI ?_
  · have ⟨e0, e1, e2, e3⟩ := sh W hW
    go_simp <;> (exact HS.out)
  refine Drawn.take (i := 4) (v := ?v3) rfl (by kernel_rfl) (by kernel_rfl) (by kernel_rfl) (fun _ _ _ h => h) (by kernel_rfl) (fun W hW => ?_) HI ?_
  rotate_left
  · have ⟨e0, e1, e2, e3⟩ := sh W hW
    go_simp <;> exact rfl
  refine Drawn.take (i := 5) (v := ?v4) rfl (by kernel_rfl) (by kernel_rfl) (by kernel_rfl) (fun _ _ _ h => h) (by kernel_rfl) (fun W hW => ?_) HI ?_
  rotate_left
  · have ⟨e0, e1, e2, e3⟩ := sh W hW
    go_simp <;> exact rfl
  refine Drawn.take (i := 6) (v := ?v5) rfl (by kernel_rfl) (by kernel_rfl) (by kernel_rfl) (fun _ _ _ h => h) (by kernel_rfl) (fun W hW => ?_) HI ?_
  rotate_left
  · have ⟨e0, e1, e2, e3⟩ := sh W hW
    go_simp <;> exact rfl
  refine Drawn.take (i := 7) (v := .int .i64 ((64 - k : Nat) : Int)) rfl (by kernel_rfl) (by kernel_rfl) (by kernel_rfl) (fun _ _ _ h => h) (by kernel_rfl) (fun W hW => ?_) HI ?_
  · have ⟨e0, e1, e2, e3⟩ := sh W hW
    go_simp <;> (exact (wrap_ok (by omega) (by omega)).trans (by omega))
  refine Drawn.take (i := 8) (v := .int .u64 R) rfl (by kernel_rfl) (by kernel_rfl) (by kernel_rfl) (fun _ _ _ h => h) (by kernel_rfl) (fun W hW => ?_) HI ?_
  · have ⟨e0, e1, e2, e3⟩ := sh W hW
    go_simp <;> (rw [IntKind.wrap_u64]; exact HR.out)
  refine Drawn.take (i := 9) (v := ?v6) rfl (by kernel_rfl) (by kernel_rfl) (by kernel_rfl) (fun _ _ _ h => h) (by kernel_rfl) (fun W hW => ?_) HI ?_
  rotate_left
  · have ⟨e0, e1, e2, e3⟩ := sh W hW
    go_simp <;> exact rfl
  refine Drawn.take (i := 10) (v := ?v7) rfl (by kernel_rfl) (by kernel_rfl) (by kernel_rfl) (fun _ _ _ h => h) (by kernel_rfl) (fun W hW => ?_) HI ?_
  rotate_left
  · have ⟨e0, e1, e2, e3⟩ := sh W hW
    go_simp <;> exact rfl
  refine Drawn.done (by kernel_rfl) ?_
  try go_simp
  clear sh
  obtain ⟨e0, e1, e2, e3⟩ := seen_cells HI w.heap.size n T high more (.head _)
  rcases HB.out with ⟨rfl, r, rfl⟩ | ⟨rfl, r, rfl⟩ | ⟨rfl, r, r2⟩ | ⟨rfl, r, rfl⟩ | ⟨rfl, r, rfl⟩ | ⟨rfl, r⟩
  · have d1 : (R == 0) = true := beq_iff_eq.2 r
    clear HB HR r
    go_wp2
    go_ret2
    exact ⟨rfl, HI.bel⟩
  · have d1 : (R == 0) = true := beq_iff_eq.2 r
    have d2 : R < 9223372036854775808 := by omega
    clear HB HR r
    go_wp2
    go_ret2
    exact ⟨rfl, HI.bel⟩
  · have d1 : (R == 0) = false := beq_eq_false_iff_ne.2 r
    clear HB HR r
    go_wp2
    go_ret2
    exact ⟨rfl, HI.bel⟩
  · have d1 : (R == 0) = false := beq_eq_false_iff_ne.2 (by omega)
    have d2 : ¬ R < 9223372036854775808 := by omega
    have d3 : (R == 9223372036854775808) = true := beq_iff_eq.2 r
    clear HB HR r
    go_wp2
    go_ret2
    exact ⟨rfl, HI.bel⟩
  · have d1 : (R == 0) = false := beq_eq_false_iff_ne.2 (by omega)
    have d2 : ¬ R < 9223372036854775808 := by omega
    have d3 : (R == 9223372036854775808) = true := beq_iff_eq.2 r
    clear HB HR r
    go_wp2
    go_ret2
    exact ⟨rfl, HI.bel⟩
  · have d1 : (R == 0) = false := beq_eq_false_iff_ne.2 (by omega)
    have d2 : ¬ R < 9223372036854775808 := by omega
    have d3 : (R == 9223372036854775808) = false := beq_eq_false_iff_ne.2 (by omega)
    clear HB HR r
    go_wp2
    go_ret2
    exact ⟨rfl, HI.bel⟩
end Go.Proofs.YtchmljbkophdaaaGreatDoor

namespace Go.Proofs.YtchmljbkophdaaaGreatDoor
open Go.RowKit Go.Wd Go.Box
set_option linter.unusedVariables false
set_option maxRecDepth 3000
theorem wBetween (n : Bool) (T high : Int) (more : Bool) (unit : Int) (d : Nat) (w : World) (hT1 : -100000000 ≤ T) (hT2 : T ≤ 100000000) (hu1 : -100000000 ≤ unit) (hu2 : unit ≤ 100000000) (hd : unit - T + 63 = (d : Int)) (h0 : 0 < high) (h1 : high < 18446744073709551616) :
    Calls Tryz.prog 109 #[snV n T high more, .int .i64 unit] w fun e w' => e = .returned (.tuple #[.int .u64 (high / 2 ^ d / 2), .int .i64 (plc (high / 2 ^ d) (gx high d more))]) ∧ Below w.heap.size w w' := by
  by_cases c : 64 ≤ d
  · have hb : high < 2 ^ d := Int.lt_of_lt_of_le (show high < 2 ^ 64 by omega) (p2le c)
    have e1 : high / 2 ^ d = 0 := Int.ediv_eq_zero_of_lt (by omega) hb
    have e2 : gx high d more = true := by
      unfold gx
      rw [Int.emod_eq_of_lt (by omega) hb, decide_eq_true (show high ≠ 0 by omega)]; rfl
    rw [e1, e2]
    exact wBetween_far n T high more unit w hT1 hT2 hu1 hu2 (by omega)
  · obtain ⟨a1, key, c0, c1, c2⟩ := out_math high (by omega) (d + 1) (by omega) (by omega) rfl rfl
    rw [show d + 1 - 1 = d by omega] at a1 c0 c1 c2
    refine wBetween_near n T high more unit (d + 1) _ _ _ w hT1 hT2 hu1 hu2 (by omega) (by omega) a1 rfl ?_
    rw [show (18446744073709551616 : Int) = 2 ^ 64 from rfl]
    rw [show (2 : Int) ^ 63 = 9223372036854775808 from rfl] at c1 c2
    generalize high * 2 ^ (64 - (d + 1)) % 2 ^ 64 = R at *
    generalize high / 2 ^ d = h at *
    unfold gx
    generalize high % 2 ^ d = r at *
    clear key a1
    unfold Btw plc
    by_cases hr : r = 0
    · subst hr
      cases more <;> simp <;> omega
    · have : decide (r ≠ 0) = true := decide_eq_true hr
      rw [this]
      simp
      omega
theorem wTaken_walk (b : Bool) (m : Int) (n : Bool) (T high : Int) (more : Bool) (unit near p : Int) (q z : Bool) (u : Int) (w : World) (hm : Mode m) (hn0 : 0 ≤ near) (hn1 : near < 18446744073709551615)
    (HB : ∀ W, Calls Tryz.prog 109 #[snV n T high more, .int .i64 unit] W fun e w' => e = .returned (.tuple #[.int .u64 near, .int .i64 p]) ∧ Below W.heap.size W w')
    (hz : (p == 0) = z) (hq : z = false → outw m n (near % 2 == 1) p = q) (hu : u = if z then near else if q then near + 1 else near) :
    Calls Tryz.prog 76 #[wyV b m, snV n T high more, .int .i64 unit] w fun e w' => e = .returned (.tuple #[.int .u64 u, .bool z]) ∧ Below w.heap.size w w' := by
  have B1 := ((Bx.nil w).push (wyO b m)).push (snO n T high more)
  rw [show (w.alloc (wyO b m)).heap.size = w.heap.size + 1 by simp] at B1
  obtain ⟨e0, e1, e2, e3⟩ := seen_cells B1 (w.heap.size + 1) n T high more (.head _)
  obtain ⟨f0, f1, f2, f3, f4⟩ := way_cells B1 w.heap.size b m (.tail _ (.head _))
  have HBB := Hide.mk HB
  clear HB
  cases z
  · have hq2 := hq rfl
    obtain rfl : u = if q then near + 1 else near := by simpa using hu
    have HO : ∀ W, Hide (Calls Tryz.prog 83 #[wyV b m, .bool n, .bool (near % 2 == 1), .int .i64 p] W fun e w' => e = .returned (.bool q) ∧ Below W.heap.size W w') := fun W => ⟨by
      have := wOutward b m n (near % 2 == 1) p hm W
      rw [hq2] at this
      exact this⟩
    clear hq hq2 hu
    go_enter Tryz.func76, Tryz.ntmps76
    go_wp2_with fail
    refine (HBB.out _).mono ?_
    rintro e w2 ⟨rfl, h2⟩
    have B2 := B1.keep h2
    clear h2 e0 e1 e2 e3 f0 f1 f2 f3 f4
    obtain ⟨e0, e1, e2, e3⟩ := seen_cells B2 (w.heap.size + 1) n T high more (.head _)
    obtain ⟨f0, f1, f2, f3, f4⟩ := way_cells B2 w.heap.size b m (.tail _ (.head _))
    go_wp2_with fail
    refine (HO _).out.mono ?_
    rintro e w3 ⟨rfl, h3⟩
    have B3 := B2.keep h3
    cases q
    · go_wp2
      go_ret2
      exact ⟨rfl, B3.bel⟩
    · go_wp2
      go_ret2
      exact ⟨rfl, B3.bel⟩
  · obtain rfl : u = near := by simpa using hu
    clear hq hu
    go_enter Tryz.func76, Tryz.ntmps76
    go_wp2_with fail
    refine (HBB.out _).mono ?_
    rintro e w2 ⟨rfl, h2⟩
    have B2 := B1.keep h2
    go_wp2
    go_ret2
    exact ⟨rfl, B2.bel⟩
theorem wTaken (b : Bool) (m : Int) (n : Bool) (T high : Int) (more : Bool) (unit : Int) (d : Nat) (w : World) (hm : Mode m) (hT1 : -100000000 ≤ T) (hT2 : T ≤ 100000000) (hu1 : -100000000 ≤ unit) (hu2 : unit ≤ 100000000) (hd : unit - T + 63 = (d : Int)) (h0 : 0 < high) (h1 : high < 18446744073709551616) :
    Calls Tryz.prog 76 #[wyV b m, snV n T high more, .int .i64 unit] w fun e w' => e = .returned (.tuple #[.int .u64 (tk m n (high / 2 ^ d) (gx high d more)), .bool (plc (high / 2 ^ d) (gx high d more) == 0)]) ∧ Below w.heap.size w w' := by
  have b0 : 0 ≤ high / 2 ^ d := Int.ediv_nonneg (by omega) (Int.le_of_lt (p2pos d))
  have b1 : high / 2 ^ d ≤ high := Int.ediv_le_self _ (by omega)
  refine wTaken_walk b m n T high more unit _ _ (outw m n (high / 2 ^ d / 2 % 2 == 1) (plc (high / 2 ^ d) (gx high d more))) _ _ w hm (by omega) (by omega) (fun W => wBetween n T high more unit d W hT1 hT2 hu1 hu2 hd h0 h1) rfl (fun _ => rfl) ?_
  unfold tk
  generalize high / 2 ^ d = h at *
  generalize plc h (gx high d more) = p at *
  by_cases hp : p = 0
  · subst hp; simp
  · have e1 : (p == 0) = false := beq_eq_false_iff_ne.2 hp
    rw [e1, if_neg hp]
    have e2 : (h / 2 % 2 == 1) = decide (h / 2 % 2 = 1) := rfl
    rw [e2]
    simp
end Go.Proofs.YtchmljbkophdaaaGreatDoor

namespace Go.Proofs.YtchmljbkophdaaaGreatDoor
open Go.RowKit
set_option linter.unusedVariables false
theorem bl8 (y : Int) (h0 : 0 ≤ y) (h1 : y ≤ 255) : BitLen y (Lib.bitLen y.toNat) ∧ ((Lib.bitLen y.toNat : Nat) : Int) ≤ 8 := by
  obtain ⟨i1, i2, i3⟩ := bitLen_bd 8 y.toNat (by have e : (2 : Nat) ^ 8 = 256 := by decide
                                                 omega) (by decide)
  have e : ((2 ^ Lib.bitLen y.toNat : Nat) : Int) = 2 ^ Lib.bitLen y.toNat := by simp
  refine ⟨?_, by omega⟩
  by_cases c : y = 0
  · subst c
    exact .inl ⟨rfl, by decide⟩
  · have := i2 (by omega)
    exact .inr ⟨by omega, ⟨by omega, by omega⟩⟩
theorem len_at {x y : Int} {B L : Nat} (hB : BitLen x B) (s : Nat) (hy : y = x / 2 ^ s) (hx : 2 ^ s ≤ x ∨ s = 0) (hL : BitLen y L) : (B : Int) = (s : Int) + (L : Nat) := by
  have h1 := hB.down s
  rw [← hy] at h1
  have := h1.unique hL
  rcases hx with hx | hx
  · have := bl_ge hB hx
    omega
  · omega
set_option maxHeartbeats 4000000 in
set_option maxRecDepth 100000 in
theorem len64 (x : Int) (w : World) (h0 : 0 ≤ x) (h1 : x < 18446744073709551616) {B : Nat} (hB : BitLen x B) :
    Calls Tryz.prog 77 #[.int .u64 x] w fun e w' => e = .returned (.int .i64 B) ∧ w = w' := by
  by_cases c1 : 4294967296 ≤ x
  · by_cases c2 : 65536 ≤ x / 4294967296
    · by_cases c3 : 256 ≤ x / 4294967296 / 65536
      · have i0 : (0 : Int) ≤ x / 4294967296 / 65536 / 256 := by omega
        have i1 : x / 4294967296 / 65536 / 256 ≤ 255 := by omega
        have hl := Lib.len8_of (x / 4294967296 / 65536 / 256) i0 i1
        have hb := bl8 (x / 4294967296 / 65536 / 256) i0 i1
        have HF : Hide ((B : Int) = 56 + (Lib.bitLen (x / 4294967296 / 65536 / 256).toNat : Nat)) := ⟨len_at hB 56 (by omega) (by omega) hb.1⟩
        have hb8 := hb.2
        generalize Lib.bitLen (x / 4294967296 / 65536 / 256).toNat = L at *
        rw [HF.out]
        clear hB hb HF
        go_enter Tryz.func77, Tryz.ntmps77
        go_wp2
        go_ret
        exact ⟨by first | rfl | simp, rfl⟩
      · have i0 : (0 : Int) ≤ x / 4294967296 / 65536 := by omega
        have i1 : x / 4294967296 / 65536 ≤ 255 := by omega
        have hl := Lib.len8_of (x / 4294967296 / 65536) i0 i1
        have hb := bl8 (x / 4294967296 / 65536) i0 i1
        have HF : Hide ((B : Int) = 48 + (Lib.bitLen (x / 4294967296 / 65536).toNat : Nat)) := ⟨len_at hB 48 (by omega) (by omega) hb.1⟩
        have hb8 := hb.2
        generalize Lib.bitLen (x / 4294967296 / 65536).toNat = L at *
        rw [HF.out]
        clear hB hb HF
        go_enter Tryz.func77, Tryz.ntmps77
        go_wp2
        go_ret
        exact ⟨by first | rfl | simp, rfl⟩
    · by_cases c3 : 256 ≤ x / 4294967296
      · have i0 : (0 : Int) ≤ x / 4294967296 / 256 := by omega
        have i1 : x / 4294967296 / 256 ≤ 255 := by omega
        have hl := Lib.len8_of (x / 4294967296 / 256) i0 i1
        have hb := bl8 (x / 4294967296 / 256) i0 i1
        have HF : Hide ((B : Int) = 40 + (Lib.bitLen (x / 4294967296 / 256).toNat : Nat)) := ⟨len_at hB 40 (by omega) (by omega) hb.1⟩
        have hb8 := hb.2
        generalize Lib.bitLen (x / 4294967296 / 256).toNat = L at *
        rw [HF.out]
        clear hB hb HF
        go_enter Tryz.func77, Tryz.ntmps77
        go_wp2
        go_ret
        exact ⟨by first | rfl | simp, rfl⟩
      · have i0 : (0 : Int) ≤ x / 4294967296 := by omega
        have i1 : x / 4294967296 ≤ 255 := by omega
        have hl := Lib.len8_of (x / 4294967296) i0 i1
        have hb := bl8 (x / 4294967296) i0 i1
        have HF : Hide ((B : Int) = 32 + (Lib.bitLen (x / 4294967296).toNat : Nat)) := ⟨len_at hB 32 (by omega) (by omega) hb.1⟩
        have hb8 := hb.2
        generalize Lib.bitLen (x / 4294967296).toNat = L at *
        rw [HF.out]
        clear hB hb HF
        go_enter Tryz.func77, Tryz.ntmps77
        go_wp2
        go_ret
        exact ⟨by first | rfl | simp, rfl⟩
  · by_cases c2 : 65536 ≤ x
    · by_cases c3 : 256 ≤ x / 65536
      · have i0 : (0 : Int) ≤ x / 65536 / 256 := by omega
        have i1 : x / 65536 / 256 ≤ 255 := by omega
        have hl := Lib.len8_of (x / 65536 / 256) i0 i1
        have hb := bl8 (x / 65536 / 256) i0 i1
        have HF : Hide ((B : Int) = 24 + (Lib.bitLen (x / 65536 / 256).toNat : Nat)) := ⟨len_at hB 24 (by omega) (by omega) hb.1⟩
        have hb8 := hb.2
        generalize Lib.bitLen (x / 65536 / 256).toNat = L at *
        rw [HF.out]
        clear hB hb HF
        go_enter Tryz.func77, Tryz.ntmps77
        go_wp2
        go_ret
        exact ⟨by first | rfl | simp, rfl⟩
      · have i0 : (0 : Int) ≤ x / 65536 := by omega
        have i1 : x / 65536 ≤ 255 := by omega
        have hl := Lib.len8_of (x / 65536) i0 i1
        have hb := bl8 (x / 65536) i0 i1
        have HF : Hide ((B : Int) = 16 + (Lib.bitLen (x / 65536).toNat : Nat)) := ⟨len_at hB 16 (by omega) (by omega) hb.1⟩
        have hb8 := hb.2
        generalize Lib.bitLen (x / 65536).toNat = L at *
        rw [HF.out]
        clear hB hb HF
        go_enter Tryz.func77, Tryz.ntmps77
        go_wp2
        go_ret
        exact ⟨by first | rfl | simp, rfl⟩
    · by_cases c3 : 256 ≤ x
      · have i0 : (0 : Int) ≤ x / 256 := by omega
        have i1 : x / 256 ≤ 255 := by omega
        have hl := Lib.len8_of (x / 256) i0 i1
        have hb := bl8 (x / 256) i0 i1
        have HF : Hide ((B : Int) = 8 + (Lib.bitLen (x / 256).toNat : Nat)) := ⟨len_at hB 8 (by omega) (by omega) hb.1⟩
        have hb8 := hb.2
        generalize Lib.bitLen (x / 256).toNat = L at *
        rw [HF.out]
        clear hB hb HF
        go_enter Tryz.func77, Tryz.ntmps77
        go_wp2
        go_ret
        exact ⟨by first | rfl | simp, rfl⟩
      · have i0 : (0 : Int) ≤ x := by omega
        have i1 : x ≤ 255 := by omega
        have hl := Lib.len8_of (x) i0 i1
        have hb := bl8 (x) i0 i1
        have HF : Hide ((B : Int) = 0 + (Lib.bitLen (x).toNat : Nat)) := ⟨len_at hB 0 (by omega) (by omega) hb.1⟩
        have hb8 := hb.2
        generalize Lib.bitLen (x).toNat = L at *
        rw [HF.out]
        clear hB hb HF
        go_enter Tryz.func77, Tryz.ntmps77
        go_wp2
        go_ret
        exact ⟨by first | rfl | simp, rfl⟩
theorem lz64 (x : Int) (w : World) (h0 : 0 ≤ x) (h1 : x < 18446744073709551616) {B : Nat} (hB : BitLen x B) (hB2 : B ≤ 64) :
    Calls Tryz.prog 117 #[.int .u64 x] w fun e w' => e = .returned (.int .i64 (64 - (B : Int))) ∧ w = w' := by
  have HL := Hide.mk (len64 x w h0 h1 hB)
  clear hB
  go_enter Tryz.func117, Tryz.ntmps117
  go_wp2_with fail
  refine HL.out.mono ?_
  rintro e w' ⟨rfl, rfl⟩
  go_wp2
  go_ret
  exact ⟨rfl, rfl⟩
end Go.Proofs.YtchmljbkophdaaaGreatDoor
