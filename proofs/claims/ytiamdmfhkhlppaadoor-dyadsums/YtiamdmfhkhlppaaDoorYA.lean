import Derived.Test.YtiamdmfhkhlppaaDoorXN
import Derived.Test.YtiamdmfhkhlppaaDoorW77
namespace Go.Proofs.YtiamdmfhkhlppaaDoor
open Go.RowKit Go.Wd Go.Box
set_option linter.unusedVariables false
set_option maxRecDepth 3000
/-- An answer whose exact number is one that may be. -/
theorem DV.isD {w w' : World} {s : Int} {n ng : Bool} {z : List Int} {e : Int} {a : Option Addr} {k c : Nat} {ex code : Int} (h : DV w w' s (-(KK : Int)) ng a k c ex code) (N : DN n z e s) :
    code = 0 ∧ k = z.length ∧ n = ng ∧ e = ex ∧ IsD w w' a c n z e s := by
  have hK := KK_int
  have hx := N.dg.ex_bd
  obtain ⟨d1, d2, d3⟩ := dv_sgn N
  rcases h.all with ⟨rfl, rfl, rfl, rfl, rfl, rfl, rfl⟩ | ⟨hs, t, ht, hh⟩
  · have hz : ¬ 0 < z.length := fun hz => by
      cases n
      · have := d3 hz rfl; omega
      · have := d2 hz rfl; omega
    obtain ⟨rfl, rfl, rfl, _⟩ := N.zero (by omega)
    exact ⟨rfl, rfl, rfl, rfl, N, .inl rfl, h.bel, Own.nil _ _⟩
  · have hz : 0 < z.length := by
      by_cases c : 0 < z.length
      · exact c
      · exact absurd (d1 (by omega)) hs
    obtain ⟨hl, _⟩ := N.low hz
    obtain rfl := ht.unique hl
    have hp := N.dg.pos hz
    have hq : (s.natAbs : Int) / 2 ^ (e + KK).toNat = Nt.val z := by
      rw [← N.val]
      unfold dv pK
      rw [natAbs_mul_pow, sv_abs _ (by omega), Int.mul_ediv_cancel _ (by have := p2pos (e + KK).toNat; omega)]
    rw [hq] at hh
    rcases hh with ⟨j1, j2, rfl, rfl, rfl, zs, rfl, j6, j7⟩ | ⟨j1, _⟩ | ⟨_, j1, _⟩
    · obtain rfl : zs = z := Nt.can_unique j6.can N.dg.can j6.val
      obtain ⟨a2, c2, he, _, _, hl2⟩ := j7.lie
      simp only [Value.slice.injEq, true_and] at he
      obtain ⟨rfl, rfl⟩ := he
      refine ⟨rfl, rfl, ?_, by omega, N, hl2, h.bel, j7⟩
      cases n
      · exact (decide_eq_false (by have := d3 hz rfl; omega)).symm
      · exact (decide_eq_true (d2 hz rfl)).symm
    · exact absurd N.dg.good.lt.2 (Int.not_lt.2 j1)
    · omega
/-- A number that is too long, however it is written. -/
def Big (s : Int) : Prop := s ≠ 0 ∧ ∀ t : Nat, LowBit (s.natAbs : Int) t → 4294967296 ^ 4096 ≤ (s.natAbs : Int) / 2 ^ t
theorem DV.big {w w' : World} {s E : Int} {ng : Bool} {a : Option Addr} {k c : Nat} {ex code : Int} (h : DV w w' s E ng a k c ex code) (hb : Big s) :
    ng = false ∧ a = none ∧ k = 0 ∧ c = 0 ∧ ex = 0 ∧ code = 3 := by
  rcases h.all with ⟨h0, _⟩ | ⟨_, t, ht, hh⟩
  · exact absurd h0 hb.1
  · have h2 := Int.not_lt.2 (hb.2 t ht)
    rcases hh with ⟨_, _, _, _, _, zs, _, j6, _⟩ | j | ⟨j1, _⟩
    · exact absurd j6.lt.2 h2
    · exact j.2
    · exact absurd j1 h2
theorem big_sum {X Y : Int} {k : Nat} (n1 n2 : Bool) (hX : 2 * 4294967296 ^ 4096 ≤ X) (hXe : X % 2 = 0) (hY : 0 < Y) (hY2 : Y < 4294967296 ^ 4096) (ho : Y % 2 = 1) : Big ((sv n1 X + sv n2 Y) * 2 ^ k) := by
  have hp := p2pos k
  have gen : ∀ P : Int, 2 * P ≤ X → Y < P → P ≤ ((sv n1 X + sv n2 Y).natAbs : Int) ∧ ((sv n1 X + sv n2 Y).natAbs : Int) % 2 = 1 := by
    intro P q1 q2
    clear hX hY2
    cases n1 <;> cases n2 <;> simp only [sv_t, sv_f] <;> omega
  have h1 := gen _ hX hY2
  have h3 := h1.2
  clear gen hX hY2
  have h0 : sv n1 X + sv n2 Y ≠ 0 := by clear h1; omega
  have h4 : (sv n1 X + sv n2 Y) * 2 ^ k ≠ 0 := fun c => by clear h1; rcases Int.mul_eq_zero.1 c with c | c <;> omega
  refine ⟨h4, fun t ht => ?_⟩
  rw [natAbs_mul_pow] at ht ⊢
  have h2 := (odd_low h3).up k
  rw [Nat.zero_add] at h2
  obtain rfl := ht.unique h2
  rw [Int.mul_ediv_cancel _ (by clear h1; omega)]
  exact h1.1
theorem far_key {X : Int} {T d Q : Nat} (hb : Bits X T) (h1 : Q + 2 < T + d) (h2 : 0 < d) : 2 * 2 ^ Q ≤ X * 2 ^ d ∧ X * 2 ^ d % 2 = 0 := by
  refine ⟨?_, ?_⟩
  · have h3 := (hb.up d).le
    have h4 := p2mono (show Q + 1 + 1 ≤ T + d by omega)
    rw [p2succ, p2succ] at h4
    omega
  · obtain ⟨j, rfl⟩ : ∃ j, d = j + 1 := ⟨d - 1, by omega⟩
    rw [p2succ, show X * (2 * 2 ^ j) = 2 * (X * 2 ^ j) by generalize (2 : Int) ^ j = P; grind]
    omega
theorem Fm.scale {s E : Int} {k : Nat} {n : Bool} {zs : List Int} {ex : Int} (h : Fm s (E + k) n zs ex) : Fm (s * 2 ^ k) E n zs ex := by
  have hp := p2pos k
  rcases h with ⟨rfl, he⟩ | ⟨hs, t, ht, rfl, rfl, hc, hv⟩
  · exact .inl ⟨by simp, he⟩
  · refine .inr ⟨fun c => by rcases Int.mul_eq_zero.1 c with c | c <;> omega, t + k, by rw [natAbs_mul_pow]; exact ht.up k, ?_, by omega, hc, ?_⟩
    · by_cases c : s < 0
      · have : s * 2 ^ k < 0 := Int.mul_neg_of_neg_of_pos c hp
        simp [c, this]
      · have : ¬ s * 2 ^ k < 0 := by have := Int.mul_nonneg (show 0 ≤ s by omega) (Int.le_of_lt hp); omega
        simp [c, this]
    · rw [hv, natAbs_mul_pow, Int.pow_add, Int.mul_ediv_mul_of_pos_left _ _ hp]
theorem Fm.toK {s E : Int} {n : Bool} {zs : List Int} {ex : Int} (h : Fm s E n zs ex) (hE : -(KK : Int) ≤ E) : Fm (s * pK E) (-(KK : Int)) n zs ex := by
  have e : E = -(KK : Int) + ((E + KK).toNat : Nat) := by omega
  rw [e] at h
  exact h.scale
theorem DN.fm {n : Bool} {zs : List Int} {ex u : Int} (N : DN n zs ex u) : Fm u (-(KK : Int)) n zs ex := by
  have hK := KK_int
  have hx := N.dg.ex_bd
  by_cases hz : 0 < zs.length
  · have hp := N.dg.pos hz
    have h0 : Fm (sv n (Nt.val zs)) ex n zs ex := by
      refine .inr ⟨fun c => by rw [sv_zero] at c; omega, 0, ?_, ?_, by omega, N.dg.can, ?_⟩
      · rw [sv_abs _ (by omega)]; exact odd_low (N.dg.odd hz)
      · rw [sv_neg _ hp]
      · rw [sv_abs _ (by omega)]; simp
    have h1 := h0.toK (by omega)
    rw [show sv n (Nt.val zs) * pK ex = u from N.val] at h1
    exact h1
  · obtain ⟨rfl, rfl, rfl, rfl⟩ := N.zero (by omega)
    exact .inl ⟨rfl, rfl, rfl, rfl⟩
theorem sameD (n1 n2 : Bool) (a1 a2 : Option Addr) (c1 c2 : Nat) (z1 z2 : List Int) (e1 e2 : Int) {v : Int} (w : World) (N1 : DN n1 z1 e1 v) (N2 : DN n2 z2 e2 v) (l1 : Lie w a1 z1) (l2 : Lie w a2 z2) :
    Calls Tryd.prog 28 #[dV n1 a1 z1.length c1 e1, dV n2 a2 z2.length c2 e2] w fun e w' => e = .returned (.bool true) ∧ Below w.heap.size w w' :=
  dsame40 n1 n2 a1 a2 c1 c2 z1 z2 e1 e2 w (N1.dg.lie l1) (N2.dg.lie l2) true (decide_eq_true (N1.same N2 rfl))
/-- The reference's Neg, Abs, Sign, Top of any number. -/
def rn (n : Bool) (z : List Int) : Bool := if z.length = 0 then n else !n
theorem rNegD (n : Bool) (a : Option Addr) (c : Nat) (z : List Int) (ex : Int) (w : World) :
    Calls Tryd.prog 29 #[dV n a z.length c ex] w fun e w' => e = .returned (dV (rn n z) a z.length c ex) ∧ Below w.heap.size w w' := by
  by_cases hz : 0 < z.length
  · rw [show rn n z = !n by unfold rn; rw [if_neg (by omega)]]; exact rNegX n a c z.length ex hz w
  · obtain rfl : z = [] := List.length_eq_zero_iff.1 (by omega)
    exact rNegZ a c ex n w
theorem rn_num {n : Bool} {z : List Int} {ex u : Int} (N : DN n z ex u) : DN (rn n z) z ex (-u) := by
  by_cases hz : 0 < z.length
  · rw [show rn n z = !n by unfold rn; rw [if_neg (by omega)]]; exact N.neg hz
  · obtain ⟨rfl, rfl, rfl, rfl⟩ := N.zero (by omega)
    exact N
theorem rAbsD (n : Bool) (a : Option Addr) (c k : Nat) (ex : Int) (w : World) :
    Calls Tryd.prog 30 #[dV n a k c ex] w fun e w' => e = .returned (dV false a k c ex) ∧ Below w.heap.size w w' := by
  have B1 := ((Bx.nil w).push (DO false a k c ex)).push (DO false a k c ex)
  go_enter Tryd.func30, Tryd.ntmps30
  go_wp2
  refine bodyPost_ret (results_D1 rfl _ _ (w.heap.size + 1) _ rfl ⟨by simpa using B1.head, rfl⟩) rfl ?_
  exact ⟨rfl, B1.bel⟩
theorem abs_num {n : Bool} {z : List Int} {ex u : Int} (N : DN n z ex u) : DN false z ex (Nt.val z * pK ex) := by
  by_cases hz : 0 < z.length
  · have g := N.dg
    exact ⟨⟨g.can, g.len, .inr ⟨hz, g.odd hz, g.ex_bd.1, g.ex_bd.2⟩⟩, rfl⟩
  · obtain ⟨rfl, rfl, rfl, rfl⟩ := N.zero (by omega)
    exact ⟨zeroDG, rfl⟩
theorem rSignD (n : Bool) (a : Option Addr) (c : Nat) (z : List Int) (ex : Int) {u : Int} (N : DN n z ex u) (s : Int) (hs : sgn u 0 = s) (w : World) :
    Calls Tryd.prog 31 #[dV n a z.length c ex] w fun e w' => e = .returned (.int .i64 s) ∧ Below w.heap.size w w' := by
  subst hs
  rcases cls N with ⟨h, h0⟩ | ⟨h, h0, _, _⟩ | ⟨h, h0, _, _⟩
  · rw [sgn_is0 h0]; exact rSgnAny n a c z.length ex 0 h w
  · rw [sgn_is2 h0]; exact rSgnAny n a c z.length ex 1 h w
  · rw [sgn_is1 h0]; exact rSgnAny n a c z.length ex (-1) h w
theorem rTopZ (n : Bool) (a : Option Addr) (c : Nat) (ex : Int) (w : World) :
    Calls Tryd.prog 32 #[dV n a 0 c ex] w fun e w' => e = .returned (.int .i64 0) ∧ Below w.heap.size w w' := by
  have B1 := (Bx.nil w).push (DO n a 0 c ex)
  go_enter Tryd.func32, Tryd.ntmps32
  go_wp2
  go_ret
  exact ⟨rfl, B1.bel⟩
theorem rTopD (n : Bool) (a : Option Addr) (c : Nat) (z : List Int) (ex : Int) (w : World) (hl : Lie w a z) (g : DG n z ex) {B : Nat} (hB : BitLen (Nt.val z) B) :
    Calls Tryd.prog 32 #[dV n a z.length c ex] w fun e w' => e = .returned (.int .i64 (B + ex)) ∧ Below w.heap.size w w' := by
  by_cases hz : 0 < z.length
  · refine (dreftop54 n a c z ex w hl g hz).mono ?_
    rintro e w' ⟨B2, rfl, hB2, _, hb⟩
    obtain rfl := hB.unique hB2
    exact ⟨by rw [Int.add_comm], hb⟩
  · obtain ⟨rfl, rfl, rfl⟩ := g.nil (by omega)
    have : B = 0 := by
      rcases hB with ⟨_, h⟩ | ⟨h, _⟩
      · exact h
      · rw [Nt.val_nil] at h; omega
    subst this
    exact rTopZ false a c 0 w
/-- Sub by way of its two calls, whatever is said of the answer. -/
theorem sub_viaP (P : Bool → List Int → Int → Prop) (n1 n2 n3 : Bool) (a1 a2 : Option Addr) (k1 k2 c1 c2 : Nat) (e1 e2 : Int) (w : World)
    (HN : ∀ W, Calls Tryd.prog 29 #[dV n2 a2 k2 c2 e2] W fun e w' => e = .returned (dV n3 a2 k2 c2 e2) ∧ Below W.heap.size W w')
    (HA : ∀ W, Below w.heap.size w W → Calls Tryd.prog 42 #[dV n1 a1 k1 c1 e1, dV n3 a2 k2 c2 e2] W fun e w' => ∃ n zs ex a c, e = .returned (dV n a zs.length c ex) ∧ P n zs ex ∧ Lie w' a zs ∧ Below W.heap.size W w') :
    Calls Tryd.prog 43 #[dV n1 a1 k1 c1 e1, dV n2 a2 k2 c2 e2] w fun e w' => ∃ n zs ex a c, e = .returned (dV n a zs.length c ex) ∧ P n zs ex ∧ Lie w' a zs ∧ Below w.heap.size w w' := by
  have B1 := (((Bx.nil w).push (DO n1 a1 k1 c1 e1)).push (DO n2 a2 k2 c2 e2)).push (DO false none 0 0 0)
  go_enter Tryd.func43, Tryd.ntmps43
  go_wp2_with fail
  rw [show ((w.alloc (DO n1 a1 k1 c1 e1)).alloc (DO n2 a2 k2 c2 e2)).heap.size = w.heap.size + 1 + 1 by simp, show (w.alloc (DO n1 a1 k1 c1 e1)).heap.size = w.heap.size + 1 by simp] at B1
  generalize hw1 : ((w.alloc (DO n1 a1 k1 c1 e1)).alloc (DO n2 a2 k2 c2 e2)).alloc (DO false none 0 0 0) = w1 at *
  clear hw1
  have HF := B1.drew
  have HI := HF.sub (L' := [(w.heap.size + 1, DO n2 a2 k2 c2 e2), (w.heap.size, DO n1 a1 k1 c1 e1)]) (by simp)
  have sh := fun W (hW : Bx w [(w.heap.size + 1, DO n2 a2 k2 c2 e2), (w.heap.size, DO n1 a1 k1 c1 e1)] W) => And.intro (cells3 hW (w.heap.size + 1) _ _ _ _ (.head _)).1 (cells3 hW w.heap.size _ _ _ _ (.tail _ (.head _))).1
  refine Drawn.enter (Bx w [(w.heap.size + 1, DO n2 a2 k2 c2 e2), (w.heap.size, DO n1 a1 k1 c1 e1)]) (by kernel_rfl) ?_
  refine Drawn.take (i := 0) (v := ?v251) rfl (by kernel_rfl) (by kernel_rfl) (by kernel_rfl) (fun _ _ _ h => h) (by kernel_rfl) (fun W hW => ?_) HI ?_
  rotate_left
  · have ⟨⟨s0, s1, s2⟩, q0, q3, q4⟩ := sh W hW
    go_simp <;> exact rfl
  refine Drawn.take (i := 1) (v := ?v252) rfl (by kernel_rfl) (by kernel_rfl) (by kernel_rfl) (fun _ _ _ h => h) (by kernel_rfl) (fun W hW => ?_) HI ?_
  rotate_left
  · have ⟨⟨s0, s1, s2⟩, q0, q3, q4⟩ := sh W hW
    go_simp <;> exact rfl
  refine Drawn.one (j := 2) (by kernel_rfl) rfl (fun K hK => ?_)
  go_simp
  refine (HN _).mono ?_
  rintro e wn ⟨rfl, hn⟩
  refine hK _ _ (HI.keep hn) ?_
  clear hK K
  replace HI := HI.keep hn
  replace HF := HF.keep hn
  clear hn
  refine Drawn.one (j := 3) (by kernel_rfl) rfl (fun K hK => ?_)
  go_simp
  refine (HA _ HI.bel).mono ?_
  rintro e w6 ⟨n6, z6, x6, a6, c6, rfl, F6, l6, h6⟩
  refine hK _ _ (HI.keep h6) ?_
  clear hK K
  replace HI := HI.keep h6
  replace HF := HF.keep h6
  have H6 := Hide.mk (And.intro F6 l6)
  clear F6 l6 h6
  obtain ⟨⟨f0, f1, f2⟩, r0, r1, r2⟩ := cells3 HF (w.heap.size + 1 + 1) _ _ _ _ (.head _)
  have HF2 := HF.fill3 (by omega) (by simp; omega) (.bool n6) (.slice a6 z6.length c6) (.int .i64 x6)
  refine Drawn.one (j := 4) (by kernel_rfl) rfl (fun K hK => ?_)
  go_simp
  replace HI := HF2.sub (L' := [(w.heap.size + 1, DO n2 a2 k2 c2 e2), (w.heap.size, DO n1 a1 k1 c1 e1)]) (by simp)
  refine hK _ _ HI ?_
  clear hK K f0 f1 f2 r0 r1 r2
  refine Drawn.done (by kernel_rfl) ?_
  try go_simp
  go_wp2
  refine bodyPost_ret (results_D1 rfl _ _ (w.heap.size + 1 + 1) _ rfl ⟨HF2.head, rfl⟩) rfl ?_
  have L := Live.set3 (g := w.heap.size + 1 + 1) ⟨HF.head, rfl⟩ (.bool n6) (.slice a6 z6.length c6) (.int .i64 x6) (Live.one H6.out.2)
  exact ⟨n6, z6, x6, a6, c6, rfl, H6.out.1, L.all (a6, z6) (.head _), HF2.bel⟩
/-- The reference's sum and difference of two numbers whose exponents are near each other. -/
theorem addD (n1 n2 : Bool) (a1 a2 : Option Addr) (c1 c2 : Nat) (z1 z2 : List Int) (e1 e2 : Int) (w : World) {u v : Int} (l1 : Lie w a1 z1) (l2 : Lie w a2 z2) (N1 : DN n1 z1 e1 u) (N2 : DN n2 z2 e2 v) (hn : 0 < z1.length → 0 < z2.length → e1 - e2 ≤ 150000 ∧ e2 - e1 ≤ 150000) :
    Calls Tryd.prog 42 #[dV n1 a1 z1.length c1 e1, dV n2 a2 z2.length c2 e2] w fun e w' => RF w w' (u + v) (-(KK : Int)) e := by
  by_cases hz1 : 0 < z1.length
  · by_cases hz2 : 0 < z2.length
    · have g1 := N1.dg
      have g2 := N2.dg
      have x1 := g1.ex_bd
      have x2 := g2.ex_bd
      have hK := KK_int
      have k1 := g1.len
      have k2 := g2.len
      obtain ⟨y1, y2⟩ := hn hz1 hz2
      refine (addX n1 n2 a1 a2 c1 c2 z1 z2 e1 e2 w l1 l2 g1.can g2.can (by omega) (by omega) hz1 hz2 (by omega) (by omega) (by omega) (by omega) (e1 - min e1 e2).toNat (e2 - min e1 e2).toNat (by omega) (by omega) (by omega) (by omega)).mono ?_
      rintro e w' ⟨n, zs, ex, a, c, rfl, F, l, hb⟩
      have hm : -(KK : Int) ≤ min e1 e2 := by omega
      have R := F.toK hm
      rw [Int.add_mul, sizes_val N1 hm (by omega), sizes_val N2 hm (by omega)] at R
      exact ⟨n, zs, ex, a, c, rfl, R, l, hb⟩
    · obtain ⟨rfl, rfl, rfl, rfl⟩ := N2.zero (by omega)
      refine (addX_z2 a1 a2 c1 c2 z1.length n1 false e1 0 hz1 w).mono ?_
      rintro e w' ⟨rfl, hb⟩
      exact ⟨n1, z1, e1, a1, c1, rfl, by rw [Int.add_zero]; exact N1.fm, l1.below hb (Nat.le_refl _), hb⟩
  · obtain ⟨rfl, rfl, rfl, rfl⟩ := N1.zero (by omega)
    refine (addX_z1 a1 a2 c1 c2 z2.length false n2 0 e2 w).mono ?_
    rintro e w' ⟨rfl, hb⟩
    exact ⟨n2, z2, e2, a2, c2, rfl, by rw [Int.zero_add]; exact N2.fm, l2.below hb (Nat.le_refl _), hb⟩
theorem subF (n1 n2 : Bool) (a1 a2 : Option Addr) (c1 c2 : Nat) (z1 z2 : List Int) (e1 e2 : Int) (w : World) {u v : Int} (l1 : Lie w a1 z1) (l2 : Lie w a2 z2) (N1 : DN n1 z1 e1 u) (N2 : DN n2 z2 e2 v) (hn : 0 < z1.length → 0 < z2.length → e1 - e2 ≤ 150000 ∧ e2 - e1 ≤ 150000) :
    Calls Tryd.prog 43 #[dV n1 a1 z1.length c1 e1, dV n2 a2 z2.length c2 e2] w fun e w' => RF w w' (u - v) (-(KK : Int)) e := by
  refine sub_viaP (Fm (u - v) (-(KK : Int))) n1 n2 (rn n2 z2) a1 a2 z1.length z2.length c1 c2 e1 e2 w (rNegD n2 a2 c2 z2 e2) (fun W hW => ?_)
  rw [Int.sub_eq_add_neg]
  exact addD n1 (rn n2 z2) a1 a2 c1 c2 z1 z2 e1 e2 W (l1.below hW (Nat.le_refl _)) (l2.below hW (Nat.le_refl _)) N1 (rn_num N2) hn
theorem mulD (n1 n2 : Bool) (a1 a2 : Option Addr) (c1 c2 : Nat) (z1 z2 : List Int) (e1 e2 : Int) (w : World) (l1 : Lie w a1 z1) (l2 : Lie w a2 z2) (g1 : DG n1 z1 e1) (g2 : DG n2 z2 e2) :
    Calls Tryd.prog 40 #[dV n1 a1 z1.length c1 e1, dV n2 a2 z2.length c2 e2] w fun e w' => RF w w' (dv n1 z1 e1 * dv n2 z2 e2) (-(2 * (KK : Int))) e := by
  have x1 := g1.ex_bd
  have x2 := g2.ex_bd
  have hK := KK_int
  have k1 := g1.len
  have k2 := g2.len
  refine (mulX n1 n2 a1 a2 c1 c2 z1 z2 e1 e2 w l1 l2 g1.can g2.can (by omega) (by omega) (by omega) (by omega) (by omega) (by omega)).mono ?_
  rintro e w' ⟨n, zs, ex, a, c, rfl, F, l, hb⟩
  have hE : e1 + e2 = -(2 * (KK : Int)) + (((e1 + KK).toNat + (e2 + KK).toNat : Nat) : Int) := by omega
  rw [hE] at F
  have R := F.scale
  have e9 : sv (n1 != n2) (Nt.val z1 * Nt.val z2) * 2 ^ ((e1 + KK).toNat + (e2 + KK).toNat) = dv n1 z1 e1 * dv n2 z2 e2 := by
    unfold dv pK
    rw [Int.pow_add]
    generalize (2 : Int) ^ (e1 + KK).toNat = A
    generalize (2 : Int) ^ (e2 + KK).toNat = C
    cases n1 <;> cases n2 <;> simp only [sv, bne, Bool.false_eq_true, if_false, if_true, beq_self_eq_true, Bool.not_true, Bool.not_false, show (false == true) = false from rfl, show (true == false) = false from rfl] <;> grind
  rw [e9] at R
  exact ⟨n, zs, ex, a, c, rfl, R, l, hb⟩
/-- Far tells whether the sum is too long. -/
theorem farD (n1 n2 : Bool) (a1 a2 : Option Addr) (c1 c2 : Nat) (z1 z2 : List Int) (e1 e2 : Int) {u v : Int} (N1 : DN n1 z1 e1 u) (N2 : DN n2 z2 e2 v) :
    ((∀ w, Lie w a1 z1 → Lie w a2 z2 → Calls Tryd.prog 41 #[dV n1 a1 z1.length c1 e1, dV n2 a2 z2.length c2 e2] w fun e w' => e = .returned (.bool false) ∧ Below w.heap.size w w') ∧ (0 < z1.length → 0 < z2.length → e1 - e2 ≤ 150000 ∧ e2 - e1 ≤ 150000)) ∨
    ((∀ w, Lie w a1 z1 → Lie w a2 z2 → Calls Tryd.prog 41 #[dV n1 a1 z1.length c1 e1, dV n2 a2 z2.length c2 e2] w fun e w' => e = .returned (.bool true) ∧ Below w.heap.size w w') ∧ Big (u + v) ∧ Big (u - v)) := by
  by_cases hz1 : 0 < z1.length
  · by_cases hz2 : 0 < z2.length
    · have g1 := N1.dg
      have g2 := N2.dg
      have x1 := g1.ex_bd
      have x2 := g2.ex_bd
      have hK := KK_int
      obtain ⟨T1, t1, t1', b1⟩ := top_ex g1 hz1
      obtain ⟨T2, t2, t2', b2⟩ := top_ex g2 hz2
      have o1 := g1.odd hz1
      have o2 := g2.odd hz2
      have v1 := g1.pos hz1
      have v2 := g2.pos hz2
      have y1 : Nt.val z1 < 4294967296 ^ 4096 := g1.good.lt.2
      have y2 : Nt.val z2 < 4294967296 ^ 4096 := g2.good.lt.2
      have key : ∀ {X : Int} {T d : Nat}, Bits X T → 131074 < T + d → 131072 ≥ T → 2 * 4294967296 ^ 4096 ≤ X * 2 ^ d ∧ X * 2 ^ d % 2 = 0 := by
        intro X T d hb h1 h2
        rw [pw32]
        exact far_key hb (by omega) (by omega)
      by_cases f1 : 131074 < e1 + T1 - e2
      · refine .inr ⟨fun w l1 l2 => farX_yes1 n1 n2 a1 a2 c1 c2 z1 z2 e1 e2 w l1 l2 g1 g2 hz1 hz2 t1 t2 f1, ?_⟩
        obtain ⟨q1, q2⟩ := key (d := (e1 - e2).toNat) t1' (by omega) b1
        have s1 := sizes_val (m := e2) (k := (e1 - e2).toNat) N1 (by omega) (by omega)
        have s2 := sizes_val (m := e2) (k := 0) N2 (by omega) (by omega)
        rw [Int.pow_zero, Int.mul_one] at s2
        refine ⟨?_, ?_⟩
        · rw [← s1, ← s2, ← Int.add_mul]; exact big_sum n1 n2 q1 q2 v2 y2 o2
        · rw [← s1, ← s2, ← Int.sub_mul, Int.sub_eq_add_neg, ← sv_not]; exact big_sum n1 (!n2) q1 q2 v2 y2 o2
      · by_cases f2 : 131074 < e2 + T2 - e1
        · refine .inr ⟨fun w l1 l2 => farX_yes2 n1 n2 a1 a2 c1 c2 z1 z2 e1 e2 w l1 l2 g1 g2 hz1 hz2 t1 t2 (by omega) f2, ?_⟩
          obtain ⟨q1, q2⟩ := key (d := (e2 - e1).toNat) t2' (by omega) b2
          have s1 := sizes_val (m := e1) (k := 0) N1 (by omega) (by omega)
          have s2 := sizes_val (m := e1) (k := (e2 - e1).toNat) N2 (by omega) (by omega)
          rw [Int.pow_zero, Int.mul_one] at s1
          refine ⟨?_, ?_⟩
          · rw [← s1, ← s2, ← Int.add_mul, Int.add_comm]; exact big_sum n2 n1 q1 q2 v1 y1 o1
          · rw [← s1, ← s2, ← Int.sub_mul, Int.sub_eq_add_neg, ← sv_not, Int.add_comm]; exact big_sum (!n2) n1 q1 q2 v1 y1 o1
        · refine .inl ⟨fun w l1 l2 => farX_no n1 n2 a1 a2 c1 c2 z1 z2 e1 e2 w l1 l2 g1 g2 hz1 hz2 t1 t2 (by omega) (by omega), fun _ _ => by omega⟩
    · obtain ⟨rfl, rfl, rfl, rfl⟩ := N2.zero (by omega)
      exact .inl ⟨fun w _ _ => farX_z2 n1 false a1 a2 z1.length c1 c2 e1 0 hz1 w, fun _ h => absurd h (by simp)⟩
  · obtain ⟨rfl, rfl, rfl, rfl⟩ := N1.zero (by omega)
    exact .inl ⟨fun w _ _ => farX_z1 false n2 a1 a2 z2.length c1 c2 0 e2 w, fun h => absurd h (by simp)⟩
end Go.Proofs.YtiamdmfhkhlppaaDoor
