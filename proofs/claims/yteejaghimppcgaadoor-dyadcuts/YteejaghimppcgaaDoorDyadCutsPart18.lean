import Derived.Test.YteejaghimppcgaaDoorDyadCutsPart17
namespace Go.Proofs.YteejaghimppcgaaDoor
open Go.RowKit Go.Wd Go.Box
set_option linter.unusedVariables false
set_option maxRecDepth 3000
/-- An answer whose exact number is one that may be. -/
theorem DV.isD {w w' : World} {s : Int} {n ng : Bool} {z : List Int} {e : Int} {a : Option Addr} {k c : Nat} {ex code : Int} (h : DV w w' s (-(KK : Int)) ng a k c ex code) (N : DN n z e s) :
    code = 0 ∧ k = z.length ∧ n = ng ∧ e = ex ∧ IsD w w' a c n z e s := by
  have hK := KK_int
  have hx := N.dg.ex_bd
  obtain ⟨d1, d2, d3⟩ := dv_sgn N
  rcases h.all with ⟨rfl, rfl, rfl, rfl, rfl, rfl, rfl⟩ | ⟨hs, t, ht, hh⟩
  · have hz : ¬ 0 < z.length := fun hz => by
      cases n
      · have := d3 hz rfl; omega
      · have := d2 hz rfl; omega
    obtain ⟨rfl, rfl, rfl, _⟩ := N.zero (by omega)
    exact ⟨rfl, rfl, rfl, rfl, N, .inl rfl, h.bel, Own.nil _ _⟩
  · have hz : 0 < z.length := by
      by_cases c : 0 < z.length
      · exact c
      · exact absurd (d1 (by omega)) hs
    obtain ⟨hl, _⟩ := N.low hz
    obtain rfl := ht.unique hl
    have hp := N.dg.pos hz
    have hq : (s.natAbs : Int) / 2 ^ (e + KK).toNat = Nt.val z := by
      rw [← N.val]
      unfold dv pK
      rw [natAbs_mul_pow, sv_abs _ (by omega), Int.mul_ediv_cancel _ (by have := p2pos (e + KK).toNat; omega)]
    rw [hq] at hh
    rcases hh with ⟨j1, j2, rfl, rfl, rfl, zs, rfl, j6, j7⟩ | ⟨j1, _⟩ | ⟨_, j1, _⟩
    · obtain rfl : zs = z := Nt.can_unique j6.can N.dg.can j6.val
      obtain ⟨a2, c2, he, _, _, hl2⟩ := j7.lie
      simp only [Value.slice.injEq, true_and] at he
      obtain ⟨rfl, rfl⟩ := he
      refine ⟨rfl, rfl, ?_, by omega, N, hl2, h.bel, j7⟩
      cases n
      · exact (decide_eq_false (by have := d3 hz rfl; omega)).symm
      · exact (decide_eq_true (d2 hz rfl)).symm
    · exact absurd N.dg.good.lt.2 (Int.not_lt.2 j1)
    · omega
/-- A number that is too long, however it is written. -/
def Big (s : Int) : Prop := s ≠ 0 ∧ ∀ t : Nat, LowBit (s.natAbs : Int) t → 4294967296 ^ 4096 ≤ (s.natAbs : Int) / 2 ^ t
theorem DV.big {w w' : World} {s E : Int} {ng : Bool} {a : Option Addr} {k c : Nat} {ex code : Int} (h : DV w w' s E ng a k c ex code) (hb : Big s) :
    ng = false ∧ a = none ∧ k = 0 ∧ c = 0 ∧ ex = 0 ∧ code = 3 := by
  rcases h.all with ⟨h0, _⟩ | ⟨_, t, ht, hh⟩
  · exact absurd h0 hb.1
  · have h2 := Int.not_lt.2 (hb.2 t ht)
    rcases hh with ⟨_, _, _, _, _, zs, _, j6, _⟩ | j | ⟨j1, _⟩
    · exact absurd j6.lt.2 h2
    · exact j.2
    · exact absurd j1 h2
theorem big_sum {X Y : Int} {k : Nat} (n1 n2 : Bool) (hX : 2 * 4294967296 ^ 4096 ≤ X) (hXe : X % 2 = 0) (hY : 0 < Y) (hY2 : Y < 4294967296 ^ 4096) (ho : Y % 2 = 1) : Big ((sv n1 X + sv n2 Y) * 2 ^ k) := by
  have hp := p2pos k
  have gen : ∀ P : Int, 2 * P ≤ X → Y < P → P ≤ ((sv n1 X + sv n2 Y).natAbs : Int) ∧ ((sv n1 X + sv n2 Y).natAbs : Int) % 2 = 1 := by
    intro P q1 q2
    clear hX hY2
    cases n1 <;> cases n2 <;> simp only [sv_t, sv_f] <;> omega
  have h1 := gen _ hX hY2
  have h3 := h1.2
  clear gen hX hY2
  have h0 : sv n1 X + sv n2 Y ≠ 0 := by clear h1; omega
  have h4 : (sv n1 X + sv n2 Y) * 2 ^ k ≠ 0 := fun c => by clear h1; rcases Int.mul_eq_zero.1 c with c | c <;> omega
  refine ⟨h4, fun t ht => ?_⟩
  rw [natAbs_mul_pow] at ht ⊢
  have h2 := (odd_low h3).up k
  rw [Nat.zero_add] at h2
  obtain rfl := ht.unique h2
  rw [Int.mul_ediv_cancel _ (by clear h1; omega)]
  exact h1.1
theorem far_key {X : Int} {T d Q : Nat} (hb : Bits X T) (h1 : Q + 2 < T + d) (h2 : 0 < d) : 2 * 2 ^ Q ≤ X * 2 ^ d ∧ X * 2 ^ d % 2 = 0 := by
  refine ⟨?_, ?_⟩
  · have h3 := (hb.up d).le
    have h4 := p2mono (show Q + 1 + 1 ≤ T + d by omega)
    rw [p2succ, p2succ] at h4
    omega
  · obtain ⟨j, rfl⟩ : ∃ j, d = j + 1 := ⟨d - 1, by omega⟩
    rw [p2succ, show X * (2 * 2 ^ j) = 2 * (X * 2 ^ j) by generalize (2 : Int) ^ j = P; grind]
    omega
theorem Fm.scale {s E : Int} {k : Nat} {n : Bool} {zs : List Int} {ex : Int} (h : Fm s (E + k) n zs ex) : Fm (s * 2 ^ k) E n zs ex := by
  have hp := p2pos k
  rcases h with ⟨rfl, he⟩ | ⟨hs, t, ht, rfl, rfl, hc, hv⟩
  · exact .inl ⟨by simp, he⟩
  · refine .inr ⟨fun c => by rcases Int.mul_eq_zero.1 c with c | c <;> omega, t + k, by rw [natAbs_mul_pow]; exact ht.up k, ?_, by omega, hc, ?_⟩
    · by_cases c : s < 0
      · have : s * 2 ^ k < 0 := Int.mul_neg_of_neg_of_pos c hp
        simp [c, this]
      · have : ¬ s * 2 ^ k < 0 := by have := Int.mul_nonneg (show 0 ≤ s by omega) (Int.le_of_lt hp); omega
        simp [c, this]
    · rw [hv, natAbs_mul_pow, Int.pow_add, Int.mul_ediv_mul_of_pos_left _ _ hp]
theorem Fm.toK {s E : Int} {n : Bool} {zs : List Int} {ex : Int} (h : Fm s E n zs ex) (hE : -(KK : Int) ≤ E) : Fm (s * pK E) (-(KK : Int)) n zs ex := by
  have e : E = -(KK : Int) + ((E + KK).toNat : Nat) := by omega
  rw [e] at h
  exact h.scale
theorem DN.fm {n : Bool} {zs : List Int} {ex u : Int} (N : DN n zs ex u) : Fm u (-(KK : Int)) n zs ex := by
  have hK := KK_int
  have hx := N.dg.ex_bd
  by_cases hz : 0 < zs.length
  · have hp := N.dg.pos hz
    have h0 : Fm (sv n (Nt.val zs)) ex n zs ex := by
      refine .inr ⟨fun c => by rw [sv_zero] at c; omega, 0, ?_, ?_, by omega, N.dg.can, ?_⟩
      · rw [sv_abs _ (by omega)]; exact odd_low (N.dg.odd hz)
      · rw [sv_neg _ hp]
      · rw [sv_abs _ (by omega)]; simp
    have h1 := h0.toK (by omega)
    rw [show sv n (Nt.val zs) * pK ex = u from N.val] at h1
    exact h1
  · obtain ⟨rfl, rfl, rfl, rfl⟩ := N.zero (by omega)
    exact .inl ⟨rfl, rfl, rfl, rfl⟩
theorem sameD (n1 n2 : Bool) (a1 a2 : Option Addr) (c1 c2 : Nat) (z1 z2 : List Int) (e1 e2 : Int) {v : Int} (w : World) (N1 : DN n1 z1 e1 v) (N2 : DN n2 z2 e2 v) (l1 : Lie w a1 z1) (l2 : Lie w a2 z2) :
    Calls Tryd.prog 28 #[dV n1 a1 z1.length c1 e1, dV n2 a2 z2.length c2 e2] w fun e w' => e = .returned (.bool true) ∧ Below w.heap.size w w' :=
  dsame40 n1 n2 a1 a2 c1 c2 z1 z2 e1 e2 w (N1.dg.lie l1) (N2.dg.lie l2) true (decide_eq_true (N1.same N2 rfl))
/-- The reference's Neg, Abs, Sign, Top of any number. -/
def rn (n : Bool) (z : List Int) : Bool := if z.length = 0 then n else !n
theorem rNegD (n : Bool) (a : Option Addr) (c : Nat) (z : List Int) (ex : Int) (w : World) :
    Calls Tryd.prog 29 #[dV n a z.length c ex] w fun e w' => e = .returned (dV (rn n z) a z.length c ex) ∧ Below w.heap.size w w' := by
  by_cases hz : 0 < z.length
  · rw [show rn n z = !n by unfold rn; rw [if_neg (by omega)]]; exact rNegX n a c z.length ex hz w
  · obtain rfl : z = [] := List.length_eq_zero_iff.1 (by omega)
    exact rNegZ a c ex n w
theorem rn_num {n : Bool} {z : List Int} {ex u : Int} (N : DN n z ex u) : DN (rn n z) z ex (-u) := by
  by_cases hz : 0 < z.length
  · rw [show rn n z = !n by unfold rn; rw [if_neg (by omega)]]; exact N.neg hz
  · obtain ⟨rfl, rfl, rfl, rfl⟩ := N.zero (by omega)
    exact N
theorem rAbsD (n : Bool) (a : Option Addr) (c k : Nat) (ex : Int) (w : World) :
    Calls Tryd.prog 30 #[dV n a k c ex] w fun e w' => e = .returned (dV false a k c ex) ∧ Below w.heap.size w w' := by
  have B1 := ((Bx.nil w).push (DO false a k c ex)).push (DO false a k c ex)
  go_enter Tryd.func30, Tryd.ntmps30
  go_wp2
  refine bodyPost_ret (results_D1 rfl _ _ (w.heap.size + 1) _ rfl ⟨by simpa using B1.head, rfl⟩) rfl ?_
  exact ⟨rfl, B1.bel⟩
theorem abs_num {n : Bool} {z : List Int} {ex u : Int} (N : DN n z ex u) : DN false z ex (Nt.val z * pK ex) := by
  by_cases hz : 0 < z.length
  · have g := N.dg
    exact ⟨⟨g.can, g.len, .inr ⟨hz, g.odd hz, g.ex_bd.1, g.ex_bd.2⟩⟩, rfl⟩
  · obtain ⟨rfl, rfl, rfl, rfl⟩ := N.zero (by omega)
    exact ⟨zeroDG, rfl⟩
theorem rSignD (n : Bool) (a : Option Addr) (c : Nat) (z : List Int) (ex : Int) {u : Int} (N : DN n z ex u) (s : Int) (hs : sgn u 0 = s) (w : World) :
    Calls Tryd.prog 31 #[dV n a z.length c ex] w fun e w' => e = .returned (.int .i64 s) ∧ Below w.heap.size w w' := by
  subst hs
  rcases cls N with ⟨h, h0⟩ | ⟨h, h0, _, _⟩ | ⟨h, h0, _, _⟩
  · rw [sgn_is0 h0]; exact rSgnAny n a c z.length ex 0 h w
  · rw [sgn_is2 h0]; exact rSgnAny n a c z.length ex 1 h w
  · rw [sgn_is1 h0]; exact rSgnAny n a c z.length ex (-1) h w
theorem rTopZ (n : Bool) (a : Option Addr) (c : Nat) (ex : Int) (w : World) :
    Calls Tryd.prog 32 #[dV n a 0 c ex] w fun e w' => e = .returned (.int .i64 0) ∧ Below w.heap.size w w' := by
  have B1 := (Bx.nil w).push (DO n a 0 c ex)
  go_enter Tryd.func32, Tryd.ntmps32
  go_wp2
  go_ret
  exact ⟨rfl, B1.bel⟩
theorem rTopD (n : Bool) (a : Option Addr) (c : Nat) (z : List Int) (ex : Int) (w : World) (hl : Lie w a z) (g : DG n z ex) {B : Nat} (hB : BitLen (Nt.val z) B) :
    Calls Tryd.prog 32 #[dV n a z.length c ex] w fun e w' => e = .returned (.int .i64 (B + ex)) ∧ Below w.heap.size w w' := by
  by_cases hz : 0 < z.length
  · refine (dreftop54 n a c z ex w hl g hz).mono ?_
    rintro e w' ⟨B2, rfl, hB2, _, hb⟩
    obtain rfl := hB.unique hB2
    exact ⟨by rw [Int.add_comm], hb⟩
  · obtain ⟨rfl, rfl, rfl⟩ := g.nil (by omega)
    have : B = 0 := by
      rcases hB with ⟨_, h⟩ | ⟨h, _⟩
      · exact h
      · rw [Nt.val_nil] at h; omega
    subst this
    exact rTopZ false a c 0 w
/-- Sub by way of its two calls, whatever is said of the answer. -/
theorem sub_viaP (P : Bool → List Int → Int → Prop) (n1 n2 n3 : Bool) (a1 a2 : Option Addr) (k1 k2 c1 c2 : Nat) (e1 e2 : Int) (w : World)
    (HN : ∀ W, Calls Tryd.prog 29 #[dV n2 a2 k2 c2 e2] W fun e w' => e = .returned (dV n3 a2 k2 c2 e2) ∧ Below W.heap.size W w')
    (HA : ∀ W, Below w.heap.size w W → Calls Tryd.prog 42 #[dV n1 a1 k1 c1 e1, dV n3 a2 k2 c2 e2] W fun e w' => ∃ n zs ex a c, e = .returned (dV n a zs.length c ex) ∧ P n zs ex ∧ Lie w' a zs ∧ Below W.heap.size W w') :
    Calls Tryd.prog 43 #[dV n1 a1 k1 c1 e1, dV n2 a2 k2 c2 e2] w fun e w' => ∃ n zs ex a c, e = .returned (dV n a zs.length c ex) ∧ P n zs ex ∧ Lie w' a zs ∧ Below w.heap.size w w' := by
  have B1 := (((Bx.nil w).push (DO n1 a1 k1 c1 e1)).push (DO n2 a2 k2 c2 e2)).push (DO false none 0 0 0)
  go_enter Tryd.func43, Tryd.ntmps43
  go_wp2_with fail
  rw [show ((w.alloc (DO n1 a1 k1 c1 e1)).alloc (DO n2 a2 k2 c2 e2)).heap.size = w.heap.size + 1 + 1 by simp, show (w.alloc (DO n1 a1 k1 c1 e1)).heap.size = w.heap.size + 1 by simp] at B1
  generalize hw1 : ((w.alloc (DO n1 a1 k1 c1 e1)).alloc (DO n2 a2 k2 c2 e2)).alloc (DO false none 0 0 0) = w1 at *
  clear hw1
  have HF := B1.drew
  have HI := HF.sub (L' := [(w.heap.size + 1, DO n2 a2 k2 c2 e2), (w.heap.size, DO n1 a1 k1 c1 e1)]) (by simp)
  have sh := fun W (hW : Bx w [(w.heap.size + 1, DO n2 a2 k2 c2 e2), (w.heap.size, DO n1 a1 k1 c1 e1)] W) => And.intro (cells3 hW (w.heap.size + 1) _ _ _ _ (.head _)).1 (cells3 hW w.heap.size _ _ _ _ (.tail _ (.head _))).1
  refine Drawn.enter (Bx w [(w.heap.size + 1, DO n2 a2 k2 c2 e2), (w.heap.size, DO n1 a1 k1 c1 e1)]) (by kernel_rfl) ?_
  refine Drawn.take (i := 0) (v := ?v251) rfl (by kernel_rfl) (by kernel_rfl) (by kernel_rfl) (fun _ _ _ h => h) (by kernel_rfl) (fun W hW => ?_) HI ?_
  rotate_left
  · have ⟨⟨s0, s1, s2⟩, q0, q3, q4⟩ := sh W hW
    go_simp <;> exact rfl
  refine Drawn.take (i := 1) (v := ?v252) rfl (by kernel_rfl) (by kernel_rfl) (by kernel_rfl) (fun _ _ _ h => h) (by kernel_rfl) (fun W hW => ?_) HI ?_
  rotate_left
  · have ⟨⟨s0, s1, s2⟩, q0, q3, q4⟩ := sh W hW
    go_simp <;> exact rfl
  refine Drawn.one (j := 2) (by kernel_rfl) rfl (fun K hK => ?_)
  go_simp
  refine (HN _).mono ?_
  rintro e wn ⟨rfl, hn⟩
  refine hK _ _ (HI.keep hn) ?_
  clear hK K
  replace HI := HI.keep hn
  replace HF := HF.keep hn
  clear hn
  refine Drawn.one (j := 3) (by kernel_rfl) rfl (fun K hK => ?_)
  go_simp
  refine (HA _ HI.bel).mono ?_
  rintro e w6 ⟨n6, z6, x6, a6, c6, rfl, F6, l6, h6⟩
  refine hK _ _ (HI.keep h6) ?_
  clear hK K
  replace HI := HI.keep h6
  replace HF := HF.keep h6
  have H6 := Hide.mk (And.intro F6 l6)
  clear F6 l6 h6
  obtain ⟨⟨f0, f1, f2⟩, r0, r1, r2⟩ := cells3 HF (w.heap.size + 1 + 1) _ _ _ _ (.head _)
  have HF2 := HF.fill3 (by omega) (by simp; omega) (.bool n6) (.slice a6 z6.length c6) (.int .i64 x6)
  refine Drawn.one (j := 4) (by kernel_rfl) rfl (fun K hK => ?_)
  go_simp
  replace HI := HF2.sub (L' := [(w.heap.size + 1, DO n2 a2 k2 c2 e2), (w.heap.size, DO n1 a1 k1 c1 e1)]) (by simp)
  refine hK _ _ HI ?_
  clear hK K f0 f1 f2 r0 r1 r2
  refine Drawn.done (by kernel_rfl) ?_
  try go_simp
  go_wp2
  refine bodyPost_ret (results_D1 rfl _ _ (w.heap.size + 1 + 1) _ rfl ⟨HF2.head, rfl⟩) rfl ?_
  have L := Live.set3 (g := w.heap.size + 1 + 1) ⟨HF.head, rfl⟩ (.bool n6) (.slice a6 z6.length c6) (.int .i64 x6) (Live.one H6.out.2)
  exact ⟨n6, z6, x6, a6, c6, rfl, H6.out.1, L.all (a6, z6) (.head _), HF2.bel⟩
/-- The reference's sum and difference of two numbers whose exponents are near each other. -/
theorem addD (n1 n2 : Bool) (a1 a2 : Option Addr) (c1 c2 : Nat) (z1 z2 : List Int) (e1 e2 : Int) (w : World) {u v : Int} (l1 : Lie w a1 z1) (l2 : Lie w a2 z2) (N1 : DN n1 z1 e1 u) (N2 : DN n2 z2 e2 v) (hn : 0 < z1.length → 0 < z2.length → e1 - e2 ≤ 150000 ∧ e2 - e1 ≤ 150000) :
    Calls Tryd.prog 42 #[dV n1 a1 z1.length c1 e1, dV n2 a2 z2.length c2 e2] w fun e w' => RF w w' (u + v) (-(KK : Int)) e := by
  by_cases hz1 : 0 < z1.length
  · by_cases hz2 : 0 < z2.length
    · have g1 := N1.dg
      have g2 := N2.dg
      have x1 := g1.ex_bd
      have x2 := g2.ex_bd
      have hK := KK_int
      have k1 := g1.len
      have k2 := g2.len
      obtain ⟨y1, y2⟩ := hn hz1 hz2
      refine (addX n1 n2 a1 a2 c1 c2 z1 z2 e1 e2 w l1 l2 g1.can g2.can (by omega) (by omega) hz1 hz2 (by omega) (by omega) (by omega) (by omega) (e1 - min e1 e2).toNat (e2 - min e1 e2).toNat (by omega) (by omega) (by omega) (by omega)).mono ?_
      rintro e w' ⟨n, zs, ex, a, c, rfl, F, l, hb⟩
      have hm : -(KK : Int) ≤ min e1 e2 := by omega
      have R := F.toK hm
      rw [Int.add_mul, sizes_val N1 hm (by omega), sizes_val N2 hm (by omega)] at R
      exact ⟨n, zs, ex, a, c, rfl, R, l, hb⟩
    · obtain ⟨rfl, rfl, rfl, rfl⟩ := N2.zero (by omega)
      refine (addX_z2 a1 a2 c1 c2 z1.length n1 false e1 0 hz1 w).mono ?_
      rintro e w' ⟨rfl, hb⟩
      exact ⟨n1, z1, e1, a1, c1, rfl, by rw [Int.add_zero]; exact N1.fm, l1.below hb (Nat.le_refl _), hb⟩
  · obtain ⟨rfl, rfl, rfl, rfl⟩ := N1.zero (by omega)
    refine (addX_z1 a1 a2 c1 c2 z2.length false n2 0 e2 w).mono ?_
    rintro e w' ⟨rfl, hb⟩
    exact ⟨n2, z2, e2, a2, c2, rfl, by rw [Int.zero_add]; exact N2.fm, l2.below hb (Nat.le_refl _), hb⟩
theorem subF (n1 n2 : Bool) (a1 a2 : Option Addr) (c1 c2 : Nat) (z1 z2 : List Int) (e1 e2 : Int) (w : World) {u v : Int} (l1 : Lie w a1 z1) (l2 : Lie w a2 z2) (N1 : DN n1 z1 e1 u) (N2 : DN n2 z2 e2 v) (hn : 0 < z1.length → 0 < z2.length → e1 - e2 ≤ 150000 ∧ e2 - e1 ≤ 150000) :
    Calls Tryd.prog 43 #[dV n1 a1 z1.length c1 e1, dV n2 a2 z2.length c2 e2] w fun e w' => RF w w' (u - v) (-(KK : Int)) e := by
  refine sub_viaP (Fm (u - v) (-(KK : Int))) n1 n2 (rn n2 z2) a1 a2 z1.length z2.length c1 c2 e1 e2 w (rNegD n2 a2 c2 z2 e2) (fun W hW => ?_)
  rw [Int.sub_eq_add_neg]
  exact addD n1 (rn n2 z2) a1 a2 c1 c2 z1 z2 e1 e2 W (l1.below hW (Nat.le_refl _)) (l2.below hW (Nat.le_refl _)) N1 (rn_num N2) hn
theorem mulD (n1 n2 : Bool) (a1 a2 : Option Addr) (c1 c2 : Nat) (z1 z2 : List Int) (e1 e2 : Int) (w : World) (l1 : Lie w a1 z1) (l2 : Lie w a2 z2) (g1 : DG n1 z1 e1) (g2 : DG n2 z2 e2) :
    Calls Tryd.prog 40 #[dV n1 a1 z1.length c1 e1, dV n2 a2 z2.length c2 e2] w fun e w' => RF w w' (dv n1 z1 e1 * dv n2 z2 e2) (-(2 * (KK : Int))) e := by
  have x1 := g1.ex_bd
  have x2 := g2.ex_bd
  have hK := KK_int
  have k1 := g1.len
  have k2 := g2.len
  refine (mulX n1 n2 a1 a2 c1 c2 z1 z2 e1 e2 w l1 l2 g1.can g2.can (by omega) (by omega) (by omega) (by omega) (by omega) (by omega)).mono ?_
  rintro e w' ⟨n, zs, ex, a, c, rfl, F, l, hb⟩
  have hE : e1 + e2 = -(2 * (KK : Int)) + (((e1 + KK).toNat + (e2 + KK).toNat : Nat) : Int) := by omega
  rw [hE] at F
  have R := F.scale
  have e9 : sv (n1 != n2) (Nt.val z1 * Nt.val z2) * 2 ^ ((e1 + KK).toNat + (e2 + KK).toNat) = dv n1 z1 e1 * dv n2 z2 e2 := by
    unfold dv pK
    rw [Int.pow_add]
    generalize (2 : Int) ^ (e1 + KK).toNat = A
    generalize (2 : Int) ^ (e2 + KK).toNat = C
    cases n1 <;> cases n2 <;> simp only [sv, bne, Bool.false_eq_true, if_false, if_true, beq_self_eq_true, Bool.not_true, Bool.not_false, show (false == true) = false from rfl, show (true == false) = false from rfl] <;> grind
  rw [e9] at R
  exact ⟨n, zs, ex, a, c, rfl, R, l, hb⟩
/-- Far tells whether the sum is too long. -/
theorem farD (n1 n2 : Bool) (a1 a2 : Option Addr) (c1 c2 : Nat) (z1 z2 : List Int) (e1 e2 : Int) {u v : Int} (N1 : DN n1 z1 e1 u) (N2 : DN n2 z2 e2 v) :
    ((∀ w, Lie w a1 z1 → Lie w a2 z2 → Calls Tryd.prog 41 #[dV n1 a1 z1.length c1 e1, dV n2 a2 z2.length c2 e2] w fun e w' => e = .returned (.bool false) ∧ Below w.heap.size w w') ∧ (0 < z1.length → 0 < z2.length → e1 - e2 ≤ 150000 ∧ e2 - e1 ≤ 150000)) ∨
    ((∀ w, Lie w a1 z1 → Lie w a2 z2 → Calls Tryd.prog 41 #[dV n1 a1 z1.length c1 e1, dV n2 a2 z2.length c2 e2] w fun e w' => e = .returned (.bool true) ∧ Below w.heap.size w w') ∧ Big (u + v) ∧ Big (u - v)) := by
  by_cases hz1 : 0 < z1.length
  · by_cases hz2 : 0 < z2.length
    · have g1 := N1.dg
      have g2 := N2.dg
      have x1 := g1.ex_bd
      have x2 := g2.ex_bd
      have hK := KK_int
      obtain ⟨T1, t1, t1', b1⟩ := top_ex g1 hz1
      obtain ⟨T2, t2, t2', b2⟩ := top_ex g2 hz2
      have o1 := g1.odd hz1
      have o2 := g2.odd hz2
      have v1 := g1.pos hz1
      have v2 := g2.pos hz2
      have y1 : Nt.val z1 < 4294967296 ^ 4096 := g1.good.lt.2
      have y2 : Nt.val z2 < 4294967296 ^ 4096 := g2.good.lt.2
      have key : ∀ {X : Int} {T d : Nat}, Bits X T → 131074 < T + d → 131072 ≥ T → 2 * 4294967296 ^ 4096 ≤ X * 2 ^ d ∧ X * 2 ^ d % 2 = 0 := by
        intro X T d hb h1 h2
        rw [pw32]
        exact far_key hb (by omega) (by omega)
      by_cases f1 : 131074 < e1 + T1 - e2
      · refine .inr ⟨fun w l1 l2 => farX_yes1 n1 n2 a1 a2 c1 c2 z1 z2 e1 e2 w l1 l2 g1 g2 hz1 hz2 t1 t2 f1, ?_⟩
        obtain ⟨q1, q2⟩ := key (d := (e1 - e2).toNat) t1' (by omega) b1
        have s1 := sizes_val (m := e2) (k := (e1 - e2).toNat) N1 (by omega) (by omega)
        have s2 := sizes_val (m := e2) (k := 0) N2 (by omega) (by omega)
        rw [Int.pow_zero, Int.mul_one] at s2
        refine ⟨?_, ?_⟩
        · rw [← s1, ← s2, ← Int.add_mul]; exact big_sum n1 n2 q1 q2 v2 y2 o2
        · rw [← s1, ← s2, ← Int.sub_mul, Int.sub_eq_add_neg, ← sv_not]; exact big_sum n1 (!n2) q1 q2 v2 y2 o2
      · by_cases f2 : 131074 < e2 + T2 - e1
        · refine .inr ⟨fun w l1 l2 => farX_yes2 n1 n2 a1 a2 c1 c2 z1 z2 e1 e2 w l1 l2 g1 g2 hz1 hz2 t1 t2 (by omega) f2, ?_⟩
          obtain ⟨q1, q2⟩ := key (d := (e2 - e1).toNat) t2' (by omega) b2
          have s1 := sizes_val (m := e1) (k := 0) N1 (by omega) (by omega)
          have s2 := sizes_val (m := e1) (k := (e2 - e1).toNat) N2 (by omega) (by omega)
          rw [Int.pow_zero, Int.mul_one] at s1
          refine ⟨?_, ?_⟩
          · rw [← s1, ← s2, ← Int.add_mul, Int.add_comm]; exact big_sum n2 n1 q1 q2 v1 y1 o1
          · rw [← s1, ← s2, ← Int.sub_mul, Int.sub_eq_add_neg, ← sv_not, Int.add_comm]; exact big_sum (!n2) n1 q1 q2 v1 y1 o1
        · refine .inl ⟨fun w l1 l2 => farX_no n1 n2 a1 a2 c1 c2 z1 z2 e1 e2 w l1 l2 g1 g2 hz1 hz2 t1 t2 (by omega) (by omega), fun _ _ => by omega⟩
    · obtain ⟨rfl, rfl, rfl, rfl⟩ := N2.zero (by omega)
      exact .inl ⟨fun w _ _ => farX_z2 n1 false a1 a2 z1.length c1 c2 e1 0 hz1 w, fun _ h => absurd h (by simp)⟩
  · obtain ⟨rfl, rfl, rfl, rfl⟩ := N1.zero (by omega)
    exact .inl ⟨fun w _ _ => farX_z1 false n2 a1 a2 z2.length c1 c2 0 e2 w, fun h => absurd h (by simp)⟩
end Go.Proofs.YteejaghimppcgaaDoor

namespace Go.Proofs.YteejaghimppcgaaDoor
open Go.RowKit Go.Wd Go.Box
set_option linter.unusedVariables false
set_option maxRecDepth 3000
/-- What is cut to so many bits, and whether something is lost. -/
def DCut (w w' : World) (s E : Int) (q : Bool) (e : Ending) : Prop := ∃ n a k c ex code lost, e = .returned (.tuple #[dV n a k c ex, .bool lost, .int .i64 code]) ∧ DV w w' s E n a k c ex code ∧ (code = 0 → lost = q) ∧ (code ≠ 0 → lost = false)
theorem DV.bad {w w' : World} {s E : Int} {n : Bool} {a : Option Addr} {k c : Nat} {ex code : Int} (h : DV w w' s E n a k c ex code) (hc : code ≠ 0) : n = false ∧ a = none ∧ k = 0 ∧ c = 0 ∧ ex = 0 := by
  rcases h.all with ⟨_, _, _, _, _, _, h0⟩ | ⟨_, t, _, ⟨_, _, _, _, h0, _⟩ | ⟨_, h1, h2, h3, h4, h5, _⟩ | ⟨_, _, h1, h2, h3, h4, h5, _⟩⟩
  · exact absurd h0 hc
  · exact absurd h0 hc
  · exact ⟨h1, h2, h3, h4, h5⟩
  · exact ⟨h1, h2, h3, h4, h5⟩
theorem cutC (ng : Bool) (a : Option Addr) (ca : Nat) (za : List Int) (ex bits : Int) (more : Bool) (w : World) {x : Int} (ha : Lie w a za) (ga : Good za x) (hT : Tab w) (hb1 : 1 ≤ bits) (hb2 : bits ≤ 8192) (hx1 : -100000000 ≤ ex) (hx2 : ex ≤ 100000000) {B : Nat} (hB : BitLen x B) (hB2 : B ≤ 131072) (d : Nat) (hd : max ((B : Int) - bits) 0 = (d : Int)) :
    Calls Tryd.prog 90 #[.bool ng, .slice a za.length ca, .int .i64 ex, .int .i64 bits, .bool more] w fun e w' => DCut w w' (sv ng (x / 2 ^ d)) (ex + d) (decide (x % 2 ^ d ≠ 0) || more) e := by
  have hd3 : (d : Int) ≤ 131072 := by omega
  obtain ⟨q, hq⟩ : ∃ q, decide (x % 2 ^ d ≠ 0) = q := ⟨_, rfl⟩
  have HQ := Hide.mk hq
  have HD := Hide.mk hd
  have HB := Hide.mk hB
  have B1 := (Bx.nil w).push (DO false none 0 0 0)
  have HL := fun W (h : Below w.heap.size w W) => Hide.mk (lenN a ca za W (ha.below h (Nat.le_refl _)) ga)
  have HS := fun W (h : Below w.heap.size w W) M hM => Hide.mk (shiftDi a ca za W (ha.below h (Nat.le_refl _)) ga M d hM (by omega) (hT.below h (Nat.le_refl _)) q hq)
  clear hd hB ha hq
  go_enter Tryd.func90, Tryd.ntmps90
  go_wp2_with fail
  refine (HL _ B1.bel).out.mono ?_
  rintro e w2 ⟨rfl, B2, rfl, hB2', h3⟩
  obtain rfl := hB2'.unique HB.out
  clear hB2' h3
  go_wp2_with fail
  rw [HD.out]
  refine (HS _ B1.bel _ rfl).out.mono ?_
  rintro e w3 ⟨z3, a3, c3, rfl, h3, _⟩
  have B3 := B1.keep h3.bel
  have HF := Hide.mk (formedR ng a3 c3 z3 (ex + d) w3 h3.lie h3.good (hT.below B3.bel (Nat.le_refl _)) (by omega) (by omega))
  clear h3 HS HL B1
  go_wp2_with fail
  refine HF.out.mono ?_
  rintro e w4 ⟨n4, a4, k4, c4, x4, code, rfl, h4⟩
  have B4 := B3.keep h4.bel
  have hlt : w.heap.size < w3.heap.size := B3.lt (.head _)
  have hlt4 : w.heap.size < w4.heap.size := B4.lt (.head _)
  have hne : w.heap.size ≠ w4.heap.size := by omega
  have V := Hide.mk h4
  have HE := Hide.mk (DV.bad h4)
  clear HF h4
  obtain ⟨⟨t0, t1, t2⟩, u0, u1, u2⟩ := cells3 B4 w.heap.size _ _ _ _ (.head _)
  by_cases hc : code = 0
  · subst hc
    cases q <;> go_wp2
    · refine bodyPost_ret (results_D3 rfl _ _ w.heap.size _ rfl ⟨((B4.fill3 (Nat.le_refl _) (by simp) _ _ _).push _).tail.head, rfl⟩) rfl ?_
      exact ⟨n4, a4, k4, c4, x4, 0, more, rfl, (V.out.back B3.bel (Nat.le_refl _) hlt _ _ _).after ((Below.refl _ _).alloc (Nat.le_refl _) _), fun _ => by rw [HQ.out]; rfl, fun h => absurd rfl h⟩
    · refine bodyPost_ret (results_D3 rfl _ _ w.heap.size _ rfl ⟨((B4.fill3 (Nat.le_refl _) (by simp) _ _ _).push _).tail.head, rfl⟩) rfl ?_
      exact ⟨n4, a4, k4, c4, x4, 0, true, rfl, (V.out.back B3.bel (Nat.le_refl _) hlt _ _ _).after ((Below.refl _ _).alloc (Nat.le_refl _) _), fun _ => by rw [HQ.out]; rfl, fun h => absurd rfl h⟩
  · obtain ⟨rfl, rfl, rfl, rfl, rfl⟩ := HE.out hc
    have hc2 : (code == 0) = false := by simpa using hc
    have hc3 : (code != 0) = true := by simpa using hc
    go_wp2
    refine bodyPost_ret (results_D3 rfl _ _ w.heap.size _ rfl ⟨((B4.fill3 (Nat.le_refl _) (by simp) _ _ _).push _).tail.head, rfl⟩) rfl ?_
    exact ⟨false, none, 0, 0, 0, code, false, rfl, (V.out.back B3.bel (Nat.le_refl _) hlt _ _ _).after ((Below.refl _ _).alloc (Nat.le_refl _) _), fun h => absurd h hc, fun _ => rfl⟩
/-- Which number of bits may be asked. -/
def askB (bits : Int) (m : Bool) : Int := if bits < 1 ∨ m = false then 2 else if 8192 < bits then 3 else 0
theorem ask1 (bits : Int) (b : Nat) (m : Bool) (w : World) (HM : ∀ W, Below w.heap.size w W → Calls Tryd.prog 74 #[.slice (some ⟨b, 0, none⟩) 1 1] W fun e w' => e = .returned (.bool m) ∧ Below W.heap.size W w') :
    Calls Tryd.prog 89 #[.int .i64 bits, .slice (some ⟨b, 0, none⟩) 1 1] w fun e w' => e = .returned (.int .i64 (askB bits m)) ∧ Below w.heap.size w w' := by
  have H := Hide.mk (HM w (Below.refl _ _))
  clear HM
  by_cases h1 : bits < 1
  · rw [show askB bits m = 2 by unfold askB; rw [if_pos (.inl h1)]]
    go_enter Tryd.func89, Tryd.ntmps89
    go_wp2
    go_ret
    exact ⟨rfl, Below.refl _ _⟩
  · cases m
    · rw [show askB bits false = 2 by unfold askB; rw [if_pos (.inr rfl)]]
      go_enter Tryd.func89, Tryd.ntmps89
      go_wp2_with fail
      refine H.out.mono ?_
      rintro e w2 ⟨rfl, h2⟩
      clear H
      go_wp2
      go_ret
      exact ⟨rfl, h2⟩
    · by_cases h3 : 8192 < bits
      · rw [show askB bits true = 3 by unfold askB; rw [if_neg (by simp; omega), if_pos h3]]
        go_enter Tryd.func89, Tryd.ntmps89
        go_wp2_with fail
        refine H.out.mono ?_
        rintro e w2 ⟨rfl, h2⟩
        clear H
        go_wp2
        go_ret
        exact ⟨rfl, h2⟩
      · rw [show askB bits true = 0 by unfold askB; rw [if_neg (by simp; omega), if_neg h3]]
        go_enter Tryd.func89, Tryd.ntmps89
        go_wp2_with fail
        refine H.out.mono ?_
        rintro e w2 ⟨rfl, h2⟩
        clear H
        go_wp2
        go_ret
        exact ⟨rfl, h2⟩
end Go.Proofs.YteejaghimppcgaaDoor

namespace Go.Proofs.YteejaghimppcgaaDoor
open Go.RowKit Go.Wd Go.Box
set_option linter.unusedVariables false
set_option maxRecDepth 3000
theorem refDownBig (a : Option Addr) (ca : Nat) (za : List Int) (w : World) {x : Int} (ha : Lie w a za) (ga : Good za x) (M : Int) (hM : 131072 ≤ M) (hM2 : M ≤ 9000000000) (hz : 0 < (za.length : Int)) :
    Calls Tryd.prog 91 #[.slice a za.length ca, .int .i64 M] w fun e w' => e = .returned (.tuple #[.slice none 0 0, .bool true]) ∧ w = w' := by
  have HL := Hide.mk (refLenN a ca za w ha ga)
  clear ha
  go_enter Tryd.func91, Tryd.ntmps91
  go_wp2_with fail
  refine HL.out.mono ?_
  rintro e w' ⟨rfl, B, rfl, _, hB⟩
  have hB2 : (B : Int) ≤ M := by omega
  clear HL hB
  go_wp2
  go_ret2
  refine ⟨?_, rfl⟩
  show Ending.returned (.tuple #[.slice none 0 0, .bool (decide (0 < za.length))]) = _
  rw [decide_eq_true (show 0 < za.length by omega)]
/-- The reference's Down, however far. -/
theorem refDownAny (a : Option Addr) (ca : Nat) (za : List Int) (w : World) {x : Int} (ha : Lie w a za) (ga : Good za x) (M : Int) (n : Nat) (hM : M = (n : Int)) (hn : n ≤ 9000000000) (q : Bool) (hq : decide (x % 2 ^ n ≠ 0) = q) :
    Calls Tryd.prog 91 #[.slice a za.length ca, .int .i64 M] w fun e w' => ∃ zs a' c, e = .returned (.tuple #[.slice a' zs.length c, .bool q]) ∧ IsNum w w' a' zs (x / 2 ^ n) := by
  by_cases hs : n ≤ 1000000
  · refine (refDownN a ca za w ha ga M n hM hs q hq).mono ?_
    rintro e w' ⟨zs, a', c, h1, h2, _⟩
    exact ⟨zs, a', c, h1, h2⟩
  · by_cases hz : 0 < za.length
    · refine (refDownBig a ca za w ha ga M (by omega) (by omega) (by omega)).mono ?_
      rintro e w' ⟨rfl, rfl⟩
      have h1 := ga.lt.2
      have h0 := ga.pos hz
      rw [pw32] at h1
      have h2 := p2mono (show 131072 ≤ n by omega)
      have h3 : x % 2 ^ n = x := Int.emod_eq_of_lt (by omega) (by omega)
      refine ⟨[], none, 0, ?_, isNum_nil _ (Int.ediv_eq_zero_of_lt (by omega) (by omega))⟩
      rw [← hq, h3, decide_eq_true (by omega : x ≠ 0)]
      rfl
    · obtain ⟨rfl, rfl⟩ := ga.nil (by omega)
      refine (refDown_nil a ca w _ (by omega)).mono ?_
      rintro e w' ⟨rfl, rfl⟩
      refine ⟨[], none, 0, ?_, isNum_nil _ (by simp)⟩
      rw [← hq]; simp
theorem shift_bad (n : Bool) (a : Option Addr) (c : Nat) (zs : List Int) (ex cnt : Int) (w : World) (u : DLie w a zs) (hq : dmayB n zs ex = false) :
    Calls Tryd.prog 44 #[dV n a zs.length c ex, .int .i64 cnt] w fun e w' => e = .returned (.tuple #[noD, .int .i64 2]) ∧ Below w.heap.size w w' := by
  have B1 := ((Bx.nil w).push (DO n a zs.length c ex)).push (DO false none 0 0 0)
  rw [show (w.alloc (DO n a zs.length c ex)).heap.size = w.heap.size + 1 by simp] at B1
  go_enter Tryd.func44, Tryd.ntmps44
  go_wp2_with fail
  refine (u.may n c ex false hq _ B1.bel).mono ?_
  rintro e w2 ⟨rfl, h2⟩
  have B2 := B1.keep h2
  clear h2 B1 u
  obtain ⟨⟨t0, t1, t2⟩, u0, u1, u2⟩ := cells3 B2 (w.heap.size + 1) _ _ _ _ (.head _)
  go_wp2
  have B3 := B2.fill3 (by omega) (by simp) (.bool false) (.slice none 0 0) (.int .i64 0)
  refine bodyPost_ret (results_D2 rfl _ _ (w.heap.size + 1) _ rfl ⟨B3.head, rfl⟩) rfl ?_
  exact ⟨rfl, B3.bel⟩
theorem shift_good (n : Bool) (a : Option Addr) (c : Nat) (zs : List Int) (ex cnt m : Int) (w : World) (hl : Lie w a zs) (g : DG n zs ex) (hT : Tab w) (hm : max (-33554433) (min cnt 33554433) = m) :
    Calls Tryd.prog 44 #[dV n a zs.length c ex, .int .i64 cnt] w fun e w' => DRes w w' (sv n (Nt.val zs)) (ex + m) e := by
  have B1 := ((Bx.nil w).push (DO n a zs.length c ex)).push (DO false none 0 0 0)
  rw [show (w.alloc (DO n a zs.length c ex)).heap.size = w.heap.size + 1 by simp] at B1
  have hx := g.ex_bd
  have hx1 := hx.1
  have hx2 := hx.2
  have HM := Hide.mk hm
  have hm1 : -33554433 ≤ m := by omega
  have hm2 : m ≤ 33554433 := by omega
  clear hm hx
  go_enter Tryd.func44, Tryd.ntmps44
  go_wp2_with fail
  refine ((g.lie hl).may n c ex true g.may _ B1.bel).mono ?_
  rintro e w2 ⟨rfl, h2⟩
  have B2 := B1.keep h2
  clear h2 B1
  obtain ⟨⟨s0, s1, s2⟩, _⟩ := cells3 B2 w.heap.size _ _ _ _ (.tail _ (.head _))
  go_wp2_with fail
  rw [HM.out]
  refine (formedR n a c zs (ex + m) w2 (hl.below B2.bel (Nat.le_refl _)) g.good (hT.below B2.bel (Nat.le_refl _)) (by omega) (by omega)).mono ?_
  rintro e w4 ⟨n4, a4, k4, c4, x4, code, rfl, h4⟩
  have B4 := B2.keep h4.bel
  have hlt : w.heap.size + 1 < w2.heap.size := B2.lt (.head _)
  have V := Hide.mk h4
  clear h4 s0 s1 s2
  obtain ⟨⟨t0, t1, t2⟩, u0, u1, u2⟩ := cells3 B4 (w.heap.size + 1) _ _ _ _ (.head _)
  go_wp2
  refine bodyPost_ret (results_D2 rfl _ _ (w.heap.size + 1) _ rfl ⟨(B4.fill3 (by omega) (by simp) _ _ _).head, rfl⟩) rfl ?_
  exact ⟨n4, a4, k4, c4, x4, code, rfl, V.out.back B2.bel (by omega) hlt _ _ _⟩
theorem rShiftX (n : Bool) (a : Option Addr) (c k : Nat) (ex cnt : Int) (hk : 0 < (k : Int)) (h1 : -100000000 ≤ ex + cnt) (h2 : ex + cnt ≤ 100000000) (w : World) :
    Calls Tryd.prog 47 #[dV n a k c ex, .int .i64 cnt] w fun e w' => e = .returned (dV n a k c (ex + cnt)) ∧ Below w.heap.size w w' := by
  have B1 := ((Bx.nil w).push (DO n a k c (ex + cnt))).push (DO n a k c (ex + cnt))
  go_enter Tryd.func47, Tryd.ntmps47
  go_wp2
  refine bodyPost_ret (results_D1 rfl _ _ (w.heap.size + 1) _ rfl ⟨by simpa using B1.head, rfl⟩) rfl ?_
  exact ⟨rfl, B1.bel⟩
theorem rShiftZ (n : Bool) (a : Option Addr) (c : Nat) (ex cnt : Int) (w : World) :
    Calls Tryd.prog 47 #[dV n a 0 c ex, .int .i64 cnt] w fun e w' => e = .returned (dV n a 0 c ex) ∧ Below w.heap.size w w' := by
  have B1 := ((Bx.nil w).push (DO n a 0 c ex)).push (DO n a 0 c ex)
  go_enter Tryd.func47, Tryd.ntmps47
  go_wp2
  refine bodyPost_ret (results_D1 rfl _ _ (w.heap.size + 1) _ rfl ⟨by simpa using B1.head, rfl⟩) rfl ?_
  exact ⟨rfl, B1.bel⟩
end Go.Proofs.YteejaghimppcgaaDoor

namespace Go.Proofs.YteejaghimppcgaaDoor
open Go.RowKit Go.Wd Go.Box
set_option linter.unusedVariables false
set_option maxRecDepth 3000
theorem cut_ask (n : Bool) (a : Option Addr) (c : Nat) (zs : List Int) (ex bits code : Int) (w W : World) {L : List (Nat × Obj)} {g : Nat} (u : DLie w a zs) (B : Bx w ((g, DO n a zs.length c ex) :: L) W) (hc : askB bits (dmayB n zs ex) = code) :
    Calls Tryd.prog 89 #[.int .i64 bits, .slice (some ⟨g, 0, none⟩) 1 1] W fun e w' => e = .returned (.int .i64 code) ∧ Below W.heap.size W w' := by
  subst hc
  refine ask1 bits g _ W (fun W2 h2 => ?_)
  have B2 := B.keep h2
  obtain ⟨⟨s0, s1, s2⟩, _⟩ := cells3 B2 g _ _ _ _ (.head _)
  exact dallMay1 g n a c zs ex W2 (u.below B2.bel) _ rfl s0 s1 s2
theorem cut_bad (n : Bool) (a : Option Addr) (c : Nat) (zs : List Int) (ex bits code : Int) (w : World) (u : DLie w a zs) (hc : askB bits (dmayB n zs ex) = code) (hne : code ≠ 0) :
    Calls Tryd.prog 46 #[dV n a zs.length c ex, .int .i64 bits] w fun e w' => e = .returned (.tuple #[noD, .bool false, .int .i64 code]) ∧ Below w.heap.size w w' := by
  have B1 := (((Bx.nil w).push (DO n a zs.length c ex)).push (DO false none 0 0 0)).push (DO n a zs.length c ex)
  rw [show ((w.alloc (DO n a zs.length c ex)).alloc (DO false none 0 0 0)).heap.size = w.heap.size + 1 + 1 by simp, show (w.alloc (DO n a zs.length c ex)).heap.size = w.heap.size + 1 by simp] at B1
  have H := Hide.mk (cut_ask n a c zs ex bits code w _ u B1 hc)
  have hc3 : (code != 0) = true := by simpa using hne
  have hc2 : (code == 0) = false := by simpa using hne
  clear hc u
  go_enter Tryd.func46, Tryd.ntmps46
  go_wp2_with fail
  refine H.out.mono ?_
  rintro e w2 ⟨rfl, h2⟩
  have B2 := B1.keep h2
  clear h2 B1 H
  obtain ⟨⟨t0, t1, t2⟩, u0, u1, u2⟩ := cells3 B2 (w.heap.size + 1) _ _ _ _ (.tail _ (.head _))
  go_wp2
  have B3 := (B2.sub (L' := [(w.heap.size + 1, DO false none 0 0 0)]) (by simp)).fill3 (by omega) (by simp) (.bool false) (.slice none 0 0) (.int .i64 0)
  refine bodyPost_ret (results_D3 rfl _ _ (w.heap.size + 1) _ rfl ⟨B3.head, rfl⟩) rfl ?_
  exact ⟨rfl, B3.bel⟩
theorem cut_good (n : Bool) (a : Option Addr) (c : Nat) (zs : List Int) (ex bits : Int) (w : World) (hl : Lie w a zs) (g : DG n zs ex) (hT : Tab w) (hb1 : 1 ≤ bits) (hb2 : bits ≤ 8192) {B : Nat} (hB : BitLen (Nt.val zs) B) (hB2 : B ≤ 131072) (d : Nat) (hd : max ((B : Int) - bits) 0 = (d : Int)) :
    Calls Tryd.prog 46 #[dV n a zs.length c ex, .int .i64 bits] w fun e w' => DCut w w' (sv n (Nt.val zs / 2 ^ d)) (ex + d) (decide (Nt.val zs % 2 ^ d ≠ 0) || false) e := by
  have B1 := (((Bx.nil w).push (DO n a zs.length c ex)).push (DO false none 0 0 0)).push (DO n a zs.length c ex)
  rw [show ((w.alloc (DO n a zs.length c ex)).alloc (DO false none 0 0 0)).heap.size = w.heap.size + 1 + 1 by simp, show (w.alloc (DO n a zs.length c ex)).heap.size = w.heap.size + 1 by simp] at B1
  have H := Hide.mk (cut_ask n a c zs ex bits 0 w _ (g.lie hl) B1 (by rw [g.may]; unfold askB; rw [if_neg (by simp; omega), if_neg (by omega)]))
  have HC := fun W (h : Below w.heap.size w W) => Hide.mk (cutC n a c zs ex bits false W (hl.below h (Nat.le_refl _)) g.good (hT.below h (Nat.le_refl _)) hb1 hb2 (by have := g.ex_bd; omega) (by have := g.ex_bd; omega) hB hB2 d hd)
  clear hd hB hl hT
  go_enter Tryd.func46, Tryd.ntmps46
  go_wp2_with fail
  refine H.out.mono ?_
  rintro e w2 ⟨rfl, h2⟩
  have B2 := B1.keep h2
  clear h2 B1 H
  obtain ⟨⟨s0, s1, s2⟩, _⟩ := cells3 B2 w.heap.size _ _ _ _ (.tail _ (.tail _ (.head _)))
  go_wp2_with fail
  refine (HC _ B2.bel).out.mono ?_
  rintro e w4 ⟨n4, a4, k4, c4, x4, code, lost, rfl, h4, h5, h6⟩
  have B4 := (B2.keep h4.bel).sub (L' := [(w.heap.size + 1, DO false none 0 0 0)]) (by simp)
  have hlt : w.heap.size + 1 < w2.heap.size := B2.lt (.tail _ (.head _))
  have V := Hide.mk (And.intro h4 (And.intro h5 h6))
  clear h4 h5 h6 s0 s1 s2 HC
  obtain ⟨⟨t0, t1, t2⟩, u0, u1, u2⟩ := cells3 B4 (w.heap.size + 1) _ _ _ _ (.head _)
  go_wp2
  refine bodyPost_ret (results_D3 rfl _ _ (w.heap.size + 1) _ rfl ⟨(B4.fill3 (by omega) (by simp) _ _ _).head, rfl⟩) rfl ?_
  exact ⟨n4, a4, k4, c4, x4, code, lost, rfl, V.out.1.back B2.bel (by omega) hlt _ _ _, V.out.2.1, V.out.2.2⟩
end Go.Proofs.YteejaghimppcgaaDoor

namespace Go.Proofs.YteejaghimppcgaaDoor
open Go.RowKit Go.Wd Go.Box
set_option linter.unusedVariables false
set_option maxRecDepth 3000
theorem fmG {n : Bool} {zs : List Int} {ex : Int} (g : DG n zs ex) : Fm (sv n (Nt.val zs)) ex n zs ex := by
  by_cases hz : 0 < zs.length
  · have hp := g.pos hz
    refine .inr ⟨fun c => by rw [sv_zero] at c; omega, 0, ?_, ?_, by omega, g.can, ?_⟩
    · rw [sv_abs _ (by omega)]; exact odd_low (g.odd hz)
    · rw [sv_neg _ hp]
    · rw [sv_abs _ (by omega)]; simp
  · obtain ⟨rfl, rfl, rfl⟩ := g.nil (by omega)
    exact .inl ⟨rfl, rfl, rfl, rfl⟩
/-- The reference's Cut. -/
def RCut (w w' : World) (s E : Int) (q : Bool) (e : Ending) : Prop :=
  ∃ n zs ex a c, e = .returned (.tuple #[dV n a zs.length c ex, .bool q]) ∧ Fm s E n zs ex ∧ Lie w' a zs ∧ Below w.heap.size w w'
theorem rCut0 (n : Bool) (a : Option Addr) (c : Nat) (zs : List Int) (ex bits : Int) (w : World) (hl : Lie w a zs) (g : DG n zs ex) (hb1 : 1 ≤ bits) (hb2 : bits ≤ 8192) {B : Nat} (hB : BitLen (Nt.val zs) B) (hd : (B : Int) - bits ≤ 0) :
    Calls Tryd.prog 49 #[dV n a zs.length c ex, .int .i64 bits] w fun e w' => RCut w w' (sv n (Nt.val zs)) ex false e := by
  have B1 := ((Bx.nil w).push (DO n a zs.length c ex)).push (DO n a zs.length c ex)
  have HL := fun W (h : Below w.heap.size w W) => Hide.mk (refLenN a c zs W (hl.below h (Nat.le_refl _)) g.good)
  have b0 := ((Bx.nil w).push (DO n a zs.length c ex)).push (DO false none 0 0 0)
  have HB := Hide.mk hB
  clear hB
  go_enter Tryd.func49, Tryd.ntmps49
  go_wp2_with fail
  refine (HL _ b0.bel).out.mono ?_
  rintro e w2 ⟨rfl, B2, rfl, hB2, hB3⟩
  obtain rfl := hB2.unique HB.out
  clear hB2 HL b0 HB
  go_wp2
  refine bodyPost_ret (results_D2 rfl _ _ (w.heap.size + 1) _ rfl ⟨by simpa using B1.head, rfl⟩) rfl ?_
  exact ⟨n, zs, ex, a, c, rfl, fmG g, hl.below B1.bel (Nat.le_refl _), B1.bel⟩
theorem rCut1 (n : Bool) (a : Option Addr) (c : Nat) (zs : List Int) (ex bits : Int) (w : World) (hl : Lie w a zs) (g : DG n zs ex) (hb1 : 1 ≤ bits) (hb2 : bits ≤ 8192) {B : Nat} (hB : BitLen (Nt.val zs) B) (d : Nat) (hd : (B : Int) - bits = (d : Int)) (hd0 : 0 < (d : Int)) (q : Bool) (hq : decide (Nt.val zs % 2 ^ d ≠ 0) = q) :
    Calls Tryd.prog 49 #[dV n a zs.length c ex, .int .i64 bits] w fun e w' => RCut w w' (sv n (Nt.val zs / 2 ^ d)) (ex + d) q e := by
  have B1 := ((Bx.nil w).push (DO n a zs.length c ex)).push (DO false none 0 0 0)
  rw [show (w.alloc (DO n a zs.length c ex)).heap.size = w.heap.size + 1 by simp] at B1
  have hx1 := g.ex_bd.1
  have hx2 := g.ex_bd.2
  have HL := fun W (h : Below w.heap.size w W) => Hide.mk (refLenN a c zs W (hl.below h (Nat.le_refl _)) g.good)
  have HB := Hide.mk hB
  have HD := Hide.mk hd
  clear hB hd
  go_enter Tryd.func49, Tryd.ntmps49
  go_wp2_with fail
  refine (HL _ B1.bel).out.mono ?_
  rintro e w2 ⟨rfl, B2, rfl, hB2, hB3⟩
  obtain rfl := hB2.unique HB.out
  have hd3 : (d : Int) ≤ 131072 := by have := HD.out; omega
  have h0 : 0 < (B2 : Int) - bits := by rw [HD.out]; exact hd0
  have h9 : (B2 : Int) - bits ≤ 131072 := by rw [HD.out]; exact hd3
  clear hB2 HB HL
  go_wp2_with fail
  refine (refDownAny a c zs _ (hl.below B1.bel (Nat.le_refl _)) g.good _ d HD.out (by omega) q hq).mono ?_
  rintro e w3 ⟨z3, a3, c3, rfl, h3⟩
  have B3 := B1.keep h3.bel
  have hlt : w.heap.size + 1 < w3.heap.size := B3.lt (.head _)
  have HF := Hide.mk (formX n a3 c3 z3 (ex + ((B2 : Int) - bits)) w3 h3.lie h3.can (by have := h3.len; omega) (by omega) (by omega))
  have hv := h3.val
  clear h3 B1
  obtain ⟨⟨s0, s1, s2⟩, _⟩ := cells3 B3 w.heap.size _ _ _ _ (.tail _ (.head _))
  go_wp2_with fail
  refine HF.out.mono ?_
  rintro e w4 ⟨n4, z4, x4, a4, c4, rfl, F4, l4, h4⟩
  have B4 := B3.keep h4
  rw [hv, HD.out] at F4
  have H := Hide.mk (And.intro F4 l4)
  clear HF h4 s0 s1 s2 F4 l4
  obtain ⟨⟨t0, t1, t2⟩, u0, u1, u2⟩ := cells3 B4 (w.heap.size + 1) _ _ _ _ (.head _)
  go_wp2
  refine bodyPost_ret (results_D2 rfl _ _ (w.heap.size + 1) _ rfl ⟨(B4.fill3 (by omega) (by simp) _ _ _).head, rfl⟩) rfl ?_
  have L := Live.set3 (g := w.heap.size + 1) ⟨B4.head, rfl⟩ (.bool n4) (.slice a4 z4.length c4) (.int .i64 x4) (Live.one H.out.2)
  exact ⟨n4, z4, x4, a4, c4, rfl, H.out.1, L.all (a4, z4) (.head _), (B4.fill3 (by omega) (by simp) _ _ _).bel⟩
theorem rCutD (n : Bool) (a : Option Addr) (c : Nat) (zs : List Int) (ex bits : Int) (w : World) (hl : Lie w a zs) (g : DG n zs ex) (hb1 : 1 ≤ bits) (hb2 : bits ≤ 8192) {B : Nat} (hB : BitLen (Nt.val zs) B) (d : Nat) (hd : max ((B : Int) - bits) 0 = (d : Int)) (q : Bool) (hq : decide (Nt.val zs % 2 ^ d ≠ 0) = q) :
    Calls Tryd.prog 49 #[dV n a zs.length c ex, .int .i64 bits] w fun e w' => RCut w w' (sv n (Nt.val zs / 2 ^ d)) (ex + d) q e := by
  by_cases h : (B : Int) - bits ≤ 0
  · obtain rfl : d = 0 := by omega
    have := rCut0 n a c zs ex bits w hl g hb1 hb2 hB h
    rw [← hq]
    simpa using this
  · exact rCut1 n a c zs ex bits w hl g hb1 hb2 hB d (by omega) (by omega) q hq
/-- The reference's Floor. -/
theorem rFloor0 (n : Bool) (a : Option Addr) (c : Nat) (zs : List Int) (ex : Int) (w : World) (hl : Lie w a zs) (g : DG n zs ex) (h0 : 0 ≤ ex) :
    Calls Tryd.prog 48 #[dV n a zs.length c ex] w fun e w' => RF w w' (dv n zs ex / 2 ^ KK * 2 ^ KK) (-(KK : Int)) e := by
  have B1 := ((Bx.nil w).push (DO n a zs.length c ex)).push (DO n a zs.length c ex)
  go_enter Tryd.func48, Tryd.ntmps48
  go_wp2
  refine bodyPost_ret (results_D1 rfl _ _ (w.heap.size + 1) _ rfl ⟨by simpa using B1.head, rfl⟩) rfl ?_
  exact ⟨n, zs, ex, a, c, rfl, by rw [floor_whole h0]; exact (⟨g, rfl⟩ : DN n zs ex (dv n zs ex)).fm, hl.below B1.bel (Nat.le_refl _), B1.bel⟩
set_option maxHeartbeats 2000000 in
theorem rFloorP (a : Option Addr) (c : Nat) (zs : List Int) (ex : Int) (w : World) (hl : Lie w a zs) (g : DG false zs ex) (k : Nat) (hk : -ex = (k : Int)) (hk1 : 1 ≤ k) (hx : ex < 0) (hx1 : -16777216 ≤ ex) (hq : decide (Nt.val zs % 2 ^ k ≠ 0) = true) :
    Calls Tryd.prog 48 #[dV false a zs.length c ex] w fun e w' => RF w w' (sv false (Nt.val zs / 2 ^ k)) 0 e := by
  have B1 := ((Bx.nil w).push (DO false a zs.length c ex)).push (DO false none 0 0 0)
  rw [show (w.alloc (DO false a zs.length c ex)).heap.size = w.heap.size + 1 by simp] at B1
  have HD := Hide.mk (refDownAny a c zs _ (hl.below B1.bel (Nat.le_refl _)) g.good (-ex) k hk (by omega) true hq)
  clear hq hk hl
  go_enter Tryd.func48, Tryd.ntmps48
  go_wp2_with fail
  refine HD.out.mono ?_
  rintro e w3 ⟨z3, a3, c3, rfl, h3⟩
  have B3 := B1.keep h3.bel
  have hlt : w.heap.size + 1 < w3.heap.size := B3.lt (.head _)
  have HF := Hide.mk (formX false a3 c3 z3 0 w3 h3.lie h3.can (by have := h3.len; omega) (by decide) (by decide))
  have hv := h3.val
  clear h3 B1 HD
  obtain ⟨⟨s0, s1, s2⟩, _⟩ := cells3 B3 w.heap.size _ _ _ _ (.tail _ (.head _))
  go_wp2_with fail
  refine HF.out.mono ?_
  rintro e w4 ⟨n4, z4, x4, a4, c4, rfl, F4, l4, h4⟩
  have B4 := B3.keep h4
  rw [hv] at F4
  have H := Hide.mk (And.intro F4 l4)
  clear HF h4 s0 s1 s2 F4 l4
  obtain ⟨⟨t0, t1, t2⟩, u0, u1, u2⟩ := cells3 B4 (w.heap.size + 1) _ _ _ _ (.head _)
  go_wp2
  refine bodyPost_ret (results_D1 rfl _ _ (w.heap.size + 1) _ rfl ⟨(B4.fill3 (by omega) (by simp) _ _ _).head, rfl⟩) rfl ?_
  have L := Live.set3 (g := w.heap.size + 1) ⟨B4.head, rfl⟩ (.bool n4) (.slice a4 z4.length c4) (.int .i64 x4) (Live.one H.out.2)
  exact ⟨n4, z4, x4, a4, c4, rfl, H.out.1, L.all (a4, z4) (.head _), (B4.fill3 (by omega) (by simp) _ _ _).bel⟩
set_option maxHeartbeats 2000000 in
theorem rFloorN (a : Option Addr) (c : Nat) (zs : List Int) (ex : Int) (w : World) (hl : Lie w a zs) (g : DG true zs ex) (k : Nat) (hk : -ex = (k : Int)) (hk1 : 1 ≤ k) (hx : ex < 0) (hx1 : -16777216 ≤ ex) (hq : decide (Nt.val zs % 2 ^ k ≠ 0) = true) :
    Calls Tryd.prog 48 #[dV true a zs.length c ex] w fun e w' => RF w w' (sv true (Nt.val zs / 2 ^ k + 1)) 0 e := by
  have B1 := ((Bx.nil w).push (DO true a zs.length c ex)).push (DO false none 0 0 0)
  rw [show (w.alloc (DO true a zs.length c ex)).heap.size = w.heap.size + 1 by simp] at B1
  have HD := Hide.mk (refDownAny a c zs _ (hl.below B1.bel (Nat.le_refl _)) g.good (-ex) k hk (by omega) true hq)
  clear hq hk hl
  go_enter Tryd.func48, Tryd.ntmps48
  go_wp2_with fail
  refine HD.out.mono ?_
  rintro e w3 ⟨z3, a3, c3, rfl, h3⟩
  have B3 := B1.keep h3.bel
  have hv := h3.val
  have hc3 := h3.can
  have hl3 := h3.len
  have ba := below_alloc w3 (.cells #[.int .u32 1] 70 (0, 0))
  have HA := Hide.mk (refAdd23 a3 (some ⟨w3.heap.size, 0, none⟩) c3 1 z3 [1] _ (h3.lie.below ba (Nat.le_refl _)) (by have := lie_new w3 [1]; simpa using this) hc3.1 (can_cons (by decide) (by decide) Nt.can_nil (by intro _; decide)).1 (by omega) (by simp))
  clear h3 B1 HD
  obtain ⟨⟨s0, s1, s2⟩, _⟩ := cells3 B3 w.heap.size _ _ _ _ (.tail _ (.head _))
  go_wp2_with fail
  refine HA.out.mono ?_
  rintro e w5 ⟨z5, a5, c5, rfl, h5, h6, h7, h8⟩
  have B5 := B3.keep (below_then ba h8)
  have hlt : w.heap.size + 1 < w5.heap.size := B5.lt (.head _)
  obtain ⟨a6, c6, he, _, _, l5⟩ := h5.lie
  simp only [Value.slice.injEq, true_and] at he
  obtain ⟨rfl, rfl⟩ := he
  rw [hv, val_one] at h7
  have hlen : z5.length ≤ 10000 := by
    have : z5.length ≤ 4097 := (Nt.can_len h6 4097).1 (by
      have e1 := (Nt.can_len hc3 4096).2 hl3
      rw [hv] at e1
      rw [h7, Nt.pw_succ 4096]
      have := Nt.pw_pos 4096
      omega)
    omega
  have HF := Hide.mk (formX true a5 c5 z5 0 w5 l5 h6 hlen (by decide) (by decide))
  clear h5 h8 HA s0 s1 s2 B3 ba l5
  obtain ⟨⟨s0, s1, s2⟩, _⟩ := cells3 B5 w.heap.size _ _ _ _ (.tail _ (.head _))
  go_wp2_with fail
  refine HF.out.mono ?_
  rintro e w4 ⟨n4, z4, x4, a4, c4, rfl, F4, l4, h4⟩
  have B4 := B5.keep h4
  rw [h7] at F4
  have H := Hide.mk (And.intro F4 l4)
  clear HF h4 s0 s1 s2 F4 l4
  obtain ⟨⟨t0, t1, t2⟩, u0, u1, u2⟩ := cells3 B4 (w.heap.size + 1) _ _ _ _ (.head _)
  go_wp2
  refine bodyPost_ret (results_D1 rfl _ _ (w.heap.size + 1) _ rfl ⟨(B4.fill3 (by omega) (by simp) _ _ _).head, rfl⟩) rfl ?_
  have L := Live.set3 (g := w.heap.size + 1) ⟨B4.head, rfl⟩ (.bool n4) (.slice a4 z4.length c4) (.int .i64 x4) (Live.one H.out.2)
  exact ⟨n4, z4, x4, a4, c4, rfl, H.out.1, L.all (a4, z4) (.head _), (B4.fill3 (by omega) (by simp) _ _ _).bel⟩
theorem rFloorD (n : Bool) (a : Option Addr) (c : Nat) (zs : List Int) (ex : Int) (w : World) (hl : Lie w a zs) (g : DG n zs ex) :
    Calls Tryd.prog 48 #[dV n a zs.length c ex] w fun e w' => RF w w' (dv n zs ex / 2 ^ KK * 2 ^ KK) (-(KK : Int)) e := by
  by_cases h0 : 0 ≤ ex
  · exact rFloor0 n a c zs ex w hl g h0
  · have hz : 0 < zs.length := by
      by_cases q : 0 < zs.length
      · exact q
      · have := (g.nil (by omega)).2.2; omega
    have hx := g.ex_bd
    obtain ⟨k, hk⟩ : ∃ k : Nat, -ex = (k : Int) := ⟨(-ex).toNat, by omega⟩
    have hq : decide (Nt.val zs % 2 ^ k ≠ 0) = true := by rw [← low_lost (odd_low (g.odd hz))]; exact decide_eq_true (by omega)
    have hK := KK_int
    have hp := floor_part (ng := n) (zs := zs) (ex := ex) (k := k) (by omega) (by omega) (by omega) (g.odd hz) _ rfl
    cases n
    · refine (rFloorP a c zs ex w hl g k hk (by omega) (by omega) hx.1 hq).mono ?_
      rintro e w' ⟨n4, z4, x4, a4, c4, rfl, F4, l4, h4⟩
      have F5 := F4.toK (by omega)
      simp only [Bool.false_eq_true, if_false] at hp
      rw [hp] at F5
      exact ⟨n4, z4, x4, a4, c4, rfl, F5, l4, h4⟩
    · refine (rFloorN a c zs ex w hl g k hk (by omega) (by omega) hx.1 hq).mono ?_
      rintro e w' ⟨n4, z4, x4, a4, c4, rfl, F4, l4, h4⟩
      have F5 := F4.toK (by omega)
      simp only [if_true] at hp
      rw [hp] at F5
      exact ⟨n4, z4, x4, a4, c4, rfl, F5, l4, h4⟩
end Go.Proofs.YteejaghimppcgaaDoor

namespace Go.Proofs.YteejaghimppcgaaDoor
open Go.RowKit Go.Wd Go.Box
set_option linter.unusedVariables false
set_option maxRecDepth 3000
/-- An answer that is a number, with its memory. -/
theorem DV.num {w w' : World} {s E : Int} {n : Bool} {a : Option Addr} {k c : Nat} {ex code : Int} (h : DV w w' s E n a k c ex code) (hs : (s.natAbs : Int) < 4294967296 ^ 4096) (hr : s = 0 ∨ ∃ t : Nat, LowBit (s.natAbs : Int) t ∧ -16777216 ≤ E + t ∧ E + t ≤ 16777216) :
    code = 0 ∧ ∃ zs : List Int, k = zs.length ∧ zs.length ≤ 4096 ∧ Fm s E n zs ex ∧ Lie w' a zs ∧ WrA w.heap.size w' a zs.length := by
  rcases h.all with ⟨h0, rfl, rfl, rfl, rfl, rfl, rfl⟩ | ⟨h0, t, ht, hh⟩
  · exact ⟨rfl, [], rfl, by simp, .inl ⟨h0, rfl, rfl, rfl⟩, .inl rfl, .inl rfl⟩
  · rcases hr with hr | ⟨r, hr, r1, r2⟩
    · exact absurd hr h0
    · obtain rfl := ht.unique hr
      rcases hh with ⟨j1, j2, rfl, rfl, rfl, zs, rfl, j6, j7⟩ | ⟨j1, _⟩ | ⟨_, j1, _⟩
      · obtain ⟨a2, c2, he, _, _, hl2⟩ := j7.lie
        simp only [Value.slice.injEq, true_and] at he
        obtain ⟨rfl, rfl⟩ := he
        exact ⟨rfl, zs, rfl, j6.len, .inr ⟨h0, t, ht, rfl, rfl, j6.can, j6.val⟩, hl2, j7.wrA⟩
      · have : (s.natAbs : Int) / 2 ^ t ≤ (s.natAbs : Int) := Int.ediv_le_self _ (by omega)
        exact absurd (Int.lt_of_le_of_lt this hs) (Int.not_lt.2 j1)
      · omega
theorem DV.out {w w' : World} {s E : Int} {n : Bool} {a : Option Addr} {k c : Nat} {ex code : Int} (h : DV w w' s E n a k c ex code) (hs : (s.natAbs : Int) < 4294967296 ^ 4096) (h0 : s ≠ 0) {t : Nat} (ht : LowBit (s.natAbs : Int) t) (hr : E + t < -16777216 ∨ 16777216 < E + t) :
    n = false ∧ a = none ∧ k = 0 ∧ c = 0 ∧ ex = 0 ∧ code = 20 := by
  rcases h.all with ⟨q, _⟩ | ⟨_, r, hr2, hh⟩
  · exact absurd q h0
  · obtain rfl := ht.unique hr2
    rcases hh with ⟨j1, j2, _⟩ | ⟨j1, _⟩ | ⟨_, _, j⟩
    · omega
    · have : (s.natAbs : Int) / 2 ^ t ≤ (s.natAbs : Int) := Int.ediv_le_self _ (by omega)
      exact absurd (Int.lt_of_le_of_lt this hs) (Int.not_lt.2 j1)
    · exact j
theorem sv_lt {n : Bool} {zs : List Int} {ex : Int} (g : DG n zs ex) (d : Nat) : ((sv n (Nt.val zs / 2 ^ d)).natAbs : Int) < 4294967296 ^ 4096 := by
  have h1 := g.good.lt
  have h2 : Nt.val zs / 2 ^ d ≤ Nt.val zs := Int.ediv_le_self _ h1.1
  have h3 := Int.ediv_nonneg h1.1 (Int.le_of_lt (p2pos d))
  rw [sv_abs _ h3]
  exact Int.lt_of_le_of_lt h2 h1.2
theorem sv_lt0 {n : Bool} {zs : List Int} {ex : Int} (g : DG n zs ex) : ((sv n (Nt.val zs)).natAbs : Int) < 4294967296 ^ 4096 := by
  have := sv_lt g 0
  rw [Int.pow_zero, Int.ediv_one] at this
  exact this
theorem shift_far (n : Bool) (a : Option Addr) (c : Nat) (zs : List Int) (ex cnt : Int) (w : World) (hl : Lie w a zs) (g : DG n zs ex) (hT : Tab w) (hz : 0 < zs.length) (hr : cnt < -16777216 - ex ∨ 16777216 - ex < cnt) :
    Calls Tryd.prog 44 #[dV n a zs.length c ex, .int .i64 cnt] w fun e w' => e = .returned (.tuple #[noD, .int .i64 20]) ∧ Below w.heap.size w w' := by
  refine (shift_good n a c zs ex cnt _ w hl g hT rfl).mono ?_
  rintro e w' ⟨n4, a4, k4, c4, x4, code, rfl, h4⟩
  have hp := g.pos hz
  have hx := g.ex_bd
  obtain ⟨rfl, rfl, rfl, rfl, rfl, rfl⟩ := h4.out (sv_lt0 g) (fun c => by rw [sv_zero] at c; omega) (t := 0) (by rw [sv_abs _ (by omega)]; exact odd_low (g.odd hz)) (by omega)
  exact ⟨rfl, h4.bel⟩
/-- The exponent of what is shifted. -/
def shx (zs : List Int) (ex cnt : Int) : Int := if zs.length = 0 then 0 else ex + cnt
theorem shift_near (n : Bool) (a : Option Addr) (c : Nat) (zs : List Int) (ex cnt : Int) (w : World) (hl : Lie w a zs) (g : DG n zs ex) (hT : Tab w) (hr : 0 < zs.length → -16777216 ≤ ex + cnt ∧ ex + cnt ≤ 16777216) :
    Calls Tryd.prog 44 #[dV n a zs.length c ex, .int .i64 cnt] w fun e w' => ∃ a' c', e = .returned (.tuple #[dV n a' zs.length c' (shx zs ex cnt), .int .i64 0]) ∧ Lie w' a' zs ∧ WrA w.heap.size w' a' zs.length ∧ Below w.heap.size w w' := by
  refine (shift_good n a c zs ex cnt _ w hl g hT rfl).mono ?_
  rintro e w' ⟨n4, a4, k4, c4, x4, code, rfl, h4⟩
  have hx := g.ex_bd
  by_cases hz : 0 < zs.length
  · have hp := g.pos hz
    obtain ⟨r1, r2⟩ := hr hz
    have hm : max (-33554433) (min cnt 33554433) = cnt := by omega
    rw [hm] at h4
    have hlow : LowBit ((sv n (Nt.val zs)).natAbs : Int) 0 := by rw [sv_abs _ (by omega)]; exact odd_low (g.odd hz)
    obtain ⟨rfl, z2, rfl, h5, F, l2, w2⟩ := h4.num (sv_lt0 g) (.inr ⟨0, hlow, by omega, by omega⟩)
    have G : Fm (sv n (Nt.val zs)) (ex + cnt) n zs (ex + cnt) := .inr ⟨fun c => by rw [sv_zero] at c; omega, 0, hlow, by rw [sv_neg _ hp], by omega, g.can, by rw [sv_abs _ (by omega)]; simp⟩
    obtain ⟨rfl, rfl, rfl⟩ := F.same G
    exact ⟨a4, c4, by unfold shx; rw [if_neg (by omega)], l2, w2, h4.bel⟩
  · obtain ⟨rfl, rfl, rfl⟩ := g.nil (by omega)
    obtain ⟨rfl, z2, rfl, h5, F, l2, w2⟩ := h4.num (sv_lt0 g) (.inl rfl)
    rcases F with ⟨_, rfl, rfl, rfl⟩ | ⟨q, _⟩
    · exact ⟨a4, c4, rfl, l2, w2, h4.bel⟩
    · exact absurd rfl q
theorem rShiftD (n : Bool) (a : Option Addr) (c : Nat) (zs : List Int) (ex cnt : Int) (w : World) (g : DG n zs ex) (hr : 0 < zs.length → -16777216 ≤ ex + cnt ∧ ex + cnt ≤ 16777216) :
    Calls Tryd.prog 47 #[dV n a zs.length c ex, .int .i64 cnt] w fun e w' => e = .returned (dV n a zs.length c (shx zs ex cnt)) ∧ Below w.heap.size w w' := by
  by_cases hz : 0 < zs.length
  · rw [show shx zs ex cnt = ex + cnt by unfold shx; rw [if_neg (by omega)]]
    have := hr hz
    exact rShiftX n a c zs.length ex cnt (by omega) (by omega) (by omega) w
  · obtain ⟨rfl, rfl, rfl⟩ := g.nil (by omega)
    exact rShiftZ false a c 0 cnt w
theorem cut_far (n : Bool) (a : Option Addr) (c : Nat) (zs : List Int) (ex bits : Int) (w : World) (hl : Lie w a zs) (g : DG n zs ex) (hT : Tab w) (hb1 : 1 ≤ bits) (hb2 : bits ≤ 8192) {B : Nat} (hB : BitLen (Nt.val zs) B) (hB2 : B ≤ 131072) (d : Nat) (hd : max ((B : Int) - bits) 0 = (d : Int)) {s : Int} (hs : sv n (Nt.val zs / 2 ^ d) = s) (h0 : s ≠ 0) {t : Nat} (ht : LowBit (s.natAbs : Int) t) (hr : 16777216 < ex + d + t) :
    Calls Tryd.prog 46 #[dV n a zs.length c ex, .int .i64 bits] w fun e w' => e = .returned (.tuple #[noD, .bool false, .int .i64 20]) ∧ Below w.heap.size w w' := by
  refine (cut_good n a c zs ex bits w hl g hT hb1 hb2 hB hB2 d hd).mono ?_
  rintro e w' ⟨n4, a4, k4, c4, x4, code, lost, rfl, h4, h5, h6⟩
  rw [hs] at h4
  obtain ⟨rfl, rfl, rfl, rfl, rfl, rfl⟩ := h4.out (by rw [← hs]; exact sv_lt g d) h0 ht (.inr hr)
  obtain rfl := h6 (by decide)
  exact ⟨rfl, h4.bel⟩
theorem cut_near (n : Bool) (a : Option Addr) (c : Nat) (zs : List Int) (ex bits : Int) (w : World) (hl : Lie w a zs) (g : DG n zs ex) (hT : Tab w) (hb1 : 1 ≤ bits) (hb2 : bits ≤ 8192) {B : Nat} (hB : BitLen (Nt.val zs) B) (hB2 : B ≤ 131072) (d : Nat) (hd : max ((B : Int) - bits) 0 = (d : Int)) (q : Bool) (hq : decide (Nt.val zs % 2 ^ d ≠ 0) = q) {s : Int} (hs : sv n (Nt.val zs / 2 ^ d) = s) (hr : s = 0 ∨ ∃ t : Nat, LowBit (s.natAbs : Int) t ∧ ex + d + t ≤ 16777216) :
    Calls Tryd.prog 46 #[dV n a zs.length c ex, .int .i64 bits] w fun e w' => ∃ n' z' x' a' c', e = .returned (.tuple #[dV n' a' z'.length c' x', .bool q, .int .i64 0]) ∧ Fm s (ex + d) n' z' x' ∧ z'.length ≤ 4096 ∧ Lie w' a' z' ∧ WrA w.heap.size w' a' z'.length ∧ Below w.heap.size w w' := by
  refine (cut_good n a c zs ex bits w hl g hT hb1 hb2 hB hB2 d hd).mono ?_
  rintro e w' ⟨n4, a4, k4, c4, x4, code, lost, rfl, h4, h5, h6⟩
  rw [hs] at h4
  have hx := g.ex_bd
  obtain ⟨rfl, z2, rfl, h7, F, l2, w2⟩ := h4.num (by rw [← hs]; exact sv_lt g d) (by
    rcases hr with hr | ⟨t, ht, hr⟩
    · exact .inl hr
    · exact .inr ⟨t, ht, by omega, hr⟩)
  obtain rfl := h5 rfl
  rw [hq, Bool.or_false]
  exact ⟨n4, z2, x4, a4, c4, rfl, F, h7, l2, w2, h4.bel⟩
/-- The exponent of the cut number. -/
theorem fm_far {s E : Int} {n : Bool} {zs : List Int} {ex : Int} (F : Fm s E n zs ex) (h0 : s ≠ 0) {t : Nat} (ht : LowBit (s.natAbs : Int) t) (hr : 16777216 < E + t) : 16777216 < ex := by
  rcases F with ⟨q, _⟩ | ⟨_, r, hr2, _, rfl, _⟩
  · exact absurd q h0
  · obtain rfl := ht.unique hr2
    exact hr
theorem fm_near {s E : Int} {n : Bool} {zs : List Int} {ex : Int} (F : Fm s E n zs ex) (hr : s = 0 ∨ ∃ t : Nat, LowBit (s.natAbs : Int) t ∧ E + t ≤ 16777216) : ex ≤ 16777216 := by
  rcases F with ⟨q, _, _, rfl⟩ | ⟨h0, r, hr2, _, rfl, _⟩
  · decide
  · rcases hr with hr | ⟨t, ht, hr⟩
    · exact absurd hr h0
    · obtain rfl := ht.unique hr2
      exact hr
theorem cut_cases {s E : Int} (hs : True) : (s = 0 ∨ ∃ t : Nat, LowBit (s.natAbs : Int) t ∧ E + t ≤ 16777216) ∨ (s ≠ 0 ∧ ∃ t : Nat, LowBit (s.natAbs : Int) t ∧ 16777216 < E + t) := by
  by_cases h0 : s = 0
  · exact .inl (.inl h0)
  · obtain ⟨t, ht⟩ := low_ex (show 0 < (s.natAbs : Int) by omega)
    by_cases h : E + t ≤ 16777216
    · exact .inl (.inr ⟨t, ht, h⟩)
    · exact .inr ⟨h0, t, ht, by omega⟩
theorem Fm.rng {s E : Int} {n : Bool} {zs : List Int} {ex : Int} (F : Fm s E n zs ex) : Nt.Rng zs := by
  rcases F with ⟨_, _, rfl, _⟩ | ⟨_, _, _, _, _, hc, _⟩
  · exact Nt.can_nil.1
  · exact hc.1
end Go.Proofs.YteejaghimppcgaaDoor

namespace Go.Proofs.YteejaghimppcgaaDoor
open Go.RowKit Go.Wd Go.Box
set_option linter.unusedVariables false
set_option maxRecDepth 3000
theorem mark3 (B : Nat) (w : World) (n0 : Bool) (a0 : Option Addr) (c0 : Nat) (z0 : List Int) (x0 : Int) (r0 : WrA B w a0 z0.length) (h0 : z0.length ≤ 1000000) (n1 : Bool) (a1 : Option Addr) (c1 : Nat) (z1 : List Int) (x1 : Int) (r1 : WrA B w a1 z1.length) (h1 : z1.length ≤ 1000000) (n2 : Bool) (a2 : Option Addr) (c2 : Nat) (z2 : List Int) (x2 : Int) (r2 : WrA B w a2 z2.length) (h2 : z2.length ≤ 1000000) :
    Calls Tryd.prog 33 #[.slice (some ⟨w.heap.size, 0, none⟩) 3 3] (w.alloc (.cells #[.bool n0, .slice a0 z0.length c0, .int .i64 x0, .bool n1, .slice a1 z1.length c1, .int .i64 x1, .bool n2, .slice a2 z2.length c2, .int .i64 x2] 36)) fun e w' => e = .returned (.tuple #[]) ∧ Below B (w.alloc (.cells #[.bool n0, .slice a0 z0.length c0, .int .i64 x0, .bool n1, .slice a1 z1.length c1, .int .i64 x1, .bool n2, .slice a2 z2.length c2, .int .i64 x2] 36)) w' := by
  have bm := below_alloc w (.cells #[.bool n0, .slice a0 z0.length c0, .int .i64 x0, .bool n1, .slice a1 z1.length c1, .int .i64 x1, .bool n2, .slice a2 z2.length c2, .int .i64 x2] 36)
  refine dmark42 B w.heap.size #[.bool n0, .slice a0 z0.length c0, .int .i64 x0, .bool n1, .slice a1 z1.length c1, .int .i64 x1, .bool n2, .slice a2 z2.length c2, .int .i64 x2] [⟨n0, a0, c0, z0, x0⟩, ⟨n1, a1, c1, z1, x1⟩, ⟨n2, a2, c2, z2, x2⟩] _ ⟨Below.refl _ _, heap_alloc_new _ _, ?_⟩ ?_ (by simp) ?_
  · intro i x hx
    match i, hx with
    | 0, hx => cases hx; exact r0.below (C := 0) bm
    | 1, hx => cases hx; exact r1.below (C := 0) bm
    | 2, hx => cases hx; exact r2.below (C := 0) bm
  · intro i x hx
    match i, hx with
    | 0, hx => cases hx; rfl
    | 1, hx => cases hx; rfl
    | 2, hx => cases hx; rfl
  · intro i x hx
    match i, hx with
    | 0, hx => cases hx; exact h0
    | 1, hx => cases hx; exact h1
    | 2, hx => cases hx; exact h2
theorem DV.list {w w' : World} {s E : Int} {ng : Bool} {a : Option Addr} {k c : Nat} {ex code : Int} (h : DV w w' s E ng a k c ex code) : ∃ zs : List Int, k = zs.length ∧ zs.length ≤ 4096 ∧ WrA w.heap.size w' a zs.length := by
  rcases h.all with ⟨_, _, _, rfl, _⟩ | ⟨_, t, _, ⟨_, _, _, _, _, zs, rfl, j6, j7⟩ | ⟨_, _, _, rfl, _⟩ | ⟨_, _, _, _, rfl, _⟩⟩
  · exact ⟨[], rfl, by simp, .inl rfl⟩
  · exact ⟨zs, rfl, j6.len, j7.wrA⟩
  · exact ⟨[], rfl, by simp, .inl rfl⟩
  · exact ⟨[], rfl, by simp, .inl rfl⟩
theorem WrA.weak {B C : Nat} {w : World} {a : Option Addr} {n : Nat} (h : WrA C w a n) (hB : B ≤ C) : WrA B w a n := by
  rcases h with h | ⟨g, cur, h1, h2, h3, h4⟩
  · exact .inl h
  · exact .inr ⟨g, cur, h1, by omega, h3, h4⟩
theorem dsign_bad (n : Bool) (a : Option Addr) (c : Nat) (zs : List Int) (ex : Int) (w : World) (u : DLie w a zs) (hq : dmayB n zs ex = false) :
    Calls Tryd.prog 26 #[dV n a zs.length c ex] w fun e w' => e = .returned (.int .i64 0) ∧ Below w.heap.size w w' := by
  have B1 := (Bx.nil w).push (DO n a zs.length c ex)
  go_enter Tryd.func26, Tryd.ntmps26
  go_wp2_with fail
  refine (u.may n c ex false hq _ B1.bel).mono ?_
  rintro e w2 ⟨rfl, h2⟩
  have B2 := B1.keep h2
  clear h2 B1 u
  go_wp2
  go_ret
  exact ⟨rfl, B2.bel⟩
theorem dtop_bad (n : Bool) (a : Option Addr) (c : Nat) (zs : List Int) (ex : Int) (w : World) (u : DLie w a zs) (hq : dmayB n zs ex = false) :
    Calls Tryd.prog 27 #[dV n a zs.length c ex] w fun e w' => e = .returned (.int .i64 0) ∧ Below w.heap.size w w' := by
  have B1 := (Bx.nil w).push (DO n a zs.length c ex)
  go_enter Tryd.func27, Tryd.ntmps27
  go_wp2_with fail
  refine (u.may n c ex false hq _ B1.bel).mono ?_
  rintro e w2 ⟨rfl, h2⟩
  have B2 := B1.keep h2
  clear h2 B1 u
  go_wp2
  go_ret
  exact ⟨rfl, B2.bel⟩
theorem noWr (B : Nat) (w : World) : WrA B w none ([] : List Int).length := .inl rfl
theorem dfloor_bad (n : Bool) (a : Option Addr) (c : Nat) (zs : List Int) (ex : Int) (w : World) (u : DLie w a zs) (hq : dmayB n zs ex = false) :
    Calls Tryd.prog 45 #[dV n a zs.length c ex] w fun e w' => e = .returned (.tuple #[noD, .int .i64 2]) ∧ Below w.heap.size w w' := by
  have B1 := ((Bx.nil w).push (DO n a zs.length c ex)).push (DO false none 0 0 0)
  rw [show (w.alloc (DO n a zs.length c ex)).heap.size = w.heap.size + 1 by simp] at B1
  go_enter Tryd.func45, Tryd.ntmps45
  go_wp2_with fail
  refine (u.may n c ex false hq _ B1.bel).mono ?_
  rintro e w2 ⟨rfl, h2⟩
  have B2 := B1.keep h2
  clear h2 B1 u
  obtain ⟨⟨t0, t1, t2⟩, u0, u1, u2⟩ := cells3 B2 (w.heap.size + 1) _ _ _ _ (.head _)
  go_wp2
  have B3 := B2.fill3 (by omega) (by simp) (.bool false) (.slice none 0 0) (.int .i64 0)
  refine bodyPost_ret (results_D2 rfl _ _ (w.heap.size + 1) _ rfl ⟨B3.head, rfl⟩) rfl ?_
  exact ⟨rfl, B3.bel⟩
theorem cuts_long (n1 : Bool) (a1 : Option Addr) (c1 k1 : Nat) (e1 cnt bits : Int) (w : World) (hl1 : (4100 : Int) < (k1 : Int)) (hT : Tab w) :
    Calls Tryd.prog 6 #[dV n1 a1 k1 c1 e1, .int .i64 cnt, .int .i64 bits] w fun e w' => e = .returned (.bool true) ∧ Below w.heap.size w w' := by
  have BX := (Bx.nil w).push (DO n1 a1 k1 c1 e1)
  go_enter Tryd.func6, Tryd.ntmps6
  go_wp2_with fail
  refine (dknown34 _ (hT.below BX.bel (Nat.le_refl _))).mono ?_
  rintro e w2 ⟨rfl, h2⟩
  replace BX := BX.keep h2
  go_wp2
  go_ret
  exact ⟨rfl, BX.bel⟩
set_option maxHeartbeats 40000000 in
theorem cuts_bad (n1 : Bool) (a1 : Option Addr) (c1 : Nat) (z1 : List Int) (e1 cnt bits : Int) (w : World) (u1 : DLie w a1 z1) (hl1 : (z1.length : Int) ≤ 4100) (hm1 : z1.length ≤ 1000000) (hn1 : a1 = none → c1 = 0) (hT : Tab w) (hq1 : dmayB n1 z1 e1 = false) :
    Calls Tryd.prog 6 #[dV n1 a1 z1.length c1 e1, .int .i64 cnt, .int .i64 bits] w fun e w' => e = .returned (.bool true) ∧ Below w.heap.size w w' := by
  have l1 := u1.lie
  have BX := (Bx.nil w).push (DO n1 a1 z1.length c1 e1)
  have la := l1.below BX.bel (Nat.le_refl _)
  go_enter Tryd.func6, Tryd.ntmps6
  go_wp2_with fail
  generalize hw1 : w.alloc (DO n1 a1 z1.length c1 e1) = w1 at *
  clear hw1
  have HB := Below.refl w1.heap.size w1
  refine (dlent35 n1 a1 c1 z1 e1 _ la hm1 hn1).mono ?_
  rintro e uL ⟨ax, cx, rfl, lx, hn, _⟩
  replace BX := BX.keep hn
  replace HB := below_then HB hn
  replace la := la.below hn (Nat.le_refl _)
  clear hn
  have hax := below_alloc uL (DO n1 ax z1.length cx e1)
  replace BX := BX.push (DO n1 ax z1.length cx e1)
  replace HB := below_then HB hax
  replace la := la.below hax (Nat.le_refl _)
  replace lx := lx.below hax (Nat.le_refl _)
  clear hax
  obtain ⟨⟨fx0, fx1, fx2⟩, _⟩ := cells3 BX uL.heap.size _ _ _ _ (show (uL.heap.size, DO n1 ax z1.length cx e1) ∈ _ by simp)
  go_wp2_with fail
  generalize hvx : uL.alloc (DO n1 ax z1.length cx e1) = vx at *
  clear hvx
  have HF := BX
  replace HB := Below.refl vx.heap.size vx
  have lx0 := lx
  have la0 := la
  refine (shift_bad n1 ax cx z1 e1 cnt _ ⟨lx, u1.len, u1.rng⟩ hq1).mono ?_
  rintro e uS ⟨rfl, hS⟩
  replace BX := BX.keep hS
  replace HB := below_then HB hS
  replace la := la.below hS (Nat.le_refl _)
  replace lx := lx.below hS (Nat.le_refl _)
  clear hS
  have haS := below_alloc uS (DO false none 0 0 0)
  replace BX := BX.push (DO false none 0 0 0)
  replace HB := below_then HB haS
  replace la := la.below haS (Nat.le_refl _)
  replace lx := lx.below haS (Nat.le_refl _)
  clear haS
  obtain ⟨⟨fx0, fx1, fx2⟩, _⟩ := cells3 BX uL.heap.size _ _ _ _ (show (uL.heap.size, DO n1 ax z1.length cx e1) ∈ _ by simp)
  go_wp2_with fail
  generalize hvS : uS.alloc (DO false none 0 0 0) = vS at *
  clear hvS
  refine (dfloor_bad n1 ax cx z1 e1 _ ⟨lx, u1.len, u1.rng⟩ hq1).mono ?_
  rintro e uF ⟨rfl, hF⟩
  replace BX := BX.keep hF
  replace HB := below_then HB hF
  replace la := la.below hF (Nat.le_refl _)
  replace lx := lx.below hF (Nat.le_refl _)
  clear hF
  have haF := below_alloc uF (DO false none 0 0 0)
  replace BX := BX.push (DO false none 0 0 0)
  replace HB := below_then HB haF
  replace la := la.below haF (Nat.le_refl _)
  replace lx := lx.below haF (Nat.le_refl _)
  clear haF
  obtain ⟨⟨fx0, fx1, fx2⟩, _⟩ := cells3 BX uL.heap.size _ _ _ _ (show (uL.heap.size, DO n1 ax z1.length cx e1) ∈ _ by simp)
  go_wp2_with fail
  generalize hvF : uF.alloc (DO false none 0 0 0) = vF at *
  clear hvF
  refine (cut_bad n1 ax cx z1 e1 bits 2 _ ⟨lx, u1.len, u1.rng⟩ (by rw [hq1]; unfold askB; rw [if_pos (.inr rfl)]) (by decide)).mono ?_
  rintro e uC ⟨rfl, hC9⟩
  replace BX := BX.keep hC9
  replace HB := below_then HB hC9
  replace la := la.below hC9 (Nat.le_refl _)
  replace lx := lx.below hC9 (Nat.le_refl _)
  clear hC9
  have haC := below_alloc uC (DO false none 0 0 0)
  replace BX := BX.push (DO false none 0 0 0)
  replace HB := below_then HB haC
  replace la := la.below haC (Nat.le_refl _)
  replace lx := lx.below haC (Nat.le_refl _)
  clear haC
  obtain ⟨⟨fx0, fx1, fx2⟩, _⟩ := cells3 BX uL.heap.size _ _ _ _ (show (uL.heap.size, DO n1 ax z1.length cx e1) ∈ _ by simp)
  obtain ⟨⟨fa0, fa1, fa2⟩, _⟩ := cells3 BX w.heap.size _ _ _ _ (show (w.heap.size, DO n1 a1 z1.length c1 e1) ∈ _ by simp)
  go_wp2_with fail
  generalize hvC : uC.alloc (DO false none 0 0 0) = vC at *
  clear hvC
  refine (dsame40 n1 n1 ax a1 cx c1 z1 z1 e1 e1 _ ⟨lx, u1.len, u1.rng⟩ ⟨la, u1.len, u1.rng⟩ true (decide_eq_true ⟨rfl, rfl, rfl⟩)).mono ?_
  rintro e k1w ⟨rfl, k1⟩
  replace BX := BX.keep k1
  replace HB := below_then HB k1
  replace la := la.below k1 (Nat.le_refl _)
  replace lx := lx.below k1 (Nat.le_refl _)
  clear k1
  obtain ⟨⟨fa0, fa1, fa2⟩, _⟩ := cells3 BX w.heap.size _ _ _ _ (show (w.heap.size, DO n1 a1 z1.length c1 e1) ∈ _ by simp)
  go_wp2_with fail
  refine (drefmay37 n1 a1 c1 z1 e1 _ ⟨la, u1.len, u1.rng⟩ false hq1).mono ?_
  rintro e k2w ⟨rfl, k2⟩
  replace BX := BX.keep k2
  replace HB := below_then HB k2
  replace la := la.below k2 (Nat.le_refl _)
  replace lx := lx.below k2 (Nat.le_refl _)
  clear k2
  obtain ⟨⟨fS0, fS1, fS2⟩, _⟩ := cells3 BX uS.heap.size _ _ _ _ (show (uS.heap.size, DO false none 0 0 0) ∈ _ by simp)
  go_wp2_with fail
  refine (dnone_yes _ 2).mono ?_
  rintro e k3w ⟨rfl, k3⟩
  replace BX := BX.keep k3
  replace HB := below_then HB k3
  replace la := la.below k3 (Nat.le_refl _)
  replace lx := lx.below k3 (Nat.le_refl _)
  clear k3
  obtain ⟨⟨fF0, fF1, fF2⟩, _⟩ := cells3 BX uF.heap.size _ _ _ _ (show (uF.heap.size, DO false none 0 0 0) ∈ _ by simp)
  go_wp2_with fail
  refine (dnone_yes _ 2).mono ?_
  rintro e k4w ⟨rfl, k4⟩
  replace BX := BX.keep k4
  replace HB := below_then HB k4
  replace la := la.below k4 (Nat.le_refl _)
  replace lx := lx.below k4 (Nat.le_refl _)
  clear k4
  obtain ⟨⟨fC0, fC1, fC2⟩, _⟩ := cells3 BX uC.heap.size _ _ _ _ (show (uC.heap.size, DO false none 0 0 0) ∈ _ by simp)
  go_wp2_with fail
  refine (dnone_yes _ 2).mono ?_
  rintro e k5w ⟨rfl, k5⟩
  replace BX := BX.keep k5
  replace HB := below_then HB k5
  replace la := la.below k5 (Nat.le_refl _)
  replace lx := lx.below k5 (Nat.le_refl _)
  clear k5
  go_wp2_with fail
  refine (dknown34 _ (hT.below BX.bel (Nat.le_refl _))).mono ?_
  rintro e k6w ⟨rfl, k6⟩
  replace BX := BX.keep k6
  replace HB := below_then HB k6
  replace la := la.below k6 (Nat.le_refl _)
  replace lx := lx.below k6 (Nat.le_refl _)
  clear k6
  go_wp2
  go_ret
  exact ⟨rfl, BX.bel⟩
end Go.Proofs.YteejaghimppcgaaDoor
