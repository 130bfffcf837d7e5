import Derived.Test.YtiamdmfhkhlppaaDoorM13
import Derived.Test.YtiamdmfhkhlppaaDoorRegion2
namespace Go.Proofs.YtiamdmfhkhlppaaDoor
open Go.RowKit
set_option linter.unusedVariables false
set_option maxRecDepth 3000
theorem DV.after {w w' w2 : World} {s E : Int} {ng : Bool} {a : Option Addr} {n c : Nat} {ex code : Int} (h : DV w w' s E ng a n c ex code) (hb : Below w'.heap.size w' w2) : DV w w2 s E ng a n c ex code := by
  refine ⟨below_then h.bel hb, ?_⟩
  rcases h.all with h1 | ⟨h1, t, h2, h3⟩
  · exact .inl h1
  · refine .inr ⟨h1, t, h2, ?_⟩
    rcases h3 with ⟨k1, k2, k3, k4, k5, zs, k6, k7, k8⟩ | h3
    · exact .inl ⟨k1, k2, k3, k4, k5, zs, k6, k7, k8.below hb (Nat.le_refl _)⟩
    · exact .inr h3
theorem wrapu_neg {n : Int} (h0 : n < 0) (h1 : -9223372036854775808 ≤ n) : IntKind.u64.wrap (-IntKind.u64.wrap n) = -n := by
  rw [IntKind.wrap_u64, IntKind.wrap_u64]; omega
theorem floor_whole {ng : Bool} {zs : List Int} {ex : Int} (h : 0 ≤ ex) : dv ng zs ex / 2 ^ KK * 2 ^ KK = dv ng zs ex := by
  unfold dv pK
  rw [show (ex + KK).toNat = ex.toNat + KK by omega, Int.pow_add, ← Int.mul_assoc, Int.mul_ediv_cancel _ pK_ne]
theorem pK_zero : pK 0 = 2 ^ KK := by unfold pK; rw [show ((0 : Int) + KK).toNat = KK by omega]
theorem floor_neg {P x r q : Int} (hP : 0 < P) (h1 : r + P * q = x) (h2 : 0 ≤ r) (h3 : r < P) (h4 : r ≠ 0) : -x / P = -(q + 1) := by
  have e : -x = (P - r) + P * (-(q + 1)) := by grind
  rw [e, Int.add_mul_ediv_left _ _ (by omega), Int.ediv_eq_zero_of_lt (by omega) (by omega), Int.zero_add]
theorem floor_part {ng : Bool} {zs : List Int} {ex : Int} {k : Nat} (hk : ex = -(k : Int)) (h1 : 1 ≤ k) (h2 : k ≤ KK) (ho : Nt.val zs % 2 = 1) (y : Int) (hy : y = if ng then Nt.val zs / 2 ^ k + 1 else Nt.val zs / 2 ^ k) : sv ng y * pK 0 = dv ng zs ex / 2 ^ KK * 2 ^ KK := by
  rw [pK_zero]
  congr 1
  unfold dv pK
  obtain ⟨j, hj⟩ : ∃ j, KK = k + j := ⟨KK - k, by omega⟩
  rw [show (ex + KK).toNat = j by omega, hj, Int.pow_add, Int.mul_ediv_mul_of_pos_left _ _ (p2pos j)]
  have hp := p2pos k
  have hne : Nt.val zs % 2 ^ k ≠ 0 := by
    intro c
    have := low_lost (n := k) (odd_low ho)
    rw [c] at this
    simp at this
    omega
  generalize Nt.val zs = x at *
  have e1 := Int.emod_add_mul_ediv x (2 ^ k)
  have e2 := Int.emod_nonneg x (b := 2 ^ k) (by omega)
  have e3 := Int.emod_lt_of_pos x hp
  cases ng
  · simp only [Bool.false_eq_true, if_false] at hy
    rw [sv_f, sv_f, hy]
  · simp only [if_true] at hy
    rw [sv_t, sv_t, hy]
    exact (floor_neg hp e1 e2 e3 hne).symm
theorem floor_fit {zs : List Int} {k : Nat} (g : Good zs (Nt.val zs)) (ho : Nt.val zs % 2 = 1) (hk : 1 ≤ k) : Nt.val zs / 2 ^ k + 1 < 4294967296 ^ 4096 := by
  have h1 := g.lt.2
  have h0 := g.nonneg
  have e : (4294967296 : Int) ^ 4096 = 4294967296 ^ 4095 * 4294967296 := Nt.pw_succ 4095
  have hp := Nt.pw_pos 4095
  obtain ⟨j, rfl⟩ : ∃ j, k = j + 1 := ⟨k - 1, by omega⟩
  have h2 : Nt.val zs / 2 ^ (j + 1) ≤ Nt.val zs / 2 := by
    rw [p2succ, ← Int.ediv_ediv_of_nonneg (by omega)]
    exact Int.ediv_le_self _ (by omega)
  rw [e] at h1 ⊢
  generalize (4294967296 : Int) ^ 4095 = P at *
  omega
set_option maxHeartbeats 4000000 in
theorem floor_w (ng : Bool) (a : Option Addr) (c : Nat) (zs : List Int) (ex : Int) (w : World) (hl : Lie w a zs) (g : DG ng zs ex) (hT : Tab w) (h0 : 0 ≤ ex) :
    Calls Tryd.prog 45 #[dV ng a zs.length c ex] w fun e w' => DRes w w' (dv ng zs ex / 2 ^ KK * 2 ^ KK) (-(KK : Int)) e := by
  obtain ⟨d1, d2, hs2⟩ := dcell2 w #[.bool ng, .slice a zs.length c, .int .i64 ex] #[.bool false, .slice none 0 0, .int .i64 0] rfl rfl
  have hb2 := below2 w (.cells #[.bool ng, .slice a zs.length c, .int .i64 ex] 36) (.cells #[.bool false, .slice none 0 0, .int .i64 0] 36)
  have hx := g.ex_bd
  have hK := KK_int
  have u := g.lie hl
  go_enter Tryd.func45, Tryd.ntmps45
  go_wp2_with fail
  generalize hw2 : (w.alloc (.cells #[.bool ng, .slice a zs.length c, .int .i64 ex] 36)).alloc (.cells #[.bool false, .slice none 0 0, .int .i64 0] 36) = w2 at *
  clear hw2
  refine (u.may ng c ex true g.may _ hb2).mono ?_
  rintro e w3 ⟨rfl, h3⟩
  have HB := below_then hb2 h3
  replace d1 := d1.below h3 (by omega)
  replace d2 := d2.below h3 (by omega)
  have hsz : w.heap.size + 1 < w3.heap.size := by have := h3.size; omega
  clear h3 hb2 hs2 u
  have q0 := d1.c0
  have q1 := d1.c1
  have q2 := d1.c2
  have l3 := hl.below HB (Nat.le_refl _)
  have t3 := hT.below HB (Nat.le_refl _)
  go_wp2_with fail
  refine (formedR ng a c zs ex _ l3 g.good t3 (by omega) (by omega)).mono ?_
  rintro e w9 ⟨n9, a9, k9, c9, x9, code, rfl, hv⟩
  replace d2 := d2.below hv.bel hsz
  have HV := Hide.mk hv
  clear hv
  have f0 := d2.c0
  have f1 := d2.c1
  have f2 := d2.c2
  have r0 := d2.fr 0
  have r1 := d2.fr 1
  have r2 := d2.fr 2
  go_wp2
  refine bodyPost_ret (results_D2 rfl _ _ (w.heap.size + 1) _ rfl (((d2.set 0 _).set 1 _).set 2 _)) rfl ?_
  rw [floor_whole h0]
  exact DRes.toK (DRes.back HV.out HB (by omega) hsz _ _ _) (by omega)
set_option maxHeartbeats 4000000 in
theorem floor_p (a : Option Addr) (c : Nat) (zs : List Int) (ex : Int) (w : World) (hl : Lie w a zs) (g : DG false zs ex) (hT : Tab w) (h0 : ex < 0) (hz : 0 < zs.length) :
    Calls Tryd.prog 45 #[dV false a zs.length c ex] w fun e w' => DRes w w' (dv false zs ex / 2 ^ KK * 2 ^ KK) (-(KK : Int)) e := by
  obtain ⟨d1, d2, hs2⟩ := dcell2 w #[.bool false, .slice a zs.length c, .int .i64 ex] #[.bool false, .slice none 0 0, .int .i64 0] rfl rfl
  have hb2 := below2 w (.cells #[.bool false, .slice a zs.length c, .int .i64 ex] 36) (.cells #[.bool false, .slice none 0 0, .int .i64 0] 36)
  have hx := g.ex_bd
  have hK := KK_int
  have u := g.lie hl
  go_enter Tryd.func45, Tryd.ntmps45
  go_wp2_with fail
  generalize hw2 : (w.alloc (.cells #[.bool false, .slice a zs.length c, .int .i64 ex] 36)).alloc (.cells #[.bool false, .slice none 0 0, .int .i64 0] 36) = w2 at *
  clear hw2
  refine (u.may false c ex true g.may _ hb2).mono ?_
  rintro e w3 ⟨rfl, h3⟩
  have HB := below_then hb2 h3
  replace d1 := d1.below h3 (by omega)
  replace d2 := d2.below h3 (by omega)
  have hsz : w.heap.size + 1 < w3.heap.size := by have := h3.size; omega
  clear h3 hb2 hs2 u
  have q0 := d1.c0
  have q1 := d1.c1
  have q2 := d1.c2
  have l3 := hl.below HB (Nat.le_refl _)
  have t3 := hT.below HB (Nat.le_refl _)
  obtain ⟨k, hk⟩ : ∃ k : Nat, ex = -(k : Int) := ⟨(-ex).toNat, by omega⟩
  have HK := Hide.mk hk
  have hk1 : 1 ≤ k := by omega
  have hk2 : k ≤ 16777216 := by omega
  clear hk
  go_wp2_with fail
  refine (shiftedD a c zs _ l3 g.good ex k HK.out (by omega) t3).mono ?_
  rintro e w4 ⟨z4, a4, c4, rfl, h4, _⟩
  replace d1 := d1.below h4.bel (by omega)
  replace d2 := d2.below h4.bel hsz
  have HB4 := below_then HB h4.bel
  have hsz4 := Nat.lt_of_lt_of_le hsz h4.bel.size
  have G4 := h4.good
  have l4 := h4.lie
  clear h4 q0 q1 q2 l3 t3
  have q0 := d1.c0
  have q1 := d1.c1
  have q2 := d1.c2
  go_wp2_with fail
  refine (formedR false a4 c4 z4 0 _ l4 G4 (hT.below HB4 (Nat.le_refl _)) (by decide) (by decide)).mono ?_
  rintro e w9 ⟨n9, a9, k9, c9, x9, code, rfl, hv⟩
  replace d2 := d2.below hv.bel hsz4
  have HV := Hide.mk hv
  clear hv
  have f0 := d2.c0
  have f1 := d2.c1
  have f2 := d2.c2
  have r0 := d2.fr 0
  have r1 := d2.fr 1
  have r2 := d2.fr 2
  go_wp2
  refine bodyPost_ret (results_D2 rfl _ _ (w.heap.size + 1) _ rfl (((d2.set 0 _).set 1 _).set 2 _)) rfl ?_
  rw [← floor_part (ng := false) (zs := zs) (ex := ex) HK.out hk1 (by have := KK_eq; omega) (g.odd hz) _ rfl]
  simp only [Bool.false_eq_true, if_false]
  exact DRes.toK (DRes.back HV.out HB4 (by omega) hsz4 _ _ _) (by omega)
set_option maxHeartbeats 4000000 in
theorem floor_n (a : Option Addr) (c : Nat) (zs : List Int) (ex : Int) (w : World) (hl : Lie w a zs) (g : DG true zs ex) (hT : Tab w) (h0 : ex < 0) (hz : 0 < zs.length) :
    Calls Tryd.prog 45 #[dV true a zs.length c ex] w fun e w' => DRes w w' (dv true zs ex / 2 ^ KK * 2 ^ KK) (-(KK : Int)) e := by
  obtain ⟨d1, d2, hs2⟩ := dcell2 w #[.bool true, .slice a zs.length c, .int .i64 ex] #[.bool false, .slice none 0 0, .int .i64 0] rfl rfl
  have hb2 := below2 w (.cells #[.bool true, .slice a zs.length c, .int .i64 ex] 36) (.cells #[.bool false, .slice none 0 0, .int .i64 0] 36)
  have hx := g.ex_bd
  have hK := KK_int
  have u := g.lie hl
  go_enter Tryd.func45, Tryd.ntmps45
  go_wp2_with fail
  generalize hw2 : (w.alloc (.cells #[.bool true, .slice a zs.length c, .int .i64 ex] 36)).alloc (.cells #[.bool false, .slice none 0 0, .int .i64 0] 36) = w2 at *
  clear hw2
  refine (u.may true c ex true g.may _ hb2).mono ?_
  rintro e w3 ⟨rfl, h3⟩
  have HB := below_then hb2 h3
  replace d1 := d1.below h3 (by omega)
  replace d2 := d2.below h3 (by omega)
  have hsz : w.heap.size + 1 < w3.heap.size := by have := h3.size; omega
  clear h3 hb2 hs2 u
  have q0 := d1.c0
  have q1 := d1.c1
  have q2 := d1.c2
  have l3 := hl.below HB (Nat.le_refl _)
  have t3 := hT.below HB (Nat.le_refl _)
  obtain ⟨k, hk⟩ : ∃ k : Nat, ex = -(k : Int) := ⟨(-ex).toNat, by omega⟩
  have HK := Hide.mk hk
  have hk1 : 1 ≤ k := by omega
  have hk2 : k ≤ 16777216 := by omega
  clear hk
  go_wp2_with fail
  refine (shiftedD a c zs _ l3 g.good ex k HK.out (by omega) t3).mono ?_
  rintro e w4 ⟨z4, a4, c4, rfl, h4, _⟩
  replace d1 := d1.below h4.bel (by omega)
  replace d2 := d2.below h4.bel hsz
  have HB4 := below_then HB h4.bel
  have hsz4 := Nat.lt_of_lt_of_le hsz h4.bel.size
  have G4 := h4.good
  have l4 := h4.lie
  clear h4 q0 q1 q2 l3 t3
  have q0 := d1.c0
  have q1 := d1.c1
  have q2 := d1.c2
  go_wp2_with fail
  refine (of16 1 (by decide) (by decide) _).mono ?_
  rintro e w5 ⟨z5, a5, c5, rfl, h5, _⟩
  replace d1 := d1.below h5.bel (by omega)
  replace d2 := d2.below h5.bel hsz4
  have HB5 := below_then HB4 h5.bel
  have hsz5 := Nat.lt_of_lt_of_le hsz4 h5.bel.size
  have G5 := h5.good
  have l5 := h5.lie
  replace l4 := l4.below h5.bel (Nat.le_refl _)
  clear h5 q0 q1 q2
  go_wp2_with fail
  refine (plus110 a4 a5 c4 c5 z4 z5 _ l4 l5 G4 G5 (floor_fit g.good (g.odd hz) hk1)).mono ?_
  rintro e w6 ⟨z6, a6, c6, rfl, h6, _⟩
  replace d1 := d1.below h6.bel (by omega)
  replace d2 := d2.below h6.bel hsz5
  have HB6 := below_then HB5 h6.bel
  have hsz6 := Nat.lt_of_lt_of_le hsz5 h6.bel.size
  have G6 := h6.good
  have l6 := h6.lie
  clear h6
  have q0 := d1.c0
  go_wp2_with fail
  refine (formedR true a6 c6 z6 0 _ l6 G6 (hT.below HB6 (Nat.le_refl _)) (by decide) (by decide)).mono ?_
  rintro e w9 ⟨n9, a9, k9, c9, x9, code, rfl, hv⟩
  replace d2 := d2.below hv.bel hsz6
  have HV := Hide.mk hv
  clear hv
  have f0 := d2.c0
  have f1 := d2.c1
  have f2 := d2.c2
  have r0 := d2.fr 0
  have r1 := d2.fr 1
  have r2 := d2.fr 2
  go_wp2
  refine bodyPost_ret (results_D2 rfl _ _ (w.heap.size + 1) _ rfl (((d2.set 0 _).set 1 _).set 2 _)) rfl ?_
  rw [← floor_part (ng := true) (zs := zs) (ex := ex) HK.out hk1 (by have := KK_eq; omega) (g.odd hz) _ rfl]
  simp only [if_true]
  exact DRes.toK (DRes.back HV.out HB6 (by omega) hsz6 _ _ _) (by omega)
theorem dfloor66 (ng : Bool) (a : Option Addr) (c : Nat) (zs : List Int) (ex : Int) (w : World) (hl : Lie w a zs) (g : DG ng zs ex) (hT : Tab w) :
    Calls Tryd.prog 45 #[dV ng a zs.length c ex] w fun e w' => DRes w w' (dv ng zs ex / 2 ^ KK * 2 ^ KK) (-(KK : Int)) e := by
  by_cases h0 : 0 ≤ ex
  · exact floor_w ng a c zs ex w hl g hT h0
  · have hz : 0 < zs.length := by
      by_cases q : 0 < zs.length
      · exact q
      · have := (g.nil (by omega)).2.2; omega
    cases ng
    · exact floor_p a c zs ex w hl g hT (by omega) hz
    · exact floor_n a c zs ex w hl g hT (by omega) hz

theorem DN.low {ng : Bool} {zs : List Int} {ex v : Int} (h : DN ng zs ex v) (hz : 0 < zs.length) : LowBit (v.natAbs : Int) (ex + KK).toNat ∧ v ≠ 0 := by
  have hp := pK_pos ex
  have hx := h.dg.pos hz
  have e : (v.natAbs : Int) = Nt.val zs * 2 ^ (ex + KK).toNat := by
    rw [← h.val]; unfold dv pK
    rw [natAbs_mul_pow, sv_abs _ (by omega)]
  have hl := (odd_low (h.dg.odd hz)).up (ex + KK).toNat
  rw [Nat.zero_add] at hl
  refine ⟨by rw [e]; exact hl, fun c => ?_⟩
  have : Nt.val zs * 2 ^ (ex + KK).toNat ≠ 0 := fun c2 => by rcases Int.mul_eq_zero.1 c2 with c3 | c3 <;> have := p2pos (ex + KK).toNat <;> omega
  omega
theorem DN.whole {ng : Bool} {zs : List Int} {ex v : Int} (h : DN ng zs ex v) : (0 ≤ ex ↔ v % 2 ^ KK = 0) := by
  have hx := h.dg.ex_bd
  have hK := KK_int
  by_cases hz : 0 < zs.length
  · obtain ⟨hl, hv⟩ := h.low hz
    have := low_lost (n := KK) hl
    have e : (v.natAbs : Int) % 2 ^ KK = 0 ↔ v % 2 ^ KK = 0 := by
      constructor
      · intro c
        obtain ⟨m, hm⟩ := Int.dvd_of_emod_eq_zero c
        by_cases q : 0 ≤ v
        · exact Int.emod_eq_zero_of_dvd ⟨m, by rw [← hm]; omega⟩
        · exact Int.emod_eq_zero_of_dvd ⟨-m, by rw [Int.mul_neg, ← hm]; omega⟩
      · intro c
        obtain ⟨m, hm⟩ := Int.dvd_of_emod_eq_zero c
        by_cases q : 0 ≤ v
        · exact Int.emod_eq_zero_of_dvd ⟨m, by rw [← hm]; omega⟩
        · exact Int.emod_eq_zero_of_dvd ⟨-m, by rw [Int.mul_neg, ← hm]; omega⟩
    by_cases c : 0 ≤ ex
    · rw [decide_eq_false (by omega)] at this
      exact ⟨fun _ => e.1 (by simpa using this), fun _ => c⟩
    · rw [decide_eq_true (by omega)] at this
      exact ⟨fun k => absurd k c, fun k => absurd (e.2 k) (by simpa using this)⟩
  · obtain ⟨rfl, rfl, rfl⟩ := h.dg.nil (by omega)
    rw [← h.val, zero_dv]
    simp
theorem floor_facts {v : Int} {f : Int} (hf : f = v / 2 ^ KK * 2 ^ KK) : f ≤ v ∧ v < f + 2 ^ KK ∧ f % 2 ^ KK = 0 ∧ (v % 2 ^ KK = 0 → f = v) ∧ (v % 2 ^ KK ≠ 0 → f < v) := by
  have hp := p2pos KK
  have e1 := Int.emod_add_mul_ediv v (2 ^ KK)
  have e2 := Int.emod_nonneg v (b := 2 ^ KK) (by omega)
  have e3 := Int.emod_lt_of_pos v hp
  rw [Int.mul_comm] at e1
  refine ⟨by omega, by omega, by rw [hf]; exact Int.mul_emod_left _ _, fun h => by omega, fun h => by omega⟩
theorem floor_db {lo hi : Nat} {v f : Int} (h : DB lo hi v) (hf : f = v / 2 ^ KK * 2 ^ KK) (h1 : lo ≤ KK) (h2 : KK ≤ hi) : DB lo (hi + 1) f := by
  obtain ⟨k1, k2, k3, _, _⟩ := floor_facts hf
  have b1 := h.gt
  have b2 := h.lt
  have := p2mono h2
  have := p2succ hi
  refine ⟨?_, by omega, by omega⟩
  obtain ⟨j, hj⟩ : ∃ j, KK = lo + j := ⟨KK - lo, by omega⟩
  obtain ⟨m, hm⟩ := Int.dvd_of_emod_eq_zero k3
  exact Int.emod_eq_zero_of_dvd ⟨2 ^ j * m, by rw [hm, hj, Int.pow_add, Int.mul_assoc]⟩
theorem dfloor_fit (ng : Bool) (a : Option Addr) (c : Nat) (zs : List Int) (ex : Int) (w : World) {v f : Int} (hl : Lie w a zs) (N1 : DN ng zs ex v) (hT : Tab w) (hf : f = v / 2 ^ KK * 2 ^ KK) {lo hi : Nat} (hb : DB lo hi f) (k1 : hi ≤ lo + 131072) (k2 : hi ≤ 2 * KK) :
    Calls Tryd.prog 45 #[dV ng a zs.length c ex] w fun e w' => ∃ ng zs ex a c, e = .returned (.tuple #[dV ng a zs.length c ex, .int .i64 0]) ∧ IsD w w' a c ng zs ex f := by
  refine (dfloor66 ng a c zs ex w hl N1.dg hT).mono ?_
  rintro e w' ⟨ng, a, n, c, ex, code, rfl, hv⟩
  rw [N1.val, ← hf, show -(KK : Int) = -(KK : Int) - (0 : Nat) by omega] at hv
  obtain ⟨rfl, zs, v', rfl, h3, h4⟩ := hv.fits hb k1 (by omega) (by omega)
  rw [Int.pow_zero, Int.mul_one] at h3
  subst h3
  exact ⟨ng, zs, ex, a, c, rfl, h4⟩
theorem arow1 (W : World) (g : Nat) (hg : W.heap.size = g) (x : Arg) (hx : DLie W x.a x.zs) :
    ARow (W.alloc (.cells #[.bool x.ng, .slice x.a x.zs.length x.c, .int .i64 x.ex] 36)) g [x] := by
  subst hg
  have hn := heap_alloc_new W (.cells #[.bool x.ng, .slice x.a x.zs.length x.c, .int .i64 x.ex] 36)
  have hb := below_alloc W (.cells #[.bool x.ng, .slice x.a x.zs.length x.c, .int .i64 x.ex] 36)
  refine ⟨?_, ?_, ?_, ?_⟩ <;> intro i u hu <;> match i, hu with
    | 0, hu => cases hu; first | exact cell_of_row _ _ 0 _ 36 (0, 0) hn | exact cell_of_row _ _ 1 _ 36 (0, 0) hn | exact cell_of_row _ _ 2 _ 36 (0, 0) hn | exact hx.below hb

theorem set_cell {w : World} {g b j i : Nat} (h : b ≠ g) (u : Value) : (w.setCell ⟨g, j, none⟩ u).cell? ⟨b, i, none⟩ = w.cell? ⟨b, i, none⟩ :=
  World.cell?_setCell_other _ _ _ _ (by intro c; cases c; exact h rfl)
theorem set3_cell {w : World} {g b i : Nat} (h : b ≠ g) (u0 u1 u2 : Value) : (((w.setCell ⟨g, 0, none⟩ u0).setCell ⟨g, 1, none⟩ u1).setCell ⟨g, 2, none⟩ u2).cell? ⟨b, i, none⟩ = w.cell? ⟨b, i, none⟩ := by
  rw [set_cell h, set_cell h, set_cell h]
/-- A fresh box holds no digit. -/
theorem no_digit {w : World} {g i : Nat} {k : IntKind} {x : Int} (hd : DCell w g #[.bool false, .slice none 0 0, .int .i64 0]) (hk : k ≠ .i64) : w.cell? ⟨g, i, none⟩ ≠ some (.int k x) := by
  rw [cell_of_row w g i _ 36 (0, 0) hd.1]
  match i with
  | 0 => intro h; cases h
  | 1 => intro h; cases h
  | 2 => intro h; injection h with h; injection h with h1 h2; exact hk h1.symm
  | n + 3 => intro h; simp at h
theorem Live.set3 {w : World} {g : Nat} (hd : DCell w g #[.bool false, .slice none 0 0, .int .i64 0]) (u0 u1 u2 : Value) {l : List (Option Addr × List Int)} (h : Live w l) : Live (((w.setCell ⟨g, 0, none⟩ u0).setCell ⟨g, 1, none⟩ u1).setCell ⟨g, 2, none⟩ u2) l := by
  refine ⟨fun p hp => ?_⟩
  rcases h.all p hp with h1 | ⟨b, o, h1, h2⟩
  · exact .inl h1
  · refine .inr ⟨b, o, h1, fun i hi => ?_⟩
    have k := h2 i hi
    rw [set3_cell (fun c => no_digit (k := .u32) hd (by decide) (by rw [← c]; exact k))]
    exact k
theorem Tab.set3 {w : World} {g : Nat} (hd : DCell w g #[.bool false, .slice none 0 0, .int .i64 0]) (u0 u1 u2 : Value) (h : Tab w) : Tab (((w.setCell ⟨g, 0, none⟩ u0).setCell ⟨g, 1, none⟩ u1).setCell ⟨g, 2, none⟩ u2) := by
  intro j hj
  have k := h j hj
  rw [set3_cell (fun c => no_digit (k := .u8) hd (by decide) (by rw [← c]; exact k))]
  exact k
theorem Boxes.set3 {w : World} {g : Nat} (hd : DCell w g #[.bool false, .slice none 0 0, .int .i64 0]) (u0 u1 u2 : Value) {l : List (Nat × Array Value)} (h : Boxes w l) (hl : ∀ p ∈ l, p.1 ≠ g) : Boxes (((w.setCell ⟨g, 0, none⟩ u0).setCell ⟨g, 1, none⟩ u1).setCell ⟨g, 2, none⟩ u2) ((g, #[u0, u1, u2]) :: l) := by
  refine ⟨fun p hp => ?_⟩
  rcases List.mem_cons.1 hp with rfl | hp
  · exact ((hd.set 0 u0).set 1 u1).set 2 u2
  · have k := h.all p hp
    refine ⟨?_, k.2⟩
    rw [heap_setCell_other _ _ _ _ (hl p hp), heap_setCell_other _ _ _ _ (hl p hp), heap_setCell_other _ _ _ _ (hl p hp)]
    exact k.1
end Go.Proofs.YtiamdmfhkhlppaaDoor
