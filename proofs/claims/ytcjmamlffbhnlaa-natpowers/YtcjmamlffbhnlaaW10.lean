import Derived.Test.YtcjmamlffbhnlaaW9
namespace Go.Proofs.Ytcjmamlffbhnlaa
open Go.RowKit
set_option linter.unusedVariables false
theorem vp_cons (d : Int) (s : List Int) (k : Nat) : Nt.vp (d :: s) (k + 1) = d + 4294967296 * Nt.vp s k := by
  induction k with
  | zero => simp [Nt.vp]
  | succ k ih =>
    rw [Nt.vp_step, ih, Nt.vp_step s k, Nt.pw_succ]
    have : (d :: s).getD (k + 1) 0 = s.getD k 0 := by simp [List.getD_eq_getElem?_getD]
    rw [this]
    generalize (4294967296 : Int) ^ k = P
    grind
theorem val_cons (d : Int) (s : List Int) : Nt.val (d :: s) = d + 4294967296 * Nt.val s := vp_cons d s s.length
theorem rng_cons {d : Int} {s : List Int} (h0 : 0 ≤ d) (h1 : d < 4294967296) (h : Nt.Rng s) : Nt.Rng (d :: s) := by
  intro k
  cases k with
  | zero => simpa using ⟨h0, h1⟩
  | succ k => have := h k; simpa [List.getD_eq_getElem?_getD] using this
theorem can_cons {d : Int} {s : List Int} (h0 : 0 ≤ d) (h1 : d < 4294967296) (h : Nt.Can s) (hne : s = [] → d ≠ 0) : Nt.Can (d :: s) := by
  refine ⟨rng_cons h0 h1 h.1, fun _ => ?_⟩
  cases s with
  | nil => simpa using hne rfl
  | cons e t =>
    have := h.2 (by simp)
    simpa [List.getD_eq_getElem?_getD] using this
theorem digs_ex (n : Nat) : ∃ zs, Nt.Can zs ∧ Nt.val zs = (n : Int) := by
  induction n using Nat.strongRecOn with
  | _ n ih =>
    by_cases h : n = 0
    · subst h; exact ⟨[], Nt.can_nil, rfl⟩
    · obtain ⟨zs, hc, hv⟩ := ih (n / 4294967296) (by omega)
      refine ⟨((n % 4294967296 : Nat) : Int) :: zs, can_cons (by omega) (by omega) hc ?_, ?_⟩
      · intro e
        subst e
        rw [Nt.val_nil] at hv
        omega
      · rw [val_cons, hv]; omega
theorem digs_int {x : Int} (h : 0 ≤ x) : ∃ zs, Nt.Can zs ∧ Nt.val zs = x := by
  obtain ⟨n, rfl⟩ := Int.eq_ofNat_of_zero_le h
  exact digs_ex n

theorem can_ge {s : List Int} (h : Nt.Can s) (hp : 0 < s.length) : (4294967296 : Int) ^ (s.length - 1) ≤ Nt.val s := by
  have := (Nt.can_len h (s.length - 1))
  by_cases c : Nt.val s < 4294967296 ^ (s.length - 1)
  · have := this.1 c; omega
  · omega

theorem long_mul {za zb zs : List Int} (ha : Nt.Can za) (hb : Nt.Can zb) (hz : Nt.Can zs) (hv : Nt.val zs = Nt.val za * Nt.val zb) (hp : 0 < za.length) (hq : 0 < zb.length) (hl : 4097 < za.length + zb.length) : 4096 < zs.length := by
  by_cases c : zs.length ≤ 4096
  · exfalso
    have h1 := (Nt.can_len hz 4096).2 c
    have h2 := can_ge ha hp
    have h3 := can_ge hb hq
    have h4 : (4294967296 : Int) ^ (za.length - 1) * 4294967296 ^ (zb.length - 1) ≤ Nt.val za * Nt.val zb := Int.mul_le_mul h2 h3 (Int.le_of_lt (Nt.pw_pos _)) (Nt.val_bd ha.1).1
    rw [← Nt.pw_add] at h4
    have h5 := Nt.pw_mono (show 4096 ≤ za.length - 1 + (zb.length - 1) by omega)
    rw [hv] at h1
    omega
  · omega

set_option maxHeartbeats 1000000 in
set_option maxRecDepth 100000 in
theorem mul26 (a b : Option Addr) (ca cb : Nat) (za zb : List Int) (w : World) (ha : Lie w a za) (hb : Lie w b zb) (ra : Nt.Rng za) (rb : Nt.Rng zb) (pa : mayB za = true) (pb : mayB zb = true) :
    Calls Try.prog 26 #[.slice a za.length ca, .slice b zb.length cb] w fun e w' => Told w (Nt.val za * Nt.val zb) e w' := by
  have la := (may_can ra pa).2
  have lb := (may_can rb pb).2
  have HM := Hide.mk (allMay_new a b ca cb za zb w ha hb (by unfold maxLen; omega) (by unfold maxLen; omega) true (by rw [pa, pb]; rfl))
  have HS := fun W (h : Below w.heap.size w W) => Hide.mk (product42 a b ca cb za zb W (ha.below h (Nat.le_refl _)) (hb.below h (Nat.le_refl _)) ra rb (by omega) (by omega))
  have HT : Hide (4097 < za.length + zb.length → ∃ zs, Nt.Can zs ∧ Nt.val zs = Nt.val za * Nt.val zb ∧ 4096 < zs.length) := ⟨fun hl => by
    obtain ⟨zs, h1, h2⟩ := digs_int (Int.mul_nonneg (Nt.val_bd ra).1 (Nt.val_bd rb).1)
    exact ⟨zs, h1, h2, long_mul (may_can ra pa).1 (may_can rb pb).1 h1 h2 (by omega) (by omega) hl⟩⟩
  clear ha hb ra rb pa pb
  by_cases hlong : 4097 < za.length + zb.length
  · go_enter Try.func26, Try.ntmps26
    go_wp2_with fail
    refine HM.out.mono ?_
    rintro e w' ⟨rfl, rfl⟩
    have hb1 := below_alloc w (.cells #[.slice a za.length ca, .slice b zb.length cb] 22)
    go_wp2_with fail
    go_ret2
    obtain ⟨zs, h1, h2, h3⟩ := HT.out hlong
    exact ⟨zs, h1, h2, hb1, .inr ⟨h3, rfl⟩⟩
  go_enter Try.func26, Try.ntmps26
  go_wp2_with fail
  refine HM.out.mono ?_
  rintro e w' ⟨rfl, rfl⟩
  have hb1 := below_alloc w (.cells #[.slice a za.length ca, .slice b zb.length cb] 22)
  go_wp2_with fail
  refine (HS _ hb1).out.mono ?_
  rintro e w2 ⟨v, zs, rfl, hown, hcan, hval, hbel⟩
  have HO := Hide.mk (hown.mono hb1.size)
  have HL := Hide.mk (below_then hb1 hbel)
  obtain ⟨a2, c2, hv, h1, h2, _⟩ := hown.lie
  clear hbel hown hb1
  have HC := Hide.mk hcan
  have HV := Hide.mk hval
  have HE := Hide.mk hv
  clear hcan hval
  rw [hv]
  clear hv h2 HM HS
  by_cases hz : zs.length ≤ 4096
  · have hz' : ((zs.length : Nat) : Int) ≤ 4096 := by omega
    go_wp2_with fail
    refine (notLong39 _ _ _ _ hz).mono ?_
    rintro e w' ⟨rfl, rfl⟩
    go_wp2
    go_ret2
    exact ⟨zs, HC.out, HV.out, HL.out, .inl ⟨hz, _, rfl, by rw [← HE.out]; exact HO.out⟩⟩
  · go_wp2_with fail
    refine (notLong39_no _ _ _ _ (by omega)).mono ?_
    rintro e w' ⟨rfl, rfl⟩
    go_wp2
    go_ret2
    exact ⟨zs, HC.out, HV.out, HL.out, .inr ⟨by omega, rfl⟩⟩

set_option maxHeartbeats 1000000 in
set_option maxRecDepth 100000 in
theorem sub21 (a b : Option Addr) (ca cb : Nat) (za zb : List Int) (w : World) (ha : Lie w a za) (hb : Lie w b zb) (ra : Nt.Rng za) (rb : Nt.Rng zb) (pa : mayB za = true) (pb : mayB zb = true) (hv : Nt.val zb ≤ Nt.val za) :
    Calls Try.prog 21 #[.slice a za.length ca, .slice b zb.length cb] w fun e w' => ∃ v zs, e = .returned (.tuple #[v, .int .i64 0]) ∧ Own w.heap.size w' v zs ∧ Nt.Can zs ∧ Nt.val zs = Nt.val za - Nt.val zb ∧ Below w.heap.size w w' := by
  have la := (may_can ra pa).2
  have lb := (may_can rb pb).2
  have hl : zb.length ≤ za.length := (Nt.can_len (may_can rb pb).1 _).1 (by have := (Nt.val_bd ra).2; omega)
  have hsg : 0 ≤ sgn (Nt.val za) (Nt.val zb) := by unfold sgn; split <;> (try split) <;> omega
  have HM := Hide.mk (allMay_new a b ca cb za zb w ha hb (by unfold maxLen; omega) (by unfold maxLen; omega) true (by rw [pa, pb]; rfl))
  have HC := fun W (h : Below w.heap.size w W) => Hide.mk (compare38 a b ca cb za zb W (ha.below h (Nat.le_refl _)) (hb.below h (Nat.le_refl _)) (may_can ra pa).1 (may_can rb pb).1 (by unfold maxLen; omega))
  have HS := fun W (h : Below w.heap.size w W) => Hide.mk (dif41 a b ca cb za zb W (ha.below h (Nat.le_refl _)) (hb.below h (Nat.le_refl _)) ra rb hl hv (by omega))
  clear ha hb ra rb pa pb hv hl
  generalize sgn (Nt.val za) (Nt.val zb) = sg at *
  go_enter Try.func21, Try.ntmps21
  go_wp2_with fail
  refine HM.out.mono ?_
  rintro e w' ⟨rfl, rfl⟩
  have hb1 := below_alloc w (.cells #[.slice a za.length ca, .slice b zb.length cb] 22)
  go_wp2_with fail
  refine (HC _ hb1).out.mono ?_
  rintro e w2 ⟨rfl, hbel2⟩
  have hb2 := below_then hb1 hbel2
  clear hb1 hbel2
  go_wp2_with fail
  refine (HS _ hb2).out.mono ?_
  rintro e w3 ⟨v, zs, rfl, hown, hcan, hval, hbel⟩
  have HO := Hide.mk (hown.mono hb2.size)
  have HL := Hide.mk (below_then hb2 hbel)
  clear hown hbel hb2
  go_wp2
  go_ret2
  exact ⟨v, zs, rfl, HO.out, hcan, hval, HL.out⟩

set_option maxHeartbeats 1000000 in
set_option maxRecDepth 100000 in
theorem cmp19 (a b : Option Addr) (ca cb : Nat) (za zb : List Int) (w : World) (ha : Lie w a za) (hb : Lie w b zb) (ra : Nt.Rng za) (rb : Nt.Rng zb) (pa : mayB za = true) (pb : mayB zb = true) :
    Calls Try.prog 19 #[.slice a za.length ca, .slice b zb.length cb] w fun e w' => e = .returned (.tuple #[.int .i64 (sgn (Nt.val za) (Nt.val zb)), .int .i64 0]) ∧ Below w.heap.size w w' := by
  have la := (may_can ra pa).2
  have lb := (may_can rb pb).2
  have HM := Hide.mk (allMay_new a b ca cb za zb w ha hb (by unfold maxLen; omega) (by unfold maxLen; omega) true (by rw [pa, pb]; rfl))
  have HC := fun W (h : Below w.heap.size w W) => Hide.mk (compare38 a b ca cb za zb W (ha.below h (Nat.le_refl _)) (hb.below h (Nat.le_refl _)) (may_can ra pa).1 (may_can rb pb).1 (by unfold maxLen; omega))
  clear ha hb ra rb pa pb
  generalize sgn (Nt.val za) (Nt.val zb) = sg at *
  go_enter Try.func19, Try.ntmps19
  go_wp2_with fail
  refine HM.out.mono ?_
  rintro e w' ⟨rfl, rfl⟩
  have hb1 := below_alloc w (.cells #[.slice a za.length ca, .slice b zb.length cb] 22)
  go_wp2_with fail
  refine (HC _ hb1).out.mono ?_
  rintro e w2 ⟨rfl, hbel2⟩
  have hb2 := below_then hb1 hbel2
  clear hb1 hbel2
  go_wp2
  go_ret2
  exact ⟨rfl, hb2⟩
end Go.Proofs.Ytcjmamlffbhnlaa
