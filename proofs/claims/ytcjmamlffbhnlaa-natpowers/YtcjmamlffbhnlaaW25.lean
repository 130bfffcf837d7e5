import Derived.Test.YtcjmamlffbhnlaaW24
namespace Go.Proofs.Ytcjmamlffbhnlaa
open Go.RowKit
set_option linter.unusedVariables false
theorem guess_fits {zv T0 : List Int} {m : Nat} {q : Int} (hl : zv.length = m + 2) (rv : Nt.Rng zv) (rT : Nt.Rng T0) (hh : 2147483648 ≤ zv.getD (m + 1) 0) (hU : Nt.vp T0 (m + 3) < Nt.val zv * 4294967296)
    (h : Guess (zv.getD (m + 1) 0) (zv.getD m 0) (T0.getD (m + 2) 0) (T0.getD (m + 1) 0) (T0.getD m 0) q) :
    -Nt.val zv < Nt.vp T0 (m + 3) - q * Nt.val zv ∧ Nt.vp T0 (m + 3) - q * Nt.val zv < Nt.val zv := by
  have eV : Nt.val zv = Nt.vp zv m + (zv.getD (m + 1) 0 * 4294967296 + zv.getD m 0) * 4294967296 ^ m := by
    unfold Nt.val
    rw [hl, Nt.vp_step, Nt.vp_step, Nt.pw_succ]
    generalize (4294967296 : Int) ^ m = M
    grind
  have eU : Nt.vp T0 (m + 3) = Nt.vp T0 m + ((T0.getD (m + 2) 0 * 4294967296 + T0.getD (m + 1) 0) * 4294967296 + T0.getD m 0) * 4294967296 ^ m := by
    rw [Nt.vp_step, Nt.vp_step, Nt.vp_step, Nt.pw_succ (m + 1), Nt.pw_succ m]
    generalize (4294967296 : Int) ^ m = M
    grind
  have bv := Nt.vp_bd rv m
  have bu := Nt.vp_bd rT m
  have hM := Nt.pw_pos m
  have hn := rv m
  obtain ⟨q0, q1, le, mx⟩ := h
  generalize Nt.val zv = V at *
  generalize Nt.vp T0 (m + 3) = U at *
  generalize Nt.vp zv m = v at *
  generalize Nt.vp T0 m = u at *
  generalize (T0.getD (m + 2) 0 * 4294967296 + T0.getD (m + 1) 0) * 4294967296 + T0.getD m 0 = U3 at *
  generalize hV2 : zv.getD (m + 1) 0 * 4294967296 + zv.getD m 0 = V2 at *
  generalize (4294967296 : Int) ^ m = M at *
  have hV2b : 4294967296 ≤ V2 := by omega
  constructor
  · -- q V < U + V
    have h1 : q * V2 * M ≤ U3 * M := Int.mul_le_mul_of_nonneg_right le (by omega)
    have h2 : q * v ≤ 4294967295 * v := Int.mul_le_mul_of_nonneg_right q1 bv.1
    have h3 : 4294967296 * M ≤ V2 * M := Int.mul_le_mul_of_nonneg_right hV2b (by omega)
    have e : q * V = q * v + q * V2 * M := by rw [eV]; grind
    generalize q * v = a1 at *
    generalize q * V2 * M = a2 at *
    generalize U3 * M = a3 at *
    generalize V2 * M = a4 at *
    omega
  · by_cases c : U - q * V < V
    · exact c
    · exfalso
      have c2 : (q + 1) * V ≤ U := by rw [Int.add_mul]; omega
      rcases mx with mx | mx
      · have hq : q = 4294967295 := by omega
        subst hq
        have : (4294967295 + 1 : Int) * V = V * 4294967296 := by omega
        omega
      · have h1 : (U3 + 1) * M ≤ (q + 1) * V2 * M := Int.mul_le_mul_of_nonneg_right (by omega) (by omega)
        have h2 : 0 ≤ (q + 1) * v := Int.mul_nonneg (by omega) bv.1
        have e : (q + 1) * V = (q + 1) * v + (q + 1) * V2 * M := by rw [eV]; grind
        rw [Int.add_mul] at h1
        generalize (q + 1) * v = a1 at *
        generalize (q + 1) * V2 * M = a2 at *
        generalize U3 * M = a3 at *
        omega

/-- The next digit of a quotient: what is left stands in T. -/
structure Next (T0 zv T : List Int) (q : Int) : Prop where
  q0 : 0 ≤ q
  q1 : q < 4294967296
  len : T.length = T0.length
  rng : Nt.Rng T
  eq : Nt.vp T (zv.length + 1) = Nt.vp T0 (zv.length + 1) - q * Nt.val zv
  lt : Nt.vp T (zv.length + 1) < Nt.val zv
  rest : ∀ j, zv.length + 1 ≤ j → T.getD j 0 = T0.getD j 0

theorem grown_of_below {w w' : World} {row : Option Nat} (h : Below w.heap.size w w') : w.grownBy w' row := ⟨h.os, h.tape, h.output, h.size, fun k hk _ => h.block k hk⟩

set_option maxHeartbeats 4000000 in
theorem next67 (g off cu bb bo cb m : Nat) (P T0 zv : List Int) (w : World) (hblk0 : Blk w g (P ++ T0)) (hP : P.length = off) (hz : zv.length = m + 2) (hT : m + 3 ≤ T0.length) (hs : (P ++ T0).length ≤ 1000000) (hb : Lie w (some ⟨bb, bo, none⟩) zv)
    (hne : bb ≠ g) (rT : Nt.Rng T0) (rv : Nt.Rng zv) (hh : 2147483648 ≤ zv.getD (m + 1) 0) (hU : Nt.vp T0 (m + 3) < Nt.val zv * 4294967296) :
    Calls Try.prog 67 #[.slice (some ⟨g, off, none⟩) (m + 3) cu, .slice (some ⟨bb, bo, none⟩) (m + 2) cb] w fun e w' => ∃ T q, e = .returned (.int .u32 q) ∧ Blk w' g (P ++ T) ∧ Next T0 zv T q ∧ w.grownBy w' (some g) := by
  have hls : off + T0.length ≤ 1000000 := by rw [List.length_append, hP] at hs; exact hs
  have hpl : (P ++ T0).length = off + T0.length := by rw [List.length_append, hP]
  have c1 : w.cell? ⟨bb, bo + (m + 1), none⟩ = _ := lie_cell hb rfl (i := m + 1) (by omega)
  have c2 : w.cell? ⟨bb, bo + m, none⟩ = _ := lie_cell hb rfl (i := m) (by omega)
  have c3 := hblk0.cell (j := off + (m + 2)) (by omega)
  have c4 := hblk0.cell (j := off + (m + 1)) (by omega)
  have c5 := hblk0.cell (j := off + m) (by omega)
  rw [getD_pre hP] at c3 c4 c5
  have hab : T0.getD (m + 2) 0 ≤ zv.getD (m + 1) 0 := by
    -- else T0 were not below v times the base
    by_cases c : T0.getD (m + 2) 0 ≤ zv.getD (m + 1) 0
    · exact c
    · exfalso
      have e1 : Nt.val zv = Nt.vp zv (m + 1) + zv.getD (m + 1) 0 * 4294967296 ^ (m + 1) := by unfold Nt.val; rw [hz, Nt.vp_step]
      have e2 : Nt.vp T0 (m + 3) = Nt.vp T0 (m + 2) + T0.getD (m + 2) 0 * (4294967296 ^ (m + 1) * 4294967296) := by rw [Nt.vp_step, Nt.pw_succ]
      have b1 := Nt.vp_bd rv (m + 1)
      have b2 := Nt.vp_bd rT (m + 2)
      have hM := Nt.pw_pos (m + 1)
      generalize (4294967296 : Int) ^ (m + 1) = M at *
      have h1 : (zv.getD (m + 1) 0 + 1) * (M * 4294967296) ≤ T0.getD (m + 2) 0 * (M * 4294967296) := Int.mul_le_mul_of_nonneg_right (by omega) (by omega)
      have e3 : (zv.getD (m + 1) 0 + 1) * (M * 4294967296) = zv.getD (m + 1) 0 * M * 4294967296 + M * 4294967296 := by grind
      rw [e3] at h1
      rw [e1, e2] at hU
      generalize zv.getD (m + 1) 0 * M = a1 at *
      generalize T0.getD (m + 2) 0 * (M * 4294967296) = a2 at *
      omega
  have G := Hide.mk (guess70 g off cu bb bo cb m _ _ _ _ _ w c1 c2 c3 c4 c5 (by omega) hh (rv (m + 1)).2 (rv m).1 (rv m).2 (rT (m + 2)).1 hab (rT (m + 1)).1 (rT (m + 1)).2 (rT m).1 (rT m).2)
  have HG := fun q h => Hide.mk (guess_fits (q := q) hz rv rT hh hU h)
  have HK := fun W (h : Below w.heap.size w W) q h0 h1 => Hide.mk (take71 g off cu (some ⟨bb, bo, none⟩) cb P T0 zv q W (hblk0.below h hblk0.lt) hP (by omega) hs (hb.below h (Nat.le_refl _)) (fun _ x hx => by cases hx; exact hne) rT rv h0 h1)
  have HV := fun W T (hl : T.length = T0.length) hr hk (hli : Lie W (some ⟨bb, bo, none⟩) zv) => Hide.mk (give72 g off cu (some ⟨bb, bo, none⟩) cb P T zv W hk hP (by omega) (by rw [List.length_append, hl, hP]; exact hls) hli (fun _ x hx => by cases hx; exact hne) hr rv)
  have HL := Hide.mk hb
  have HZ := Hide.mk hz
  have RV := Hide.mk (Nt.val_bd rv)
  have UB := Hide.mk (Nt.vp_bd rT (m + 3)).1
  rw [hz] at HK HV
  clear c1 c2 c3 c4 c5 hab hblk0 hb rT rv hh hU hpl hs hz
  go_enter Try.func67, Try.ntmps67
  go_wp2_with fail
  refine G.out.mono ?_
  rintro e w1 ⟨q, rfl, hgu, hb1⟩
  have hq0 := hgu.q0
  have hq1 := hgu.q1
  have HF := HG q hgu
  have HKq := HK w1 hb1 q hq0 (by omega)
  clear hgu HG HK G
  go_wp2_with fail
  refine HKq.out.mono ?_
  rintro e w2 ⟨T, f, rfl, hk2, hl2, hr2, he2, hj2, hg2⟩
  have HB2 : Hide (w.grownBy w2 (some g)) := ⟨grown_trans (grown_of_below hb1) hg2⟩
  have HL2 := Hide.mk ((HL.out.below hb1 (Nat.le_refl _)).grown hg2 (fun _ x hx => by cases hx; exact hne))
  have HE := Hide.mk he2
  have HJ := Hide.mk hj2
  have HK2 := Hide.mk hk2
  have HR2 := Hide.mk hr2
  have HN2 := Hide.mk hl2
  clear hk2 hr2 he2 hj2 hg2 hb1 hl2 HKq HL
  have hb3 := Nt.vp_bd HR2.out (m + 3)
  have HB3 := Hide.mk hb3
  clear hb3
  cases f
  · go_wp2_with fail
    go_ret
    refine ⟨T, q, rfl, HK2.out, ⟨hq0, by omega, HN2.out, HR2.out, ?_, ?_, ?_⟩, HB2.out⟩
    · rw [HZ.out]; have := HE.out; simp only [Bool.false_eq_true, if_false] at this; rw [this]; omega
    · rw [HZ.out]; have := HE.out; simp only [Bool.false_eq_true, if_false] at this; rw [this, show m + 2 + 1 = m + 3 from rfl]; have := HF.out; omega
    · rw [HZ.out]; exact HJ.out
  · have HVq := HV w2 T HN2.out HR2.out HK2.out HL2.out
    have hqp : 1 ≤ q := by
      have h1 := HE.out
      have h2 := HF.out
      have h3 := HB3.out
      have h4 := RV.out
      by_cases c : q = 0
      · subst c
        exfalso
        simp only [if_true] at h1
        have h5 := UB.out
        rw [show m + 2 + 1 = m + 3 from rfl] at h1
        generalize (4294967296 : Int) ^ (m + 3) = X at *
        omega
      · omega
    clear HV
    go_wp2_with fail
    refine HVq.out.mono ?_
    rintro e w3 ⟨T2, f2, rfl, hk3, hl3, hr3, hf0, hf1, he3, hj3, hg3⟩
    have HFIN : Hide (Next T0 zv T2 (q - 1) ∧ Blk w3 g (P ++ T2) ∧ w.grownBy w3 (some g)) := ⟨by
      have h1 := HE.out
      have h2 := HF.out
      have h3 := HB3.out
      have h4 := RV.out
      have h5 := Nt.vp_bd hr3 (m + 3)
      simp only [if_true] at h1
      have e : m + 2 + 1 = m + 3 := rfl
      rw [e] at h1 he3
      have hf : f2 = 1 := by
        by_cases c : f2 = 0
        · exfalso
          subst c
          rw [h1] at he3
          generalize (4294967296 : Int) ^ (m + 3) = X at *
          omega
        · omega
      subst hf
      have he4 : Nt.vp T2 (m + 3) = Nt.vp T0 (m + 3) - (q - 1) * Nt.val zv := by
        rw [he3, h1, Int.sub_mul]
        generalize (4294967296 : Int) ^ (m + 3) = X at *
        omega
      refine ⟨⟨by omega, by omega, by rw [hl3]; exact HN2.out, hr3, by rw [HZ.out]; exact he4, ?_, ?_⟩, hk3, grown_trans HB2.out hg3⟩
      · rw [HZ.out, e, he4, Int.sub_mul]
        generalize q * Nt.val zv = y at *
        omega
      · rw [HZ.out]; intro j hj; rw [hj3 j hj]; exact HJ.out j hj⟩
    clear hk3 hr3 he3 hj3 hg3 hl3 HVq
    go_wp2
    go_ret
    exact ⟨T2, q - 1, by go_num, HFIN.out.2.1, HFIN.out.1, HFIN.out.2.2⟩
end Go.Proofs.Ytcjmamlffbhnlaa
