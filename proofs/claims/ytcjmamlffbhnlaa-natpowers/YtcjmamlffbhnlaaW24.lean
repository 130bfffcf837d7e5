import Derived.Test.YtcjmamlffbhnlaaW23
namespace Go.Proofs.Ytcjmamlffbhnlaa
open Go.RowKit
set_option linter.unusedVariables false
/-- A digit that is guessed from three digits by two: what the loop keeps. -/
structure GuInv (hi nx a b c q l : Int) : Prop where
  eq : q * hi + l = a * 4294967296 + b
  q0 : 0 ≤ q
  l0 : 0 ≤ l
  mx : 4294967295 < q + 1 ∨ (a * 4294967296 + b) * 4294967296 + c < (q + 1) * (hi * 4294967296 + nx)
theorem GuInv.start {hi nx a b c : Int} (hh : 2147483648 ≤ hi) (hn : 0 ≤ nx) (ha : 0 ≤ a) (hb : 0 ≤ b) (hc : c < 4294967296) : GuInv hi nx a b c ((a * 4294967296 + b) / hi) ((a * 4294967296 + b) % hi) := by
  have h1 := Int.emod_add_mul_ediv (a * 4294967296 + b) hi
  have h2 := Int.emod_nonneg (a * 4294967296 + b) (show hi ≠ 0 by omega)
  have h3 := Int.emod_lt_of_pos (a * 4294967296 + b) (show 0 < hi by omega)
  have h4 : 0 ≤ (a * 4294967296 + b) / hi := Int.ediv_nonneg (by omega) (by omega)
  refine ⟨?_, h4, h2, .inr ?_⟩
  · rw [Int.mul_comm]; omega
  · generalize (a * 4294967296 + b) / hi = q at *
    have h5 : 0 ≤ (q + 1) * nx := Int.mul_nonneg (by omega) hn
    have h6 : (q + 1) * (hi * 4294967296 + nx) = (hi * q + hi) * 4294967296 + (q + 1) * nx := by grind
    rw [h6]
    generalize (q + 1) * nx = y at *
    generalize hi * q = z at *
    omega
theorem GuInv.down {hi nx a b c q l : Int} (h : GuInv hi nx a b c q l) (hq : 4294967295 < q ∨ l * 4294967296 + c < q * nx) (hq1 : 1 ≤ q) (hh : 0 ≤ hi) : GuInv hi nx a b c (q - 1) (l + hi) := by
  have he := h.eq
  have hl := h.l0
  refine ⟨by rw [Int.sub_mul]; omega, by omega, by omega, ?_⟩
  rw [show q - 1 + 1 = q by omega]
  rcases hq with hq | hq
  · exact .inl hq
  · refine .inr ?_
    rw [← he]
    have : q * (hi * 4294967296 + nx) = q * hi * 4294967296 + q * nx := by grind
    rw [this]
    generalize q * hi = z at *
    generalize q * nx = y at *
    omega
/-- What is told: the greatest digit that will do for the highest digits. -/
structure Guess (hi nx a b c q : Int) : Prop where
  q0 : 0 ≤ q
  q1 : q ≤ 4294967295
  le : q * (hi * 4294967296 + nx) ≤ (a * 4294967296 + b) * 4294967296 + c
  mx : 4294967295 < q + 1 ∨ (a * 4294967296 + b) * 4294967296 + c < (q + 1) * (hi * 4294967296 + nx)
theorem GuInv.done {hi nx a b c q l : Int} (h : GuInv hi nx a b c q l) (hq : q ≤ 4294967295) (hx : q * nx ≤ l * 4294967296 + c) : Guess hi nx a b c q := by
  refine ⟨h.q0, hq, ?_, h.mx⟩
  have he := h.eq
  rw [← he]
  have : q * (hi * 4294967296 + nx) = q * hi * 4294967296 + q * nx := by grind
  rw [this]
  generalize q * hi = z at *
  generalize q * nx = y at *
  omega
theorem GuInv.over {hi nx a b c q l : Int} (h : GuInv hi nx a b c q l) (hl : 4294967295 < l) (hh : 2147483648 ≤ hi) (hab : a ≤ hi) (hb : b < 4294967296) (hc : 0 ≤ c) (hn : 0 ≤ nx) (hn' : nx < 4294967296) : Guess hi nx a b c q := by
  have he := h.eq
  have hq0 := h.q0
  have hq : q < 4294967296 := by
    by_cases g : q < 4294967296
    · exact g
    · have h1 : 4294967296 * hi ≤ q * hi := Int.mul_le_mul_of_nonneg_right (by omega) (by omega)
      generalize q * hi = z at *
      omega
  have h2 : q * nx ≤ 4294967296 * 4294967296 := Int.mul_le_mul (by omega) (by omega) hn (by decide)
  exact h.done (by omega) (by omega)

set_option maxHeartbeats 4000000 in
theorem guess70 (g off cu bb bo cb m : Nat) (hi nx ua ub uc : Int) (w : World)
    (h1 : w.cell? ⟨bb, bo + (m + 1), none⟩ = some (.int .u32 hi)) (h2 : w.cell? ⟨bb, bo + m, none⟩ = some (.int .u32 nx))
    (h3 : w.cell? ⟨g, off + (m + 2), none⟩ = some (.int .u32 ua)) (h4 : w.cell? ⟨g, off + (m + 1), none⟩ = some (.int .u32 ub)) (h5 : w.cell? ⟨g, off + m, none⟩ = some (.int .u32 uc))
    (hm : m ≤ 1000000) (hh : 2147483648 ≤ hi) (hh' : hi < 4294967296) (hn : 0 ≤ nx) (hn' : nx < 4294967296) (ha : 0 ≤ ua) (ha' : ua ≤ hi) (hb : 0 ≤ ub) (hb' : ub < 4294967296) (hc : 0 ≤ uc) (hc' : uc < 4294967296) :
    Calls Try.prog 70 #[.slice (some ⟨g, off, none⟩) (m + 3) cu, .slice (some ⟨bb, bo, none⟩) (m + 2) cb] w fun e w' => ∃ q, e = .returned (.int .u32 q) ∧ Guess hi nx ua ub uc q ∧ Below w.heap.size w w' := by
  have hor := or64_hi ua ub hb hb' ha (by omega)
  have hne : (hi == 0) = false := by simp; omega
  have HS := Hide.mk (GuInv.start (hi := hi) (nx := nx) (a := ua) (b := ub) (c := uc) hh hn ha hb hc')
  go_enter Try.func70, Try.ntmps70
  go_wp2
  go_region
  all_goals go_wp2
  go_region
  all_goals go_wp2
  go_region
  all_goals go_wp2
  have hst := HS.out
  have hl0 := hst.l0
  have hl1 := Int.emod_lt_of_pos (ua * 4294967296 + ub) (show 0 < hi by omega)
  have hqt : (ua * 4294967296 + ub) / hi < 18446744073709551616 := by
    refine Int.ediv_lt_of_lt_mul (by omega) ?_
    omega
  have HQ := Hide.mk hqt
  clear hst hqt
  go_loopw [9, 10] (fun qv lv wr => ∃ q l : Int, qv = .int .u64 q ∧ lv = .int .u64 l ∧ q ≤ 18446744073709551615 ∧ l ≤ 4294967295 ∧ GuInv hi nx ua ub uc q l ∧ Below w.heap.size w wr) (fun _ lv _ => (4294967296 - intOf lv).toNat)
  case atStart => exact ⟨_, _, rfl, rfl, by have := HQ.out; omega, by omega, HS.out, (Below.refl _ _).drew.drew.drew⟩
  case round =>
    obtain ⟨q, l, rfl, rfl, hq, hl, hinv, hbel⟩ := hrel
    have h5r : wr.cell? ⟨g, off + m, none⟩ = some (.int .u32 uc) := by rw [hbel.cell (World.block_lt_of_cell? w _ h5)]; exact h5
    have HI := Hide.mk hinv
    have hq0 := hinv.q0
    have hl00 := hinv.l0
    clear hinv hl0 hl1 h1 h2 h3 h4 h5 hor
    have hor2 := or64_hi l uc hc hc' hl00 (by omega)
    by_cases hbig : 4294967295 < q
    · have HD := Hide.mk (HI.out.down (.inl hbig) (by omega) (by omega))
      by_cases hov : 4294967295 < l + hi
      · have HO := Hide.mk (HD.out.over hov hh ha' hb' hc hn hn')
        go_wp2
        go_ret
        exact ⟨q - 1, by have := HO.out.q1; have := HO.out.q0; go_num, HO.out, hbel⟩
      · go_wp2
        go_roundw
        case rel => exact ⟨q - 1, l + hi, rfl, rfl, by omega, by omega, HD.out, hbel⟩
        case measure => simp [intOf]; omega
    · have hnb := mul_bd hq0 (show q < 4294967296 by omega) hn hn'
      by_cases hbig2 : l * 4294967296 + uc < q * nx
      · have hq1 : 1 ≤ q := by
          by_cases g : q = 0
          · subst g; simp at hbig2; omega
          · omega
        have HD := Hide.mk (HI.out.down (.inr hbig2) hq1 (by omega))
        by_cases hov : 4294967295 < l + hi
        · have HO := Hide.mk (HD.out.over hov hh ha' hb' hc hn hn')
          go_wp2
          go_ret
          exact ⟨q - 1, by have := HO.out.q1; have := HO.out.q0; go_num, HO.out, hbel⟩
        · go_wp2
          go_roundw
          case rel => exact ⟨q - 1, l + hi, rfl, rfl, by omega, by omega, HD.out, hbel⟩
          case measure => simp [intOf]; omega
      · have HO := Hide.mk (HI.out.done (by omega) (by omega))
        go_wp2
        go_ret
        exact ⟨q, by have := HO.out.q1; have := HO.out.q0; go_num, HO.out, hbel⟩
end Go.Proofs.Ytcjmamlffbhnlaa
