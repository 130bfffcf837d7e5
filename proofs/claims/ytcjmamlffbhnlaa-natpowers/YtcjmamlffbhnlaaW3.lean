import Derived.Test.YtcjmamlffbhnlaaW2
namespace Go.Proofs.Ytcjmamlffbhnlaa
open Go.RowKit
set_option linter.unusedVariables false
theorem getD_eq_of_same {za zb : List Int} (h : ∀ j, j < za.length → za.getD j 0 = zb.getD j 0) (hl : za.length = zb.length) : za = zb := by
  refine List.ext_getElem hl (fun i hi hi' => ?_)
  have := h i hi
  simpa [List.getD_eq_getElem?_getD, hi, hi'] using this

set_option maxHeartbeats 1000000 in
theorem same15 (a b : Option Addr) (ca cb : Nat) (za zb : List Int) (w : World) (ha : Lie w a za) (hb : Lie w b zb) (hm : za.length ≤ maxLen) :
    Calls Try.prog 15 #[.slice a za.length ca, .slice b zb.length cb] w fun e w' => e = .returned (.bool (decide (za = zb))) ∧ Below w.heap.size w w' := by
  unfold maxLen at hm
  by_cases hne : za.length = zb.length
  · have h1 : ((za.length : Int) != (zb.length : Int)) = false := by simp [hne]
    have HL := Hide.mk hne
    have HA := Hide.mk ha
    have HB := Hide.mk hb
    clear hne ha hb
    go_enter Try.func15, Try.ntmps15
    go_wp2
    go_loopw [5] (fun i wr => ∃ k : Nat, k ≤ za.length ∧ i = .int .i64 k ∧ (∀ j, j < k → za.getD j 0 = zb.getD j 0) ∧ Below w.heap.size w wr) (fun i _ => za.length - (intOf i).toNat)
    case atStart => exact ⟨0, Nat.zero_le _, rfl, fun j hj => by omega, Below.refl _ _⟩
    case round =>
      obtain ⟨k, hk, rfl, hsame, hbel⟩ := hrel
      have HS := Hide.mk hsame
      clear hsame
      by_cases hlt : k < za.length
      · rcases HA.out with rfl | ⟨ba, oa, rfl, hac⟩
        · simp at hlt
        rcases HB.out with rfl | ⟨bb, ob, rfl, hbc⟩
        · have := HL.out; simp only [List.length_nil] at this; omega
        have hlt2 : k < zb.length := by rw [← HL.out]; exact hlt
        have hca : wr.cell? ⟨ba, oa + k, none⟩ = some (.int .u32 (za.getD k 0)) := by
          have := hac k hlt
          rw [hbel.cell (World.block_lt_of_cell? w _ this)]; exact this
        have hcb : wr.cell? ⟨bb, ob + k, none⟩ = some (.int .u32 (zb.getD k 0)) := by
          have := hbc k hlt2
          rw [hbel.cell (World.block_lt_of_cell? w _ this)]; exact this
        clear hac hbc
        generalize hx : za.getD k 0 = x at *
        generalize hy : zb.getD k 0 = y at *
        have HX := Hide.mk hx
        have HY := Hide.mk hy
        clear hx hy
        by_cases hxy : x = y
        · have hb1 : (x != y) = false := by simp [hxy]
          have HXY := Hide.mk hxy
          clear hxy
          go_wp2
          go_region
          all_goals go_wp2
          go_roundw
          case rel =>
            refine ⟨k + 1, by omega, by go_num, fun j hj => ?_, hbel.drew⟩
            by_cases e : j = k
            · subst e; rw [HX.out, HY.out]; exact HXY.out
            · exact HS.out j (by omega)
          case measure => simp [intOf]; omega
        · have hb1 : (x != y) = true := by simp [hxy]
          go_wp2
          go_region
          all_goals go_wp2
          go_ret
          have hn : za ≠ zb := fun e => hxy (by rw [← HX.out, ← HY.out, e])
          exact ⟨by simp [hn], hbel.drew⟩
      · go_wp2
        go_ret
        refine ⟨?_, hbel⟩
        have : za = zb := getD_eq_of_same (fun j hj => HS.out j (by omega)) HL.out
        simp [this]
  · have h1 : ((za.length : Int) != (zb.length : Int)) = true := by simp; omega
    have h2 : za ≠ zb := fun e => hne (by rw [e])
    go_enter Try.func15, Try.ntmps15
    go_wp2
    go_ret
    exact ⟨by simp [h2], Below.refl _ _⟩

def sgn (x y : Int) : Int := if x < y then -1 else if y < x then 1 else 0
theorem sgn_bd (x y : Int) : -1 ≤ sgn x y ∧ sgn x y ≤ 1 := by unfold sgn; split <;> (try split) <;> omega

set_option maxHeartbeats 1000000 in
theorem cmp51 (x y : Int) (w : World) : Calls Try.prog 51 #[.int .i64 x, .int .i64 y] w fun e w' => e = .returned (.int .i64 (sgn x y)) ∧ w = w' := by
  unfold sgn
  rcases Int.lt_trichotomy x y with h | h | h
  · go_enter Try.func51, Try.ntmps51
    go_wp2
    go_ret
    exact ⟨by simp, rfl⟩
  · subst h
    go_enter Try.func51, Try.ntmps51
    go_wp2
    go_ret
    exact ⟨by simp, rfl⟩
  · have h' : ¬ x < y := by omega
    go_enter Try.func51, Try.ntmps51
    go_wp2
    go_ret
    exact ⟨by simp, rfl⟩
set_option maxHeartbeats 1000000 in
theorem cmp52 (x y : Int) (w : World) : Calls Try.prog 52 #[.int .u32 x, .int .u32 y] w fun e w' => e = .returned (.int .i64 (sgn x y)) ∧ w = w' := by
  unfold sgn
  rcases Int.lt_trichotomy x y with h | h | h
  · go_enter Try.func52, Try.ntmps52
    go_wp2
    go_ret
    exact ⟨by simp, rfl⟩
  · subst h
    go_enter Try.func52, Try.ntmps52
    go_wp2
    go_ret
    exact ⟨by simp, rfl⟩
  · have h' : ¬ x < y := by omega
    go_enter Try.func52, Try.ntmps52
    go_wp2
    go_ret
    exact ⟨by simp, rfl⟩
end Go.Proofs.Ytcjmamlffbhnlaa
