import Derived.Test.YtiamdmfhkhlppaaDoorWJ
namespace Go.Proofs.YtiamdmfhkhlppaaDoor
open Go.RowKit Go.Wd Go.Box
set_option linter.unusedVariables false
set_option maxRecDepth 3000
theorem sz_pos {b : Bool} {x : Int} (h : Ok b x) (hn : ¬ sg b ≤ x) : sz b x = x := Int.emod_eq_of_lt h.1 (by omega)
theorem sz_neg {b : Bool} {x : Int} (h : Ok b x) (hn : sg b ≤ x) : sz b x = x - sg b := by
  have := h.2
  unfold sz
  rw [← Int.sub_emod_right]
  exact Int.emod_eq_of_lt (by omega) (by omega)
theorem sd_same {b : Bool} {x : Int} (h : Ok b x) : sd b (sz b x) (ng b x) = x := by
  unfold sd ng
  by_cases c : sg b ≤ x
  · rw [decide_eq_true c, sz_neg h c]; simp
  · rw [decide_eq_false c, sz_pos h c]; rfl
theorem sz_fields (b : Bool) (x : Int) : sz b x = fd b x * fr b + fn b x := by
  cases b <;> simp only [sz, fd, fn, sg, fr] <;> omega
theorem fin_fd {b : Bool} {x : Int} (h : sz b x < inf b) : fd b x < tp b := by
  have := sz_bd b x
  cases b <;> simp only [sz, fd, sg, fr, inf, tp] at * <;> omega
theorem fd_tp (b : Bool) (x : Int) : fd b x ≤ tp b := by
  have := sz_bd b x
  cases b <;> simp only [sz, fd, sg, fr, tp] at * <;> omega
/-- What the fields make is taken apart into them. -/
theorem apart {b n : Bool} {E F : Int} (h0 : 0 ≤ E) (h1 : E ≤ tp b) (h2 : 0 ≤ F) (h3 : F < fr b) :
    Ok b (sd b (E * fr b + F) n) ∧ ng b (sd b (E * fr b + F) n) = n ∧ fd b (sd b (E * fr b + F) n) = E ∧ fn b (sd b (E * fr b + F) n) = F := by
  cases b <;> cases n <;> simp only [Ok, sd, ng, fd, fn, tp, fr, sg, if_true, Bool.false_eq_true, if_false, decide_eq_true_eq, decide_eq_false_iff_not] at * <;> omega
theorem un_pos {b : Bool} {x : Int} (h : sz b x ≠ 0) : 0 < un b x := by
  have h1 := fn_bd b x
  have h2 := sz_fields b x
  have h3 := fr_pos b
  have h4 := fd_bd b x
  unfold un
  by_cases c : fd b x = 0
  · rw [if_pos c]; rw [c, Int.zero_mul] at h2; omega
  · rw [if_neg c]; omega
/-- The value of a word, told. -/
theorem wValueE (b : Bool) (x : Int) (h : Ok b x) (hf : sz b x < inf b) (w : World) (hT : Tab w) :
    Calls Tryd.prog 56 #[.int .u8 (fm b), .int .u64 x] w fun e w' => ∃ n zs ex a c, e = .returned (.tuple #[dV n a zs.length c ex, .int .i64 0]) ∧ DG n zs ex ∧ Lie w' a zs ∧ Below w.heap.size w w' ∧
      ((un b x = 0 ∧ zs = []) ∨ (0 < zs.length ∧ n = ng b x ∧ ∃ t : Nat, ex = ue b x + t ∧ Nt.val zs * 2 ^ t = un b x)) := by
  have hu := un_bd b x
  have hx := ue_bd b x
  have hK := KK_eq
  refine (wValueR b x h hf w hT).mono ?_
  rintro e w' ⟨n, a, k, c, ex, code, rfl, hv⟩
  have habs : ((sv (ng b x) (un b x)).natAbs : Int) = un b x := by
    cases ng b x
    · rw [sv_f]; omega
    · rw [sv_t]; omega
  rcases hv.all with ⟨hs, rfl, rfl, rfl, rfl, rfl, rfl⟩ | ⟨hs, t, ht, hh⟩
  · refine ⟨false, [], 0, none, 0, rfl, zeroDG, .inl rfl, hv.bel, .inl ⟨?_, rfl⟩⟩
    cases hq : ng b x <;> rw [hq] at hs <;> simp only [sv_f, sv_t] at hs <;> omega
  · rw [habs] at ht hh
    have e2 := low_half ht
    have hp := p2pos t
    have h5 : 1 ≤ un b x / 2 ^ t := by
      have := Int.ediv_nonneg hu.1 (Int.le_of_lt hp)
      have := ht.one
      omega
    have h6 : 1 * 2 ^ t ≤ un b x / 2 ^ t * 2 ^ t := Int.mul_le_mul_of_nonneg_right h5 (Int.le_of_lt hp)
    have h7 : t < 64 := p2lt (by have : (2 : Int) ^ 64 = 18446744073709551616 := by decide
                                 omega)
    have h8 : un b x / 2 ^ t ≤ un b x := Int.ediv_le_self _ hu.1
    have h9 := small_pow (x := un b x) (by have : (4294967296 : Int) ^ 2 = 18446744073709551616 := by decide
                                           omega)
    rcases hh with ⟨j1, j2, rfl, rfl, rfl, zs, rfl, j3, j4⟩ | ⟨j1, _⟩ | ⟨_, j1, _⟩
    · obtain ⟨a2, c2, he, _, _, hl⟩ := j4.lie
      simp only [Value.slice.injEq, true_and] at he
      obtain ⟨rfl, rfl⟩ := he
      have hz := j3.ne (show 0 < un b x / 2 ^ t by omega)
      refine ⟨_, zs, _, a, c, rfl, ⟨j3.can, j3.len, .inr ⟨hz, by rw [j3.val]; exact ht.one, by omega, by omega⟩⟩, hl, hv.bel, .inr ⟨hz, ?_, t, rfl, by rw [j3.val]; exact e2.symm⟩⟩
      have hne : un b x ≠ 0 := by omega
      cases hq : ng b x
      · rw [sv_f]; exact decide_eq_false (by omega)
      · rw [sv_t]; exact decide_eq_true (by omega)
    · omega
    · omega
theorem uu_back {b : Bool} {x : Int} {M : Int} {B t : Nat} (hB : BitLen M B) (hM : 0 < M) (hu : M * 2 ^ t = un b x) : uu b (B + (ue b x + t)) = ue b x := by
  have h1 := hB.up hM t
  rw [hu] at h1
  have hp : 0 < un b x := by
    have := Int.mul_pos hM (p2pos t)
    omega
  have h2 : Bits (un b x) (B + t) := by
    rcases h1 with ⟨h1, _⟩ | ⟨_, h1⟩
    · omega
    · exact h1
  have hf := fn_bd b x
  have hd := fd_bd b x
  have hF : ∃ F : Nat, (F : Int) = fc b ∧ (2 : Int) ^ F = fr b := by
    cases b
    · exact ⟨23, rfl, by decide⟩
    · exact ⟨52, rfl, by decide⟩
  obtain ⟨F, hF1, hF2⟩ := hF
  unfold uu ue
  by_cases c : fd b x = 0
  · have hue : un b x = fn b x := by unfold un; rw [if_pos c]
    have h3 : B + t ≤ F := by
      have h4 := h2.le
      rw [hue] at h4
      have h5 : (2 : Int) ^ (B + t) < 2 ^ (F + 1) := by rw [p2succ, hF2]; omega
      have := p2lt h5
      omega
    rw [c]
    omega
  · have hue : un b x = fr b + fn b x := by unfold un; rw [if_neg c]
    have h3 : B + t = F + 1 := h2.unique ⟨by rw [p2succ, hF2, hue]; omega, by rw [p2succ, hF2, hue]; omega⟩
    omega
theorem word_back {b : Bool} {x : Int} (h : Ok b x) : sd b ((ue b x - lo b) * fr b + un b x) (ng b x) = x := by
  have h1 : (ue b x - lo b) * fr b + un b x = sz b x := by
    rw [sz_fields]
    have hd := fd_bd b x
    unfold ue un
    by_cases c : fd b x = 0
    · rw [if_pos c, c, show max ((0 : Int) - 1) 0 + lo b - lo b = 0 by omega]
    · rw [if_neg c, show max (fd b x - 1) 0 + lo b - lo b = fd b x - 1 by omega, Int.sub_mul]; omega
  rw [h1]
  exact sd_same h
theorem lKnown (w : World) :
    Calls Tryd.prog 58 #[] w fun e w' => e = .returned (.bool true) ∧ Below w.heap.size w w' := by
  have HJ := fun w => Hide.mk (wJoin false false 127 0 (by decide) (by decide) (by decide) (by decide) w)
  have HS := fun w => Hide.mk (wSplit true 13832806255468478465 (by unfold Ok; decide) w)
  go_enter Tryd.func58, Tryd.ntmps58
  go_wp2_with fail
  refine (HJ _).out.mono ?_
  rintro e w2 ⟨rfl, h2⟩
  rw [show sd false (127 * fr false + 0) false = 1065353216 from rfl]
  go_wp2_with fail
  refine (HS _).out.mono ?_
  rintro e w3 ⟨rfl, h3⟩
  rw [show ng true 13832806255468478465 = true from rfl, show fd true 13832806255468478465 = 1023 from rfl, show fn true 13832806255468478465 = 2251799813685249 from rfl]
  have B3 := (((Bx.nil w).keep h2).keep h3).push (FO true 1023 2251799813685249)
  clear HJ HS h2 h3
  go_wp2
  go_ret
  exact ⟨rfl, B3.bel⟩
end Go.Proofs.YtiamdmfhkhlppaaDoor
