import Derived.Test.YtdnghibkagcbcaaGreatDoorRoundSquaresPart9
import Derived.Test.YtdnghibkagcbcaaGreatDoorRoundSquaresPart12
namespace Go.Proofs.YtdnghibkagcbcaaGreatDoor
open Go.RowKit Go.Wd Go.Box
set_option linter.unusedVariables false
set_option maxRecDepth 3000
theorem rFrac (b : Bool) (w : World) :
    Calls Tryz.prog 54 #[.int .u8 (fm b)] w fun e w' => e = .returned (.int .i64 (fc b)) ∧ Below w.heap.size w w' := by
  cases b
  · rw [show fm false = 1 from rfl]
    go_enter Tryz.func54, Tryz.ntmps54
    go_wp2
    go_ret
    exact ⟨rfl, Below.refl _ _⟩
  · rw [show fm true = 2 from rfl]
    go_enter Tryz.func54, Tryz.ntmps54
    go_wp2
    go_ret
    exact ⟨rfl, Below.refl _ _⟩
theorem rMost (b : Bool) (w : World) :
    Calls Tryz.prog 88 #[.int .u8 (fm b)] w fun e w' => e = .returned (.int .i64 (tp b)) ∧ Below w.heap.size w w' := by
  cases b
  · rw [show fm false = 1 from rfl]
    go_enter Tryz.func88, Tryz.ntmps88
    go_wp2
    go_ret
    exact ⟨rfl, Below.refl _ _⟩
  · rw [show fm true = 2 from rfl]
    go_enter Tryz.func88, Tryz.ntmps88
    go_wp2
    go_ret
    exact ⟨rfl, Below.refl _ _⟩
theorem rSign (b : Bool) (w : World) :
    Calls Tryz.prog 30 #[.int .u8 (fm b)] w fun e w' => e = .returned (.int .u64 (sg b)) ∧ Below w.heap.size w w' := by
  cases b
  · rw [show fm false = 1 from rfl]
    go_enter Tryz.func30, Tryz.ntmps30
    go_wp2
    go_ret
    exact ⟨rfl, Below.refl _ _⟩
  · rw [show fm true = 2 from rfl]
    go_enter Tryz.func30, Tryz.ntmps30
    go_wp2
    go_ret
    exact ⟨rfl, Below.refl _ _⟩
theorem rIs (b : Bool) (w : World) :
    Calls Tryz.prog 50 #[.int .u8 (fm b)] w fun e w' => e = .returned (.bool true) ∧ Below w.heap.size w w' := by
  cases b
  · rw [show fm false = 1 from rfl]
    go_enter Tryz.func50, Tryz.ntmps50
    go_wp2
    go_ret
    exact ⟨rfl, Below.refl _ _⟩
  · rw [show fm true = 2 from rfl]
    go_enter Tryz.func50, Tryz.ntmps50
    go_wp2
    go_ret
    exact ⟨rfl, Below.refl _ _⟩
theorem rIs_bad (f : Int) (h : Bad f) (w : World) :
    Calls Tryz.prog 50 #[.int .u8 f] w fun e w' => e = .returned (.bool false) ∧ Below w.heap.size w w' := by
  have h1 : (f == 1) = false := beq_eq_false_iff_ne.2 h.1
  have h2 : (f == 2) = false := beq_eq_false_iff_ne.2 h.2
  go_enter Tryz.func50, Tryz.ntmps50
  go_wp2
  go_ret
  exact ⟨rfl, Below.refl _ _⟩
theorem rGood (b : Bool) (x : Int) (h : Ok b x) (w : World) :
    Calls Tryz.prog 32 #[.int .u8 (fm b), .int .u64 x] w fun e w' => e = .returned (.int .i64 0) ∧ Below w.heap.size w w' := by
  have h0 := h.1
  have h1 := h.2
  cases b
  · rw [show fm false = 1 from rfl]
    have h2 : x < 4294967296 := h1
    go_enter Tryz.func32, Tryz.ntmps32
    go_wp2
    go_ret
    exact ⟨rfl, Below.refl _ _⟩
  · rw [show fm true = 2 from rfl]
    go_enter Tryz.func32, Tryz.ntmps32
    go_wp2
    go_ret
    exact ⟨rfl, Below.refl _ _⟩
theorem u64_long {b : Bool} {x : Int} (h : 2 * sg b ≤ x) (hx : x < 18446744073709551616) : b = false ∧ 4294967296 ≤ x := by
  cases b <;> simp only [sg] at h
  · exact ⟨rfl, by omega⟩
  · omega
theorem rGood_err (f x c : Int) (h : GE f x c) (hx : x < 18446744073709551616) (w : World) :
    Calls Tryz.prog 32 #[.int .u8 f, .int .u64 x] w fun e w' => e = .returned (.int .i64 c) ∧ Below w.heap.size w w' := by
  rcases h with ⟨h, rfl⟩ | ⟨b, rfl, h, rfl⟩
  · have h1 : (f == 1) = false := beq_eq_false_iff_ne.2 h.1
    have h2 : (f == 2) = false := beq_eq_false_iff_ne.2 h.2
    go_enter Tryz.func32, Tryz.ntmps32
    go_wp2
    go_ret
    exact ⟨rfl, Below.refl _ _⟩
  · obtain ⟨rfl, h3⟩ := u64_long h hx
    rw [show fm false = 1 from rfl]
    go_enter Tryz.func32, Tryz.ntmps32
    go_wp2
    go_ret
    exact ⟨rfl, Below.refl _ _⟩
theorem rSplit (b : Bool) (x : Int) (h : Ok b x) (w : World) :
    Calls Tryz.prog 67 #[.int .u8 (fm b), .int .u64 x] w fun e w' => e = .returned (FV (ng b x) (fd b x) (fn b x)) ∧ Below w.heap.size w w' := by
  have h0 := h.1
  have h1 := h.2
  cases b
  · rw [show fm false = 1 from rfl]
    simp only [sg] at h1
    have B2 := ((Bx.nil w).push (FO (decide (2147483648 ≤ x)) (x % 2147483648 / 8388608) (x % 8388608))).push (FO (decide (2147483648 ≤ x)) (x % 2147483648 / 8388608) (x % 8388608))
    go_enter Tryz.func67, Tryz.ntmps67
    go_wp2
    refine bodyPost_ret (results_F1 rfl _ _ w.heap.size _ rfl B2.tail.head rfl) rfl ?_
    exact ⟨rfl, B2.bel⟩
  · rw [show fm true = 2 from rfl]
    simp only [sg] at h1
    have B2 := ((Bx.nil w).push (FO (decide (9223372036854775808 ≤ x)) (x % 9223372036854775808 / 4503599627370496) (x % 4503599627370496))).push (FO (decide (9223372036854775808 ≤ x)) (x % 9223372036854775808 / 4503599627370496) (x % 4503599627370496))
    go_enter Tryz.func67, Tryz.ntmps67
    go_wp2
    refine bodyPost_ret (results_F1 rfl _ _ w.heap.size _ rfl B2.tail.head rfl) rfl ?_
    exact ⟨rfl, B2.bel⟩
theorem cl_1 (b : Bool) (x : Int) : sz b x = 0 ↔ fd b x = 0 ∧ fn b x = 0 := by
  cases b <;> simp only [sz, fd, fn, sg, fr] <;> omega
theorem cl_2 (b : Bool) (x : Int) : sz b x < fr b ↔ fd b x = 0 := by
  have := sz_bd b x
  cases b <;> simp only [sz, fd, sg, fr] at * <;> omega
theorem cl_3 (b : Bool) (x : Int) : sz b x < inf b ↔ fd b x < tp b := by
  have := sz_bd b x
  cases b <;> simp only [sz, fd, sg, fr, inf, tp] at * <;> omega
theorem cl_4 (b : Bool) (x : Int) (h : ¬ fd b x < tp b) : sz b x = inf b ↔ fn b x = 0 := by
  have := sz_bd b x
  cases b <;> simp only [sz, fd, fn, sg, fr, inf, tp] at * <;> omega
set_option maxHeartbeats 1000000 in
theorem rClass (b : Bool) (x : Int) (h : Ok b x) (w : World) :
    Calls Tryz.prog 66 #[.int .u8 (fm b), .int .u64 x] w fun e w' => e = .returned (.int .u8 (cl b x)) ∧ Below w.heap.size w w' := by
  have k1 := cl_1 b x
  have k2 := cl_2 b x
  have k3 := cl_3 b x
  have k4 := cl_4 b x
  have HF := Hide.mk (fd_bd b x)
  have HC : Hide (cl b x = if fd b x = 0 ∧ fn b x = 0 then 1 else if fd b x = 0 then 2 else if fd b x < tp b then 3 else if fn b x = 0 then 4 else 5) := ⟨by
    unfold cl
    by_cases c1 : sz b x = 0
    · rw [if_pos c1, if_pos (k1.1 c1)]
    · rw [if_neg c1, if_neg (fun hh => c1 (k1.2 hh))]
      by_cases c2 : sz b x < fr b
      · rw [if_pos c2, if_pos (k2.1 c2)]
      · rw [if_neg c2, if_neg (fun hh => c2 (k2.2 hh))]
        by_cases c3 : sz b x < inf b
        · rw [if_pos c3, if_pos (k3.1 c3)]
        · rw [if_neg c3, if_neg (fun hh => c3 (k3.2 hh))]
          have k5 := k4 (fun hh => c3 (k3.2 hh))
          by_cases c4 : sz b x = inf b
          · rw [if_pos c4, if_pos (k5.1 c4)]
          · rw [if_neg c4, if_neg (fun hh => c4 (k5.2 hh))]⟩
  clear k1 k2 k3 k4
  have HS := Hide.mk (rSplit b x h w)
  clear h
  generalize ng b x = n at *
  generalize fd b x = E at *
  generalize fn b x = F at *
  generalize cl b x = C at *
  go_enter Tryz.func66, Tryz.ntmps66
  go_wp2_with fail
  refine HS.out.mono ?_
  rintro e w2 ⟨rfl, h2⟩
  have B2 := ((Bx.nil w).keep h2).push (FO n E F)
  clear h2 HS
  by_cases c1 : E = 0
  · have d1 : (E == 0) = true := by simp [c1]
    by_cases c2 : F = 0
    · have d2 : (F == 0) = true := by simp [c2]
      have HD : Hide (C = 1) := ⟨by rw [HC.out, if_pos ⟨c1, c2⟩]⟩
      clear c1 c2 HC HF
      go_wp2
      go_ret
      exact ⟨by rw [HD.out]; rfl, B2.bel⟩
    · have d2 : (F == 0) = false := beq_eq_false_iff_ne.2 c2
      have HD : Hide (C = 2) := ⟨by rw [HC.out, if_neg (fun hh => c2 hh.2), if_pos c1]⟩
      clear c1 c2 HC HF
      go_wp2
      go_ret
      exact ⟨by rw [HD.out]; rfl, B2.bel⟩
  · have d1 : (E == 0) = false := beq_eq_false_iff_ne.2 c1
    go_wp2_with fail
    generalize hw3 : w2.alloc (FO n E F) = w3 at *
    clear hw3
    have HI := B2.drew
    have sh := fun W (hW : Bx w [(w2.heap.size, FO n E F)] W) => fields_cells hW w2.heap.size n E F (.head _)
    refine Drawn.enter (Bx w [(w2.heap.size, FO n E F)]) (by kernel_rfl) ?_
    refine Drawn.tk (i := 0) (v := ?v31) rfl (fun W hW => ?_) HI ?_
    rotate_left
    · have ⟨q0, q1, q2⟩ := sh W hW
      go_simp <;> exact rfl
    refine Drawn.tk (i := 1) (v := ?v32) rfl (fun W hW => ?_) HI ?_
    rotate_left
    · have ⟨q0, q1, q2⟩ := sh W hW
      go_simp <;> exact rfl
    refine Drawn.tk (i := 2) (v := ?v33) rfl (fun W hW => ?_) HI ?_
    rotate_left
    · have ⟨q0, q1, q2⟩ := sh W hW
      go_simp <;> exact rfl
    refine Drawn.one (j := 3) (by kernel_rfl) rfl (fun K hK => ?_)
    go_simp
    refine (rMost b _).mono ?_
    rintro e wn ⟨rfl, hn⟩
    refine hK _ _ (HI.keep hn) ?_
    clear hK K
    replace HI := HI.keep hn
    clear hn
    by_cases c2 : E < tp b
    · have HD : Hide (C = 3) := ⟨by rw [HC.out, if_neg (fun hh => c1 hh.1), if_neg c1, if_pos c2]⟩
      refine Drawn.tk (i := 4) (v := .bool true) rfl (fun W hW => ?_) HI ?_
      · have ⟨q0, q1, q2⟩ := sh W hW
        go_simp <;> (simp [c2])
      refine Drawn.done (by kernel_rfl) ?_
      try go_simp
      clear sh c1 c2 HC HF
      go_wp2
      go_ret
      exact ⟨by rw [HD.out]; rfl, HI.bel⟩
    · refine Drawn.tk (i := 4) (v := .bool false) rfl (fun W hW => ?_) HI ?_
      · have ⟨q0, q1, q2⟩ := sh W hW
        go_simp <;> (first | omega | (simp; omega))
      refine Drawn.done (by kernel_rfl) ?_
      try go_simp
      obtain ⟨q0, q1, q2⟩ := sh _ HI
      clear sh
      by_cases c3 : F = 0
      · have HD : Hide (C = 4) := ⟨by rw [HC.out, if_neg (fun hh => c1 hh.1), if_neg c1, if_neg c2, if_pos c3]⟩
        have d3 : (F == 0) = true := by simp [c3]
        clear c1 c2 c3 HC HF
        go_wp2
        go_ret
        exact ⟨by rw [HD.out]; rfl, HI.bel⟩
      · have HD : Hide (C = 5) := ⟨by rw [HC.out, if_neg (fun hh => c1 hh.1), if_neg c1, if_neg c2, if_neg c3]⟩
        have d3 : (F == 0) = false := beq_eq_false_iff_ne.2 c3
        clear c1 c2 c3 HC HF
        go_wp2
        go_ret
        exact ⟨by rw [HD.out]; rfl, HI.bel⟩
end Go.Proofs.YtdnghibkagcbcaaGreatDoor

namespace Go.Proofs.YtdnghibkagcbcaaGreatDoor
open Go.RowKit Go.Wd Go.Box
set_option linter.unusedVariables false
set_option maxRecDepth 3000
/-- Finite numbers are below two to that. -/
def wd (b : Bool) : Int := match b with | true => 1024 | false => 128
theorem rLow (b : Bool) (w : World) :
    Calls Tryz.prog 56 #[.int .u8 (fm b)] w fun e w' => e = .returned (.int .i64 (lo b)) ∧ Below w.heap.size w w' := by
  cases b
  · rw [show fm false = 1 from rfl]
    go_enter Tryz.func56, Tryz.ntmps56
    go_wp2
    go_ret
    exact ⟨rfl, Below.refl _ _⟩
  · rw [show fm true = 2 from rfl]
    go_enter Tryz.func56, Tryz.ntmps56
    go_wp2
    go_ret
    exact ⟨rfl, Below.refl _ _⟩
theorem rFinite (b : Bool) (x : Int) (h : Ok b x) (hf : sz b x < inf b) (w : World) :
    Calls Tryz.prog 33 #[.int .u8 (fm b), .int .u64 x] w fun e w' => e = .returned (.bool true) ∧ Below w.heap.size w w' := by
  have d0 : cl b x = 1 ∨ cl b x = 2 ∨ cl b x = 3 := by
    unfold cl
    by_cases c1 : sz b x = 0
    · rw [if_pos c1]; exact .inl rfl
    · rw [if_neg c1]
      by_cases c2 : sz b x < fr b
      · rw [if_pos c2]; exact .inr (.inl rfl)
      · rw [if_neg c2, if_pos hf]; exact .inr (.inr rfl)
  have HC := fun w => Hide.mk (rClass b x h w)
  rcases d0 with d | d | d
  · rw [d] at HC
    go_enter Tryz.func33, Tryz.ntmps33
    go_wp2_with fail
    refine (HC _).out.mono ?_
    rintro e w2 ⟨rfl, h2⟩
    go_wp2
    go_ret
    exact ⟨rfl, h2⟩
  · rw [d] at HC
    go_enter Tryz.func33, Tryz.ntmps33
    go_wp2_with fail
    refine (HC _).out.mono ?_
    rintro e w2 ⟨rfl, h2⟩
    go_wp2
    go_ret
    exact ⟨rfl, h2⟩
  · rw [d] at HC
    go_enter Tryz.func33, Tryz.ntmps33
    go_wp2_with fail
    refine (HC _).out.mono ?_
    rintro e w2 ⟨rfl, h2⟩
    go_wp2
    go_ret
    exact ⟨rfl, h2⟩
theorem rFinite_no (b : Bool) (x : Int) (h : Ok b x) (hf : inf b ≤ sz b x) (w : World) :
    Calls Tryz.prog 33 #[.int .u8 (fm b), .int .u64 x] w fun e w' => e = .returned (.bool false) ∧ Below w.heap.size w w' := by
  have hi : fr b ≤ inf b := by cases b <;> decide
  have hp := fr_pos b
  have d0 : cl b x = 4 ∨ cl b x = 5 := by
    unfold cl
    rw [if_neg (by omega), if_neg (by omega), if_neg (by omega)]
    by_cases c : sz b x = inf b
    · rw [if_pos c]; exact .inl rfl
    · rw [if_neg c]; exact .inr rfl
  have HC := fun w => Hide.mk (rClass b x h w)
  rcases d0 with d | d
  · rw [d] at HC
    go_enter Tryz.func33, Tryz.ntmps33
    go_wp2_with fail
    refine (HC _).out.mono ?_
    rintro e w2 ⟨rfl, h2⟩
    go_wp2
    go_ret
    exact ⟨rfl, h2⟩
  · rw [d] at HC
    go_enter Tryz.func33, Tryz.ntmps33
    go_wp2_with fail
    refine (HC _).out.mono ?_
    rintro e w2 ⟨rfl, h2⟩
    go_wp2
    go_ret
    exact ⟨rfl, h2⟩
theorem dformZ (n : Bool) (a : Option Addr) (ca : Nat) (ex : Int) (w : World) :
    Calls Tryz.prog 70 #[.bool n, .slice a 0 ca, .int .i64 ex] w fun e w' => e = .returned noD ∧ Below w.heap.size w w' := by
  go_enter Tryz.func70, Tryz.ntmps70
  go_wp2
  refine bodyPost_ret (results_D1 rfl _ _ w.heap.size _ rfl (dcell_new _ _ _ _)) rfl ?_
  exact ⟨rfl, below_alloc _ _⟩
theorem sv_mul (n : Bool) (x y : Int) : sv n x * y = sv n (x * y) := by
  cases n
  · rfl
  · rw [sv_t, sv_t, Int.neg_mul]
/-- The number x times 2 to the e, in its form. -/
theorem dformD (n : Bool) (a : Option Addr) (ca : Nat) (za : List Int) (e : Int) (w : World) {x : Int} (ha : Lie w a za) (ga : Good za x) (hx : x < 9007199254740992) (h0 : -1074 ≤ e) (h1 : e ≤ 2000) :
    Calls Tryz.prog 70 #[.bool n, .slice a za.length ca, .int .i64 e] w fun e' w' => ∃ n2 zs ex a' c, e' = .returned (dV n2 a' zs.length c ex) ∧ DN n2 zs ex (sv n x * pK e) ∧ Lie w' a' zs ∧ Below w.heap.size w w' := by
  have hK := KK_eq
  have hx0 := ga.nonneg
  by_cases hz : 0 < za.length
  · have hp := ga.pos hz
    obtain ⟨t, ht⟩ := low_ex hp
    refine (dform41 n a ca za e w ha ga hz ht (by omega) (by omega)).mono ?_
    rintro e' w' ⟨zs, a', c, rfl, h⟩
    have e2 := low_half ht
    have hpt := p2pos t
    have h5 : 1 ≤ x / 2 ^ t := by
      have := Int.ediv_nonneg hx0 (Int.le_of_lt hpt)
      have := ht.one
      omega
    have h6 : 1 * 2 ^ t ≤ x / 2 ^ t * 2 ^ t := Int.mul_le_mul_of_nonneg_right h5 (Int.le_of_lt hpt)
    have h7 : t < 64 := p2lt (by have : (2 : Int) ^ 64 = 18446744073709551616 := by decide
                                 omega)
    have hg := h.good
    have hz2 := hg.ne (show 0 < x / 2 ^ t by omega)
    refine ⟨n, zs, e + t, a', c, rfl, ⟨⟨hg.can, hg.len, .inr ⟨hz2, by rw [hg.val]; exact ht.one, by omega, by omega⟩⟩, ?_⟩, h.lie, h.bel⟩
    unfold dv pK
    rw [hg.val, show (e + (t : Int) + KK).toNat = (e + KK).toNat + t by omega, Int.pow_add, sv_mul, sv_mul, Int.mul_comm ((2 : Int) ^ (e + KK).toNat), ← Int.mul_assoc, ← e2]
  · obtain ⟨rfl, hx2⟩ := ga.nil (by omega)
    refine (dformZ n a ca e w).mono ?_
    rintro e' w' ⟨rfl, hb⟩
    refine ⟨false, [], 0, none, 0, rfl, ⟨zeroDG, ?_⟩, .inl rfl, hb⟩
    rw [zero_dv, hx2]
    cases n <;> simp [sv]
set_option maxHeartbeats 2000000 in
theorem rValue0 (b : Bool) (x : Int) (h : Ok b x) (hd : fd b x = 0) (w : World) :
    Calls Tryz.prog 36 #[.int .u8 (fm b), .int .u64 x] w fun e w' => ∃ n zs ex a c, e = .returned (dV n a zs.length c ex) ∧ DN n zs ex (wv b x) ∧ Lie w' a zs ∧ Below w.heap.size w w' := by
  have B1 := (Bx.nil w).push (DO false none 0 0 0)
  have hu : un b x = fn b x := by unfold un; rw [if_pos hd]
  have hue : ue b x = lo b := by unfold ue; rw [hd]; omega
  have HWV : Hide (wv b x = sv (ng b x) (fn b x) * pK (lo b)) := ⟨by unfold wv; rw [hu, hue]⟩
  have hfn := fn_bd b x
  have hfr := fr_le b
  have hlo := lo_bd b
  have d1 : (fd b x == 0) = true := by simp [hd]
  clear hu hue hd
  go_enter Tryz.func36, Tryz.ntmps36
  go_wp2_with fail
  refine (rSplit b x h _).mono ?_
  rintro e w2 ⟨rfl, h2⟩
  have HF := (B1.keep h2).push (FO (ng b x) (fd b x) (fn b x))
  have hlt : w.heap.size < w2.heap.size := (B1.keep h2).lt (.head _)
  clear h2 B1
  go_wp2_with fail
  generalize hw3 : w2.alloc (FO (ng b x) (fd b x) (fn b x)) = w3 at *
  clear hw3
  replace HF := HF.drew
  have HI := HF.sub (L' := [(w2.heap.size, FO (ng b x) (fd b x) (fn b x))]) (by simp)
  have sh := fun W (hW : Bx w [(w2.heap.size, FO (ng b x) (fd b x) (fn b x))] W) => fields_cells hW w2.heap.size (ng b x) (fd b x) (fn b x) (.head _)
  refine Drawn.enter (Bx w [(w2.heap.size, FO (ng b x) (fd b x) (fn b x))]) (by kernel_rfl) ?_
  refine Drawn.tk (i := 0) (v := ?v40) rfl (fun W hW => ?_) HI ?_
  rotate_left
  · have ⟨q0, q1, q2⟩ := sh W hW
    go_simp <;> exact rfl
  refine Drawn.tk (i := 1) (v := ?v41) rfl (fun W hW => ?_) HI ?_
  rotate_left
  · have ⟨q0, q1, q2⟩ := sh W hW
    go_simp <;> exact rfl
  refine Drawn.tk (i := 2) (v := ?v42) rfl (fun W hW => ?_) HI ?_
  rotate_left
  · have ⟨q0, q1, q2⟩ := sh W hW
    go_simp <;> exact rfl
  refine Drawn.tk (i := 3) (v := ?v43) rfl (fun W hW => ?_) HI ?_
  rotate_left
  · have ⟨q0, q1, q2⟩ := sh W hW
    go_simp <;> exact rfl
  refine Drawn.tk (i := 5) (v := ?v44) rfl (fun W hW => ?_) HI ?_
  rotate_left
  · have ⟨q0, q1, q2⟩ := sh W hW
    go_simp <;> exact rfl
  refine Drawn.one (j := 4) (by kernel_rfl) rfl (fun K hK => ?_)
  go_simp
  refine (of17 (fn b x) hfn.1 (by omega) _).mono ?_
  rintro e wn ⟨zs, a, c, rfl, hN, _⟩
  refine hK _ _ (HI.keep hN.bel) ?_
  clear hK K
  replace HI := HI.keep hN.bel
  replace HF := HF.keep hN.bel
  have hl := hN.lie
  have G := Hide.mk hN.good
  clear hN
  refine Drawn.one (j := 6) (by kernel_rfl) rfl (fun K hK => ?_)
  go_simp
  refine (rLow b _).mono ?_
  rintro e wm ⟨rfl, hn⟩
  refine hK _ _ (HI.keep hn) ?_
  clear hK K
  replace HI := HI.keep hn
  replace HF := HF.keep hn
  replace hl := hl.below hn (Nat.le_refl _)
  clear hn
  refine Drawn.one (j := 7) (by kernel_rfl) rfl (fun K hK => ?_)
  go_simp
  refine (dformD (ng b x) a c zs (lo b) _ hl G.out (by omega) (by omega) (by omega)).mono ?_
  rintro e wd2 ⟨n9, z9, x9, a9, c9, rfl, hD, l9, hb9⟩
  refine hK _ _ (HI.keep hb9) ?_
  clear hK K
  replace HI := HI.keep hb9
  replace HF := HF.keep hb9
  have HD := Hide.mk (And.intro hD l9)
  clear hD l9 hb9 G hl
  obtain ⟨⟨f0, f1, f2⟩, r0, r1, r2⟩ := cells3 HF w.heap.size _ _ _ _ (.tail _ (.head _))
  have HF2 := (HF.sub (L' := [(w.heap.size, DO false none 0 0 0), (w2.heap.size, FO (ng b x) (fd b x) (fn b x))]) (by simp)).fill3 (Nat.le_refl _) (by simp; omega) (.bool n9) (.slice a9 z9.length c9) (.int .i64 x9)
  refine Drawn.one (j := 8) (by kernel_rfl) rfl (fun K hK => ?_)
  go_simp
  replace HI := HF2.sub (L' := [(w2.heap.size, FO (ng b x) (fd b x) (fn b x))]) (by simp)
  refine hK _ _ HI ?_
  clear hK K f0 f1 f2 r0 r1 r2
  refine Drawn.done (by kernel_rfl) ?_
  try go_simp
  go_wp2
  refine bodyPost_ret (results_D1 rfl _ _ w.heap.size _ rfl ⟨HF2.head, rfl⟩) rfl ?_
  have L := Live.set3 (g := w.heap.size) ⟨(HF.sub (L' := [(w.heap.size, DO false none 0 0 0)]) (by simp)).head, rfl⟩ (.bool n9) (.slice a9 z9.length c9) (.int .i64 x9) (Live.one HD.out.2)
  exact ⟨n9, z9, x9, a9, c9, rfl, by rw [HWV.out]; exact HD.out.1, L.all (a9, z9) (.head _), HF2.bel⟩
end Go.Proofs.YtdnghibkagcbcaaGreatDoor

namespace Go.Proofs.YtdnghibkagcbcaaGreatDoor
open Go.RowKit Go.Wd Go.Box
set_option linter.unusedVariables false
set_option maxRecDepth 3000
set_option maxHeartbeats 2000000 in
theorem rValue1 (b : Bool) (x : Int) (h : Ok b x) (hd : fd b x ≠ 0) (w : World) :
    Calls Tryz.prog 36 #[.int .u8 (fm b), .int .u64 x] w fun e w' => ∃ n zs ex a c, e = .returned (dV n a zs.length c ex) ∧ DN n zs ex (wv b x) ∧ Lie w' a zs ∧ Below w.heap.size w w' := by
  have B1 := (Bx.nil w).push (DO false none 0 0 0)
  have hdb := fd_bd b x
  have hu : un b x = fr b + fn b x := by unfold un; rw [if_neg hd]
  have hue : ue b x = fd b x - 1 + lo b := by unfold ue; omega
  have HWV : Hide (wv b x = sv (ng b x) (fr b + fn b x) * pK (fd b x - 1 + lo b)) := ⟨by unfold wv; rw [hu, hue]⟩
  have hfn := fn_bd b x
  have hfr := fr_le b
  have hfp := fr_pos b
  have hlo := lo_bd b
  have d1 : (fd b x == 0) = false := beq_eq_false_iff_ne.2 hd
  have hd1 : 1 ≤ fd b x := by omega
  clear hu hue hd
  go_enter Tryz.func36, Tryz.ntmps36
  go_wp2_with fail
  refine (rSplit b x h _).mono ?_
  rintro e w2 ⟨rfl, h2⟩
  have HF := (B1.keep h2).push (FO (ng b x) (fd b x) (fn b x))
  have hlt : w.heap.size < w2.heap.size := (B1.keep h2).lt (.head _)
  clear h2 B1
  go_wp2_with fail
  generalize hw3 : w2.alloc (FO (ng b x) (fd b x) (fn b x)) = w3 at *
  clear hw3
  replace HF := HF.drew
  have HI := HF.sub (L' := [(w2.heap.size, FO (ng b x) (fd b x) (fn b x))]) (by simp)
  have sh := fun W (hW : Bx w [(w2.heap.size, FO (ng b x) (fd b x) (fn b x))] W) => fields_cells hW w2.heap.size (ng b x) (fd b x) (fn b x) (.head _)
  refine Drawn.enter (Bx w [(w2.heap.size, FO (ng b x) (fd b x) (fn b x))]) (by kernel_rfl) ?_
  refine Drawn.tk (i := 0) (v := ?v45) rfl (fun W hW => ?_) HI ?_
  rotate_left
  · have ⟨q0, q1, q2⟩ := sh W hW
    go_simp <;> exact rfl
  refine Drawn.tk (i := 1) (v := ?v46) rfl (fun W hW => ?_) HI ?_
  rotate_left
  · have ⟨q0, q1, q2⟩ := sh W hW
    go_simp <;> exact rfl
  refine Drawn.tk (i := 2) (v := ?v47) rfl (fun W hW => ?_) HI ?_
  rotate_left
  · have ⟨q0, q1, q2⟩ := sh W hW
    go_simp <;> exact rfl
  refine Drawn.tk (i := 5) (v := ?v48) rfl (fun W hW => ?_) HI ?_
  rotate_left
  · have ⟨q0, q1, q2⟩ := sh W hW
    go_simp <;> exact rfl
  refine Drawn.tk (i := 6) (v := ?v49) rfl (fun W hW => ?_) HI ?_
  rotate_left
  · have ⟨q0, q1, q2⟩ := sh W hW
    go_simp <;> exact rfl
  refine Drawn.tk (i := 9) (v := ?v50) rfl (fun W hW => ?_) HI ?_
  rotate_left
  · have ⟨q0, q1, q2⟩ := sh W hW
    go_simp <;> exact rfl
  refine Drawn.tk (i := 10) (v := ?v51) rfl (fun W hW => ?_) HI ?_
  rotate_left
  · have ⟨q0, q1, q2⟩ := sh W hW
    go_simp <;> exact rfl
  refine Drawn.tk (i := 12) (v := ?v52) rfl (fun W hW => ?_) HI ?_
  rotate_left
  · have ⟨q0, q1, q2⟩ := sh W hW
    go_simp <;> exact rfl
  refine Drawn.tk (i := 11) (v := .int .i64 (fd b x - 1)) rfl (fun W hW => ?_) HI ?_
  · have ⟨q0, q1, q2⟩ := sh W hW
    go_simp <;> (exact wrap_ok (by omega) (by omega))
  refine Drawn.one (j := 3) (by kernel_rfl) rfl (fun K hK => ?_)
  go_simp
  refine (rFrac b _).mono ?_
  rintro e wn ⟨rfl, hn⟩
  refine hK _ _ (HI.keep hn) ?_
  clear hK K
  replace HI := HI.keep hn
  replace HF := HF.keep hn
  clear hn
  refine Drawn.tk (i := 4) (v := .int .u64 (fr b)) rfl (fun W hW => ?_) HI ?_
  · have ⟨q0, q1, q2⟩ := sh W hW
    go_simp <;> ((rw [shl_fc, Int.one_mul, Int.emod_eq_of_lt (by omega) (by omega)]; rfl))
  refine Drawn.tk (i := 7) (v := .int .u64 (fr b + fn b x)) rfl (fun W hW => ?_) HI ?_
  · have ⟨q0, q1, q2⟩ := sh W hW
    go_simp <;> ((rw [IntKind.wrap_u64]; omega))
  refine Drawn.one (j := 8) (by kernel_rfl) rfl (fun K hK => ?_)
  go_simp
  refine (of17 (fr b + fn b x) (by omega) (by omega) _).mono ?_
  rintro e wn ⟨zs, a, c, rfl, hN, _⟩
  refine hK _ _ (HI.keep hN.bel) ?_
  clear hK K
  replace HI := HI.keep hN.bel
  replace HF := HF.keep hN.bel
  have hl := hN.lie
  have G := Hide.mk hN.good
  clear hN
  refine Drawn.one (j := 13) (by kernel_rfl) rfl (fun K hK => ?_)
  go_simp
  refine (rLow b _).mono ?_
  rintro e wm ⟨rfl, hn⟩
  refine hK _ _ (HI.keep hn) ?_
  clear hK K
  replace HI := HI.keep hn
  replace HF := HF.keep hn
  replace hl := hl.below hn (Nat.le_refl _)
  clear hn
  refine Drawn.tk (i := 14) (v := .int .i64 (fd b x - 1 + lo b)) rfl (fun W hW => ?_) HI ?_
  · have ⟨q0, q1, q2⟩ := sh W hW
    go_simp <;> (exact wrap_ok (by omega) (by omega))
  refine Drawn.one (j := 15) (by kernel_rfl) rfl (fun K hK => ?_)
  go_simp
  refine (dformD (ng b x) a c zs (fd b x - 1 + lo b) _ hl G.out (by omega) (by omega) (by omega)).mono ?_
  rintro e wd2 ⟨n9, z9, x9, a9, c9, rfl, hD, l9, hb9⟩
  refine hK _ _ (HI.keep hb9) ?_
  clear hK K
  replace HI := HI.keep hb9
  replace HF := HF.keep hb9
  have HD := Hide.mk (And.intro hD l9)
  clear hD l9 hb9 G hl
  obtain ⟨⟨f0, f1, f2⟩, r0, r1, r2⟩ := cells3 HF w.heap.size _ _ _ _ (.tail _ (.head _))
  have HF2 := (HF.sub (L' := [(w.heap.size, DO false none 0 0 0), (w2.heap.size, FO (ng b x) (fd b x) (fn b x))]) (by simp)).fill3 (Nat.le_refl _) (by simp; omega) (.bool n9) (.slice a9 z9.length c9) (.int .i64 x9)
  refine Drawn.one (j := 16) (by kernel_rfl) rfl (fun K hK => ?_)
  go_simp
  replace HI := HF2.sub (L' := [(w2.heap.size, FO (ng b x) (fd b x) (fn b x))]) (by simp)
  refine hK _ _ HI ?_
  clear hK K f0 f1 f2 r0 r1 r2
  refine Drawn.done (by kernel_rfl) ?_
  try go_simp
  go_wp2
  refine bodyPost_ret (results_D1 rfl _ _ w.heap.size _ rfl ⟨HF2.head, rfl⟩) rfl ?_
  have L := Live.set3 (g := w.heap.size) ⟨(HF.sub (L' := [(w.heap.size, DO false none 0 0 0)]) (by simp)).head, rfl⟩ (.bool n9) (.slice a9 z9.length c9) (.int .i64 x9) (Live.one HD.out.2)
  exact ⟨n9, z9, x9, a9, c9, rfl, by rw [HWV.out]; exact HD.out.1, L.all (a9, z9) (.head _), HF2.bel⟩
theorem rValue (b : Bool) (x : Int) (h : Ok b x) (w : World) :
    Calls Tryz.prog 36 #[.int .u8 (fm b), .int .u64 x] w fun e w' => ∃ n zs ex a c, e = .returned (dV n a zs.length c ex) ∧ DN n zs ex (wv b x) ∧ Lie w' a zs ∧ Below w.heap.size w w' := by
  by_cases c : fd b x = 0
  · exact rValue0 b x h c w
  · exact rValue1 b x h c w
end Go.Proofs.YtdnghibkagcbcaaGreatDoor

namespace Go.Box
open Go
end Go.Box
namespace Go.Proofs.YtdnghibkagcbcaaGreatDoor
open Go.RowKit Go.Wd Go.Box
set_option linter.unusedVariables false
set_option maxRecDepth 3000
end Go.Proofs.YtdnghibkagcbcaaGreatDoor

namespace Go.Proofs.YtdnghibkagcbcaaGreatDoor
open Go.RowKit Go.Wd Go.Box
set_option linter.unusedVariables false
set_option maxRecDepth 3000
end Go.Proofs.YtdnghibkagcbcaaGreatDoor

namespace Go.Proofs.YtdnghibkagcbcaaGreatDoor
open Go.RowKit Go.Wd Go.Box
set_option linter.unusedVariables false
set_option maxRecDepth 3000
end Go.Proofs.YtdnghibkagcbcaaGreatDoor

namespace Go.Proofs.YtdnghibkagcbcaaGreatDoor
open Go.RowKit Go.Wd Go.Box
set_option linter.unusedVariables false
set_option maxRecDepth 3000
end Go.Proofs.YtdnghibkagcbcaaGreatDoor

namespace Go.Proofs.YtdnghibkagcbcaaGreatDoor
open Go.RowKit Go.Wd Go.Box
set_option linter.unusedVariables false
set_option maxRecDepth 3000
end Go.Proofs.YtdnghibkagcbcaaGreatDoor

namespace Go.Proofs.YtdnghibkagcbcaaGreatDoor
open Go.RowKit Go.Wd Go.Box
set_option linter.unusedVariables false
set_option maxRecDepth 3000
end Go.Proofs.YtdnghibkagcbcaaGreatDoor

namespace Go.Proofs.YtdnghibkagcbcaaGreatDoor
open Go.RowKit Go.Wd Go.Box
set_option linter.unusedVariables false
set_option maxRecDepth 3000
end Go.Proofs.YtdnghibkagcbcaaGreatDoor

namespace Go.Proofs.YtdnghibkagcbcaaGreatDoor
open Go.RowKit Go.Wd Go.Box
set_option linter.unusedVariables false
set_option maxRecDepth 3000
end Go.Proofs.YtdnghibkagcbcaaGreatDoor

namespace Go.Proofs.YtdnghibkagcbcaaGreatDoor
open Go.RowKit Go.Wd Go.Box
set_option linter.unusedVariables false
set_option maxRecDepth 3000
end Go.Proofs.YtdnghibkagcbcaaGreatDoor

namespace Go.Proofs.YtdnghibkagcbcaaGreatDoor
open Go.RowKit Go.Wd Go.Box
set_option linter.unusedVariables false
set_option maxRecDepth 3000
end Go.Proofs.YtdnghibkagcbcaaGreatDoor

namespace Go.Proofs.YtdnghibkagcbcaaGreatDoor
open Go.RowKit Go.Wd Go.Box
set_option linter.unusedVariables false
set_option maxRecDepth 3000
end Go.Proofs.YtdnghibkagcbcaaGreatDoor

namespace Go.Proofs.YtdnghibkagcbcaaGreatDoor
open Go.RowKit Go.Wd Go.Box
set_option linter.unusedVariables false
set_option maxRecDepth 3000
end Go.Proofs.YtdnghibkagcbcaaGreatDoor

namespace Go.Proofs.YtdnghibkagcbcaaGreatDoor
open Go.RowKit Go.Wd Go.Box
set_option linter.unusedVariables false
set_option maxRecDepth 3000
end Go.Proofs.YtdnghibkagcbcaaGreatDoor

namespace Go.Proofs.YtdnghibkagcbcaaGreatDoor
open Go.RowKit Go.Wd Go.Box
set_option linter.unusedVariables false
set_option maxRecDepth 3000
end Go.Proofs.YtdnghibkagcbcaaGreatDoor

namespace Go.Proofs.YtdnghibkagcbcaaGreatDoor
open Go.RowKit Go.Wd Go.Box
set_option linter.unusedVariables false
set_option maxRecDepth 3000
end Go.Proofs.YtdnghibkagcbcaaGreatDoor

namespace Go.Proofs.YtdnghibkagcbcaaGreatDoor
open Go.RowKit Go.Wd Go.Box
set_option linter.unusedVariables false
set_option maxRecDepth 3000
end Go.Proofs.YtdnghibkagcbcaaGreatDoor

namespace Go.Proofs.YtdnghibkagcbcaaGreatDoor
open Go.RowKit Go.Wd Go.Box
set_option linter.unusedVariables false
set_option maxRecDepth 3000
end Go.Proofs.YtdnghibkagcbcaaGreatDoor

namespace Go.Proofs.YtdnghibkagcbcaaGreatDoor
open Go.RowKit Go.Wd Go.Box
set_option linter.unusedVariables false
set_option maxRecDepth 3000
end Go.Proofs.YtdnghibkagcbcaaGreatDoor

namespace Go.Proofs.YtdnghibkagcbcaaGreatDoor
open Go.RowKit Go.Wd Go.Box
set_option linter.unusedVariables false
set_option maxRecDepth 3000
end Go.Proofs.YtdnghibkagcbcaaGreatDoor

namespace Go.Proofs.YtdnghibkagcbcaaGreatDoor
open Go.RowKit Go.Wd Go.Box
set_option linter.unusedVariables false
set_option maxRecDepth 3000
end Go.Proofs.YtdnghibkagcbcaaGreatDoor

namespace Go.Proofs.YtdnghibkagcbcaaGreatDoor
open Go.RowKit Go.Wd Go.Box
set_option linter.unusedVariables false
set_option maxRecDepth 3000
theorem qf1_bits {X : Int} {B k : Nat} (hX : 0 < X) (hB : BitLen X B) (i : Int) (hk : (k : Int) = B + i) : BitLen (qf X 1 i) k := by
  unfold qf
  rw [Int.one_mul]
  have h1 := (hB.up hX i.toNat).down (-i).toNat
  rw [show B + i.toNat - (-i).toNat = k by omega] at h1
  exact h1
end Go.Proofs.YtdnghibkagcbcaaGreatDoor

namespace Go.Proofs.YtdnghibkagcbcaaGreatDoor
open Go.RowKit Go.Wd Go.Box
set_option linter.unusedVariables false
set_option maxRecDepth 3000
theorem rIs4 (m : Int) (q : Bool) (hm : Mode m ∧ q = true ∨ ¬ Mode m ∧ q = false) (w : World) :
    Calls Tryz.prog 51 #[.int .u8 m] w fun e w' => e = .returned (.bool q) ∧ Below w.heap.size w w' := by
  have h : (1 ≤ m ∧ m ≤ 5) ∧ q = true ∨ (¬ 1 ≤ m ∧ q = false) ∨ ((1 ≤ m ∧ ¬ m ≤ 5) ∧ q = false) := by
    unfold Mode at hm
    rcases hm with ⟨h, rfl⟩ | ⟨h, rfl⟩
    · exact .inl ⟨by omega, rfl⟩
    · by_cases c : 1 ≤ m
      · exact .inr (.inr ⟨⟨c, by omega⟩, rfl⟩)
      · exact .inr (.inl ⟨c, rfl⟩)
  clear hm
  rcases h with ⟨⟨h1, h2⟩, rfl⟩ | ⟨h1, rfl⟩ | ⟨⟨h1, h2⟩, rfl⟩
  · go_enter Tryz.func51, Tryz.ntmps51
    go_wp2
    go_ret
    exact ⟨by first | rfl | simp, Below.refl _ _⟩
  · go_enter Tryz.func51, Tryz.ntmps51
    go_wp2
    go_ret
    exact ⟨by first | rfl | simp, Below.refl _ _⟩
  · go_enter Tryz.func51, Tryz.ntmps51
    go_wp2
    go_ret
    exact ⟨by first | rfl | simp, Below.refl _ _⟩
/-- What is asked first: the format, the mode. -/
def Opn (f m code : Int) : Prop := (Bad f ∧ code = 4) ∨ ∃ b, f = fm b ∧ ((¬ Mode m ∧ code = 5) ∨ (Mode m ∧ code = 0))
theorem lOpens_bad (f m code : Int) (sl : Value) (h : Opn f m code) (hc : (code == 0) = false) (w : World) :
    Calls Tryz.prog 16 #[.int .u8 f, .int .u8 m, sl] w fun e w' => e = .returned (.int .i64 code) ∧ Below w.heap.size w w' := by
  rcases h with ⟨hf, rfl⟩ | ⟨b, rfl, ⟨hm, rfl⟩ | ⟨hm, rfl⟩⟩
  · have H1 := fun W => Hide.mk (rIs_bad f hf W)
    go_enter Tryz.func16, Tryz.ntmps16
    go_wp2_with fail
    refine (H1 _).out.mono ?_
    rintro e w2 ⟨rfl, h2⟩
    go_wp2
    go_ret
    exact ⟨rfl, h2⟩
  · have H1 := fun W => Hide.mk (rIs b W)
    have H2 := fun W => Hide.mk (rIs4 m false (.inr ⟨hm, rfl⟩) W)
    go_enter Tryz.func16, Tryz.ntmps16
    go_wp2_with fail
    refine (H1 _).out.mono ?_
    rintro e w2 ⟨rfl, h2⟩
    have B2 := (Bx.nil w).keep h2
    go_wp2_with fail
    refine (H2 _).out.mono ?_
    rintro e w3 ⟨rfl, h3⟩
    have B3 := B2.keep h3
    go_wp2
    go_ret
    exact ⟨rfl, B3.bel⟩
  · exact absurd hc (by decide)
theorem lOpens_nil (b : Bool) (m : Int) (hm : Mode m) (w : World) :
    Calls Tryz.prog 16 #[.int .u8 (fm b), .int .u8 m, .slice none 0 0] w fun e w' => e = .returned (.int .i64 0) ∧ Below w.heap.size w w' := by
  have H1 := fun W => Hide.mk (rIs b W)
  have H2 := fun W => Hide.mk (rIs4 m true (.inl ⟨hm, rfl⟩) W)
  go_enter Tryz.func16, Tryz.ntmps16
  go_wp2_with fail
  refine (H1 _).out.mono ?_
  rintro e w2 ⟨rfl, h2⟩
  have B2 := (Bx.nil w).keep h2
  go_wp2_with fail
  refine (H2 _).out.mono ?_
  rintro e w3 ⟨rfl, h3⟩
  have B3 := B2.keep h3
  go_wp2
  refine wp_loop_rounds 2 ?_
  rw [rounds_succ]
  go_wp2
  go_ret
  exact ⟨rfl, B3.bel⟩
theorem lRefused (code : Int) (w : World) :
    Calls Tryz.prog 18 #[.int .u64 0, .int .u8 0, .int .i64 code, .int .i64 code] w fun e w' => e = .returned (.bool true) ∧ Below w.heap.size w w' := by
  have h2 : (code == code) = true := by simp
  go_enter Tryz.func18, Tryz.ntmps18
  go_wp2
  go_ret
  exact ⟨rfl, Below.refl _ _⟩
end Go.Proofs.YtdnghibkagcbcaaGreatDoor

namespace Go.Proofs.YtdnghibkagcbcaaGreatDoor
open Go.RowKit Go.Wd Go.Box
set_option linter.unusedVariables false
set_option maxRecDepth 3000
/-- Round of a number that is not nought. -/
theorem pRound (b : Bool) (m : Int) (hm : Mode m) (n : Bool) (a : Option Addr) (c : Nat) (z : List Int) (ex T : Int) (w : World) (l : Lie w a z) (g : DG n z ex) (hz : 0 < z.length) (hTab : Tab w) {B : Nat} (hB : BitLen (Nt.val z) B) (hB2 : B ≤ 131072) (hT : T = B + ex) {H I : Int} {G J : Bool} (hH : H = qf (Nt.val z) 1 (ex + 1 - ulp b T)) (hG : G = qg (Nt.val z) 1 (ex + 1 - ulp b T)) (hI : I = qf (Nt.val z) 1 (ex + 1 - (T - pr b))) (hJ : J = qg (Nt.val z) 1 (ex + 1 - (T - pr b))) :
    Calls Tryz.prog 14 #[.int .u8 (fm b), .int .u8 m, dV n a z.length c ex] w fun e w' => e = .returned (.tuple #[.int .u64 (rdW b m n T H G), .int .u8 (rdX b m n T H G I J), .int .i64 0]) ∧ Below w.heap.size w w' := by
  have hx := g.ex_bd
  have hp := g.pos hz
  have hpb := pr_bd b
  have hub := ulp_ge b T
  have u := g.lie l
  obtain ⟨s, hs, hs2⟩ := sgn_dv g hz
  have hi64 : BitLen (qf (Nt.val z) 1 (64 - B)) 64 := qf1_bits hp hB _ (by omega)
  have hb : 9223372036854775808 ≤ qf (Nt.val z) 1 (64 - B) ∧ qf (Nt.val z) 1 (64 - B) < 18446744073709551616 := by
    rcases hi64 with ⟨_, h⟩ | ⟨_, h⟩
    · omega
    · have a := h.lt
      have b := h.le
      omega
  obtain ⟨d, hd⟩ : ∃ d : Nat, ulp b T - T + 63 = (d : Int) := ⟨(ulp b T - T + 63).toNat, by omega⟩
  have e1 : qf (Nt.val z) 1 (64 - B) / 2 ^ d = H ∧ gx (qf (Nt.val z) 1 (64 - B)) d (qg (Nt.val z) 1 (64 - B)) = G := by
    have a1 := qf_down (Nt.val z) 1 (by omega) (64 - B) d
    have a2 := qg_down (Nt.val z) 1 (by omega) (64 - B) d
    rw [show 64 - (B : Int) - d = ex + 1 - ulp b T by omega] at a1 a2
    exact ⟨by rw [hH, a1], by rw [hG, a2]; rfl⟩
  have e2 : qf (Nt.val z) 1 (64 - B) / 2 ^ (63 - pr b) = I ∧ gx (qf (Nt.val z) 1 (64 - B)) (63 - pr b) (qg (Nt.val z) 1 (64 - B)) = J := by
    have a1 := qf_down (Nt.val z) 1 (by omega) (64 - B) (63 - pr b)
    have a2 := qg_down (Nt.val z) 1 (by omega) (64 - B) (63 - pr b)
    rw [show 64 - (B : Int) - (63 - pr b : Nat) = ex + 1 - (T - pr b) by omega] at a1 a2
    exact ⟨by rw [hI, a1], by rw [hJ, a2]; rfl⟩
  refine wRound_good b m n a c z.length ex s n T (qf (Nt.val z) 1 (64 - B)) _ _ (qg (Nt.val z) 1 (64 - B)) w hs2 ?_ ?_ ?_ ?_
  · intro g0 W hW h3
    have := wWayFor1 b m hm g0 n a c z ex W (u.below hW) true g.may h3
    exact this
  · intro W hW
    exact dsign49 n a c z ex _ W (l.below hW (Nat.le_refl _)) ⟨g, rfl⟩ s hs
  · intro W hW
    have := wSeenNumber n a c z ex W (l.below hW (Nat.le_refl _)) g hz (hTab.below hW (Nat.le_refl _)) hB hB2
    rw [← hT] at this
    exact this
  · intro W hW
    have := wRounded b m n T (qf (Nt.val z) 1 (64 - B)) (qg (Nt.val z) 1 (64 - B)) d W (hTab.below hW (Nat.le_refl _)) hm (by omega) (by omega) hb.1 hb.2 hd
    rw [e1.1, e1.2, e2.1, e2.2] at this
    exact this
theorem rIntP (v : Int) (h0 : 0 < v) (h1 : v < 9223372036854775808) (w : World) :
    Calls Tryz.prog 42 #[.int .i64 v] w fun e w' => RF w w' v 0 e := by
  have B1 := (Bx.nil w).push (DO false none 0 0 0)
  have hc : IntKind.u64.wrap v = v := by rw [IntKind.wrap_u64]; omega
  have hn : ¬ v < 0 := by omega
  have HO := fun W => Hide.mk (of17 v (by omega) (by omega) W)
  go_enter Tryz.func42, Tryz.ntmps42
  go_wp2_with fail
  try rw [hc]
  refine (HO _).out.mono ?_
  rintro e w2 ⟨zs, a, c, rfl, N2, _⟩
  have B2 := (B1.keep N2.bel)
  have HFm := Hide.mk (formX false a c zs 0 w2 N2.lie N2.can (by have := N2.len; omega) (by omega) (by omega))
  rw [N2.val, sv_f] at HFm
  clear N2 HO B1
  go_wp2_with fail
  refine HFm.out.mono ?_
  rintro e w3 ⟨n3, z3, x3, a3, c3, rfl, F3, l3, h3⟩
  have B3 := B2.keep h3
  have H3 := Hide.mk F3
  clear F3 h3 B2 HFm
  obtain ⟨⟨t0, t1, t2⟩, r0, r1, r2⟩ := cells3 B3 w.heap.size _ _ _ _ (.head _)
  go_wp2
  have Bf := B3.fill3 (Nat.le_refl _) (by simp) (.bool n3) (.slice a3 z3.length c3) (.int .i64 x3)
  refine bodyPost_ret (results_D1 rfl _ _ w.heap.size _ rfl ⟨Bf.head, rfl⟩) rfl ?_
  exact ⟨n3, z3, x3, a3, c3, rfl, H3.out, lie_set3P (g := w.heap.size) B3.head _ _ _ l3, Bf.bel⟩
end Go.Proofs.YtdnghibkagcbcaaGreatDoor

namespace Go.Proofs.YtdnghibkagcbcaaGreatDoor
open Go.RowKit Go.Wd Go.Box
set_option linter.unusedVariables false
set_option maxRecDepth 3000
/-- Quo of two numbers that are not nought. -/
theorem pQuo (b : Bool) (m : Int) (hm : Mode m) (n1 n2 : Bool) (a1 a2 : Option Addr) (c1 c2 : Nat) (z1 z2 : List Int) (e1 e2 T : Int) (w : World) (l1 : Lie w a1 z1) (l2 : Lie w a2 z2) (g1 : DG n1 z1 e1) (g2 : DG n2 z2 e2) (hTab : Tab w) (hz1 : 0 < z1.length) (hz2 : 0 < z2.length) {i : Int} (hi : BitLen (qf (Nt.val z1) (Nt.val z2) i) 64) (hi1 : -1000000 ≤ i) (hi2 : i ≤ 1000000) (hT : T = 64 - i + (e1 - e2)) {H I : Int} {G J : Bool} (hH : H = qf (Nt.val z1) (Nt.val z2) (e1 - e2 + 1 - ulp b T)) (hG : G = qg (Nt.val z1) (Nt.val z2) (e1 - e2 + 1 - ulp b T)) (hI : I = qf (Nt.val z1) (Nt.val z2) (e1 - e2 + 1 - (T - pr b))) (hJ : J = qg (Nt.val z1) (Nt.val z2) (e1 - e2 + 1 - (T - pr b))) :
    Calls Tryz.prog 22 #[.int .u8 (fm b), .int .u8 m, dV n1 a1 z1.length c1 e1, dV n2 a2 z2.length c2 e2] w fun e w' => e = .returned (.tuple #[.int .u64 (rdW b m (n1 != n2) T H G), .int .u8 (rdX b m (n1 != n2) T H G I J), .int .i64 0]) ∧ Below w.heap.size w w' := by
  have x1 := g1.ex_bd
  have x2 := g2.ex_bd
  have p1 := g1.pos hz1
  have p2 := g2.pos hz2
  have hpb := pr_bd b
  have hub := ulp_ge b T
  have hlo := lo_bd b
  obtain ⟨s1, hs1, hs12⟩ := sgn_dv g1 hz1
  obtain ⟨s2, hs2, hs22⟩ := sgn_dv g2 hz2
  have u1 := g1.lie l1
  have u2 := g2.lie l2
  have hb : 9223372036854775808 ≤ qf (Nt.val z1) (Nt.val z2) i ∧ qf (Nt.val z1) (Nt.val z2) i < 18446744073709551616 := by
    rcases hi with ⟨_, h⟩ | ⟨_, h⟩
    · omega
    · have a := h.lt
      have b := h.le
      omega
  obtain ⟨d, hd⟩ : ∃ d : Nat, ulp b T - T + 63 = (d : Int) := ⟨(ulp b T - T + 63).toNat, by omega⟩
  have k1 : qf (Nt.val z1) (Nt.val z2) i / 2 ^ d = H ∧ gx (qf (Nt.val z1) (Nt.val z2) i) d (qg (Nt.val z1) (Nt.val z2) i) = G := by
    have a1 := qf_down (Nt.val z1) (Nt.val z2) p2 i d
    have a2 := qg_down (Nt.val z1) (Nt.val z2) p2 i d
    rw [show i - (d : Int) = e1 - e2 + 1 - ulp b T by omega] at a1 a2
    exact ⟨by rw [hH, a1], by rw [hG, a2]; rfl⟩
  have k2 : qf (Nt.val z1) (Nt.val z2) i / 2 ^ (63 - pr b) = I ∧ gx (qf (Nt.val z1) (Nt.val z2) i) (63 - pr b) (qg (Nt.val z1) (Nt.val z2) i) = J := by
    have a1 := qf_down (Nt.val z1) (Nt.val z2) p2 i (63 - pr b)
    have a2 := qg_down (Nt.val z1) (Nt.val z2) p2 i (63 - pr b)
    rw [show i - ((63 - pr b : Nat) : Int) = e1 - e2 + 1 - (T - pr b) by omega] at a1 a2
    exact ⟨by rw [hI, a1], by rw [hJ, a2]; rfl⟩
  refine wQuo_good b m n1 a1 c1 z1.length e1 n2 a2 c2 z2.length e2 s1 s2 (n1 != n2) T (qf (Nt.val z1) (Nt.val z2) i) _ _ (qg (Nt.val z1) (Nt.val z2) i) w hs12 hs22 ?_ ?_ ?_ ?_ ?_
  · intro g0 W hW h3 h4
    have := wWayFor2 b m hm g0 n1 a1 c1 z1 e1 n2 a2 c2 z2 e2 W (u1.below hW) (u2.below hW) true true g1.may g2.may h3 h4
    exact this
  · intro W hW
    exact dsign49 n2 a2 c2 z2 e2 _ W (l2.below hW (Nat.le_refl _)) ⟨g2, rfl⟩ s2 hs2
  · intro W hW
    exact dsign49 n1 a1 c1 z1 e1 _ W (l1.below hW (Nat.le_refl _)) ⟨g1, rfl⟩ s1 hs1
  · intro W hW
    have := wSeenQuo n1 n2 a1 a2 c1 c2 z1 z2 e1 e2 W (l1.below hW (Nat.le_refl _)) (l2.below hW (Nat.le_refl _)) g1 g2 (hTab.below hW (Nat.le_refl _)) hz1 hz2 hi hi1 hi2
    rw [← hT] at this
    exact this
  · intro W hW
    have := wRounded b m (n1 != n2) T (qf (Nt.val z1) (Nt.val z2) i) (qg (Nt.val z1) (Nt.val z2) i) d W (hTab.below hW (Nat.le_refl _)) hm (by omega) (by omega) hb.1 hb.2 hd
    rw [k1.1, k1.2, k2.1, k2.2] at this
    exact this
theorem fm_oddP {v : Int} {n : Bool} {z : List Int} {x : Int} (F : Fm v 0 n z x) (h0 : 0 < v) (h1 : v % 2 = 1) (h2 : v < 18446744073709551616) : n = false ∧ x = 0 ∧ Nt.val z = v ∧ 0 < z.length ∧ DG false z 0 := by
  rcases F with ⟨rfl, _⟩ | ⟨_, t, ht, hn, hx, hc, hv⟩
  · omega
  · have ha : (v.natAbs : Int) = v := by omega
    rw [ha] at ht hv
    have t0 : t = 0 := ht.unique (odd_low h1)
    subst t0
    rw [Int.pow_zero, Int.ediv_one] at hv
    have hz : 0 < z.length := by
      cases z with
      | nil => rw [Nt.val_nil] at hv; omega
      | cons d q => simp
    have hl : z.length ≤ 2 := by
      refine (Nt.can_len hc 2).1 ?_
      rw [hv, show (4294967296 : Int) ^ 2 = 18446744073709551616 by decide]
      exact h2
    refine ⟨by rw [hn]; exact decide_eq_false (by omega), by omega, hv, hz, ⟨hc, by omega, .inr ⟨hz, by omega, by omega, by omega⟩⟩⟩
set_option maxHeartbeats 1000000 in
theorem lKnown4 (w : World) (hTab : Tab w) :
    Calls Tryz.prog 12 #[] w fun e w' => e = .returned (.bool true) ∧ Below w.heap.size w w' := by
  have H1 := fun W => Hide.mk (rIntP 1 (by decide) (by decide) W)
  have H3 := fun W => Hide.mk (rIntP 3 (by decide) (by decide) W)
  have H5 := fun W => Hide.mk (rIntP 16777217 (by decide) (by decide) W)
  go_enter Tryz.func12, Tryz.ntmps12
  go_wp2_with fail
  refine (H1 _).out.mono ?_
  rintro e w2 ⟨n1, z1, x1, a1, c1, rfl, F1, l1, h1⟩
  have B1 := (Bx.nil w).keep h1
  obtain ⟨rfl, rfl, v1, hz1, g1⟩ := fm_oddP F1 (by decide) (by decide) (by decide)
  clear F1 h1
  go_wp2_with fail
  refine (H3 _).out.mono ?_
  rintro e w3 ⟨n3, z3, x3, a3, c3, rfl, F3, l3, h3⟩
  have B3 := B1.keep h3
  replace l1 := l1.below h3 (Nat.le_refl _)
  obtain ⟨rfl, rfl, v3, hz3, g3⟩ := fm_oddP F3 (by decide) (by decide) (by decide)
  clear F3 h3 B1 H1 H3
  have HQ := Hide.mk (pQuo false 1 (.inl rfl) false false a1 a3 c1 c3 z1 z3 0 0 (-1) w3 l1 l3 g1 g3 (hTab.below B3.bel (Nat.le_refl _)) hz1 hz3 (i := 65) (by rw [v1, v3]; exact .inr ⟨by decide, ⟨by decide, by decide⟩⟩) (by decide) (by decide) (by decide) rfl rfl rfl rfl)
  rw [v1, v3, show rdW false 1 (false != false) (-1) (qf 1 3 (0 - 0 + 1 - ulp false (-1))) (qg 1 3 (0 - 0 + 1 - ulp false (-1))) = 1051372203 by decide, show rdX false 1 (false != false) (-1) (qf 1 3 (0 - 0 + 1 - ulp false (-1))) (qg 1 3 (0 - 0 + 1 - ulp false (-1))) (qf 1 3 (0 - 0 + 1 - (-1 - (pr false : Nat)))) (qg 1 3 (0 - 0 + 1 - (-1 - (pr false : Nat)))) = 16 by decide, show fm false = 1 from rfl] at HQ
  clear l1 l3 g1 g3 hz1 hz3 v1 v3
  go_wp2_with fail
  refine HQ.out.mono ?_
  rintro e w4 ⟨rfl, h4⟩
  have B4 := B3.keep h4
  clear h4 B3 HQ
  go_wp2_with fail
  refine (H5 _).out.mono ?_
  rintro e w5 ⟨n5, z5, x5, a5, c5, rfl, F5, l5, h5⟩
  have B5 := B4.keep h5
  obtain ⟨rfl, rfl, v5, hz5, g5⟩ := fm_oddP F5 (by decide) (by decide) (by decide)
  clear F5 h5 B4 H5
  have HR := Hide.mk (pRound false 2 (.inr (.inl rfl)) false a5 c5 z5 0 25 w5 l5 g5 hz5 (hTab.below B5.bel (Nat.le_refl _)) (B := 25) (by rw [v5]; exact .inr ⟨by decide, ⟨by decide, by decide⟩⟩) (by decide) (by decide) rfl rfl rfl rfl)
  rw [v5, show rdW false 2 false 25 (qf 16777217 1 (0 + 1 - ulp false 25)) (qg 16777217 1 (0 + 1 - ulp false 25)) = 1266679809 by decide, show rdX false 2 false 25 (qf 16777217 1 (0 + 1 - ulp false 25)) (qg 16777217 1 (0 + 1 - ulp false 25)) (qf 16777217 1 (0 + 1 - (25 - (pr false : Nat)))) (qg 16777217 1 (0 + 1 - (25 - (pr false : Nat)))) = 16 by decide, show fm false = 1 from rfl] at HR
  clear l5 g5 hz5 v5
  go_wp2_with fail
  refine HR.out.mono ?_
  rintro e w6 ⟨rfl, h6⟩
  have B6 := B5.keep h6
  clear h6 B5 HR
  go_wp2
  go_ret
  exact ⟨rfl, B6.bel⟩
end Go.Proofs.YtdnghibkagcbcaaGreatDoor

namespace Go.Proofs.YtdnghibkagcbcaaGreatDoor
open Go.RowKit Go.Wd Go.Box
set_option linter.unusedVariables false
set_option maxRecDepth 3000
end Go.Proofs.YtdnghibkagcbcaaGreatDoor

namespace Go.Proofs.YtdnghibkagcbcaaGreatDoor
open Go.RowKit Go.Wd Go.Box
set_option linter.unusedVariables false
set_option maxRecDepth 3000
def bq (g : Bool) : Int := if g then 1 else 0
end Go.Proofs.YtdnghibkagcbcaaGreatDoor

namespace Go.Proofs.YtdnghibkagcbcaaGreatDoor
open Go.RowKit Go.Wd Go.Box
set_option linter.unusedVariables false
set_option maxRecDepth 3000
theorem qf_shift (x : Int) (t : Nat) (i : Int) : qf (x * 2 ^ t) 1 i = qf x 1 (i + t) ∧ qg (x * 2 ^ t) 1 i = qg x 1 (i + t) := by
  obtain ⟨c, h1, h2⟩ : ∃ c : Nat, t + i.toNat = (i + t).toNat + c ∧ (-i).toNat = (-(i + t)).toNat + c := ⟨t + i.toNat - (i + t).toNat, by omega, by omega⟩
  have hp := p2pos c
  unfold qf qg
  rw [Int.one_mul, Int.one_mul, Int.mul_assoc, ← Int.pow_add, h1, h2, Int.pow_add, Int.pow_add, ← Int.mul_assoc]
  refine ⟨Int.mul_ediv_mul_of_pos_left _ _ hp, ?_⟩
  rw [Int.mul_comm (x * 2 ^ (i + t).toNat), Int.mul_comm (2 ^ (-(i + t)).toNat), Int.mul_emod_mul_of_pos _ _ hp]
  generalize x * 2 ^ (i + t).toNat % 2 ^ (-(i + t)).toNat = u
  by_cases h : u = 0
  · subst h; simp
  · rw [decide_eq_true h, decide_eq_true (Int.mul_ne_zero (by omega) h)]
end Go.Proofs.YtdnghibkagcbcaaGreatDoor

namespace Go.Proofs.YtdnghibkagcbcaaGreatDoor
open Go.RowKit Go.Wd Go.Box
set_option linter.unusedVariables false
set_option maxRecDepth 3000
/-- A word's parts are the word. -/
theorem word_parts (b : Bool) {x : Int} (h : Ok b x) : x = sd b ((ue b x - lo b) * fr b + un b x) (ng b x) := by
  have h0 := h.1
  have h1 := h.2
  cases b
  · by_cases c1 : (2147483648 : Int) ≤ x
    · by_cases c2 : x % 2147483648 / 8388608 = 0
      · simp only [sd, ue, un, ng, fd, fn, sg, fr, lo, c1, c2, decide_true, if_true] at h1 ⊢; omega
      · simp only [sd, ue, un, ng, fd, fn, sg, fr, lo, c1, c2, decide_true, if_true, if_false] at h1 ⊢; omega
    · by_cases c2 : x % 2147483648 / 8388608 = 0
      · simp only [sd, ue, un, ng, fd, fn, sg, fr, lo, c1, c2, decide_false, if_true, Bool.false_eq_true, if_false] at h1 ⊢; omega
      · simp only [sd, ue, un, ng, fd, fn, sg, fr, lo, c1, c2, decide_false, Bool.false_eq_true, if_false] at h1 ⊢; omega
  · by_cases c1 : (9223372036854775808 : Int) ≤ x
    · by_cases c2 : x % 9223372036854775808 / 4503599627370496 = 0
      · simp only [sd, ue, un, ng, fd, fn, sg, fr, lo, c1, c2, decide_true, if_true] at h1 ⊢; omega
      · simp only [sd, ue, un, ng, fd, fn, sg, fr, lo, c1, c2, decide_true, if_true, if_false] at h1 ⊢; omega
    · by_cases c2 : x % 9223372036854775808 / 4503599627370496 = 0
      · simp only [sd, ue, un, ng, fd, fn, sg, fr, lo, c1, c2, decide_false, if_true, Bool.false_eq_true, if_false] at h1 ⊢; omega
      · simp only [sd, ue, un, ng, fd, fn, sg, fr, lo, c1, c2, decide_false, Bool.false_eq_true, if_false] at h1 ⊢; omega
theorem fm_word (b : Bool) {x : Int} {n : Bool} {z : List Int} {ex : Int} (N : DN n z ex (wv b x)) : Fm (sv (ng b x) (un b x)) (ue b x) n z ex := by
  have hK := KK_int
  have F := N.fm
  unfold wv pK at F
  have hE : -1100 ≤ ue b x := by
    unfold ue
    have := lo_bd b
    omega
  have := F.unscale
  rw [show -(KK : Int) + ((ue b x + KK).toNat : Nat) = ue b x by omega] at this
  exact this
theorem un_bits (b : Bool) {x : Int} (h : Ok b x) (hf : sz b x < inf b) : 0 ≤ un b x ∧ un b x < 2 ^ pr b ∧ (ue b x ≠ lo b → 2 ^ (pr b - 1) ≤ un b x) ∧ lo b ≤ ue b x ∧ ue b x + pr b ≤ hi b := by
  have h0 := h.1
  have h1 := h.2
  cases b <;> simp only [ue, un, fd, fn, sz, sg, fr, lo, inf, pr, hi] at * <;> (refine ⟨?_, ?_, ?_, ?_, ?_⟩ <;> (try split) <;> omega)
/-- A number that a word has as its value is rounded to the word. -/
theorem rd_word (b : Bool) (m : Int) {x : Int} (h : Ok b x) (hf : sz b x < inf b) (hz : sz b x ≠ 0) {n : Bool} {z : List Int} {ex : Int} (N : DN n z ex (wv b x)) {B : Nat} (hB : BitLen (Nt.val z) B) :
    n = ng b x ∧ rdW b m n (B + ex) (qf (Nt.val z) 1 (ex + 1 - ulp b (B + ex))) (qg (Nt.val z) 1 (ex + 1 - ulp b (B + ex))) = x ∧ ∀ I J, rdX b m n (B + ex) (qf (Nt.val z) 1 (ex + 1 - ulp b (B + ex))) (qg (Nt.val z) 1 (ex + 1 - ulp b (B + ex))) I J = 0 := by
  have F := fm_word b N
  have up := un_pos hz
  obtain ⟨u0, u1, u2, u3, u4⟩ := un_bits b h hf
  have hab := natAbs_sv (ng b x) u0
  have hne : sv (ng b x) (un b x) ≠ 0 := fun q => by rw [q] at hab; simp at hab; omega
  obtain ⟨L, hL⟩ := bitLen_ex u0
  obtain ⟨t, rfl, ht, hc, hzz, hn, hv, hd, _⟩ := F.data hne (L := L) (by rw [hab]; exact hL)
  rw [sv_neg (ng b x) up] at hn
  subst hn
  have hval : Nt.val z * 2 ^ t = un b x := by
    have h8 := hab
    rw [← hv, natAbs_sv (ng b x) (Int.mul_nonneg (Nt.val_bd hc.1).1 (Int.le_of_lt (p2pos t)))] at h8
    exact h8
  obtain rfl := hB.unique hd
  have hpb := pr_bd b
  have hLp := bl_le hL u1
  have hT : ((L - t : Nat) : Int) + (ue b x + t) = L + ue b x := by omega
  have hul : ulp b ((L - t : Nat) + (ue b x + t)) = ue b x := by
    rw [hT]
    unfold ulp
    by_cases c : ue b x = lo b
    · omega
    · have := bl_ge hL (u2 c)
      omega
  obtain ⟨s1, s2⟩ := qf_shift (Nt.val z) t 1
  have hi1 : ue b x + t + 1 - ue b x = 1 + (t : Int) := by omega
  rw [hul, hi1, ← s1, ← s2, hval]
  have q1 : qf (un b x) 1 1 = 2 * un b x := by
    unfold qf
    rw [show (1 : Int).toNat = 1 from rfl, show (-(1 : Int)).toNat = 0 from rfl, Int.pow_zero, Int.mul_one, Int.ediv_one]
    omega
  have q2 : qg (un b x) 1 1 = false := by
    unfold qg
    rw [show (-(1 : Int)).toNat = 0 from rfl, Int.pow_zero, Int.mul_one, Int.emod_one]
    rfl
  rw [q1, q2]
  have hp0 : plc (2 * un b x) false = 0 := by unfold plc; simp
  have htk : tk m (ng b x) (2 * un b x) false = un b x := by unfold tk; rw [if_pos hp0]; omega
  have hov : ¬ 2 ^ (hi b - ue b x).toNat ≤ un b x := by
    have := p2le (show pr b ≤ (hi b - ue b x).toNat by omega)
    omega
  refine ⟨rfl, ?_, fun I J => ?_⟩
  · unfold rdW
    rw [hul, htk, if_neg hov]
    exact (word_parts b h).symm
  · unfold rdX
    rw [hul, htk, if_neg hov, if_pos hp0]
def swp (m : Int) : Int := if m = 4 then 5 else if m = 5 then 4 else m
end Go.Proofs.YtdnghibkagcbcaaGreatDoor

namespace Go.Proofs.YtdnghibkagcbcaaGreatDoor
open Go.RowKit Go.Wd Go.Box
set_option linter.unusedVariables false
set_option maxRecDepth 3000
end Go.Proofs.YtdnghibkagcbcaaGreatDoor

namespace Go.Proofs.YtdnghibkagcbcaaGreatDoor
open Go.RowKit Go.Wd Go.Box
set_option linter.unusedVariables false
set_option maxRecDepth 3000
end Go.Proofs.YtdnghibkagcbcaaGreatDoor

namespace Go.Proofs.YtdnghibkagcbcaaGreatDoor
open Go.RowKit Go.Wd Go.Box
set_option linter.unusedVariables false
set_option maxRecDepth 3000
end Go.Proofs.YtdnghibkagcbcaaGreatDoor

namespace Go.Proofs.YtdnghibkagcbcaaGreatDoor
open Go.RowKit Go.Wd Go.Box
set_option linter.unusedVariables false
set_option maxRecDepth 3000
end Go.Proofs.YtdnghibkagcbcaaGreatDoor

namespace Go.Proofs.YtdnghibkagcbcaaGreatDoor
open Go.RowKit Go.Wd Go.Box
set_option linter.unusedVariables false
set_option maxRecDepth 3000
end Go.Proofs.YtdnghibkagcbcaaGreatDoor

namespace Go.Proofs.YtdnghibkagcbcaaGreatDoor
open Go.RowKit Go.Wd Go.Box
set_option linter.unusedVariables false
set_option maxRecDepth 3000
/-- Where a magnitude lies among the sizes: f is the greatest one whose value is not above it, p tells where between that one's value and the next one's. -/
structure Sits (b : Bool) (M f p : Int) : Prop where
  nn : 0 ≤ f
  le : vz b f ≤ M
  lt : M < vz b (f + 1)
  cs : (p = 0 ∧ M = vz b f) ∨ (p = 1 ∧ vz b f < M ∧ 2 * M < vz b f + vz b (f + 1)) ∨ (p = 2 ∧ vz b f < M ∧ 2 * M = vz b f + vz b (f + 1)) ∨ (p = 3 ∧ vz b f < M ∧ vz b f + vz b (f + 1) < 2 * M)
def tkf (m : Int) (n : Bool) (f p : Int) : Int := if p = 0 then f else if outw m n (decide (f % 2 = 1)) p then f + 1 else f
def wcap (b : Bool) (m : Int) (n : Bool) (s : Int) : Int := if inf b ≤ s then (if outw m n false 3 then inf b else inf b - 1) else s
theorem Sits.p_bd {b : Bool} {M f p : Int} (S : Sits b M f p) : 0 ≤ p ∧ p ≤ 3 := by
  rcases S.cs with ⟨h, _⟩ | ⟨h, _⟩ | ⟨h, _⟩ | ⟨h, _⟩ <;> omega
theorem Sits.f_le {b : Bool} {M1 f1 p1 M2 f2 p2 : Int} (S1 : Sits b M1 f1 p1) (S2 : Sits b M2 f2 p2) (h : M1 ≤ M2) : f1 ≤ f2 := by
  by_cases c : f1 ≤ f2
  · exact c
  · have := vz_mono b (s := f2 + 1) (t := f1) (by have := S2.nn; omega) (by omega)
    have := S1.le
    have := S2.lt
    omega
theorem outw_mono (m : Int) (n o : Bool) {p q : Int} (h0 : 1 ≤ p) (h : p ≤ q) (hq : q ≤ 3) (c : outw m n o p = true) : outw m n o q = true := by
  unfold outw at *
  by_cases m1 : m = 1
  · simp only [if_pos m1] at c ⊢
    by_cases p2 : p = 2
    · by_cases q2 : q = 2
      · simp only [if_pos p2] at c
        simp only [if_pos q2]
        exact c
      · simp only [if_neg q2]
        exact decide_eq_true (by omega)
    · simp only [if_neg p2] at c
      have := of_decide_eq_true c
      simp only [if_neg (show ¬ q = 2 by omega)]
      exact decide_eq_true (by omega)
  · by_cases m2 : m = 2
    · simp only [if_neg m1, if_pos m2] at c ⊢
      have := of_decide_eq_true c
      exact decide_eq_true (by omega)
    · simp only [if_neg m1, if_neg m2] at c ⊢
      exact c
theorem tkf_bd (m : Int) (n : Bool) (f p : Int) : f ≤ tkf m n f p ∧ tkf m n f p ≤ f + 1 := by
  unfold tkf
  split
  · omega
  · split <;> omega
/-- What is greater is not rounded to less. -/
theorem tkf_mono {b : Bool} {M1 f1 p1 M2 f2 p2 : Int} (m : Int) (n : Bool) (S1 : Sits b M1 f1 p1) (S2 : Sits b M2 f2 p2) (h : M1 ≤ M2) : tkf m n f1 p1 ≤ tkf m n f2 p2 := by
  have h1 := S1.f_le S2 h
  have t1 := tkf_bd m n f1 p1
  have t2 := tkf_bd m n f2 p2
  by_cases c : f1 < f2
  · omega
  · obtain rfl : f1 = f2 := by omega
    have hp : p1 ≤ p2 := by
      have c1 := S1.cs
      have c2 := S2.cs
      omega
    have b1 := S1.p_bd
    have b2 := S2.p_bd
    unfold tkf at *
    by_cases d1 : p1 = 0
    · rw [if_pos d1]; omega
    · rw [if_neg d1, if_neg (show ¬ p2 = 0 by omega)]
      by_cases d2 : outw m n (decide (f1 % 2 = 1)) p1 = true
      · rw [if_pos d2, if_pos (outw_mono m n _ (by omega) hp b2.2 d2)]; omega
      · rw [if_neg d2]; split <;> omega
theorem wcap_mono (b : Bool) (m : Int) (n : Bool) {s t : Int} (h : s ≤ t) : wcap b m n s ≤ wcap b m n t := by
  unfold wcap
  by_cases c : inf b ≤ s
  · rw [if_pos c, if_pos (show inf b ≤ t by omega)]; omega
  · rw [if_neg c]
    by_cases d : inf b ≤ t
    · rw [if_pos d]; split <;> omega
    · rw [if_neg d]; exact h
theorem wcap_bd (b : Bool) (m : Int) (n : Bool) {s : Int} (h : 0 ≤ s) : 0 ≤ wcap b m n s ∧ wcap b m n s ≤ inf b := by
  have := inf_bd b
  unfold wcap
  split
  · split <;> omega
  · omega
/-- The size of the word to which a magnitude is rounded. -/
def Rdd (b : Bool) (m : Int) (n : Bool) (M s : Int) : Prop := (M = 0 ∧ s = 0 ∧ n = false) ∨ (0 < M ∧ ∃ f p, Sits b M f p ∧ s = wcap b m n (tkf m n f p))
theorem Rdd.bd {b : Bool} {m : Int} {n : Bool} {M s : Int} (R : Rdd b m n M s) : 0 ≤ s ∧ s ≤ inf b ∧ 0 ≤ M := by
  have := inf_bd b
  rcases R with ⟨rfl, rfl, _⟩ | ⟨hM, f, p, S, rfl⟩
  · omega
  · have h1 := S.nn
    have h2 := tkf_bd m n f p
    have h3 := wcap_bd b m n (s := tkf m n f p) (by omega)
    omega
theorem Rdd.mono {b : Bool} {m : Int} {n1 n2 : Bool} {M1 s1 M2 s2 : Int} (R1 : Rdd b m n1 M1 s1) (R2 : Rdd b m n2 M2 s2) (h : sv n1 M1 ≤ sv n2 M2) : sv n1 s1 ≤ sv n2 s2 := by
  have d1 := R1.bd
  have d2 := R2.bd
  rcases R1 with ⟨e1, e2, rfl⟩ | ⟨hM1, f1, p1, S1, e1⟩
  · cases n2
    · simp only [sv_f] at *; omega
    · rcases R2 with ⟨_, _, q⟩ | ⟨hM2, _⟩
      · exact absurd q (by decide)
      · simp only [sv_f, sv_t] at *; omega
  · rcases R2 with ⟨e3, e4, rfl⟩ | ⟨hM2, f2, p2, S2, e3⟩
    · cases n1 <;> simp only [sv_f, sv_t] at * <;> omega
    · cases n1 <;> cases n2 <;> simp only [sv_f, sv_t] at *
      · rw [e1, e3]
        exact wcap_mono b m false (tkf_mono m false S1 S2 h)
      · omega
      · omega
      · have := wcap_mono b m true (tkf_mono m true S2 S1 (by omega))
        rw [← e1, ← e3] at this
        omega
theorem vz_strict (b : Bool) {s t : Int} (h : 0 ≤ s) (hst : s < t) : vz b s < vz b t := by
  have h1 := vz_mono b (s := s + 1) (t := t) (by omega) (by omega)
  have h2 := vz_step b s h
  have h3 := pK_pos (es b s)
  omega
end Go.Proofs.YtdnghibkagcbcaaGreatDoor

namespace Go.Proofs.YtdnghibkagcbcaaGreatDoor
open Go.RowKit Go.Wd Go.Box
set_option linter.unusedVariables false
set_option maxRecDepth 3000
end Go.Proofs.YtdnghibkagcbcaaGreatDoor

namespace Go.Proofs.YtdnghibkagcbcaaGreatDoor
open Go.RowKit Go.Wd Go.Box
set_option linter.unusedVariables false
set_option maxRecDepth 3000
end Go.Proofs.YtdnghibkagcbcaaGreatDoor

namespace Go.Proofs.YtdnghibkagcbcaaGreatDoor
open Go.RowKit Go.Wd Go.Box
set_option linter.unusedVariables false
set_option maxRecDepth 3000
end Go.Proofs.YtdnghibkagcbcaaGreatDoor

namespace Go.Proofs.YtdnghibkagcbcaaGreatDoor
open Go.RowKit Go.Wd Go.Box
set_option linter.unusedVariables false
set_option maxRecDepth 3000
end Go.Proofs.YtdnghibkagcbcaaGreatDoor

namespace Go.Drawn
open Go
section
variable {P : Program} {ops : Array Oper} {Q : Exit → Act → World → Prop} {md : Region.Mode} {I : World → Prop}
end
end Go.Drawn
namespace Go.Proofs.YtdnghibkagcbcaaGreatDoor
open Go.RowKit Go.Wd Go.Box
set_option linter.unusedVariables false
set_option maxRecDepth 3000
end Go.Proofs.YtdnghibkagcbcaaGreatDoor

namespace Go.Proofs.YtdnghibkagcbcaaGreatDoor
open Go.RowKit Go.Wd Go.Box
set_option linter.unusedVariables false
set_option maxRecDepth 3000
end Go.Proofs.YtdnghibkagcbcaaGreatDoor

namespace Go.Proofs.YtdnghibkagcbcaaGreatDoor
open Go.RowKit Go.Wd Go.Box
set_option linter.unusedVariables false
set_option maxRecDepth 3000
end Go.Proofs.YtdnghibkagcbcaaGreatDoor

namespace Go.Proofs.YtdnghibkagcbcaaGreatDoor
open Go.RowKit Go.Wd Go.Box
set_option linter.unusedVariables false
set_option maxRecDepth 3000
end Go.Proofs.YtdnghibkagcbcaaGreatDoor

namespace Go.Proofs.YtdnghibkagcbcaaGreatDoor
open Go.RowKit Go.Wd Go.Box
set_option linter.unusedVariables false
set_option maxRecDepth 3000
end Go.Proofs.YtdnghibkagcbcaaGreatDoor
