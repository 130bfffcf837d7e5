import Derived.Test.YtioiakemmhfhkaaDoorWK
import Derived.Test.YtioiakemmhfhkaaDoorWR
namespace Go.Proofs.YtioiakemmhfhkaaDoor
open Go.RowKit Go.Wd Go.Box
set_option linter.unusedVariables false
set_option maxRecDepth 3000
/-- Finite numbers are below two to that. -/
def wd (b : Bool) : Int := match b with | true => 1024 | false => 128
theorem rLow (b : Bool) (w : World) :
    Calls Tryd.prog 144 #[.int .u8 (fm b)] w fun e w' => e = .returned (.int .i64 (lo b)) ∧ Below w.heap.size w w' := by
  cases b
  · rw [show fm false = 1 from rfl]
    go_enter Tryd.func144, Tryd.ntmps144
    go_wp2
    go_ret
    exact ⟨rfl, Below.refl _ _⟩
  · rw [show fm true = 2 from rfl]
    go_enter Tryd.func144, Tryd.ntmps144
    go_wp2
    go_ret
    exact ⟨rfl, Below.refl _ _⟩
theorem rWide (b : Bool) (w : World) :
    Calls Tryd.prog 149 #[.int .u8 (fm b)] w fun e w' => e = .returned (.int .i64 (wd b)) ∧ Below w.heap.size w w' := by
  cases b
  · rw [show fm false = 1 from rfl]
    go_enter Tryd.func149, Tryd.ntmps149
    go_wp2
    go_ret
    exact ⟨rfl, Below.refl _ _⟩
  · rw [show fm true = 2 from rfl]
    go_enter Tryd.func149, Tryd.ntmps149
    go_wp2
    go_ret
    exact ⟨rfl, Below.refl _ _⟩
theorem rFinite (b : Bool) (x : Int) (h : Ok b x) (hf : sz b x < inf b) (w : World) :
    Calls Tryd.prog 84 #[.int .u8 (fm b), .int .u64 x] w fun e w' => e = .returned (.bool true) ∧ Below w.heap.size w w' := by
  have d0 : cl b x = 1 ∨ cl b x = 2 ∨ cl b x = 3 := by
    unfold cl
    by_cases c1 : sz b x = 0
    · rw [if_pos c1]; exact .inl rfl
    · rw [if_neg c1]
      by_cases c2 : sz b x < fr b
      · rw [if_pos c2]; exact .inr (.inl rfl)
      · rw [if_neg c2, if_pos hf]; exact .inr (.inr rfl)
  have HC := fun w => Hide.mk (rClass b x h w)
  rcases d0 with d | d | d
  · rw [d] at HC
    go_enter Tryd.func84, Tryd.ntmps84
    go_wp2_with fail
    refine (HC _).out.mono ?_
    rintro e w2 ⟨rfl, h2⟩
    go_wp2
    go_ret
    exact ⟨rfl, h2⟩
  · rw [d] at HC
    go_enter Tryd.func84, Tryd.ntmps84
    go_wp2_with fail
    refine (HC _).out.mono ?_
    rintro e w2 ⟨rfl, h2⟩
    go_wp2
    go_ret
    exact ⟨rfl, h2⟩
  · rw [d] at HC
    go_enter Tryd.func84, Tryd.ntmps84
    go_wp2_with fail
    refine (HC _).out.mono ?_
    rintro e w2 ⟨rfl, h2⟩
    go_wp2
    go_ret
    exact ⟨rfl, h2⟩
theorem rFinite_no (b : Bool) (x : Int) (h : Ok b x) (hf : inf b ≤ sz b x) (w : World) :
    Calls Tryd.prog 84 #[.int .u8 (fm b), .int .u64 x] w fun e w' => e = .returned (.bool false) ∧ Below w.heap.size w w' := by
  have hi : fr b ≤ inf b := by cases b <;> decide
  have hp := fr_pos b
  have d0 : cl b x = 4 ∨ cl b x = 5 := by
    unfold cl
    rw [if_neg (by omega), if_neg (by omega), if_neg (by omega)]
    by_cases c : sz b x = inf b
    · rw [if_pos c]; exact .inl rfl
    · rw [if_neg c]; exact .inr rfl
  have HC := fun w => Hide.mk (rClass b x h w)
  rcases d0 with d | d
  · rw [d] at HC
    go_enter Tryd.func84, Tryd.ntmps84
    go_wp2_with fail
    refine (HC _).out.mono ?_
    rintro e w2 ⟨rfl, h2⟩
    go_wp2
    go_ret
    exact ⟨rfl, h2⟩
  · rw [d] at HC
    go_enter Tryd.func84, Tryd.ntmps84
    go_wp2_with fail
    refine (HC _).out.mono ?_
    rintro e w2 ⟨rfl, h2⟩
    go_wp2
    go_ret
    exact ⟨rfl, h2⟩
theorem dformZ (n : Bool) (a : Option Addr) (ca : Nat) (ex : Int) (w : World) :
    Calls Tryd.prog 44 #[.bool n, .slice a 0 ca, .int .i64 ex] w fun e w' => e = .returned noD ∧ Below w.heap.size w w' := by
  go_enter Tryd.func44, Tryd.ntmps44
  go_wp2
  refine bodyPost_ret (results_D1 rfl _ _ w.heap.size _ rfl (dcell_new _ _ _ _)) rfl ?_
  exact ⟨rfl, below_alloc _ _⟩
theorem sv_mul (n : Bool) (x y : Int) : sv n x * y = sv n (x * y) := by
  cases n
  · rfl
  · rw [sv_t, sv_t, Int.neg_mul]
/-- The number x times 2 to the e, in its form. -/
theorem dformD (n : Bool) (a : Option Addr) (ca : Nat) (za : List Int) (e : Int) (w : World) {x : Int} (ha : Lie w a za) (ga : Good za x) (hx : x < 9007199254740992) (h0 : -1074 ≤ e) (h1 : e ≤ 2000) :
    Calls Tryd.prog 44 #[.bool n, .slice a za.length ca, .int .i64 e] w fun e' w' => ∃ n2 zs ex a' c, e' = .returned (dV n2 a' zs.length c ex) ∧ DN n2 zs ex (sv n x * pK e) ∧ Lie w' a' zs ∧ Below w.heap.size w w' := by
  have hK := KK_eq
  have hx0 := ga.nonneg
  by_cases hz : 0 < za.length
  · have hp := ga.pos hz
    obtain ⟨t, ht⟩ := low_ex hp
    refine (dform41 n a ca za e w ha ga hz ht (by omega) (by omega)).mono ?_
    rintro e' w' ⟨zs, a', c, rfl, h⟩
    have e2 := low_half ht
    have hpt := p2pos t
    have h5 : 1 ≤ x / 2 ^ t := by
      have := Int.ediv_nonneg hx0 (Int.le_of_lt hpt)
      have := ht.one
      omega
    have h6 : 1 * 2 ^ t ≤ x / 2 ^ t * 2 ^ t := Int.mul_le_mul_of_nonneg_right h5 (Int.le_of_lt hpt)
    have h7 : t < 64 := p2lt (by have : (2 : Int) ^ 64 = 18446744073709551616 := by decide
                                 omega)
    have hg := h.good
    have hz2 := hg.ne (show 0 < x / 2 ^ t by omega)
    refine ⟨n, zs, e + t, a', c, rfl, ⟨⟨hg.can, hg.len, .inr ⟨hz2, by rw [hg.val]; exact ht.one, by omega, by omega⟩⟩, ?_⟩, h.lie, h.bel⟩
    unfold dv pK
    rw [hg.val, show (e + (t : Int) + KK).toNat = (e + KK).toNat + t by omega, Int.pow_add, sv_mul, sv_mul, Int.mul_comm ((2 : Int) ^ (e + KK).toNat), ← Int.mul_assoc, ← e2]
  · obtain ⟨rfl, hx2⟩ := ga.nil (by omega)
    refine (dformZ n a ca e w).mono ?_
    rintro e' w' ⟨rfl, hb⟩
    refine ⟨false, [], 0, none, 0, rfl, ⟨zeroDG, ?_⟩, .inl rfl, hb⟩
    rw [zero_dv, hx2]
    cases n <;> simp [sv]
set_option maxHeartbeats 2000000 in
theorem rValue0 (b : Bool) (x : Int) (h : Ok b x) (hd : fd b x = 0) (w : World) :
    Calls Tryd.prog 85 #[.int .u8 (fm b), .int .u64 x] w fun e w' => ∃ n zs ex a c, e = .returned (dV n a zs.length c ex) ∧ DN n zs ex (wv b x) ∧ Lie w' a zs ∧ Below w.heap.size w w' := by
  have B1 := (Bx.nil w).push (DO false none 0 0 0)
  have hu : un b x = fn b x := by unfold un; rw [if_pos hd]
  have hue : ue b x = lo b := by unfold ue; rw [hd]; omega
  have HWV : Hide (wv b x = sv (ng b x) (fn b x) * pK (lo b)) := ⟨by unfold wv; rw [hu, hue]⟩
  have hfn := fn_bd b x
  have hfr := fr_le b
  have hlo := lo_bd b
  have d1 : (fd b x == 0) = true := by simp [hd]
  clear hu hue hd
  go_enter Tryd.func85, Tryd.ntmps85
  go_wp2_with fail
  refine (rSplit b x h _).mono ?_
  rintro e w2 ⟨rfl, h2⟩
  have HF := (B1.keep h2).push (FO (ng b x) (fd b x) (fn b x))
  have hlt : w.heap.size < w2.heap.size := (B1.keep h2).lt (.head _)
  clear h2 B1
  go_wp2_with fail
  generalize hw3 : w2.alloc (FO (ng b x) (fd b x) (fn b x)) = w3 at *
  clear hw3
  replace HF := HF.drew
  have HI := HF.sub (L' := [(w2.heap.size, FO (ng b x) (fd b x) (fn b x))]) (by simp)
  have sh := fun W (hW : Bx w [(w2.heap.size, FO (ng b x) (fd b x) (fn b x))] W) => fields_cells hW w2.heap.size (ng b x) (fd b x) (fn b x) (.head _)
  refine Drawn.enter (Bx w [(w2.heap.size, FO (ng b x) (fd b x) (fn b x))]) (by kernel_rfl) ?_
  refine Drawn.take (i := 0) (v := ?v0) rfl (by kernel_rfl) (by kernel_rfl) (by kernel_rfl) (fun _ _ _ h => h) (by kernel_rfl) (fun W hW => ?_) HI ?_
  rotate_left
  · have ⟨q0, q1, q2⟩ := sh W hW
    go_simp <;> exact rfl
  refine Drawn.take (i := 1) (v := ?v1) rfl (by kernel_rfl) (by kernel_rfl) (by kernel_rfl) (fun _ _ _ h => h) (by kernel_rfl) (fun W hW => ?_) HI ?_
  rotate_left
  · have ⟨q0, q1, q2⟩ := sh W hW
    go_simp <;> exact rfl
  refine Drawn.take (i := 2) (v := ?v2) rfl (by kernel_rfl) (by kernel_rfl) (by kernel_rfl) (fun _ _ _ h => h) (by kernel_rfl) (fun W hW => ?_) HI ?_
  rotate_left
  · have ⟨q0, q1, q2⟩ := sh W hW
    go_simp <;> exact rfl
  refine Drawn.take (i := 3) (v := ?v3) rfl (by kernel_rfl) (by kernel_rfl) (by kernel_rfl) (fun _ _ _ h => h) (by kernel_rfl) (fun W hW => ?_) HI ?_
  rotate_left
  · have ⟨q0, q1, q2⟩ := sh W hW
    go_simp <;> exact rfl
  refine Drawn.take (i := 5) (v := ?v4) rfl (by kernel_rfl) (by kernel_rfl) (by kernel_rfl) (fun _ _ _ h => h) (by kernel_rfl) (fun W hW => ?_) HI ?_
  rotate_left
  · have ⟨q0, q1, q2⟩ := sh W hW
    go_simp <;> exact rfl
  refine Drawn.one (j := 4) (by kernel_rfl) rfl (fun K hK => ?_)
  go_simp
  refine (of17 (fn b x) hfn.1 (by omega) _).mono ?_
  rintro e wn ⟨zs, a, c, rfl, hN, _⟩
  refine hK _ _ (HI.keep hN.bel) ?_
  clear hK K
  replace HI := HI.keep hN.bel
  replace HF := HF.keep hN.bel
  have hl := hN.lie
  have G := Hide.mk hN.good
  clear hN
  refine Drawn.one (j := 6) (by kernel_rfl) rfl (fun K hK => ?_)
  go_simp
  refine (rLow b _).mono ?_
  rintro e wm ⟨rfl, hn⟩
  refine hK _ _ (HI.keep hn) ?_
  clear hK K
  replace HI := HI.keep hn
  replace HF := HF.keep hn
  replace hl := hl.below hn (Nat.le_refl _)
  clear hn
  refine Drawn.one (j := 7) (by kernel_rfl) rfl (fun K hK => ?_)
  go_simp
  refine (dformD (ng b x) a c zs (lo b) _ hl G.out (by omega) (by omega) (by omega)).mono ?_
  rintro e wd2 ⟨n9, z9, x9, a9, c9, rfl, hD, l9, hb9⟩
  refine hK _ _ (HI.keep hb9) ?_
  clear hK K
  replace HI := HI.keep hb9
  replace HF := HF.keep hb9
  have HD := Hide.mk (And.intro hD l9)
  clear hD l9 hb9 G hl
  obtain ⟨⟨f0, f1, f2⟩, r0, r1, r2⟩ := cells3 HF w.heap.size _ _ _ _ (.tail _ (.head _))
  have HF2 := (HF.sub (L' := [(w.heap.size, DO false none 0 0 0), (w2.heap.size, FO (ng b x) (fd b x) (fn b x))]) (by simp)).fill3 (Nat.le_refl _) (by simp; omega) (.bool n9) (.slice a9 z9.length c9) (.int .i64 x9)
  refine Drawn.one (j := 8) (by kernel_rfl) rfl (fun K hK => ?_)
  go_simp
  replace HI := HF2.sub (L' := [(w2.heap.size, FO (ng b x) (fd b x) (fn b x))]) (by simp)
  refine hK _ _ HI ?_
  clear hK K f0 f1 f2 r0 r1 r2
  refine Drawn.done (by kernel_rfl) ?_
  try go_simp
  go_wp2
  refine bodyPost_ret (results_D1 rfl _ _ w.heap.size _ rfl ⟨HF2.head, rfl⟩) rfl ?_
  have L := Live.set3 (g := w.heap.size) ⟨(HF.sub (L' := [(w.heap.size, DO false none 0 0 0)]) (by simp)).head, rfl⟩ (.bool n9) (.slice a9 z9.length c9) (.int .i64 x9) (Live.one HD.out.2)
  exact ⟨n9, z9, x9, a9, c9, rfl, by rw [HWV.out]; exact HD.out.1, L.all (a9, z9) (.head _), HF2.bel⟩
end Go.Proofs.YtioiakemmhfhkaaDoor
