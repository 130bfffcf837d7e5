import Derived.Test.YtdnghibkagcbcaaGreatDoorRoundMirrorPart12
namespace Go.Proofs.YtdnghibkagcbcaaGreatDoor
open Go.RowKit Go.Wd Go.Box
set_option linter.unusedVariables false
set_option maxRecDepth 3000
set_option maxHeartbeats 4000000 in
theorem rm_bzi (n : Bool) (a : Option Addr) (c : Nat) (z : List Int) (ex x : Int) (b : Bool) (hq : dmayB n z ex = true) (hx : Ok b x) (KP1 : ∀ W, Lie W a z → Tab W → Calls Tryz.prog 14 #[.int .u8 (fm b), .int .u8 4, dV n a z.length c ex] W fun e w' => e = .returned (.tuple #[.int .u64 0, .int .u8 0, .int .i64 0]) ∧ Below W.heap.size W w') (KP2 : ∀ W, Lie W a z → Tab W → Calls Tryz.prog 14 #[.int .u8 (fm b), .int .u8 5, dV (rn n z) a z.length c ex] W fun e w' => e = .returned (.tuple #[.int .u64 0, .int .u8 0, .int .i64 0]) ∧ Below W.heap.size W w') (KS : ∀ W, Calls Tryz.prog 23 #[dV n a z.length c ex] W fun e w' => e = .returned (.int .i64 0) ∧ Below W.heap.size W w') (hf : inf b ≤ sz b x) (hl : (z.length : Int) ≤ 300) (w : World) (u : DLie w a z) (hT : Tab w) :
    Calls Tryz.prog 9 #[.int .u8 (fm b), .int .u8 4, dV n a z.length c ex, .int .u64 x] w fun e w' => e = .returned (.bool true) ∧ Below w.heap.size w w' := by
  have H1 := fun W h1 h2 => Hide.mk (KP1 W h1 h2)
  have H2 := fun W h1 h2 => Hide.mk (KP2 W h1 h2)
  have HS := fun W => Hide.mk (KS W)
  clear KP1 KP2 KS
  have hxx : (0 == 0) = true := by simp
  have BX := (Bx.nil w).push (DO n a z.length c ex)
  obtain ⟨⟨q0, q1, q2⟩, _⟩ := cells3 BX w.heap.size _ _ _ _ (show (w.heap.size, DO n a z.length c ex) ∈ _ by simp)
  go_enter Tryz.func9, Tryz.ntmps9
  go_wp2_with fail
  refine (lLong4 n a z.length c ex _ false (decide_eq_false (by omega))).mono ?_
  rintro e v56 ⟨rfl, hk⟩
  replace BX := BX.keep hk
  clear hk q0 q1 q2
  obtain ⟨⟨q0, q1, q2⟩, _⟩ := cells3 BX w.heap.size _ _ _ _ (show (w.heap.size, DO n a z.length c ex) ∈ _ by simp)
  go_wp2_with fail
  replace BX := BX.push (DO n a z.length c ex)
  clear q0 q1 q2
  obtain ⟨⟨q0, q1, q2⟩, _⟩ := cells3 BX w.heap.size _ _ _ _ (show (w.heap.size, DO n a z.length c ex) ∈ _ by simp)
  refine (lOpens1 b 4 (.inr (.inr (.inr (.inl rfl)))) _ n a c z ex _ (u.below BX.bel) hq (at3_of BX (.head _))).mono ?_
  rintro e v57 ⟨rfl, hk⟩
  replace BX := BX.keep hk
  clear hk q0 q1 q2
  obtain ⟨⟨q0, q1, q2⟩, _⟩ := cells3 BX w.heap.size _ _ _ _ (show (w.heap.size, DO n a z.length c ex) ∈ _ by simp)
  go_wp2_with fail
  refine (rGood b x hx _).mono ?_
  rintro e v58 ⟨rfl, hk⟩
  replace BX := BX.keep hk
  clear hk q0 q1 q2
  obtain ⟨⟨q0, q1, q2⟩, _⟩ := cells3 BX w.heap.size _ _ _ _ (show (w.heap.size, DO n a z.length c ex) ∈ _ by simp)
  go_wp2_with fail
  refine ((H1 _ (u.below BX.bel).lie (hT.below BX.bel (Nat.le_refl _))).out).mono ?_
  rintro e v59 ⟨rfl, hk⟩
  replace BX := BX.keep hk
  clear hk q0 q1 q2
  obtain ⟨⟨q0, q1, q2⟩, _⟩ := cells3 BX w.heap.size _ _ _ _ (show (w.heap.size, DO n a z.length c ex) ∈ _ by simp)
  go_wp2_with fail
  refine (rNegD n a c z ex _).mono ?_
  rintro e v60 ⟨rfl, hk⟩
  replace BX := BX.keep hk
  clear hk q0 q1 q2
  obtain ⟨⟨q0, q1, q2⟩, _⟩ := cells3 BX w.heap.size _ _ _ _ (show (w.heap.size, DO n a z.length c ex) ∈ _ by simp)
  go_wp2_with fail
  refine ((H2 _ (u.below BX.bel).lie (hT.below BX.bel (Nat.le_refl _))).out).mono ?_
  rintro e v61 ⟨rfl, hk⟩
  replace BX := BX.keep hk
  clear hk q0 q1 q2
  obtain ⟨⟨q0, q1, q2⟩, _⟩ := cells3 BX w.heap.size _ _ _ _ (show (w.heap.size, DO n a z.length c ex) ∈ _ by simp)
  go_wp2_with fail
  refine ((HS _).out).mono ?_
  rintro e v62 ⟨rfl, hk⟩
  replace BX := BX.keep hk
  clear hk q0 q1 q2
  obtain ⟨⟨q0, q1, q2⟩, _⟩ := cells3 BX w.heap.size _ _ _ _ (show (w.heap.size, DO n a z.length c ex) ∈ _ by simp)
  go_wp2_with fail
  refine (rFinite_no b x hx hf _).mono ?_
  rintro e v63 ⟨rfl, hk⟩
  replace BX := BX.keep hk
  clear hk q0 q1 q2
  obtain ⟨⟨q0, q1, q2⟩, _⟩ := cells3 BX w.heap.size _ _ _ _ (show (w.heap.size, DO n a z.length c ex) ∈ _ by simp)
  go_wp2_with fail
  refine (lKnown4 _ (hT.below BX.bel (Nat.le_refl _))).mono ?_
  rintro e v64 ⟨rfl, hk⟩
  replace BX := BX.keep hk
  clear hk q0 q1 q2
  obtain ⟨⟨q0, q1, q2⟩, _⟩ := cells3 BX w.heap.size _ _ _ _ (show (w.heap.size, DO n a z.length c ex) ∈ _ by simp)
  go_wp2
  go_ret
  exact ⟨rfl, BX.bel⟩
set_option maxHeartbeats 4000000 in
theorem rm_bzf (n : Bool) (a : Option Addr) (c : Nat) (z : List Int) (ex x : Int) (b : Bool) (hq : dmayB n z ex = true) (hx : Ok b x) (KP1 : ∀ W, Lie W a z → Tab W → Calls Tryz.prog 14 #[.int .u8 (fm b), .int .u8 4, dV n a z.length c ex] W fun e w' => e = .returned (.tuple #[.int .u64 0, .int .u8 0, .int .i64 0]) ∧ Below W.heap.size W w') (KP2 : ∀ W, Lie W a z → Tab W → Calls Tryz.prog 14 #[.int .u8 (fm b), .int .u8 5, dV (rn n z) a z.length c ex] W fun e w' => e = .returned (.tuple #[.int .u64 0, .int .u8 0, .int .i64 0]) ∧ Below W.heap.size W w') (KS : ∀ W, Calls Tryz.prog 23 #[dV n a z.length c ex] W fun e w' => e = .returned (.int .i64 0) ∧ Below W.heap.size W w') (hf : sz b x < inf b) (V : Int) (hV : Hide ((x = sg b ∧ V = 0) ∨ (x ≠ sg b ∧ V = x))) (KP3 : ∀ n' zs ex' a' c' W, DN n' zs ex' (wv b x) → Lie W a' zs → Tab W → Calls Tryz.prog 14 #[.int .u8 (fm b), .int .u8 4, dV n' a' (List.length zs) c' ex'] W fun e w' => e = .returned (.tuple #[.int .u64 V, .int .u8 0, .int .i64 0]) ∧ Below W.heap.size W w') (hl : (z.length : Int) ≤ 300) (w : World) (u : DLie w a z) (hT : Tab w) :
    Calls Tryz.prog 9 #[.int .u8 (fm b), .int .u8 4, dV n a z.length c ex, .int .u64 x] w fun e w' => e = .returned (.bool true) ∧ Below w.heap.size w w' := by
  have H1 := fun W h1 h2 => Hide.mk (KP1 W h1 h2)
  have H2 := fun W h1 h2 => Hide.mk (KP2 W h1 h2)
  have HS := fun W => Hide.mk (KS W)
  clear KP1 KP2 KS
  have H3 := fun n' zs ex' a' c' W h1 h2 h3 => Hide.mk (KP3 n' zs ex' a' c' W h1 h2 h3)
  clear KP3
  have hxx : (0 == 0) = true := by simp
  have BX := (Bx.nil w).push (DO n a z.length c ex)
  obtain ⟨⟨q0, q1, q2⟩, _⟩ := cells3 BX w.heap.size _ _ _ _ (show (w.heap.size, DO n a z.length c ex) ∈ _ by simp)
  go_enter Tryz.func9, Tryz.ntmps9
  go_wp2_with fail
  refine (lLong4 n a z.length c ex _ false (decide_eq_false (by omega))).mono ?_
  rintro e v65 ⟨rfl, hk⟩
  replace BX := BX.keep hk
  clear hk q0 q1 q2
  obtain ⟨⟨q0, q1, q2⟩, _⟩ := cells3 BX w.heap.size _ _ _ _ (show (w.heap.size, DO n a z.length c ex) ∈ _ by simp)
  go_wp2_with fail
  replace BX := BX.push (DO n a z.length c ex)
  clear q0 q1 q2
  obtain ⟨⟨q0, q1, q2⟩, _⟩ := cells3 BX w.heap.size _ _ _ _ (show (w.heap.size, DO n a z.length c ex) ∈ _ by simp)
  refine (lOpens1 b 4 (.inr (.inr (.inr (.inl rfl)))) _ n a c z ex _ (u.below BX.bel) hq (at3_of BX (.head _))).mono ?_
  rintro e v66 ⟨rfl, hk⟩
  replace BX := BX.keep hk
  clear hk q0 q1 q2
  obtain ⟨⟨q0, q1, q2⟩, _⟩ := cells3 BX w.heap.size _ _ _ _ (show (w.heap.size, DO n a z.length c ex) ∈ _ by simp)
  go_wp2_with fail
  refine (rGood b x hx _).mono ?_
  rintro e v67 ⟨rfl, hk⟩
  replace BX := BX.keep hk
  clear hk q0 q1 q2
  obtain ⟨⟨q0, q1, q2⟩, _⟩ := cells3 BX w.heap.size _ _ _ _ (show (w.heap.size, DO n a z.length c ex) ∈ _ by simp)
  go_wp2_with fail
  refine ((H1 _ (u.below BX.bel).lie (hT.below BX.bel (Nat.le_refl _))).out).mono ?_
  rintro e v68 ⟨rfl, hk⟩
  replace BX := BX.keep hk
  clear hk q0 q1 q2
  obtain ⟨⟨q0, q1, q2⟩, _⟩ := cells3 BX w.heap.size _ _ _ _ (show (w.heap.size, DO n a z.length c ex) ∈ _ by simp)
  go_wp2_with fail
  refine (rNegD n a c z ex _).mono ?_
  rintro e v69 ⟨rfl, hk⟩
  replace BX := BX.keep hk
  clear hk q0 q1 q2
  obtain ⟨⟨q0, q1, q2⟩, _⟩ := cells3 BX w.heap.size _ _ _ _ (show (w.heap.size, DO n a z.length c ex) ∈ _ by simp)
  go_wp2_with fail
  refine ((H2 _ (u.below BX.bel).lie (hT.below BX.bel (Nat.le_refl _))).out).mono ?_
  rintro e v70 ⟨rfl, hk⟩
  replace BX := BX.keep hk
  clear hk q0 q1 q2
  obtain ⟨⟨q0, q1, q2⟩, _⟩ := cells3 BX w.heap.size _ _ _ _ (show (w.heap.size, DO n a z.length c ex) ∈ _ by simp)
  go_wp2_with fail
  refine ((HS _).out).mono ?_
  rintro e v71 ⟨rfl, hk⟩
  replace BX := BX.keep hk
  clear hk q0 q1 q2
  obtain ⟨⟨q0, q1, q2⟩, _⟩ := cells3 BX w.heap.size _ _ _ _ (show (w.heap.size, DO n a z.length c ex) ∈ _ by simp)
  go_wp2_with fail
  refine (rFinite b x hx hf _).mono ?_
  rintro e v72 ⟨rfl, hk⟩
  replace BX := BX.keep hk
  clear hk q0 q1 q2
  obtain ⟨⟨q0, q1, q2⟩, _⟩ := cells3 BX w.heap.size _ _ _ _ (show (w.heap.size, DO n a z.length c ex) ∈ _ by simp)
  go_wp2_with fail
  refine (rValue b x hx _).mono ?_
  rintro e v74 ⟨nv, zv, xv, av, cv, rfl, Nv, lv, hk⟩
  replace BX := BX.keep hk
  have HN := Hide.mk Nv
  clear hk Nv q0 q1 q2
  obtain ⟨⟨q0, q1, q2⟩, _⟩ := cells3 BX w.heap.size _ _ _ _ (show (w.heap.size, DO n a z.length c ex) ∈ _ by simp)
  go_wp2_with fail
  refine ((H3 _ _ _ _ _ _ HN.out lv (hT.below BX.bel (Nat.le_refl _))).out).mono ?_
  rintro e v75 ⟨rfl, hk⟩
  replace BX := BX.keep hk
  clear hk q0 q1 q2
  obtain ⟨⟨q0, q1, q2⟩, _⟩ := cells3 BX w.heap.size _ _ _ _ (show (w.heap.size, DO n a z.length c ex) ∈ _ by simp)
  go_wp2_with fail
  clear lv HN
  refine (rSign b _).mono ?_
  rintro e v76 ⟨rfl, hk⟩
  replace BX := BX.keep hk
  clear hk q0 q1 q2
  obtain ⟨⟨q0, q1, q2⟩, _⟩ := cells3 BX w.heap.size _ _ _ _ (show (w.heap.size, DO n a z.length c ex) ∈ _ by simp)
  rcases hV.out with ⟨rfl, rfl⟩ | ⟨hx1, rfl⟩
  · have e1 : (sg b == sg b) = true := by simp
    go_wp2_with fail
    refine (lKnown4 _ (hT.below BX.bel (Nat.le_refl _))).mono ?_
    rintro e v77 ⟨rfl, hk⟩
    replace BX := BX.keep hk
    clear hk q0 q1 q2
    obtain ⟨⟨q0, q1, q2⟩, _⟩ := cells3 BX w.heap.size _ _ _ _ (show (w.heap.size, DO n a z.length c ex) ∈ _ by simp)
    go_wp2
    go_ret
    exact ⟨rfl, BX.bel⟩
  · have e1 : (V == sg b) = false := beq_eq_false_iff_ne.2 hx1
    have e2 : (V == V) = true := by simp
    go_wp2_with fail
    refine (lKnown4 _ (hT.below BX.bel (Nat.le_refl _))).mono ?_
    rintro e v78 ⟨rfl, hk⟩
    replace BX := BX.keep hk
    clear hk q0 q1 q2
    obtain ⟨⟨q0, q1, q2⟩, _⟩ := cells3 BX w.heap.size _ _ _ _ (show (w.heap.size, DO n a z.length c ex) ∈ _ by simp)
    go_wp2
    go_ret
    exact ⟨rfl, BX.bel⟩
set_option maxHeartbeats 4000000 in
theorem rm_bni (n : Bool) (a : Option Addr) (c : Nat) (z : List Int) (ex x : Int) (b : Bool) (hq : dmayB n z ex = true) (hx : Ok b x) (W1 W2 X1 s R : Int) (hs : (s == 0) = false) (hR1 : W1.tmod (sg b) = R) (hR2 : W2.tmod (sg b) = R) (hne : (W1 == W2) = false) (KP1 : ∀ W, Lie W a z → Tab W → Calls Tryz.prog 14 #[.int .u8 (fm b), .int .u8 4, dV n a z.length c ex] W fun e w' => e = .returned (.tuple #[.int .u64 W1, .int .u8 X1, .int .i64 0]) ∧ Below W.heap.size W w') (KP2 : ∀ W, Lie W a z → Tab W → Calls Tryz.prog 14 #[.int .u8 (fm b), .int .u8 5, dV (rn n z) a z.length c ex] W fun e w' => e = .returned (.tuple #[.int .u64 W2, .int .u8 X1, .int .i64 0]) ∧ Below W.heap.size W w') (KS : ∀ W, Calls Tryz.prog 23 #[dV n a z.length c ex] W fun e w' => e = .returned (.int .i64 s) ∧ Below W.heap.size W w') (hf : inf b ≤ sz b x) (hl : (z.length : Int) ≤ 300) (w : World) (u : DLie w a z) (hT : Tab w) :
    Calls Tryz.prog 9 #[.int .u8 (fm b), .int .u8 4, dV n a z.length c ex, .int .u64 x] w fun e w' => e = .returned (.bool true) ∧ Below w.heap.size w w' := by
  have H1 := fun W h1 h2 => Hide.mk (KP1 W h1 h2)
  have H2 := fun W h1 h2 => Hide.mk (KP2 W h1 h2)
  have HS := fun W => Hide.mk (KS W)
  clear KP1 KP2 KS
  have HR1 := Hide.mk hR1
  have HR2 := Hide.mk hR2
  clear hR1 hR2
  have hsg : 0 < sg b := sg_pos b
  have hsg0 : (sg b == 0) = false := beq_eq_false_iff_ne.2 (by omega)
  have hrr : (R == R) = true := by simp
  have hxx : (X1 == X1) = true := by simp
  have BX := (Bx.nil w).push (DO n a z.length c ex)
  obtain ⟨⟨q0, q1, q2⟩, _⟩ := cells3 BX w.heap.size _ _ _ _ (show (w.heap.size, DO n a z.length c ex) ∈ _ by simp)
  go_enter Tryz.func9, Tryz.ntmps9
  go_wp2_with fail
  refine (lLong4 n a z.length c ex _ false (decide_eq_false (by omega))).mono ?_
  rintro e v79 ⟨rfl, hk⟩
  replace BX := BX.keep hk
  clear hk q0 q1 q2
  obtain ⟨⟨q0, q1, q2⟩, _⟩ := cells3 BX w.heap.size _ _ _ _ (show (w.heap.size, DO n a z.length c ex) ∈ _ by simp)
  go_wp2_with fail
  replace BX := BX.push (DO n a z.length c ex)
  clear q0 q1 q2
  obtain ⟨⟨q0, q1, q2⟩, _⟩ := cells3 BX w.heap.size _ _ _ _ (show (w.heap.size, DO n a z.length c ex) ∈ _ by simp)
  refine (lOpens1 b 4 (.inr (.inr (.inr (.inl rfl)))) _ n a c z ex _ (u.below BX.bel) hq (at3_of BX (.head _))).mono ?_
  rintro e v80 ⟨rfl, hk⟩
  replace BX := BX.keep hk
  clear hk q0 q1 q2
  obtain ⟨⟨q0, q1, q2⟩, _⟩ := cells3 BX w.heap.size _ _ _ _ (show (w.heap.size, DO n a z.length c ex) ∈ _ by simp)
  go_wp2_with fail
  refine (rGood b x hx _).mono ?_
  rintro e v81 ⟨rfl, hk⟩
  replace BX := BX.keep hk
  clear hk q0 q1 q2
  obtain ⟨⟨q0, q1, q2⟩, _⟩ := cells3 BX w.heap.size _ _ _ _ (show (w.heap.size, DO n a z.length c ex) ∈ _ by simp)
  go_wp2_with fail
  refine ((H1 _ (u.below BX.bel).lie (hT.below BX.bel (Nat.le_refl _))).out).mono ?_
  rintro e v82 ⟨rfl, hk⟩
  replace BX := BX.keep hk
  clear hk q0 q1 q2
  obtain ⟨⟨q0, q1, q2⟩, _⟩ := cells3 BX w.heap.size _ _ _ _ (show (w.heap.size, DO n a z.length c ex) ∈ _ by simp)
  go_wp2_with fail
  refine (rNegD n a c z ex _).mono ?_
  rintro e v83 ⟨rfl, hk⟩
  replace BX := BX.keep hk
  clear hk q0 q1 q2
  obtain ⟨⟨q0, q1, q2⟩, _⟩ := cells3 BX w.heap.size _ _ _ _ (show (w.heap.size, DO n a z.length c ex) ∈ _ by simp)
  go_wp2_with fail
  refine ((H2 _ (u.below BX.bel).lie (hT.below BX.bel (Nat.le_refl _))).out).mono ?_
  rintro e v84 ⟨rfl, hk⟩
  replace BX := BX.keep hk
  clear hk q0 q1 q2
  obtain ⟨⟨q0, q1, q2⟩, _⟩ := cells3 BX w.heap.size _ _ _ _ (show (w.heap.size, DO n a z.length c ex) ∈ _ by simp)
  go_wp2_with fail
  refine ((HS _).out).mono ?_
  rintro e v85 ⟨rfl, hk⟩
  replace BX := BX.keep hk
  clear hk q0 q1 q2
  obtain ⟨⟨q0, q1, q2⟩, _⟩ := cells3 BX w.heap.size _ _ _ _ (show (w.heap.size, DO n a z.length c ex) ∈ _ by simp)
  go_wp2_with fail
  clear q0 q1 q2
  have HI := BX.tail.drew
  clear BX
  have sh := fun W (hW : Bx w [(w.heap.size, DO n a z.length c ex)] W) => (cells3 hW w.heap.size _ _ _ _ (.head _)).1
  refine Drawn.enter (Bx w [(w.heap.size, DO n a z.length c ex)]) (by kernel_rfl) ?_
  refine Drawn.tk (i := 0) (v := ?v572) rfl (fun W hW => ?_) HI ?_
  rotate_left
  · have ⟨q0, q1, q2⟩ := sh W hW
    go_simp <;> exact rfl
  refine Drawn.tk (i := 1) (v := ?v573) rfl (fun W hW => ?_) HI ?_
  rotate_left
  · have ⟨q0, q1, q2⟩ := sh W hW
    go_simp <;> exact rfl
  refine Drawn.tk (i := 4) (v := ?v574) rfl (fun W hW => ?_) HI ?_
  rotate_left
  · have ⟨q0, q1, q2⟩ := sh W hW
    go_simp <;> exact rfl
  refine Drawn.tk (i := 5) (v := ?v575) rfl (fun W hW => ?_) HI ?_
  rotate_left
  · have ⟨q0, q1, q2⟩ := sh W hW
    go_simp <;> exact rfl
  refine Drawn.one (j := 2) (by kernel_rfl) rfl (fun K hK => ?_)
  go_simp
  refine (rSign b _).mono ?_
  rintro e wn ⟨rfl, hn⟩
  refine hK _ _ (HI.keep hn) ?_
  clear hK K
  replace HI := HI.keep hn
  clear hn
  refine Drawn.tk (i := 3) (v := .int .u64 R) rfl (fun W hW => ?_) HI ?_
  · have ⟨q0, q1, q2⟩ := sh W hW
    go_simp <;> (rw [if_neg (Int.ne_of_gt hsg), HR1.out])
  refine Drawn.one (j := 6) (by kernel_rfl) rfl (fun K hK => ?_)
  go_simp
  refine (rSign b _).mono ?_
  rintro e wn ⟨rfl, hn⟩
  refine hK _ _ (HI.keep hn) ?_
  clear hK K
  replace HI := HI.keep hn
  clear hn
  refine Drawn.tk (i := 7) (v := .int .u64 R) rfl (fun W hW => ?_) HI ?_
  · have ⟨q0, q1, q2⟩ := sh W hW
    go_simp <;> (rw [if_neg (Int.ne_of_gt hsg), HR2.out])
  refine Drawn.tk (i := 8) (v := ?v576) rfl (fun W hW => ?_) HI ?_
  rotate_left
  · have ⟨q0, q1, q2⟩ := sh W hW
    go_simp <;> exact rfl
  refine Drawn.tk (i := 9) (v := ?v577) rfl (fun W hW => ?_) HI ?_
  rotate_left
  · have ⟨q0, q1, q2⟩ := sh W hW
    go_simp <;> exact rfl
  refine Drawn.tk (i := 10) (v := ?v578) rfl (fun W hW => ?_) HI ?_
  rotate_left
  · have ⟨q0, q1, q2⟩ := sh W hW
    go_simp <;> exact rfl
  refine Drawn.tk (i := 11) (v := ?v579) rfl (fun W hW => ?_) HI ?_
  rotate_left
  · have ⟨q0, q1, q2⟩ := sh W hW
    go_simp <;> exact rfl
  refine Drawn.tk (i := 12) (v := ?v580) rfl (fun W hW => ?_) HI ?_
  rotate_left
  · have ⟨q0, q1, q2⟩ := sh W hW
    go_simp <;> exact rfl
  refine Drawn.tk (i := 13) (v := ?v581) rfl (fun W hW => ?_) HI ?_
  rotate_left
  · have ⟨q0, q1, q2⟩ := sh W hW
    go_simp <;> exact rfl
  refine Drawn.done (by kernel_rfl) ?_
  try go_simp
  have BX := HI
  clear HI sh
  obtain ⟨⟨q0, q1, q2⟩, _⟩ := cells3 BX w.heap.size _ _ _ _ (show (w.heap.size, DO n a z.length c ex) ∈ _ by simp)
  go_wp2_with fail
  refine (rFinite_no b x hx hf _).mono ?_
  rintro e v86 ⟨rfl, hk⟩
  replace BX := BX.keep hk
  clear hk q0 q1 q2
  obtain ⟨⟨q0, q1, q2⟩, _⟩ := cells3 BX w.heap.size _ _ _ _ (show (w.heap.size, DO n a z.length c ex) ∈ _ by simp)
  go_wp2_with fail
  refine (lKnown4 _ (hT.below BX.bel (Nat.le_refl _))).mono ?_
  rintro e v87 ⟨rfl, hk⟩
  replace BX := BX.keep hk
  clear hk q0 q1 q2
  obtain ⟨⟨q0, q1, q2⟩, _⟩ := cells3 BX w.heap.size _ _ _ _ (show (w.heap.size, DO n a z.length c ex) ∈ _ by simp)
  go_wp2
  go_ret
  exact ⟨rfl, BX.bel⟩
set_option maxHeartbeats 4000000 in
theorem rm_bnf (n : Bool) (a : Option Addr) (c : Nat) (z : List Int) (ex x : Int) (b : Bool) (hq : dmayB n z ex = true) (hx : Ok b x) (W1 W2 X1 s R : Int) (hs : (s == 0) = false) (hR1 : W1.tmod (sg b) = R) (hR2 : W2.tmod (sg b) = R) (hne : (W1 == W2) = false) (KP1 : ∀ W, Lie W a z → Tab W → Calls Tryz.prog 14 #[.int .u8 (fm b), .int .u8 4, dV n a z.length c ex] W fun e w' => e = .returned (.tuple #[.int .u64 W1, .int .u8 X1, .int .i64 0]) ∧ Below W.heap.size W w') (KP2 : ∀ W, Lie W a z → Tab W → Calls Tryz.prog 14 #[.int .u8 (fm b), .int .u8 5, dV (rn n z) a z.length c ex] W fun e w' => e = .returned (.tuple #[.int .u64 W2, .int .u8 X1, .int .i64 0]) ∧ Below W.heap.size W w') (KS : ∀ W, Calls Tryz.prog 23 #[dV n a z.length c ex] W fun e w' => e = .returned (.int .i64 s) ∧ Below W.heap.size W w') (hf : sz b x < inf b) (V : Int) (hV : Hide ((x = sg b ∧ V = 0) ∨ (x ≠ sg b ∧ V = x))) (KP3 : ∀ n' zs ex' a' c' W, DN n' zs ex' (wv b x) → Lie W a' zs → Tab W → Calls Tryz.prog 14 #[.int .u8 (fm b), .int .u8 4, dV n' a' (List.length zs) c' ex'] W fun e w' => e = .returned (.tuple #[.int .u64 V, .int .u8 0, .int .i64 0]) ∧ Below W.heap.size W w') (hl : (z.length : Int) ≤ 300) (w : World) (u : DLie w a z) (hT : Tab w) :
    Calls Tryz.prog 9 #[.int .u8 (fm b), .int .u8 4, dV n a z.length c ex, .int .u64 x] w fun e w' => e = .returned (.bool true) ∧ Below w.heap.size w w' := by
  have H1 := fun W h1 h2 => Hide.mk (KP1 W h1 h2)
  have H2 := fun W h1 h2 => Hide.mk (KP2 W h1 h2)
  have HS := fun W => Hide.mk (KS W)
  clear KP1 KP2 KS
  have HR1 := Hide.mk hR1
  have HR2 := Hide.mk hR2
  clear hR1 hR2
  have hsg : 0 < sg b := sg_pos b
  have hsg0 : (sg b == 0) = false := beq_eq_false_iff_ne.2 (by omega)
  have hrr : (R == R) = true := by simp
  have H3 := fun n' zs ex' a' c' W h1 h2 h3 => Hide.mk (KP3 n' zs ex' a' c' W h1 h2 h3)
  clear KP3
  have hxx : (X1 == X1) = true := by simp
  have BX := (Bx.nil w).push (DO n a z.length c ex)
  obtain ⟨⟨q0, q1, q2⟩, _⟩ := cells3 BX w.heap.size _ _ _ _ (show (w.heap.size, DO n a z.length c ex) ∈ _ by simp)
  go_enter Tryz.func9, Tryz.ntmps9
  go_wp2_with fail
  refine (lLong4 n a z.length c ex _ false (decide_eq_false (by omega))).mono ?_
  rintro e v88 ⟨rfl, hk⟩
  replace BX := BX.keep hk
  clear hk q0 q1 q2
  obtain ⟨⟨q0, q1, q2⟩, _⟩ := cells3 BX w.heap.size _ _ _ _ (show (w.heap.size, DO n a z.length c ex) ∈ _ by simp)
  go_wp2_with fail
  replace BX := BX.push (DO n a z.length c ex)
  clear q0 q1 q2
  obtain ⟨⟨q0, q1, q2⟩, _⟩ := cells3 BX w.heap.size _ _ _ _ (show (w.heap.size, DO n a z.length c ex) ∈ _ by simp)
  refine (lOpens1 b 4 (.inr (.inr (.inr (.inl rfl)))) _ n a c z ex _ (u.below BX.bel) hq (at3_of BX (.head _))).mono ?_
  rintro e v89 ⟨rfl, hk⟩
  replace BX := BX.keep hk
  clear hk q0 q1 q2
  obtain ⟨⟨q0, q1, q2⟩, _⟩ := cells3 BX w.heap.size _ _ _ _ (show (w.heap.size, DO n a z.length c ex) ∈ _ by simp)
  go_wp2_with fail
  refine (rGood b x hx _).mono ?_
  rintro e v90 ⟨rfl, hk⟩
  replace BX := BX.keep hk
  clear hk q0 q1 q2
  obtain ⟨⟨q0, q1, q2⟩, _⟩ := cells3 BX w.heap.size _ _ _ _ (show (w.heap.size, DO n a z.length c ex) ∈ _ by simp)
  go_wp2_with fail
  refine ((H1 _ (u.below BX.bel).lie (hT.below BX.bel (Nat.le_refl _))).out).mono ?_
  rintro e v91 ⟨rfl, hk⟩
  replace BX := BX.keep hk
  clear hk q0 q1 q2
  obtain ⟨⟨q0, q1, q2⟩, _⟩ := cells3 BX w.heap.size _ _ _ _ (show (w.heap.size, DO n a z.length c ex) ∈ _ by simp)
  go_wp2_with fail
  refine (rNegD n a c z ex _).mono ?_
  rintro e v92 ⟨rfl, hk⟩
  replace BX := BX.keep hk
  clear hk q0 q1 q2
  obtain ⟨⟨q0, q1, q2⟩, _⟩ := cells3 BX w.heap.size _ _ _ _ (show (w.heap.size, DO n a z.length c ex) ∈ _ by simp)
  go_wp2_with fail
  refine ((H2 _ (u.below BX.bel).lie (hT.below BX.bel (Nat.le_refl _))).out).mono ?_
  rintro e v93 ⟨rfl, hk⟩
  replace BX := BX.keep hk
  clear hk q0 q1 q2
  obtain ⟨⟨q0, q1, q2⟩, _⟩ := cells3 BX w.heap.size _ _ _ _ (show (w.heap.size, DO n a z.length c ex) ∈ _ by simp)
  go_wp2_with fail
  refine ((HS _).out).mono ?_
  rintro e v94 ⟨rfl, hk⟩
  replace BX := BX.keep hk
  clear hk q0 q1 q2
  obtain ⟨⟨q0, q1, q2⟩, _⟩ := cells3 BX w.heap.size _ _ _ _ (show (w.heap.size, DO n a z.length c ex) ∈ _ by simp)
  go_wp2_with fail
  clear q0 q1 q2
  have HI := BX.tail.drew
  clear BX
  have sh := fun W (hW : Bx w [(w.heap.size, DO n a z.length c ex)] W) => (cells3 hW w.heap.size _ _ _ _ (.head _)).1
  refine Drawn.enter (Bx w [(w.heap.size, DO n a z.length c ex)]) (by kernel_rfl) ?_
  refine Drawn.tk (i := 0) (v := ?v582) rfl (fun W hW => ?_) HI ?_
  rotate_left
  · have ⟨q0, q1, q2⟩ := sh W hW
    go_simp <;> exact rfl
  refine Drawn.tk (i := 1) (v := ?v583) rfl (fun W hW => ?_) HI ?_
  rotate_left
  · have ⟨q0, q1, q2⟩ := sh W hW
    go_simp <;> exact rfl
  refine Drawn.tk (i := 4) (v := ?v584) rfl (fun W hW => ?_) HI ?_
  rotate_left
  · have ⟨q0, q1, q2⟩ := sh W hW
    go_simp <;> exact rfl
  refine Drawn.tk (i := 5) (v := ?v585) rfl (fun W hW => ?_) HI ?_
  rotate_left
  · have ⟨q0, q1, q2⟩ := sh W hW
    go_simp <;> exact rfl
  refine Drawn.one (j := 2) (by kernel_rfl) rfl (fun K hK => ?_)
  go_simp
  refine (rSign b _).mono ?_
  rintro e wn ⟨rfl, hn⟩
  refine hK _ _ (HI.keep hn) ?_
  clear hK K
  replace HI := HI.keep hn
  clear hn
  refine Drawn.tk (i := 3) (v := .int .u64 R) rfl (fun W hW => ?_) HI ?_
  · have ⟨q0, q1, q2⟩ := sh W hW
    go_simp <;> (rw [if_neg (Int.ne_of_gt hsg), HR1.out])
  refine Drawn.one (j := 6) (by kernel_rfl) rfl (fun K hK => ?_)
  go_simp
  refine (rSign b _).mono ?_
  rintro e wn ⟨rfl, hn⟩
  refine hK _ _ (HI.keep hn) ?_
  clear hK K
  replace HI := HI.keep hn
  clear hn
  refine Drawn.tk (i := 7) (v := .int .u64 R) rfl (fun W hW => ?_) HI ?_
  · have ⟨q0, q1, q2⟩ := sh W hW
    go_simp <;> (rw [if_neg (Int.ne_of_gt hsg), HR2.out])
  refine Drawn.tk (i := 8) (v := ?v586) rfl (fun W hW => ?_) HI ?_
  rotate_left
  · have ⟨q0, q1, q2⟩ := sh W hW
    go_simp <;> exact rfl
  refine Drawn.tk (i := 9) (v := ?v587) rfl (fun W hW => ?_) HI ?_
  rotate_left
  · have ⟨q0, q1, q2⟩ := sh W hW
    go_simp <;> exact rfl
  refine Drawn.tk (i := 10) (v := ?v588) rfl (fun W hW => ?_) HI ?_
  rotate_left
  · have ⟨q0, q1, q2⟩ := sh W hW
    go_simp <;> exact rfl
  refine Drawn.tk (i := 11) (v := ?v589) rfl (fun W hW => ?_) HI ?_
  rotate_left
  · have ⟨q0, q1, q2⟩ := sh W hW
    go_simp <;> exact rfl
  refine Drawn.tk (i := 12) (v := ?v590) rfl (fun W hW => ?_) HI ?_
  rotate_left
  · have ⟨q0, q1, q2⟩ := sh W hW
    go_simp <;> exact rfl
  refine Drawn.tk (i := 13) (v := ?v591) rfl (fun W hW => ?_) HI ?_
  rotate_left
  · have ⟨q0, q1, q2⟩ := sh W hW
    go_simp <;> exact rfl
  refine Drawn.done (by kernel_rfl) ?_
  try go_simp
  have BX := HI
  clear HI sh
  obtain ⟨⟨q0, q1, q2⟩, _⟩ := cells3 BX w.heap.size _ _ _ _ (show (w.heap.size, DO n a z.length c ex) ∈ _ by simp)
  go_wp2_with fail
  refine (rFinite b x hx hf _).mono ?_
  rintro e v95 ⟨rfl, hk⟩
  replace BX := BX.keep hk
  clear hk q0 q1 q2
  obtain ⟨⟨q0, q1, q2⟩, _⟩ := cells3 BX w.heap.size _ _ _ _ (show (w.heap.size, DO n a z.length c ex) ∈ _ by simp)
  go_wp2_with fail
  refine (rValue b x hx _).mono ?_
  rintro e v97 ⟨nv, zv, xv, av, cv, rfl, Nv, lv, hk⟩
  replace BX := BX.keep hk
  have HN := Hide.mk Nv
  clear hk Nv q0 q1 q2
  obtain ⟨⟨q0, q1, q2⟩, _⟩ := cells3 BX w.heap.size _ _ _ _ (show (w.heap.size, DO n a z.length c ex) ∈ _ by simp)
  go_wp2_with fail
  refine ((H3 _ _ _ _ _ _ HN.out lv (hT.below BX.bel (Nat.le_refl _))).out).mono ?_
  rintro e v98 ⟨rfl, hk⟩
  replace BX := BX.keep hk
  clear hk q0 q1 q2
  obtain ⟨⟨q0, q1, q2⟩, _⟩ := cells3 BX w.heap.size _ _ _ _ (show (w.heap.size, DO n a z.length c ex) ∈ _ by simp)
  go_wp2_with fail
  clear lv HN
  refine (rSign b _).mono ?_
  rintro e v99 ⟨rfl, hk⟩
  replace BX := BX.keep hk
  clear hk q0 q1 q2
  obtain ⟨⟨q0, q1, q2⟩, _⟩ := cells3 BX w.heap.size _ _ _ _ (show (w.heap.size, DO n a z.length c ex) ∈ _ by simp)
  rcases hV.out with ⟨rfl, rfl⟩ | ⟨hx1, rfl⟩
  · have e1 : (sg b == sg b) = true := by simp
    go_wp2_with fail
    refine (lKnown4 _ (hT.below BX.bel (Nat.le_refl _))).mono ?_
    rintro e v100 ⟨rfl, hk⟩
    replace BX := BX.keep hk
    clear hk q0 q1 q2
    obtain ⟨⟨q0, q1, q2⟩, _⟩ := cells3 BX w.heap.size _ _ _ _ (show (w.heap.size, DO n a z.length c ex) ∈ _ by simp)
    go_wp2
    go_ret
    exact ⟨rfl, BX.bel⟩
  · have e1 : (V == sg b) = false := beq_eq_false_iff_ne.2 hx1
    have e2 : (V == V) = true := by simp
    go_wp2_with fail
    refine (lKnown4 _ (hT.below BX.bel (Nat.le_refl _))).mono ?_
    rintro e v101 ⟨rfl, hk⟩
    replace BX := BX.keep hk
    clear hk q0 q1 q2
    obtain ⟨⟨q0, q1, q2⟩, _⟩ := cells3 BX w.heap.size _ _ _ _ (show (w.heap.size, DO n a z.length c ex) ∈ _ by simp)
    go_wp2
    go_ret
    exact ⟨rfl, BX.bel⟩
end Go.Proofs.YtdnghibkagcbcaaGreatDoor

namespace Go.Proofs.YtdnghibkagcbcaaGreatDoor
open Go.RowKit Go.Wd Go.Box
set_option linter.unusedVariables false
set_option maxRecDepth 3000
set_option maxHeartbeats 4000000 in
theorem rm_czi (n : Bool) (a : Option Addr) (c : Nat) (z : List Int) (ex x : Int) (b : Bool) (hq : dmayB n z ex = true) (hx : Ok b x) (KP1 : ∀ W, Lie W a z → Tab W → Calls Tryz.prog 14 #[.int .u8 (fm b), .int .u8 5, dV n a z.length c ex] W fun e w' => e = .returned (.tuple #[.int .u64 0, .int .u8 0, .int .i64 0]) ∧ Below W.heap.size W w') (KP2 : ∀ W, Lie W a z → Tab W → Calls Tryz.prog 14 #[.int .u8 (fm b), .int .u8 4, dV (rn n z) a z.length c ex] W fun e w' => e = .returned (.tuple #[.int .u64 0, .int .u8 0, .int .i64 0]) ∧ Below W.heap.size W w') (KS : ∀ W, Calls Tryz.prog 23 #[dV n a z.length c ex] W fun e w' => e = .returned (.int .i64 0) ∧ Below W.heap.size W w') (hf : inf b ≤ sz b x) (hl : (z.length : Int) ≤ 300) (w : World) (u : DLie w a z) (hT : Tab w) :
    Calls Tryz.prog 9 #[.int .u8 (fm b), .int .u8 5, dV n a z.length c ex, .int .u64 x] w fun e w' => e = .returned (.bool true) ∧ Below w.heap.size w w' := by
  have H1 := fun W h1 h2 => Hide.mk (KP1 W h1 h2)
  have H2 := fun W h1 h2 => Hide.mk (KP2 W h1 h2)
  have HS := fun W => Hide.mk (KS W)
  clear KP1 KP2 KS
  have hxx : (0 == 0) = true := by simp
  have BX := (Bx.nil w).push (DO n a z.length c ex)
  obtain ⟨⟨q0, q1, q2⟩, _⟩ := cells3 BX w.heap.size _ _ _ _ (show (w.heap.size, DO n a z.length c ex) ∈ _ by simp)
  go_enter Tryz.func9, Tryz.ntmps9
  go_wp2_with fail
  refine (lLong4 n a z.length c ex _ false (decide_eq_false (by omega))).mono ?_
  rintro e v102 ⟨rfl, hk⟩
  replace BX := BX.keep hk
  clear hk q0 q1 q2
  obtain ⟨⟨q0, q1, q2⟩, _⟩ := cells3 BX w.heap.size _ _ _ _ (show (w.heap.size, DO n a z.length c ex) ∈ _ by simp)
  go_wp2_with fail
  replace BX := BX.push (DO n a z.length c ex)
  clear q0 q1 q2
  obtain ⟨⟨q0, q1, q2⟩, _⟩ := cells3 BX w.heap.size _ _ _ _ (show (w.heap.size, DO n a z.length c ex) ∈ _ by simp)
  refine (lOpens1 b 5 (.inr (.inr (.inr (.inr rfl)))) _ n a c z ex _ (u.below BX.bel) hq (at3_of BX (.head _))).mono ?_
  rintro e v103 ⟨rfl, hk⟩
  replace BX := BX.keep hk
  clear hk q0 q1 q2
  obtain ⟨⟨q0, q1, q2⟩, _⟩ := cells3 BX w.heap.size _ _ _ _ (show (w.heap.size, DO n a z.length c ex) ∈ _ by simp)
  go_wp2_with fail
  refine (rGood b x hx _).mono ?_
  rintro e v104 ⟨rfl, hk⟩
  replace BX := BX.keep hk
  clear hk q0 q1 q2
  obtain ⟨⟨q0, q1, q2⟩, _⟩ := cells3 BX w.heap.size _ _ _ _ (show (w.heap.size, DO n a z.length c ex) ∈ _ by simp)
  go_wp2_with fail
  refine ((H1 _ (u.below BX.bel).lie (hT.below BX.bel (Nat.le_refl _))).out).mono ?_
  rintro e v105 ⟨rfl, hk⟩
  replace BX := BX.keep hk
  clear hk q0 q1 q2
  obtain ⟨⟨q0, q1, q2⟩, _⟩ := cells3 BX w.heap.size _ _ _ _ (show (w.heap.size, DO n a z.length c ex) ∈ _ by simp)
  go_wp2_with fail
  refine (rNegD n a c z ex _).mono ?_
  rintro e v106 ⟨rfl, hk⟩
  replace BX := BX.keep hk
  clear hk q0 q1 q2
  obtain ⟨⟨q0, q1, q2⟩, _⟩ := cells3 BX w.heap.size _ _ _ _ (show (w.heap.size, DO n a z.length c ex) ∈ _ by simp)
  go_wp2_with fail
  refine ((H2 _ (u.below BX.bel).lie (hT.below BX.bel (Nat.le_refl _))).out).mono ?_
  rintro e v107 ⟨rfl, hk⟩
  replace BX := BX.keep hk
  clear hk q0 q1 q2
  obtain ⟨⟨q0, q1, q2⟩, _⟩ := cells3 BX w.heap.size _ _ _ _ (show (w.heap.size, DO n a z.length c ex) ∈ _ by simp)
  go_wp2_with fail
  refine ((HS _).out).mono ?_
  rintro e v108 ⟨rfl, hk⟩
  replace BX := BX.keep hk
  clear hk q0 q1 q2
  obtain ⟨⟨q0, q1, q2⟩, _⟩ := cells3 BX w.heap.size _ _ _ _ (show (w.heap.size, DO n a z.length c ex) ∈ _ by simp)
  go_wp2_with fail
  refine (rFinite_no b x hx hf _).mono ?_
  rintro e v109 ⟨rfl, hk⟩
  replace BX := BX.keep hk
  clear hk q0 q1 q2
  obtain ⟨⟨q0, q1, q2⟩, _⟩ := cells3 BX w.heap.size _ _ _ _ (show (w.heap.size, DO n a z.length c ex) ∈ _ by simp)
  go_wp2_with fail
  refine (lKnown4 _ (hT.below BX.bel (Nat.le_refl _))).mono ?_
  rintro e v110 ⟨rfl, hk⟩
  replace BX := BX.keep hk
  clear hk q0 q1 q2
  obtain ⟨⟨q0, q1, q2⟩, _⟩ := cells3 BX w.heap.size _ _ _ _ (show (w.heap.size, DO n a z.length c ex) ∈ _ by simp)
  go_wp2
  go_ret
  exact ⟨rfl, BX.bel⟩
set_option maxHeartbeats 4000000 in
theorem rm_czf (n : Bool) (a : Option Addr) (c : Nat) (z : List Int) (ex x : Int) (b : Bool) (hq : dmayB n z ex = true) (hx : Ok b x) (KP1 : ∀ W, Lie W a z → Tab W → Calls Tryz.prog 14 #[.int .u8 (fm b), .int .u8 5, dV n a z.length c ex] W fun e w' => e = .returned (.tuple #[.int .u64 0, .int .u8 0, .int .i64 0]) ∧ Below W.heap.size W w') (KP2 : ∀ W, Lie W a z → Tab W → Calls Tryz.prog 14 #[.int .u8 (fm b), .int .u8 4, dV (rn n z) a z.length c ex] W fun e w' => e = .returned (.tuple #[.int .u64 0, .int .u8 0, .int .i64 0]) ∧ Below W.heap.size W w') (KS : ∀ W, Calls Tryz.prog 23 #[dV n a z.length c ex] W fun e w' => e = .returned (.int .i64 0) ∧ Below W.heap.size W w') (hf : sz b x < inf b) (V : Int) (hV : Hide ((x = sg b ∧ V = 0) ∨ (x ≠ sg b ∧ V = x))) (KP3 : ∀ n' zs ex' a' c' W, DN n' zs ex' (wv b x) → Lie W a' zs → Tab W → Calls Tryz.prog 14 #[.int .u8 (fm b), .int .u8 5, dV n' a' (List.length zs) c' ex'] W fun e w' => e = .returned (.tuple #[.int .u64 V, .int .u8 0, .int .i64 0]) ∧ Below W.heap.size W w') (hl : (z.length : Int) ≤ 300) (w : World) (u : DLie w a z) (hT : Tab w) :
    Calls Tryz.prog 9 #[.int .u8 (fm b), .int .u8 5, dV n a z.length c ex, .int .u64 x] w fun e w' => e = .returned (.bool true) ∧ Below w.heap.size w w' := by
  have H1 := fun W h1 h2 => Hide.mk (KP1 W h1 h2)
  have H2 := fun W h1 h2 => Hide.mk (KP2 W h1 h2)
  have HS := fun W => Hide.mk (KS W)
  clear KP1 KP2 KS
  have H3 := fun n' zs ex' a' c' W h1 h2 h3 => Hide.mk (KP3 n' zs ex' a' c' W h1 h2 h3)
  clear KP3
  have hxx : (0 == 0) = true := by simp
  have BX := (Bx.nil w).push (DO n a z.length c ex)
  obtain ⟨⟨q0, q1, q2⟩, _⟩ := cells3 BX w.heap.size _ _ _ _ (show (w.heap.size, DO n a z.length c ex) ∈ _ by simp)
  go_enter Tryz.func9, Tryz.ntmps9
  go_wp2_with fail
  refine (lLong4 n a z.length c ex _ false (decide_eq_false (by omega))).mono ?_
  rintro e v111 ⟨rfl, hk⟩
  replace BX := BX.keep hk
  clear hk q0 q1 q2
  obtain ⟨⟨q0, q1, q2⟩, _⟩ := cells3 BX w.heap.size _ _ _ _ (show (w.heap.size, DO n a z.length c ex) ∈ _ by simp)
  go_wp2_with fail
  replace BX := BX.push (DO n a z.length c ex)
  clear q0 q1 q2
  obtain ⟨⟨q0, q1, q2⟩, _⟩ := cells3 BX w.heap.size _ _ _ _ (show (w.heap.size, DO n a z.length c ex) ∈ _ by simp)
  refine (lOpens1 b 5 (.inr (.inr (.inr (.inr rfl)))) _ n a c z ex _ (u.below BX.bel) hq (at3_of BX (.head _))).mono ?_
  rintro e v112 ⟨rfl, hk⟩
  replace BX := BX.keep hk
  clear hk q0 q1 q2
  obtain ⟨⟨q0, q1, q2⟩, _⟩ := cells3 BX w.heap.size _ _ _ _ (show (w.heap.size, DO n a z.length c ex) ∈ _ by simp)
  go_wp2_with fail
  refine (rGood b x hx _).mono ?_
  rintro e v113 ⟨rfl, hk⟩
  replace BX := BX.keep hk
  clear hk q0 q1 q2
  obtain ⟨⟨q0, q1, q2⟩, _⟩ := cells3 BX w.heap.size _ _ _ _ (show (w.heap.size, DO n a z.length c ex) ∈ _ by simp)
  go_wp2_with fail
  refine ((H1 _ (u.below BX.bel).lie (hT.below BX.bel (Nat.le_refl _))).out).mono ?_
  rintro e v114 ⟨rfl, hk⟩
  replace BX := BX.keep hk
  clear hk q0 q1 q2
  obtain ⟨⟨q0, q1, q2⟩, _⟩ := cells3 BX w.heap.size _ _ _ _ (show (w.heap.size, DO n a z.length c ex) ∈ _ by simp)
  go_wp2_with fail
  refine (rNegD n a c z ex _).mono ?_
  rintro e v115 ⟨rfl, hk⟩
  replace BX := BX.keep hk
  clear hk q0 q1 q2
  obtain ⟨⟨q0, q1, q2⟩, _⟩ := cells3 BX w.heap.size _ _ _ _ (show (w.heap.size, DO n a z.length c ex) ∈ _ by simp)
  go_wp2_with fail
  refine ((H2 _ (u.below BX.bel).lie (hT.below BX.bel (Nat.le_refl _))).out).mono ?_
  rintro e v116 ⟨rfl, hk⟩
  replace BX := BX.keep hk
  clear hk q0 q1 q2
  obtain ⟨⟨q0, q1, q2⟩, _⟩ := cells3 BX w.heap.size _ _ _ _ (show (w.heap.size, DO n a z.length c ex) ∈ _ by simp)
  go_wp2_with fail
  refine ((HS _).out).mono ?_
  rintro e v117 ⟨rfl, hk⟩
  replace BX := BX.keep hk
  clear hk q0 q1 q2
  obtain ⟨⟨q0, q1, q2⟩, _⟩ := cells3 BX w.heap.size _ _ _ _ (show (w.heap.size, DO n a z.length c ex) ∈ _ by simp)
  go_wp2_with fail
  refine (rFinite b x hx hf _).mono ?_
  rintro e v118 ⟨rfl, hk⟩
  replace BX := BX.keep hk
  clear hk q0 q1 q2
  obtain ⟨⟨q0, q1, q2⟩, _⟩ := cells3 BX w.heap.size _ _ _ _ (show (w.heap.size, DO n a z.length c ex) ∈ _ by simp)
  go_wp2_with fail
  refine (rValue b x hx _).mono ?_
  rintro e v120 ⟨nv, zv, xv, av, cv, rfl, Nv, lv, hk⟩
  replace BX := BX.keep hk
  have HN := Hide.mk Nv
  clear hk Nv q0 q1 q2
  obtain ⟨⟨q0, q1, q2⟩, _⟩ := cells3 BX w.heap.size _ _ _ _ (show (w.heap.size, DO n a z.length c ex) ∈ _ by simp)
  go_wp2_with fail
  refine ((H3 _ _ _ _ _ _ HN.out lv (hT.below BX.bel (Nat.le_refl _))).out).mono ?_
  rintro e v121 ⟨rfl, hk⟩
  replace BX := BX.keep hk
  clear hk q0 q1 q2
  obtain ⟨⟨q0, q1, q2⟩, _⟩ := cells3 BX w.heap.size _ _ _ _ (show (w.heap.size, DO n a z.length c ex) ∈ _ by simp)
  go_wp2_with fail
  clear lv HN
  refine (rSign b _).mono ?_
  rintro e v122 ⟨rfl, hk⟩
  replace BX := BX.keep hk
  clear hk q0 q1 q2
  obtain ⟨⟨q0, q1, q2⟩, _⟩ := cells3 BX w.heap.size _ _ _ _ (show (w.heap.size, DO n a z.length c ex) ∈ _ by simp)
  rcases hV.out with ⟨rfl, rfl⟩ | ⟨hx1, rfl⟩
  · have e1 : (sg b == sg b) = true := by simp
    go_wp2_with fail
    refine (lKnown4 _ (hT.below BX.bel (Nat.le_refl _))).mono ?_
    rintro e v123 ⟨rfl, hk⟩
    replace BX := BX.keep hk
    clear hk q0 q1 q2
    obtain ⟨⟨q0, q1, q2⟩, _⟩ := cells3 BX w.heap.size _ _ _ _ (show (w.heap.size, DO n a z.length c ex) ∈ _ by simp)
    go_wp2
    go_ret
    exact ⟨rfl, BX.bel⟩
  · have e1 : (V == sg b) = false := beq_eq_false_iff_ne.2 hx1
    have e2 : (V == V) = true := by simp
    go_wp2_with fail
    refine (lKnown4 _ (hT.below BX.bel (Nat.le_refl _))).mono ?_
    rintro e v124 ⟨rfl, hk⟩
    replace BX := BX.keep hk
    clear hk q0 q1 q2
    obtain ⟨⟨q0, q1, q2⟩, _⟩ := cells3 BX w.heap.size _ _ _ _ (show (w.heap.size, DO n a z.length c ex) ∈ _ by simp)
    go_wp2
    go_ret
    exact ⟨rfl, BX.bel⟩
set_option maxHeartbeats 4000000 in
theorem rm_cni (n : Bool) (a : Option Addr) (c : Nat) (z : List Int) (ex x : Int) (b : Bool) (hq : dmayB n z ex = true) (hx : Ok b x) (W1 W2 X1 s R : Int) (hs : (s == 0) = false) (hR1 : W1.tmod (sg b) = R) (hR2 : W2.tmod (sg b) = R) (hne : (W1 == W2) = false) (KP1 : ∀ W, Lie W a z → Tab W → Calls Tryz.prog 14 #[.int .u8 (fm b), .int .u8 5, dV n a z.length c ex] W fun e w' => e = .returned (.tuple #[.int .u64 W1, .int .u8 X1, .int .i64 0]) ∧ Below W.heap.size W w') (KP2 : ∀ W, Lie W a z → Tab W → Calls Tryz.prog 14 #[.int .u8 (fm b), .int .u8 4, dV (rn n z) a z.length c ex] W fun e w' => e = .returned (.tuple #[.int .u64 W2, .int .u8 X1, .int .i64 0]) ∧ Below W.heap.size W w') (KS : ∀ W, Calls Tryz.prog 23 #[dV n a z.length c ex] W fun e w' => e = .returned (.int .i64 s) ∧ Below W.heap.size W w') (hf : inf b ≤ sz b x) (hl : (z.length : Int) ≤ 300) (w : World) (u : DLie w a z) (hT : Tab w) :
    Calls Tryz.prog 9 #[.int .u8 (fm b), .int .u8 5, dV n a z.length c ex, .int .u64 x] w fun e w' => e = .returned (.bool true) ∧ Below w.heap.size w w' := by
  have H1 := fun W h1 h2 => Hide.mk (KP1 W h1 h2)
  have H2 := fun W h1 h2 => Hide.mk (KP2 W h1 h2)
  have HS := fun W => Hide.mk (KS W)
  clear KP1 KP2 KS
  have HR1 := Hide.mk hR1
  have HR2 := Hide.mk hR2
  clear hR1 hR2
  have hsg : 0 < sg b := sg_pos b
  have hsg0 : (sg b == 0) = false := beq_eq_false_iff_ne.2 (by omega)
  have hrr : (R == R) = true := by simp
  have hxx : (X1 == X1) = true := by simp
  have BX := (Bx.nil w).push (DO n a z.length c ex)
  obtain ⟨⟨q0, q1, q2⟩, _⟩ := cells3 BX w.heap.size _ _ _ _ (show (w.heap.size, DO n a z.length c ex) ∈ _ by simp)
  go_enter Tryz.func9, Tryz.ntmps9
  go_wp2_with fail
  refine (lLong4 n a z.length c ex _ false (decide_eq_false (by omega))).mono ?_
  rintro e v125 ⟨rfl, hk⟩
  replace BX := BX.keep hk
  clear hk q0 q1 q2
  obtain ⟨⟨q0, q1, q2⟩, _⟩ := cells3 BX w.heap.size _ _ _ _ (show (w.heap.size, DO n a z.length c ex) ∈ _ by simp)
  go_wp2_with fail
  replace BX := BX.push (DO n a z.length c ex)
  clear q0 q1 q2
  obtain ⟨⟨q0, q1, q2⟩, _⟩ := cells3 BX w.heap.size _ _ _ _ (show (w.heap.size, DO n a z.length c ex) ∈ _ by simp)
  refine (lOpens1 b 5 (.inr (.inr (.inr (.inr rfl)))) _ n a c z ex _ (u.below BX.bel) hq (at3_of BX (.head _))).mono ?_
  rintro e v126 ⟨rfl, hk⟩
  replace BX := BX.keep hk
  clear hk q0 q1 q2
  obtain ⟨⟨q0, q1, q2⟩, _⟩ := cells3 BX w.heap.size _ _ _ _ (show (w.heap.size, DO n a z.length c ex) ∈ _ by simp)
  go_wp2_with fail
  refine (rGood b x hx _).mono ?_
  rintro e v127 ⟨rfl, hk⟩
  replace BX := BX.keep hk
  clear hk q0 q1 q2
  obtain ⟨⟨q0, q1, q2⟩, _⟩ := cells3 BX w.heap.size _ _ _ _ (show (w.heap.size, DO n a z.length c ex) ∈ _ by simp)
  go_wp2_with fail
  refine ((H1 _ (u.below BX.bel).lie (hT.below BX.bel (Nat.le_refl _))).out).mono ?_
  rintro e v128 ⟨rfl, hk⟩
  replace BX := BX.keep hk
  clear hk q0 q1 q2
  obtain ⟨⟨q0, q1, q2⟩, _⟩ := cells3 BX w.heap.size _ _ _ _ (show (w.heap.size, DO n a z.length c ex) ∈ _ by simp)
  go_wp2_with fail
  refine (rNegD n a c z ex _).mono ?_
  rintro e v129 ⟨rfl, hk⟩
  replace BX := BX.keep hk
  clear hk q0 q1 q2
  obtain ⟨⟨q0, q1, q2⟩, _⟩ := cells3 BX w.heap.size _ _ _ _ (show (w.heap.size, DO n a z.length c ex) ∈ _ by simp)
  go_wp2_with fail
  refine ((H2 _ (u.below BX.bel).lie (hT.below BX.bel (Nat.le_refl _))).out).mono ?_
  rintro e v130 ⟨rfl, hk⟩
  replace BX := BX.keep hk
  clear hk q0 q1 q2
  obtain ⟨⟨q0, q1, q2⟩, _⟩ := cells3 BX w.heap.size _ _ _ _ (show (w.heap.size, DO n a z.length c ex) ∈ _ by simp)
  go_wp2_with fail
  refine ((HS _).out).mono ?_
  rintro e v131 ⟨rfl, hk⟩
  replace BX := BX.keep hk
  clear hk q0 q1 q2
  obtain ⟨⟨q0, q1, q2⟩, _⟩ := cells3 BX w.heap.size _ _ _ _ (show (w.heap.size, DO n a z.length c ex) ∈ _ by simp)
  go_wp2_with fail
  clear q0 q1 q2
  have HI := BX.tail.drew
  clear BX
  have sh := fun W (hW : Bx w [(w.heap.size, DO n a z.length c ex)] W) => (cells3 hW w.heap.size _ _ _ _ (.head _)).1
  refine Drawn.enter (Bx w [(w.heap.size, DO n a z.length c ex)]) (by kernel_rfl) ?_
  refine Drawn.tk (i := 0) (v := ?v592) rfl (fun W hW => ?_) HI ?_
  rotate_left
  · have ⟨q0, q1, q2⟩ := sh W hW
    go_simp <;> exact rfl
  refine Drawn.tk (i := 1) (v := ?v593) rfl (fun W hW => ?_) HI ?_
  rotate_left
  · have ⟨q0, q1, q2⟩ := sh W hW
    go_simp <;> exact rfl
  refine Drawn.tk (i := 4) (v := ?v594) rfl (fun W hW => ?_) HI ?_
  rotate_left
  · have ⟨q0, q1, q2⟩ := sh W hW
    go_simp <;> exact rfl
  refine Drawn.tk (i := 5) (v := ?v595) rfl (fun W hW => ?_) HI ?_
  rotate_left
  · have ⟨q0, q1, q2⟩ := sh W hW
    go_simp <;> exact rfl
  refine Drawn.one (j := 2) (by kernel_rfl) rfl (fun K hK => ?_)
  go_simp
  refine (rSign b _).mono ?_
  rintro e wn ⟨rfl, hn⟩
  refine hK _ _ (HI.keep hn) ?_
  clear hK K
  replace HI := HI.keep hn
  clear hn
  refine Drawn.tk (i := 3) (v := .int .u64 R) rfl (fun W hW => ?_) HI ?_
  · have ⟨q0, q1, q2⟩ := sh W hW
    go_simp <;> (rw [if_neg (Int.ne_of_gt hsg), HR1.out])
  refine Drawn.one (j := 6) (by kernel_rfl) rfl (fun K hK => ?_)
  go_simp
  refine (rSign b _).mono ?_
  rintro e wn ⟨rfl, hn⟩
  refine hK _ _ (HI.keep hn) ?_
  clear hK K
  replace HI := HI.keep hn
  clear hn
  refine Drawn.tk (i := 7) (v := .int .u64 R) rfl (fun W hW => ?_) HI ?_
  · have ⟨q0, q1, q2⟩ := sh W hW
    go_simp <;> (rw [if_neg (Int.ne_of_gt hsg), HR2.out])
  refine Drawn.tk (i := 8) (v := ?v596) rfl (fun W hW => ?_) HI ?_
  rotate_left
  · have ⟨q0, q1, q2⟩ := sh W hW
    go_simp <;> exact rfl
  refine Drawn.tk (i := 9) (v := ?v597) rfl (fun W hW => ?_) HI ?_
  rotate_left
  · have ⟨q0, q1, q2⟩ := sh W hW
    go_simp <;> exact rfl
  refine Drawn.tk (i := 10) (v := ?v598) rfl (fun W hW => ?_) HI ?_
  rotate_left
  · have ⟨q0, q1, q2⟩ := sh W hW
    go_simp <;> exact rfl
  refine Drawn.tk (i := 11) (v := ?v599) rfl (fun W hW => ?_) HI ?_
  rotate_left
  · have ⟨q0, q1, q2⟩ := sh W hW
    go_simp <;> exact rfl
  refine Drawn.tk (i := 12) (v := ?v600) rfl (fun W hW => ?_) HI ?_
  rotate_left
  · have ⟨q0, q1, q2⟩ := sh W hW
    go_simp <;> exact rfl
  refine Drawn.tk (i := 13) (v := ?v601) rfl (fun W hW => ?_) HI ?_
  rotate_left
  · have ⟨q0, q1, q2⟩ := sh W hW
    go_simp <;> exact rfl
  refine Drawn.done (by kernel_rfl) ?_
  try go_simp
  have BX := HI
  clear HI sh
  obtain ⟨⟨q0, q1, q2⟩, _⟩ := cells3 BX w.heap.size _ _ _ _ (show (w.heap.size, DO n a z.length c ex) ∈ _ by simp)
  go_wp2_with fail
  refine (rFinite_no b x hx hf _).mono ?_
  rintro e v132 ⟨rfl, hk⟩
  replace BX := BX.keep hk
  clear hk q0 q1 q2
  obtain ⟨⟨q0, q1, q2⟩, _⟩ := cells3 BX w.heap.size _ _ _ _ (show (w.heap.size, DO n a z.length c ex) ∈ _ by simp)
  go_wp2_with fail
  refine (lKnown4 _ (hT.below BX.bel (Nat.le_refl _))).mono ?_
  rintro e v133 ⟨rfl, hk⟩
  replace BX := BX.keep hk
  clear hk q0 q1 q2
  obtain ⟨⟨q0, q1, q2⟩, _⟩ := cells3 BX w.heap.size _ _ _ _ (show (w.heap.size, DO n a z.length c ex) ∈ _ by simp)
  go_wp2
  go_ret
  exact ⟨rfl, BX.bel⟩
set_option maxHeartbeats 4000000 in
theorem rm_cnf (n : Bool) (a : Option Addr) (c : Nat) (z : List Int) (ex x : Int) (b : Bool) (hq : dmayB n z ex = true) (hx : Ok b x) (W1 W2 X1 s R : Int) (hs : (s == 0) = false) (hR1 : W1.tmod (sg b) = R) (hR2 : W2.tmod (sg b) = R) (hne : (W1 == W2) = false) (KP1 : ∀ W, Lie W a z → Tab W → Calls Tryz.prog 14 #[.int .u8 (fm b), .int .u8 5, dV n a z.length c ex] W fun e w' => e = .returned (.tuple #[.int .u64 W1, .int .u8 X1, .int .i64 0]) ∧ Below W.heap.size W w') (KP2 : ∀ W, Lie W a z → Tab W → Calls Tryz.prog 14 #[.int .u8 (fm b), .int .u8 4, dV (rn n z) a z.length c ex] W fun e w' => e = .returned (.tuple #[.int .u64 W2, .int .u8 X1, .int .i64 0]) ∧ Below W.heap.size W w') (KS : ∀ W, Calls Tryz.prog 23 #[dV n a z.length c ex] W fun e w' => e = .returned (.int .i64 s) ∧ Below W.heap.size W w') (hf : sz b x < inf b) (V : Int) (hV : Hide ((x = sg b ∧ V = 0) ∨ (x ≠ sg b ∧ V = x))) (KP3 : ∀ n' zs ex' a' c' W, DN n' zs ex' (wv b x) → Lie W a' zs → Tab W → Calls Tryz.prog 14 #[.int .u8 (fm b), .int .u8 5, dV n' a' (List.length zs) c' ex'] W fun e w' => e = .returned (.tuple #[.int .u64 V, .int .u8 0, .int .i64 0]) ∧ Below W.heap.size W w') (hl : (z.length : Int) ≤ 300) (w : World) (u : DLie w a z) (hT : Tab w) :
    Calls Tryz.prog 9 #[.int .u8 (fm b), .int .u8 5, dV n a z.length c ex, .int .u64 x] w fun e w' => e = .returned (.bool true) ∧ Below w.heap.size w w' := by
  have H1 := fun W h1 h2 => Hide.mk (KP1 W h1 h2)
  have H2 := fun W h1 h2 => Hide.mk (KP2 W h1 h2)
  have HS := fun W => Hide.mk (KS W)
  clear KP1 KP2 KS
  have HR1 := Hide.mk hR1
  have HR2 := Hide.mk hR2
  clear hR1 hR2
  have hsg : 0 < sg b := sg_pos b
  have hsg0 : (sg b == 0) = false := beq_eq_false_iff_ne.2 (by omega)
  have hrr : (R == R) = true := by simp
  have H3 := fun n' zs ex' a' c' W h1 h2 h3 => Hide.mk (KP3 n' zs ex' a' c' W h1 h2 h3)
  clear KP3
  have hxx : (X1 == X1) = true := by simp
  have BX := (Bx.nil w).push (DO n a z.length c ex)
  obtain ⟨⟨q0, q1, q2⟩, _⟩ := cells3 BX w.heap.size _ _ _ _ (show (w.heap.size, DO n a z.length c ex) ∈ _ by simp)
  go_enter Tryz.func9, Tryz.ntmps9
  go_wp2_with fail
  refine (lLong4 n a z.length c ex _ false (decide_eq_false (by omega))).mono ?_
  rintro e v134 ⟨rfl, hk⟩
  replace BX := BX.keep hk
  clear hk q0 q1 q2
  obtain ⟨⟨q0, q1, q2⟩, _⟩ := cells3 BX w.heap.size _ _ _ _ (show (w.heap.size, DO n a z.length c ex) ∈ _ by simp)
  go_wp2_with fail
  replace BX := BX.push (DO n a z.length c ex)
  clear q0 q1 q2
  obtain ⟨⟨q0, q1, q2⟩, _⟩ := cells3 BX w.heap.size _ _ _ _ (show (w.heap.size, DO n a z.length c ex) ∈ _ by simp)
  refine (lOpens1 b 5 (.inr (.inr (.inr (.inr rfl)))) _ n a c z ex _ (u.below BX.bel) hq (at3_of BX (.head _))).mono ?_
  rintro e v135 ⟨rfl, hk⟩
  replace BX := BX.keep hk
  clear hk q0 q1 q2
  obtain ⟨⟨q0, q1, q2⟩, _⟩ := cells3 BX w.heap.size _ _ _ _ (show (w.heap.size, DO n a z.length c ex) ∈ _ by simp)
  go_wp2_with fail
  refine (rGood b x hx _).mono ?_
  rintro e v136 ⟨rfl, hk⟩
  replace BX := BX.keep hk
  clear hk q0 q1 q2
  obtain ⟨⟨q0, q1, q2⟩, _⟩ := cells3 BX w.heap.size _ _ _ _ (show (w.heap.size, DO n a z.length c ex) ∈ _ by simp)
  go_wp2_with fail
  refine ((H1 _ (u.below BX.bel).lie (hT.below BX.bel (Nat.le_refl _))).out).mono ?_
  rintro e v137 ⟨rfl, hk⟩
  replace BX := BX.keep hk
  clear hk q0 q1 q2
  obtain ⟨⟨q0, q1, q2⟩, _⟩ := cells3 BX w.heap.size _ _ _ _ (show (w.heap.size, DO n a z.length c ex) ∈ _ by simp)
  go_wp2_with fail
  refine (rNegD n a c z ex _).mono ?_
  rintro e v138 ⟨rfl, hk⟩
  replace BX := BX.keep hk
  clear hk q0 q1 q2
  obtain ⟨⟨q0, q1, q2⟩, _⟩ := cells3 BX w.heap.size _ _ _ _ (show (w.heap.size, DO n a z.length c ex) ∈ _ by simp)
  go_wp2_with fail
  refine ((H2 _ (u.below BX.bel).lie (hT.below BX.bel (Nat.le_refl _))).out).mono ?_
  rintro e v139 ⟨rfl, hk⟩
  replace BX := BX.keep hk
  clear hk q0 q1 q2
  obtain ⟨⟨q0, q1, q2⟩, _⟩ := cells3 BX w.heap.size _ _ _ _ (show (w.heap.size, DO n a z.length c ex) ∈ _ by simp)
  go_wp2_with fail
  refine ((HS _).out).mono ?_
  rintro e v140 ⟨rfl, hk⟩
  replace BX := BX.keep hk
  clear hk q0 q1 q2
  obtain ⟨⟨q0, q1, q2⟩, _⟩ := cells3 BX w.heap.size _ _ _ _ (show (w.heap.size, DO n a z.length c ex) ∈ _ by simp)
  go_wp2_with fail
  clear q0 q1 q2
  have HI := BX.tail.drew
  clear BX
  have sh := fun W (hW : Bx w [(w.heap.size, DO n a z.length c ex)] W) => (cells3 hW w.heap.size _ _ _ _ (.head _)).1
  refine Drawn.enter (Bx w [(w.heap.size, DO n a z.length c ex)]) (by kernel_rfl) ?_
  refine Drawn.tk (i := 0) (v := ?v602) rfl (fun W hW => ?_) HI ?_
  rotate_left
  · have ⟨q0, q1, q2⟩ := sh W hW
    go_simp <;> exact rfl
  refine Drawn.tk (i := 1) (v := ?v603) rfl (fun W hW => ?_) HI ?_
  rotate_left
  · have ⟨q0, q1, q2⟩ := sh W hW
    go_simp <;> exact rfl
  refine Drawn.tk (i := 4) (v := ?v604) rfl (fun W hW => ?_) HI ?_
  rotate_left
  · have ⟨q0, q1, q2⟩ := sh W hW
    go_simp <;> exact rfl
  refine Drawn.tk (i := 5) (v := ?v605) rfl (fun W hW => ?_) HI ?_
  rotate_left
  · have ⟨q0, q1, q2⟩ := sh W hW
    go_simp <;> exact rfl
  refine Drawn.one (j := 2) (by kernel_rfl) rfl (fun K hK => ?_)
  go_simp
  refine (rSign b _).mono ?_
  rintro e wn ⟨rfl, hn⟩
  refine hK _ _ (HI.keep hn) ?_
  clear hK K
  replace HI := HI.keep hn
  clear hn
  refine Drawn.tk (i := 3) (v := .int .u64 R) rfl (fun W hW => ?_) HI ?_
  · have ⟨q0, q1, q2⟩ := sh W hW
    go_simp <;> (rw [if_neg (Int.ne_of_gt hsg), HR1.out])
  refine Drawn.one (j := 6) (by kernel_rfl) rfl (fun K hK => ?_)
  go_simp
  refine (rSign b _).mono ?_
  rintro e wn ⟨rfl, hn⟩
  refine hK _ _ (HI.keep hn) ?_
  clear hK K
  replace HI := HI.keep hn
  clear hn
  refine Drawn.tk (i := 7) (v := .int .u64 R) rfl (fun W hW => ?_) HI ?_
  · have ⟨q0, q1, q2⟩ := sh W hW
    go_simp <;> (rw [if_neg (Int.ne_of_gt hsg), HR2.out])
  refine Drawn.tk (i := 8) (v := ?v606) rfl (fun W hW => ?_) HI ?_
  rotate_left
  · have ⟨q0, q1, q2⟩ := sh W hW
    go_simp <;> exact rfl
  refine Drawn.tk (i := 9) (v := ?v607) rfl (fun W hW => ?_) HI ?_
  rotate_left
  · have ⟨q0, q1, q2⟩ := sh W hW
    go_simp <;> exact rfl
  refine Drawn.tk (i := 10) (v := ?v608) rfl (fun W hW => ?_) HI ?_
  rotate_left
  · have ⟨q0, q1, q2⟩ := sh W hW
    go_simp <;> exact rfl
  refine Drawn.tk (i := 11) (v := ?v609) rfl (fun W hW => ?_) HI ?_
  rotate_left
  · have ⟨q0, q1, q2⟩ := sh W hW
    go_simp <;> exact rfl
  refine Drawn.tk (i := 12) (v := ?v610) rfl (fun W hW => ?_) HI ?_
  rotate_left
  · have ⟨q0, q1, q2⟩ := sh W hW
    go_simp <;> exact rfl
  refine Drawn.tk (i := 13) (v := ?v611) rfl (fun W hW => ?_) HI ?_
  rotate_left
  · have ⟨q0, q1, q2⟩ := sh W hW
    go_simp <;> exact rfl
  refine Drawn.done (by kernel_rfl) ?_
  try go_simp
  have BX := HI
  clear HI sh
  obtain ⟨⟨q0, q1, q2⟩, _⟩ := cells3 BX w.heap.size _ _ _ _ (show (w.heap.size, DO n a z.length c ex) ∈ _ by simp)
  go_wp2_with fail
  refine (rFinite b x hx hf _).mono ?_
  rintro e v141 ⟨rfl, hk⟩
  replace BX := BX.keep hk
  clear hk q0 q1 q2
  obtain ⟨⟨q0, q1, q2⟩, _⟩ := cells3 BX w.heap.size _ _ _ _ (show (w.heap.size, DO n a z.length c ex) ∈ _ by simp)
  go_wp2_with fail
  refine (rValue b x hx _).mono ?_
  rintro e v143 ⟨nv, zv, xv, av, cv, rfl, Nv, lv, hk⟩
  replace BX := BX.keep hk
  have HN := Hide.mk Nv
  clear hk Nv q0 q1 q2
  obtain ⟨⟨q0, q1, q2⟩, _⟩ := cells3 BX w.heap.size _ _ _ _ (show (w.heap.size, DO n a z.length c ex) ∈ _ by simp)
  go_wp2_with fail
  refine ((H3 _ _ _ _ _ _ HN.out lv (hT.below BX.bel (Nat.le_refl _))).out).mono ?_
  rintro e v144 ⟨rfl, hk⟩
  replace BX := BX.keep hk
  clear hk q0 q1 q2
  obtain ⟨⟨q0, q1, q2⟩, _⟩ := cells3 BX w.heap.size _ _ _ _ (show (w.heap.size, DO n a z.length c ex) ∈ _ by simp)
  go_wp2_with fail
  clear lv HN
  refine (rSign b _).mono ?_
  rintro e v145 ⟨rfl, hk⟩
  replace BX := BX.keep hk
  clear hk q0 q1 q2
  obtain ⟨⟨q0, q1, q2⟩, _⟩ := cells3 BX w.heap.size _ _ _ _ (show (w.heap.size, DO n a z.length c ex) ∈ _ by simp)
  rcases hV.out with ⟨rfl, rfl⟩ | ⟨hx1, rfl⟩
  · have e1 : (sg b == sg b) = true := by simp
    go_wp2_with fail
    refine (lKnown4 _ (hT.below BX.bel (Nat.le_refl _))).mono ?_
    rintro e v146 ⟨rfl, hk⟩
    replace BX := BX.keep hk
    clear hk q0 q1 q2
    obtain ⟨⟨q0, q1, q2⟩, _⟩ := cells3 BX w.heap.size _ _ _ _ (show (w.heap.size, DO n a z.length c ex) ∈ _ by simp)
    go_wp2
    go_ret
    exact ⟨rfl, BX.bel⟩
  · have e1 : (V == sg b) = false := beq_eq_false_iff_ne.2 hx1
    have e2 : (V == V) = true := by simp
    go_wp2_with fail
    refine (lKnown4 _ (hT.below BX.bel (Nat.le_refl _))).mono ?_
    rintro e v147 ⟨rfl, hk⟩
    replace BX := BX.keep hk
    clear hk q0 q1 q2
    obtain ⟨⟨q0, q1, q2⟩, _⟩ := cells3 BX w.heap.size _ _ _ _ (show (w.heap.size, DO n a z.length c ex) ∈ _ by simp)
    go_wp2
    go_ret
    exact ⟨rfl, BX.bel⟩
end Go.Proofs.YtdnghibkagcbcaaGreatDoor
