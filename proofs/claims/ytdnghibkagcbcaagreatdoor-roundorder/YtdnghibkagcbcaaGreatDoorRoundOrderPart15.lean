import Derived.Test.YtdnghibkagcbcaaGreatDoorRoundOrderPart14
namespace Go.Proofs.YtdnghibkagcbcaaGreatDoor
open Go.RowKit Go.Wd Go.Box
set_option linter.unusedVariables false
set_option maxRecDepth 3000
theorem suppose1Q {F G : World → Prop} {T : Prop} (h : (∀ a, F a → G a) → T) (k : ∀ a, F a → G a) : T := h k
set_option maxHeartbeats 20000000 in
theorem ro_long1 (m : Int) (n1 n2 : Bool) (a1 a2 : Option Addr) (c1 c2 : Nat) (z1 z2 : List Int) (e1 e2 : Int) (f : Int) (hl : (300 : Int) < (z1.length : Int)) (w : World) (u1 : DLie w a1 z1) (u2 : DLie w a2 z2) (hT : Tab w) :
    Calls Tryz.prog 8 #[.int .u8 f, .int .u8 m, dV n1 a1 z1.length c1 e1, dV n2 a2 z2.length c2 e2] w fun e w' => e = .returned (.bool true) ∧ Below w.heap.size w w' := by
  have BX := ((Bx.nil w).push (DO n1 a1 z1.length c1 e1)).push (DO n2 a2 z2.length c2 e2)
  rw [show (w.alloc (DO n1 a1 z1.length c1 e1)).heap.size = w.heap.size + 1 by simp] at BX
  obtain ⟨⟨q0, q1, q2⟩, _⟩ := cells3 BX w.heap.size _ _ _ _ (show (w.heap.size, DO n1 a1 z1.length c1 e1) ∈ _ by simp)
  obtain ⟨⟨s0, s1, s2⟩, _⟩ := cells3 BX (w.heap.size + 1) _ _ _ _ (show (w.heap.size + 1, DO n2 a2 z2.length c2 e2) ∈ _ by simp)
  go_enter Tryz.func8, Tryz.ntmps8
  go_wp2_with fail
  refine (lLong4 n1 a1 z1.length c1 e1 _ true (decide_eq_true hl)).mono ?_
  rintro e v1 ⟨rfl, hk⟩
  replace BX := BX.keep hk
  clear hk q0 q1 q2 s0 s1 s2
  obtain ⟨⟨q0, q1, q2⟩, _⟩ := cells3 BX w.heap.size _ _ _ _ (show (w.heap.size, DO n1 a1 z1.length c1 e1) ∈ _ by simp)
  obtain ⟨⟨s0, s1, s2⟩, _⟩ := cells3 BX (w.heap.size + 1) _ _ _ _ (show (w.heap.size + 1, DO n2 a2 z2.length c2 e2) ∈ _ by simp)
  go_wp2_with fail
  refine (lKnown4 _ (hT.below BX.bel (Nat.le_refl _))).mono ?_
  rintro e v2 ⟨rfl, hk⟩
  replace BX := BX.keep hk
  clear hk q0 q1 q2 s0 s1 s2
  obtain ⟨⟨q0, q1, q2⟩, _⟩ := cells3 BX w.heap.size _ _ _ _ (show (w.heap.size, DO n1 a1 z1.length c1 e1) ∈ _ by simp)
  obtain ⟨⟨s0, s1, s2⟩, _⟩ := cells3 BX (w.heap.size + 1) _ _ _ _ (show (w.heap.size + 1, DO n2 a2 z2.length c2 e2) ∈ _ by simp)
  go_wp2
  go_ret
  exact ⟨rfl, BX.bel⟩
set_option maxHeartbeats 20000000 in
theorem ro_long2 (m : Int) (n1 n2 : Bool) (a1 a2 : Option Addr) (c1 c2 : Nat) (z1 z2 : List Int) (e1 e2 : Int) (f : Int) (hl1 : (z1.length : Int) ≤ 300) (hl : (300 : Int) < (z2.length : Int)) (w : World) (u1 : DLie w a1 z1) (u2 : DLie w a2 z2) (hT : Tab w) :
    Calls Tryz.prog 8 #[.int .u8 f, .int .u8 m, dV n1 a1 z1.length c1 e1, dV n2 a2 z2.length c2 e2] w fun e w' => e = .returned (.bool true) ∧ Below w.heap.size w w' := by
  have BX := ((Bx.nil w).push (DO n1 a1 z1.length c1 e1)).push (DO n2 a2 z2.length c2 e2)
  rw [show (w.alloc (DO n1 a1 z1.length c1 e1)).heap.size = w.heap.size + 1 by simp] at BX
  obtain ⟨⟨q0, q1, q2⟩, _⟩ := cells3 BX w.heap.size _ _ _ _ (show (w.heap.size, DO n1 a1 z1.length c1 e1) ∈ _ by simp)
  obtain ⟨⟨s0, s1, s2⟩, _⟩ := cells3 BX (w.heap.size + 1) _ _ _ _ (show (w.heap.size + 1, DO n2 a2 z2.length c2 e2) ∈ _ by simp)
  go_enter Tryz.func8, Tryz.ntmps8
  go_wp2_with fail
  refine (lLong4 n1 a1 z1.length c1 e1 _ false (decide_eq_false (by omega))).mono ?_
  rintro e v3 ⟨rfl, hk⟩
  replace BX := BX.keep hk
  clear hk q0 q1 q2 s0 s1 s2
  obtain ⟨⟨q0, q1, q2⟩, _⟩ := cells3 BX w.heap.size _ _ _ _ (show (w.heap.size, DO n1 a1 z1.length c1 e1) ∈ _ by simp)
  obtain ⟨⟨s0, s1, s2⟩, _⟩ := cells3 BX (w.heap.size + 1) _ _ _ _ (show (w.heap.size + 1, DO n2 a2 z2.length c2 e2) ∈ _ by simp)
  go_wp2_with fail
  refine (lLong4 n2 a2 z2.length c2 e2 _ true (decide_eq_true hl)).mono ?_
  rintro e v4 ⟨rfl, hk⟩
  replace BX := BX.keep hk
  clear hk q0 q1 q2 s0 s1 s2
  obtain ⟨⟨q0, q1, q2⟩, _⟩ := cells3 BX w.heap.size _ _ _ _ (show (w.heap.size, DO n1 a1 z1.length c1 e1) ∈ _ by simp)
  obtain ⟨⟨s0, s1, s2⟩, _⟩ := cells3 BX (w.heap.size + 1) _ _ _ _ (show (w.heap.size + 1, DO n2 a2 z2.length c2 e2) ∈ _ by simp)
  go_wp2_with fail
  refine (lKnown4 _ (hT.below BX.bel (Nat.le_refl _))).mono ?_
  rintro e v5 ⟨rfl, hk⟩
  replace BX := BX.keep hk
  clear hk q0 q1 q2 s0 s1 s2
  obtain ⟨⟨q0, q1, q2⟩, _⟩ := cells3 BX w.heap.size _ _ _ _ (show (w.heap.size, DO n1 a1 z1.length c1 e1) ∈ _ by simp)
  obtain ⟨⟨s0, s1, s2⟩, _⟩ := cells3 BX (w.heap.size + 1) _ _ _ _ (show (w.heap.size + 1, DO n2 a2 z2.length c2 e2) ∈ _ by simp)
  go_wp2
  go_ret
  exact ⟨rfl, BX.bel⟩
set_option maxHeartbeats 20000000 in
theorem ro_open (m : Int) (n1 n2 : Bool) (a1 a2 : Option Addr) (c1 c2 : Nat) (z1 z2 : List Int) (e1 e2 : Int) (f code : Int) (hc : (code == 0) = false) (KO : ∀ W g, DLie W a1 z1 → DLie W a2 z2 → At3 W g 0 n1 a1 z1.length c1 e1 → At3 W g 3 n2 a2 z2.length c2 e2 → Calls Tryz.prog 16 #[.int .u8 f, .int .u8 m, .slice (some ⟨g, 0, none⟩) 2 2] W fun e w' => e = .returned (.int .i64 code) ∧ Below W.heap.size W w') (hl1 : (z1.length : Int) ≤ 300) (hl2 : (z2.length : Int) ≤ 300) (w : World) (u1 : DLie w a1 z1) (u2 : DLie w a2 z2) (hT : Tab w) :
    Calls Tryz.prog 8 #[.int .u8 f, .int .u8 m, dV n1 a1 z1.length c1 e1, dV n2 a2 z2.length c2 e2] w fun e w' => e = .returned (.bool true) ∧ Below w.heap.size w w' := by
  have HO := fun W g h1 h2 h3 h4 => Hide.mk (KO W g h1 h2 h3 h4)
  clear KO
  have hc2 : (code != 0) = true := by simp only [bne, hc, Bool.not_false]
  have BX := ((Bx.nil w).push (DO n1 a1 z1.length c1 e1)).push (DO n2 a2 z2.length c2 e2)
  rw [show (w.alloc (DO n1 a1 z1.length c1 e1)).heap.size = w.heap.size + 1 by simp] at BX
  obtain ⟨⟨q0, q1, q2⟩, _⟩ := cells3 BX w.heap.size _ _ _ _ (show (w.heap.size, DO n1 a1 z1.length c1 e1) ∈ _ by simp)
  obtain ⟨⟨s0, s1, s2⟩, _⟩ := cells3 BX (w.heap.size + 1) _ _ _ _ (show (w.heap.size + 1, DO n2 a2 z2.length c2 e2) ∈ _ by simp)
  go_enter Tryz.func8, Tryz.ntmps8
  go_wp2_with fail
  refine (lLong4 n1 a1 z1.length c1 e1 _ false (decide_eq_false (by omega))).mono ?_
  rintro e v6 ⟨rfl, hk⟩
  replace BX := BX.keep hk
  clear hk q0 q1 q2 s0 s1 s2
  obtain ⟨⟨q0, q1, q2⟩, _⟩ := cells3 BX w.heap.size _ _ _ _ (show (w.heap.size, DO n1 a1 z1.length c1 e1) ∈ _ by simp)
  obtain ⟨⟨s0, s1, s2⟩, _⟩ := cells3 BX (w.heap.size + 1) _ _ _ _ (show (w.heap.size + 1, DO n2 a2 z2.length c2 e2) ∈ _ by simp)
  go_wp2_with fail
  refine (lLong4 n2 a2 z2.length c2 e2 _ false (decide_eq_false (by omega))).mono ?_
  rintro e v7 ⟨rfl, hk⟩
  replace BX := BX.keep hk
  clear hk q0 q1 q2 s0 s1 s2
  obtain ⟨⟨q0, q1, q2⟩, _⟩ := cells3 BX w.heap.size _ _ _ _ (show (w.heap.size, DO n1 a1 z1.length c1 e1) ∈ _ by simp)
  obtain ⟨⟨s0, s1, s2⟩, _⟩ := cells3 BX (w.heap.size + 1) _ _ _ _ (show (w.heap.size + 1, DO n2 a2 z2.length c2 e2) ∈ _ by simp)
  go_wp2_with fail
  replace BX := BX.push (.cells #[.bool n1, .slice a1 z1.length c1, .int .i64 e1, .bool n2, .slice a2 z2.length c2, .int .i64 e2] 26 (0, 0))
  clear q0 q1 q2 s0 s1 s2
  obtain ⟨⟨q0, q1, q2⟩, _⟩ := cells3 BX w.heap.size _ _ _ _ (show (w.heap.size, DO n1 a1 z1.length c1 e1) ∈ _ by simp)
  obtain ⟨⟨s0, s1, s2⟩, _⟩ := cells3 BX (w.heap.size + 1) _ _ _ _ (show (w.heap.size + 1, DO n2 a2 z2.length c2 e2) ∈ _ by simp)
  have A1 : At3 _ _ 0 n1 a1 z1.length c1 e1 := ⟨BX.cell _ _ _ (.head _) 0, BX.cell _ _ _ (.head _) 1, BX.cell _ _ _ (.head _) 2⟩
  have A2 : At3 _ _ 3 n2 a2 z2.length c2 e2 := ⟨BX.cell _ _ _ (.head _) 3, BX.cell _ _ _ (.head _) 4, BX.cell _ _ _ (.head _) 5⟩
  refine ((HO _ _ (u1.below BX.bel) (u2.below BX.bel) A1 A2).out).mono ?_
  rintro e v8 ⟨rfl, hk⟩
  replace BX := BX.keep hk
  clear hk A1 A2 q0 q1 q2 s0 s1 s2
  obtain ⟨⟨q0, q1, q2⟩, _⟩ := cells3 BX w.heap.size _ _ _ _ (show (w.heap.size, DO n1 a1 z1.length c1 e1) ∈ _ by simp)
  obtain ⟨⟨s0, s1, s2⟩, _⟩ := cells3 BX (w.heap.size + 1) _ _ _ _ (show (w.heap.size + 1, DO n2 a2 z2.length c2 e2) ∈ _ by simp)
  go_wp2_with fail
  refine (lKnown4 _ (hT.below BX.bel (Nat.le_refl _))).mono ?_
  rintro e v9 ⟨rfl, hk⟩
  replace BX := BX.keep hk
  clear hk q0 q1 q2 s0 s1 s2
  obtain ⟨⟨q0, q1, q2⟩, _⟩ := cells3 BX w.heap.size _ _ _ _ (show (w.heap.size, DO n1 a1 z1.length c1 e1) ∈ _ by simp)
  obtain ⟨⟨s0, s1, s2⟩, _⟩ := cells3 BX (w.heap.size + 1) _ _ _ _ (show (w.heap.size + 1, DO n2 a2 z2.length c2 e2) ∈ _ by simp)
  go_wp2
  go_ret
  exact ⟨rfl, BX.bel⟩
set_option maxHeartbeats 20000000 in
theorem ro_lt (m : Int) (n1 n2 : Bool) (a1 a2 : Option Addr) (c1 c2 : Nat) (z1 z2 : List Int) (e1 e2 : Int) (b : Bool) (x1 x2 V1 X1 V2 X2 : Int) (KO : ∀ W g, DLie W a1 z1 → DLie W a2 z2 → At3 W g 0 n1 a1 z1.length c1 e1 → At3 W g 3 n2 a2 z2.length c2 e2 → Calls Tryz.prog 16 #[.int .u8 (fm b), .int .u8 m, .slice (some ⟨g, 0, none⟩) 2 2] W fun e w' => e = .returned (.int .i64 0) ∧ Below W.heap.size W w') (K1 : ∀ W, Calls Tryz.prog 37 #[dV n1 a1 z1.length c1 e1] W fun e w' => e = .returned (dV n1 a1 z1.length c1 x1) ∧ Below W.heap.size W w') (K2 : ∀ W, Calls Tryz.prog 37 #[dV n2 a2 z2.length c2 e2] W fun e w' => e = .returned (dV n2 a2 z2.length c2 x2) ∧ Below W.heap.size W w') (KR1 : ∀ W, Lie W a1 z1 → Tab W → Calls Tryz.prog 14 #[.int .u8 (fm b), .int .u8 m, dV n1 a1 z1.length c1 x1] W fun e w' => e = .returned (.tuple #[.int .u64 V1, .int .u8 X1, .int .i64 0]) ∧ Below W.heap.size W w') (KR2 : ∀ W, Lie W a2 z2 → Tab W → Calls Tryz.prog 14 #[.int .u8 (fm b), .int .u8 m, dV n2 a2 z2.length c2 x2] W fun e w' => e = .returned (.tuple #[.int .u64 V2, .int .u8 X2, .int .i64 0]) ∧ Below W.heap.size W w') (KC : ∀ W, Lie W a1 z1 → Lie W a2 z2 → Calls Tryz.prog 38 #[dV n1 a1 z1.length c1 x1, dV n2 a2 z2.length c2 x2] W fun e w' => e = .returned (.int .i64 (-1)) ∧ Below W.heap.size W w') (KB : ∀ W, Calls Tryz.prog 39 #[.int .u8 (fm b), .int .u64 V2, .int .u64 V1] W fun e w' => e = .returned (.bool true) ∧ Below W.heap.size W w') (hl1 : (z1.length : Int) ≤ 300) (hl2 : (z2.length : Int) ≤ 300) (w : World) (u1 : DLie w a1 z1) (u2 : DLie w a2 z2) (hT : Tab w) :
    Calls Tryz.prog 8 #[.int .u8 (fm b), .int .u8 m, dV n1 a1 z1.length c1 e1, dV n2 a2 z2.length c2 e2] w fun e w' => e = .returned (.bool true) ∧ Below w.heap.size w w' := by
  have HO := fun W g h1 h2 h3 h4 => Hide.mk (KO W g h1 h2 h3 h4)
  clear KO
  have H1 := fun W => Hide.mk (K1 W)
  have H2 := fun W => Hide.mk (K2 W)
  have HR1 := fun W h1 h2 => Hide.mk (KR1 W h1 h2)
  have HR2 := fun W h1 h2 => Hide.mk (KR2 W h1 h2)
  have HC := fun W h1 h2 => Hide.mk (KC W h1 h2)
  have HB := fun W => Hide.mk (KB W)
  clear K1 K2 KR1 KR2 KC KB
  have BX := ((Bx.nil w).push (DO n1 a1 z1.length c1 e1)).push (DO n2 a2 z2.length c2 e2)
  rw [show (w.alloc (DO n1 a1 z1.length c1 e1)).heap.size = w.heap.size + 1 by simp] at BX
  obtain ⟨⟨q0, q1, q2⟩, _⟩ := cells3 BX w.heap.size _ _ _ _ (show (w.heap.size, DO n1 a1 z1.length c1 e1) ∈ _ by simp)
  obtain ⟨⟨s0, s1, s2⟩, _⟩ := cells3 BX (w.heap.size + 1) _ _ _ _ (show (w.heap.size + 1, DO n2 a2 z2.length c2 e2) ∈ _ by simp)
  go_enter Tryz.func8, Tryz.ntmps8
  go_wp2_with fail
  refine (lLong4 n1 a1 z1.length c1 e1 _ false (decide_eq_false (by omega))).mono ?_
  rintro e v10 ⟨rfl, hk⟩
  replace BX := BX.keep hk
  clear hk q0 q1 q2 s0 s1 s2
  obtain ⟨⟨q0, q1, q2⟩, _⟩ := cells3 BX w.heap.size _ _ _ _ (show (w.heap.size, DO n1 a1 z1.length c1 e1) ∈ _ by simp)
  obtain ⟨⟨s0, s1, s2⟩, _⟩ := cells3 BX (w.heap.size + 1) _ _ _ _ (show (w.heap.size + 1, DO n2 a2 z2.length c2 e2) ∈ _ by simp)
  go_wp2_with fail
  refine (lLong4 n2 a2 z2.length c2 e2 _ false (decide_eq_false (by omega))).mono ?_
  rintro e v11 ⟨rfl, hk⟩
  replace BX := BX.keep hk
  clear hk q0 q1 q2 s0 s1 s2
  obtain ⟨⟨q0, q1, q2⟩, _⟩ := cells3 BX w.heap.size _ _ _ _ (show (w.heap.size, DO n1 a1 z1.length c1 e1) ∈ _ by simp)
  obtain ⟨⟨s0, s1, s2⟩, _⟩ := cells3 BX (w.heap.size + 1) _ _ _ _ (show (w.heap.size + 1, DO n2 a2 z2.length c2 e2) ∈ _ by simp)
  go_wp2_with fail
  replace BX := BX.push (.cells #[.bool n1, .slice a1 z1.length c1, .int .i64 e1, .bool n2, .slice a2 z2.length c2, .int .i64 e2] 26 (0, 0))
  clear q0 q1 q2 s0 s1 s2
  obtain ⟨⟨q0, q1, q2⟩, _⟩ := cells3 BX w.heap.size _ _ _ _ (show (w.heap.size, DO n1 a1 z1.length c1 e1) ∈ _ by simp)
  obtain ⟨⟨s0, s1, s2⟩, _⟩ := cells3 BX (w.heap.size + 1) _ _ _ _ (show (w.heap.size + 1, DO n2 a2 z2.length c2 e2) ∈ _ by simp)
  have A1 : At3 _ _ 0 n1 a1 z1.length c1 e1 := ⟨BX.cell _ _ _ (.head _) 0, BX.cell _ _ _ (.head _) 1, BX.cell _ _ _ (.head _) 2⟩
  have A2 : At3 _ _ 3 n2 a2 z2.length c2 e2 := ⟨BX.cell _ _ _ (.head _) 3, BX.cell _ _ _ (.head _) 4, BX.cell _ _ _ (.head _) 5⟩
  refine ((HO _ _ (u1.below BX.bel) (u2.below BX.bel) A1 A2).out).mono ?_
  rintro e v12 ⟨rfl, hk⟩
  replace BX := BX.keep hk
  clear hk A1 A2 q0 q1 q2 s0 s1 s2
  obtain ⟨⟨q0, q1, q2⟩, _⟩ := cells3 BX w.heap.size _ _ _ _ (show (w.heap.size, DO n1 a1 z1.length c1 e1) ∈ _ by simp)
  obtain ⟨⟨s0, s1, s2⟩, _⟩ := cells3 BX (w.heap.size + 1) _ _ _ _ (show (w.heap.size + 1, DO n2 a2 z2.length c2 e2) ∈ _ by simp)
  go_wp2_with fail
  clear q0 q1 q2 s0 s1 s2
  have HF := (BX.sub (L' := [(w.heap.size + 1, DO n2 a2 z2.length c2 e2), (w.heap.size, DO n1 a1 z1.length c1 e1)]) (by simp)).drew
  clear BX
  have HI := HF.sub (L' := []) (by simp)
  refine Drawn.enter (Bx w []) (by kernel_rfl) ?_
  generalize hdr : v12.drew = W00 at *
  clear hdr
  refine suppose1Q (F := fun W => Bx w [(w.heap.size + 1, DO n2 a2 z2.length c2 x2), (w.heap.size, DO n1 a1 z1.length c1 x1)] W) (G := ?G) (fun Rest => ?main) ?rest
  case main =>
    obtain ⟨⟨q0, q1, q2⟩, _⟩ := cells3 HF w.heap.size _ _ _ _ (show (w.heap.size, DO n1 a1 z1.length c1 e1) ∈ _ by simp)
    obtain ⟨⟨s0, s1, s2⟩, _⟩ := cells3 HF (w.heap.size + 1) _ _ _ _ (show (w.heap.size + 1, DO n2 a2 z2.length c2 e2) ∈ _ by simp)
    refine Drawn.pair (i := 0) (j := 2) (by kernel_rfl) rfl rfl (fun K hK => ?_) (fun K hK => ?_)
    · go_simp
      refine hK _ _ HI ?_
      clear hK K
      refine Drawn.pair (i := 1) (j := 2) (by kernel_rfl) rfl rfl (fun K hK => ?_) (fun K hK => ?_)
      · go_simp
        refine (H1 _).out.mono ?_
        rintro e W1 ⟨rfl, hn⟩
        refine hK _ _ (HI.keep hn) ?_
        clear hK K q0 q1 q2 s0 s1 s2
        replace HI := HI.keep hn
        replace HF := HF.keep hn
        clear hn
        obtain ⟨⟨q0, q1, q2⟩, _⟩ := cells3 HF w.heap.size _ _ _ _ (show (w.heap.size, DO n1 a1 z1.length c1 e1) ∈ _ by simp)
        obtain ⟨⟨s0, s1, s2⟩, _⟩ := cells3 HF (w.heap.size + 1) _ _ _ _ (show (w.heap.size + 1, DO n2 a2 z2.length c2 e2) ∈ _ by simp)
        refine Drawn.one (j := 2) (by kernel_rfl) rfl (fun K hK => ?_)
        go_simp
        refine hK _ _ HI ?_
        clear hK K
        refine Drawn.one (j := 3) (by kernel_rfl) rfl (fun K hK => ?_)
        go_simp
        refine (H2 _).out.mono ?_
        rintro e W2 ⟨rfl, hn⟩
        refine hK _ _ (HI.keep hn) ?_
        clear hK K q0 q1 q2 s0 s1 s2
        replace HI := HI.keep hn
        replace HF := HF.keep hn
        clear hn
        obtain ⟨⟨q0, q1, q2⟩, _⟩ := cells3 HF w.heap.size _ _ _ _ (show (w.heap.size, DO n1 a1 z1.length c1 e1) ∈ _ by simp)
        obtain ⟨⟨s0, s1, s2⟩, _⟩ := cells3 HF (w.heap.size + 1) _ _ _ _ (show (w.heap.size + 1, DO n2 a2 z2.length c2 e2) ∈ _ by simp)
        clear q0 q1 q2 s0 s1 s2
        replace HF := HF.sub (L' := [(w.heap.size, DO n1 a1 z1.length c1 e1), (w.heap.size + 1, DO n2 a2 z2.length c2 e2)]) (by simp)
        obtain ⟨⟨q0, q1, q2⟩, p0, p1, p2⟩ := cells3 HF w.heap.size _ _ _ _ (.head _)
        replace HF := HF.fill3 (Nat.le_refl _) (by simp) (.bool n1) (.slice a1 z1.length c1) (.int .i64 x1)
        refine Drawn.one (j := 4) (by kernel_rfl) rfl (fun K hK => ?_)
        go_simp
        refine hK _ _ (HF.sub (by simp)) ?_
        clear hK K q0 q1 q2 p0 p1 p2
        replace HF := HF.sub (L' := [(w.heap.size + 1, DO n2 a2 z2.length c2 e2), (w.heap.size, DO n1 a1 z1.length c1 x1)]) (by simp)
        obtain ⟨⟨q0, q1, q2⟩, p0, p1, p2⟩ := cells3 HF (w.heap.size + 1) _ _ _ _ (.head _)
        replace HF := HF.fill3 (by omega) (by simp) (.bool n2) (.slice a2 z2.length c2) (.int .i64 x2)
        refine Drawn.one (j := 5) (by kernel_rfl) rfl (fun K hK => ?_)
        go_simp
        refine hK _ _ (HF.sub (by simp)) ?_
        clear hK K q0 q1 q2 p0 p1 p2
        refine Drawn.done (by kernel_rfl) ?_
        try go_simp
        generalize hWf : ((((((W2.setCell ⟨w.heap.size, 0, none⟩ (.bool n1)).setCell ⟨w.heap.size, 1, none⟩ (.slice a1 z1.length c1)).setCell ⟨w.heap.size, 2, none⟩ (.int .i64 x1)).setCell ⟨w.heap.size + 1, 0, none⟩ (.bool n2)).setCell ⟨w.heap.size + 1, 1, none⟩ (.slice a2 z2.length c2)).setCell ⟨w.heap.size + 1, 2, none⟩ (.int .i64 x2)) = Wf at *
        exact Rest Wf HF
      · go_simp
        refine hK _ _ HI ?_
        clear hK K
        refine Drawn.one (j := 1) (by kernel_rfl) rfl (fun K hK => ?_)
        go_simp
        refine (H1 _).out.mono ?_
        rintro e W3 ⟨rfl, hn⟩
        refine hK _ _ (HI.keep hn) ?_
        clear hK K q0 q1 q2 s0 s1 s2
        replace HI := HI.keep hn
        replace HF := HF.keep hn
        clear hn
        obtain ⟨⟨q0, q1, q2⟩, _⟩ := cells3 HF w.heap.size _ _ _ _ (show (w.heap.size, DO n1 a1 z1.length c1 e1) ∈ _ by simp)
        obtain ⟨⟨s0, s1, s2⟩, _⟩ := cells3 HF (w.heap.size + 1) _ _ _ _ (show (w.heap.size + 1, DO n2 a2 z2.length c2 e2) ∈ _ by simp)
        refine Drawn.one (j := 3) (by kernel_rfl) rfl (fun K hK => ?_)
        go_simp
        refine (H2 _).out.mono ?_
        rintro e W4 ⟨rfl, hn⟩
        refine hK _ _ (HI.keep hn) ?_
        clear hK K q0 q1 q2 s0 s1 s2
        replace HI := HI.keep hn
        replace HF := HF.keep hn
        clear hn
        obtain ⟨⟨q0, q1, q2⟩, _⟩ := cells3 HF w.heap.size _ _ _ _ (show (w.heap.size, DO n1 a1 z1.length c1 e1) ∈ _ by simp)
        obtain ⟨⟨s0, s1, s2⟩, _⟩ := cells3 HF (w.heap.size + 1) _ _ _ _ (show (w.heap.size + 1, DO n2 a2 z2.length c2 e2) ∈ _ by simp)
        clear q0 q1 q2 s0 s1 s2
        replace HF := HF.sub (L' := [(w.heap.size, DO n1 a1 z1.length c1 e1), (w.heap.size + 1, DO n2 a2 z2.length c2 e2)]) (by simp)
        obtain ⟨⟨q0, q1, q2⟩, p0, p1, p2⟩ := cells3 HF w.heap.size _ _ _ _ (.head _)
        replace HF := HF.fill3 (Nat.le_refl _) (by simp) (.bool n1) (.slice a1 z1.length c1) (.int .i64 x1)
        refine Drawn.one (j := 4) (by kernel_rfl) rfl (fun K hK => ?_)
        go_simp
        refine hK _ _ (HF.sub (by simp)) ?_
        clear hK K q0 q1 q2 p0 p1 p2
        replace HF := HF.sub (L' := [(w.heap.size + 1, DO n2 a2 z2.length c2 e2), (w.heap.size, DO n1 a1 z1.length c1 x1)]) (by simp)
        obtain ⟨⟨q0, q1, q2⟩, p0, p1, p2⟩ := cells3 HF (w.heap.size + 1) _ _ _ _ (.head _)
        replace HF := HF.fill3 (by omega) (by simp) (.bool n2) (.slice a2 z2.length c2) (.int .i64 x2)
        refine Drawn.one (j := 5) (by kernel_rfl) rfl (fun K hK => ?_)
        go_simp
        refine hK _ _ (HF.sub (by simp)) ?_
        clear hK K q0 q1 q2 p0 p1 p2
        refine Drawn.done (by kernel_rfl) ?_
        try go_simp
        generalize hWf : ((((((W4.setCell ⟨w.heap.size, 0, none⟩ (.bool n1)).setCell ⟨w.heap.size, 1, none⟩ (.slice a1 z1.length c1)).setCell ⟨w.heap.size, 2, none⟩ (.int .i64 x1)).setCell ⟨w.heap.size + 1, 0, none⟩ (.bool n2)).setCell ⟨w.heap.size + 1, 1, none⟩ (.slice a2 z2.length c2)).setCell ⟨w.heap.size + 1, 2, none⟩ (.int .i64 x2)) = Wf at *
        exact Rest Wf HF
    · go_simp
      refine hK _ _ HI ?_
      clear hK K
      refine Drawn.one (j := 0) (by kernel_rfl) rfl (fun K hK => ?_)
      go_simp
      refine hK _ _ HI ?_
      clear hK K
      refine Drawn.one (j := 1) (by kernel_rfl) rfl (fun K hK => ?_)
      go_simp
      refine (H1 _).out.mono ?_
      rintro e W5 ⟨rfl, hn⟩
      refine hK _ _ (HI.keep hn) ?_
      clear hK K q0 q1 q2 s0 s1 s2
      replace HI := HI.keep hn
      replace HF := HF.keep hn
      clear hn
      obtain ⟨⟨q0, q1, q2⟩, _⟩ := cells3 HF w.heap.size _ _ _ _ (show (w.heap.size, DO n1 a1 z1.length c1 e1) ∈ _ by simp)
      obtain ⟨⟨s0, s1, s2⟩, _⟩ := cells3 HF (w.heap.size + 1) _ _ _ _ (show (w.heap.size + 1, DO n2 a2 z2.length c2 e2) ∈ _ by simp)
      refine Drawn.one (j := 3) (by kernel_rfl) rfl (fun K hK => ?_)
      go_simp
      refine (H2 _).out.mono ?_
      rintro e W6 ⟨rfl, hn⟩
      refine hK _ _ (HI.keep hn) ?_
      clear hK K q0 q1 q2 s0 s1 s2
      replace HI := HI.keep hn
      replace HF := HF.keep hn
      clear hn
      obtain ⟨⟨q0, q1, q2⟩, _⟩ := cells3 HF w.heap.size _ _ _ _ (show (w.heap.size, DO n1 a1 z1.length c1 e1) ∈ _ by simp)
      obtain ⟨⟨s0, s1, s2⟩, _⟩ := cells3 HF (w.heap.size + 1) _ _ _ _ (show (w.heap.size + 1, DO n2 a2 z2.length c2 e2) ∈ _ by simp)
      clear q0 q1 q2 s0 s1 s2
      replace HF := HF.sub (L' := [(w.heap.size, DO n1 a1 z1.length c1 e1), (w.heap.size + 1, DO n2 a2 z2.length c2 e2)]) (by simp)
      obtain ⟨⟨q0, q1, q2⟩, p0, p1, p2⟩ := cells3 HF w.heap.size _ _ _ _ (.head _)
      replace HF := HF.fill3 (Nat.le_refl _) (by simp) (.bool n1) (.slice a1 z1.length c1) (.int .i64 x1)
      refine Drawn.one (j := 4) (by kernel_rfl) rfl (fun K hK => ?_)
      go_simp
      refine hK _ _ (HF.sub (by simp)) ?_
      clear hK K q0 q1 q2 p0 p1 p2
      replace HF := HF.sub (L' := [(w.heap.size + 1, DO n2 a2 z2.length c2 e2), (w.heap.size, DO n1 a1 z1.length c1 x1)]) (by simp)
      obtain ⟨⟨q0, q1, q2⟩, p0, p1, p2⟩ := cells3 HF (w.heap.size + 1) _ _ _ _ (.head _)
      replace HF := HF.fill3 (by omega) (by simp) (.bool n2) (.slice a2 z2.length c2) (.int .i64 x2)
      refine Drawn.one (j := 5) (by kernel_rfl) rfl (fun K hK => ?_)
      go_simp
      refine hK _ _ (HF.sub (by simp)) ?_
      clear hK K q0 q1 q2 p0 p1 p2
      refine Drawn.done (by kernel_rfl) ?_
      try go_simp
      generalize hWf : ((((((W6.setCell ⟨w.heap.size, 0, none⟩ (.bool n1)).setCell ⟨w.heap.size, 1, none⟩ (.slice a1 z1.length c1)).setCell ⟨w.heap.size, 2, none⟩ (.int .i64 x1)).setCell ⟨w.heap.size + 1, 0, none⟩ (.bool n2)).setCell ⟨w.heap.size + 1, 1, none⟩ (.slice a2 z2.length c2)).setCell ⟨w.heap.size + 1, 2, none⟩ (.int .i64 x2)) = Wf at *
      exact Rest Wf HF
  case rest =>
  clear HF HI
  intro W9 BX
  obtain ⟨⟨q0, q1, q2⟩, _⟩ := cells3 BX w.heap.size _ _ _ _ (show (w.heap.size, DO n1 a1 z1.length c1 x1) ∈ _ by simp)
  obtain ⟨⟨s0, s1, s2⟩, _⟩ := cells3 BX (w.heap.size + 1) _ _ _ _ (show (w.heap.size + 1, DO n2 a2 z2.length c2 x2) ∈ _ by simp)
  go_wp2_with fail
  refine ((HR1 _ (u1.below BX.bel).lie (hT.below BX.bel (Nat.le_refl _))).out).mono ?_
  rintro e v13 ⟨rfl, hk⟩
  replace BX := BX.keep hk
  clear hk q0 q1 q2 s0 s1 s2
  obtain ⟨⟨q0, q1, q2⟩, _⟩ := cells3 BX w.heap.size _ _ _ _ (show (w.heap.size, DO n1 a1 z1.length c1 x1) ∈ _ by simp)
  obtain ⟨⟨s0, s1, s2⟩, _⟩ := cells3 BX (w.heap.size + 1) _ _ _ _ (show (w.heap.size + 1, DO n2 a2 z2.length c2 x2) ∈ _ by simp)
  go_wp2_with fail
  refine ((HR2 _ (u2.below BX.bel).lie (hT.below BX.bel (Nat.le_refl _))).out).mono ?_
  rintro e v14 ⟨rfl, hk⟩
  replace BX := BX.keep hk
  clear hk q0 q1 q2 s0 s1 s2
  obtain ⟨⟨q0, q1, q2⟩, _⟩ := cells3 BX w.heap.size _ _ _ _ (show (w.heap.size, DO n1 a1 z1.length c1 x1) ∈ _ by simp)
  obtain ⟨⟨s0, s1, s2⟩, _⟩ := cells3 BX (w.heap.size + 1) _ _ _ _ (show (w.heap.size + 1, DO n2 a2 z2.length c2 x2) ∈ _ by simp)
  go_wp2_with fail
  refine ((HC _ (u1.below BX.bel).lie (u2.below BX.bel).lie).out).mono ?_
  rintro e v15 ⟨rfl, hk⟩
  replace BX := BX.keep hk
  clear hk q0 q1 q2 s0 s1 s2
  obtain ⟨⟨q0, q1, q2⟩, _⟩ := cells3 BX w.heap.size _ _ _ _ (show (w.heap.size, DO n1 a1 z1.length c1 x1) ∈ _ by simp)
  obtain ⟨⟨s0, s1, s2⟩, _⟩ := cells3 BX (w.heap.size + 1) _ _ _ _ (show (w.heap.size + 1, DO n2 a2 z2.length c2 x2) ∈ _ by simp)
  go_wp2_with fail
  refine ((HB _).out).mono ?_
  rintro e v16 ⟨rfl, hk⟩
  replace BX := BX.keep hk
  clear hk q0 q1 q2 s0 s1 s2
  obtain ⟨⟨q0, q1, q2⟩, _⟩ := cells3 BX w.heap.size _ _ _ _ (show (w.heap.size, DO n1 a1 z1.length c1 x1) ∈ _ by simp)
  obtain ⟨⟨s0, s1, s2⟩, _⟩ := cells3 BX (w.heap.size + 1) _ _ _ _ (show (w.heap.size + 1, DO n2 a2 z2.length c2 x2) ∈ _ by simp)
  go_wp2_with fail
  refine (lKnown4 _ (hT.below BX.bel (Nat.le_refl _))).mono ?_
  rintro e v17 ⟨rfl, hk⟩
  replace BX := BX.keep hk
  clear hk q0 q1 q2 s0 s1 s2
  obtain ⟨⟨q0, q1, q2⟩, _⟩ := cells3 BX w.heap.size _ _ _ _ (show (w.heap.size, DO n1 a1 z1.length c1 x1) ∈ _ by simp)
  obtain ⟨⟨s0, s1, s2⟩, _⟩ := cells3 BX (w.heap.size + 1) _ _ _ _ (show (w.heap.size + 1, DO n2 a2 z2.length c2 x2) ∈ _ by simp)
  go_wp2
  go_ret
  exact ⟨rfl, BX.bel⟩
set_option maxHeartbeats 20000000 in
theorem ro_eq (m : Int) (n1 n2 : Bool) (a1 a2 : Option Addr) (c1 c2 : Nat) (z1 z2 : List Int) (e1 e2 : Int) (b : Bool) (x1 x2 V1 X1 V2 X2 : Int) (KO : ∀ W g, DLie W a1 z1 → DLie W a2 z2 → At3 W g 0 n1 a1 z1.length c1 e1 → At3 W g 3 n2 a2 z2.length c2 e2 → Calls Tryz.prog 16 #[.int .u8 (fm b), .int .u8 m, .slice (some ⟨g, 0, none⟩) 2 2] W fun e w' => e = .returned (.int .i64 0) ∧ Below W.heap.size W w') (K1 : ∀ W, Calls Tryz.prog 37 #[dV n1 a1 z1.length c1 e1] W fun e w' => e = .returned (dV n1 a1 z1.length c1 x1) ∧ Below W.heap.size W w') (K2 : ∀ W, Calls Tryz.prog 37 #[dV n2 a2 z2.length c2 e2] W fun e w' => e = .returned (dV n2 a2 z2.length c2 x2) ∧ Below W.heap.size W w') (KR1 : ∀ W, Lie W a1 z1 → Tab W → Calls Tryz.prog 14 #[.int .u8 (fm b), .int .u8 m, dV n1 a1 z1.length c1 x1] W fun e w' => e = .returned (.tuple #[.int .u64 V1, .int .u8 X1, .int .i64 0]) ∧ Below W.heap.size W w') (KR2 : ∀ W, Lie W a2 z2 → Tab W → Calls Tryz.prog 14 #[.int .u8 (fm b), .int .u8 m, dV n2 a2 z2.length c2 x2] W fun e w' => e = .returned (.tuple #[.int .u64 V2, .int .u8 X2, .int .i64 0]) ∧ Below W.heap.size W w') (KC : ∀ W, Lie W a1 z1 → Lie W a2 z2 → Calls Tryz.prog 38 #[dV n1 a1 z1.length c1 x1, dV n2 a2 z2.length c2 x2] W fun e w' => e = .returned (.int .i64 0) ∧ Below W.heap.size W w') (KA : ∀ W, Calls Tryz.prog 39 #[.int .u8 (fm b), .int .u64 V1, .int .u64 V2] W fun e w' => e = .returned (.bool true) ∧ Below W.heap.size W w') (KB : ∀ W, Calls Tryz.prog 39 #[.int .u8 (fm b), .int .u64 V2, .int .u64 V1] W fun e w' => e = .returned (.bool true) ∧ Below W.heap.size W w') (hl1 : (z1.length : Int) ≤ 300) (hl2 : (z2.length : Int) ≤ 300) (w : World) (u1 : DLie w a1 z1) (u2 : DLie w a2 z2) (hT : Tab w) :
    Calls Tryz.prog 8 #[.int .u8 (fm b), .int .u8 m, dV n1 a1 z1.length c1 e1, dV n2 a2 z2.length c2 e2] w fun e w' => e = .returned (.bool true) ∧ Below w.heap.size w w' := by
  have HO := fun W g h1 h2 h3 h4 => Hide.mk (KO W g h1 h2 h3 h4)
  clear KO
  have H1 := fun W => Hide.mk (K1 W)
  have H2 := fun W => Hide.mk (K2 W)
  have HR1 := fun W h1 h2 => Hide.mk (KR1 W h1 h2)
  have HR2 := fun W h1 h2 => Hide.mk (KR2 W h1 h2)
  have HC := fun W h1 h2 => Hide.mk (KC W h1 h2)
  have HA := fun W => Hide.mk (KA W)
  have HB := fun W => Hide.mk (KB W)
  clear K1 K2 KR1 KR2 KC KA KB
  have BX := ((Bx.nil w).push (DO n1 a1 z1.length c1 e1)).push (DO n2 a2 z2.length c2 e2)
  rw [show (w.alloc (DO n1 a1 z1.length c1 e1)).heap.size = w.heap.size + 1 by simp] at BX
  obtain ⟨⟨q0, q1, q2⟩, _⟩ := cells3 BX w.heap.size _ _ _ _ (show (w.heap.size, DO n1 a1 z1.length c1 e1) ∈ _ by simp)
  obtain ⟨⟨s0, s1, s2⟩, _⟩ := cells3 BX (w.heap.size + 1) _ _ _ _ (show (w.heap.size + 1, DO n2 a2 z2.length c2 e2) ∈ _ by simp)
  go_enter Tryz.func8, Tryz.ntmps8
  go_wp2_with fail
  refine (lLong4 n1 a1 z1.length c1 e1 _ false (decide_eq_false (by omega))).mono ?_
  rintro e v18 ⟨rfl, hk⟩
  replace BX := BX.keep hk
  clear hk q0 q1 q2 s0 s1 s2
  obtain ⟨⟨q0, q1, q2⟩, _⟩ := cells3 BX w.heap.size _ _ _ _ (show (w.heap.size, DO n1 a1 z1.length c1 e1) ∈ _ by simp)
  obtain ⟨⟨s0, s1, s2⟩, _⟩ := cells3 BX (w.heap.size + 1) _ _ _ _ (show (w.heap.size + 1, DO n2 a2 z2.length c2 e2) ∈ _ by simp)
  go_wp2_with fail
  refine (lLong4 n2 a2 z2.length c2 e2 _ false (decide_eq_false (by omega))).mono ?_
  rintro e v19 ⟨rfl, hk⟩
  replace BX := BX.keep hk
  clear hk q0 q1 q2 s0 s1 s2
  obtain ⟨⟨q0, q1, q2⟩, _⟩ := cells3 BX w.heap.size _ _ _ _ (show (w.heap.size, DO n1 a1 z1.length c1 e1) ∈ _ by simp)
  obtain ⟨⟨s0, s1, s2⟩, _⟩ := cells3 BX (w.heap.size + 1) _ _ _ _ (show (w.heap.size + 1, DO n2 a2 z2.length c2 e2) ∈ _ by simp)
  go_wp2_with fail
  replace BX := BX.push (.cells #[.bool n1, .slice a1 z1.length c1, .int .i64 e1, .bool n2, .slice a2 z2.length c2, .int .i64 e2] 26 (0, 0))
  clear q0 q1 q2 s0 s1 s2
  obtain ⟨⟨q0, q1, q2⟩, _⟩ := cells3 BX w.heap.size _ _ _ _ (show (w.heap.size, DO n1 a1 z1.length c1 e1) ∈ _ by simp)
  obtain ⟨⟨s0, s1, s2⟩, _⟩ := cells3 BX (w.heap.size + 1) _ _ _ _ (show (w.heap.size + 1, DO n2 a2 z2.length c2 e2) ∈ _ by simp)
  have A1 : At3 _ _ 0 n1 a1 z1.length c1 e1 := ⟨BX.cell _ _ _ (.head _) 0, BX.cell _ _ _ (.head _) 1, BX.cell _ _ _ (.head _) 2⟩
  have A2 : At3 _ _ 3 n2 a2 z2.length c2 e2 := ⟨BX.cell _ _ _ (.head _) 3, BX.cell _ _ _ (.head _) 4, BX.cell _ _ _ (.head _) 5⟩
  refine ((HO _ _ (u1.below BX.bel) (u2.below BX.bel) A1 A2).out).mono ?_
  rintro e v20 ⟨rfl, hk⟩
  replace BX := BX.keep hk
  clear hk A1 A2 q0 q1 q2 s0 s1 s2
  obtain ⟨⟨q0, q1, q2⟩, _⟩ := cells3 BX w.heap.size _ _ _ _ (show (w.heap.size, DO n1 a1 z1.length c1 e1) ∈ _ by simp)
  obtain ⟨⟨s0, s1, s2⟩, _⟩ := cells3 BX (w.heap.size + 1) _ _ _ _ (show (w.heap.size + 1, DO n2 a2 z2.length c2 e2) ∈ _ by simp)
  go_wp2_with fail
  clear q0 q1 q2 s0 s1 s2
  have HF := (BX.sub (L' := [(w.heap.size + 1, DO n2 a2 z2.length c2 e2), (w.heap.size, DO n1 a1 z1.length c1 e1)]) (by simp)).drew
  clear BX
  have HI := HF.sub (L' := []) (by simp)
  refine Drawn.enter (Bx w []) (by kernel_rfl) ?_
  generalize hdr : v20.drew = W00 at *
  clear hdr
  refine suppose1Q (F := fun W => Bx w [(w.heap.size + 1, DO n2 a2 z2.length c2 x2), (w.heap.size, DO n1 a1 z1.length c1 x1)] W) (G := ?G) (fun Rest => ?main) ?rest
  case main =>
    obtain ⟨⟨q0, q1, q2⟩, _⟩ := cells3 HF w.heap.size _ _ _ _ (show (w.heap.size, DO n1 a1 z1.length c1 e1) ∈ _ by simp)
    obtain ⟨⟨s0, s1, s2⟩, _⟩ := cells3 HF (w.heap.size + 1) _ _ _ _ (show (w.heap.size + 1, DO n2 a2 z2.length c2 e2) ∈ _ by simp)
    refine Drawn.pair (i := 0) (j := 2) (by kernel_rfl) rfl rfl (fun K hK => ?_) (fun K hK => ?_)
    · go_simp
      refine hK _ _ HI ?_
      clear hK K
      refine Drawn.pair (i := 1) (j := 2) (by kernel_rfl) rfl rfl (fun K hK => ?_) (fun K hK => ?_)
      · go_simp
        refine (H1 _).out.mono ?_
        rintro e W1 ⟨rfl, hn⟩
        refine hK _ _ (HI.keep hn) ?_
        clear hK K q0 q1 q2 s0 s1 s2
        replace HI := HI.keep hn
        replace HF := HF.keep hn
        clear hn
        obtain ⟨⟨q0, q1, q2⟩, _⟩ := cells3 HF w.heap.size _ _ _ _ (show (w.heap.size, DO n1 a1 z1.length c1 e1) ∈ _ by simp)
        obtain ⟨⟨s0, s1, s2⟩, _⟩ := cells3 HF (w.heap.size + 1) _ _ _ _ (show (w.heap.size + 1, DO n2 a2 z2.length c2 e2) ∈ _ by simp)
        refine Drawn.one (j := 2) (by kernel_rfl) rfl (fun K hK => ?_)
        go_simp
        refine hK _ _ HI ?_
        clear hK K
        refine Drawn.one (j := 3) (by kernel_rfl) rfl (fun K hK => ?_)
        go_simp
        refine (H2 _).out.mono ?_
        rintro e W2 ⟨rfl, hn⟩
        refine hK _ _ (HI.keep hn) ?_
        clear hK K q0 q1 q2 s0 s1 s2
        replace HI := HI.keep hn
        replace HF := HF.keep hn
        clear hn
        obtain ⟨⟨q0, q1, q2⟩, _⟩ := cells3 HF w.heap.size _ _ _ _ (show (w.heap.size, DO n1 a1 z1.length c1 e1) ∈ _ by simp)
        obtain ⟨⟨s0, s1, s2⟩, _⟩ := cells3 HF (w.heap.size + 1) _ _ _ _ (show (w.heap.size + 1, DO n2 a2 z2.length c2 e2) ∈ _ by simp)
        clear q0 q1 q2 s0 s1 s2
        replace HF := HF.sub (L' := [(w.heap.size, DO n1 a1 z1.length c1 e1), (w.heap.size + 1, DO n2 a2 z2.length c2 e2)]) (by simp)
        obtain ⟨⟨q0, q1, q2⟩, p0, p1, p2⟩ := cells3 HF w.heap.size _ _ _ _ (.head _)
        replace HF := HF.fill3 (Nat.le_refl _) (by simp) (.bool n1) (.slice a1 z1.length c1) (.int .i64 x1)
        refine Drawn.one (j := 4) (by kernel_rfl) rfl (fun K hK => ?_)
        go_simp
        refine hK _ _ (HF.sub (by simp)) ?_
        clear hK K q0 q1 q2 p0 p1 p2
        replace HF := HF.sub (L' := [(w.heap.size + 1, DO n2 a2 z2.length c2 e2), (w.heap.size, DO n1 a1 z1.length c1 x1)]) (by simp)
        obtain ⟨⟨q0, q1, q2⟩, p0, p1, p2⟩ := cells3 HF (w.heap.size + 1) _ _ _ _ (.head _)
        replace HF := HF.fill3 (by omega) (by simp) (.bool n2) (.slice a2 z2.length c2) (.int .i64 x2)
        refine Drawn.one (j := 5) (by kernel_rfl) rfl (fun K hK => ?_)
        go_simp
        refine hK _ _ (HF.sub (by simp)) ?_
        clear hK K q0 q1 q2 p0 p1 p2
        refine Drawn.done (by kernel_rfl) ?_
        try go_simp
        generalize hWf : ((((((W2.setCell ⟨w.heap.size, 0, none⟩ (.bool n1)).setCell ⟨w.heap.size, 1, none⟩ (.slice a1 z1.length c1)).setCell ⟨w.heap.size, 2, none⟩ (.int .i64 x1)).setCell ⟨w.heap.size + 1, 0, none⟩ (.bool n2)).setCell ⟨w.heap.size + 1, 1, none⟩ (.slice a2 z2.length c2)).setCell ⟨w.heap.size + 1, 2, none⟩ (.int .i64 x2)) = Wf at *
        exact Rest Wf HF
      · go_simp
        refine hK _ _ HI ?_
        clear hK K
        refine Drawn.one (j := 1) (by kernel_rfl) rfl (fun K hK => ?_)
        go_simp
        refine (H1 _).out.mono ?_
        rintro e W3 ⟨rfl, hn⟩
        refine hK _ _ (HI.keep hn) ?_
        clear hK K q0 q1 q2 s0 s1 s2
        replace HI := HI.keep hn
        replace HF := HF.keep hn
        clear hn
        obtain ⟨⟨q0, q1, q2⟩, _⟩ := cells3 HF w.heap.size _ _ _ _ (show (w.heap.size, DO n1 a1 z1.length c1 e1) ∈ _ by simp)
        obtain ⟨⟨s0, s1, s2⟩, _⟩ := cells3 HF (w.heap.size + 1) _ _ _ _ (show (w.heap.size + 1, DO n2 a2 z2.length c2 e2) ∈ _ by simp)
        refine Drawn.one (j := 3) (by kernel_rfl) rfl (fun K hK => ?_)
        go_simp
        refine (H2 _).out.mono ?_
        rintro e W4 ⟨rfl, hn⟩
        refine hK _ _ (HI.keep hn) ?_
        clear hK K q0 q1 q2 s0 s1 s2
        replace HI := HI.keep hn
        replace HF := HF.keep hn
        clear hn
        obtain ⟨⟨q0, q1, q2⟩, _⟩ := cells3 HF w.heap.size _ _ _ _ (show (w.heap.size, DO n1 a1 z1.length c1 e1) ∈ _ by simp)
        obtain ⟨⟨s0, s1, s2⟩, _⟩ := cells3 HF (w.heap.size + 1) _ _ _ _ (show (w.heap.size + 1, DO n2 a2 z2.length c2 e2) ∈ _ by simp)
        clear q0 q1 q2 s0 s1 s2
        replace HF := HF.sub (L' := [(w.heap.size, DO n1 a1 z1.length c1 e1), (w.heap.size + 1, DO n2 a2 z2.length c2 e2)]) (by simp)
        obtain ⟨⟨q0, q1, q2⟩, p0, p1, p2⟩ := cells3 HF w.heap.size _ _ _ _ (.head _)
        replace HF := HF.fill3 (Nat.le_refl _) (by simp) (.bool n1) (.slice a1 z1.length c1) (.int .i64 x1)
        refine Drawn.one (j := 4) (by kernel_rfl) rfl (fun K hK => ?_)
        go_simp
        refine hK _ _ (HF.sub (by simp)) ?_
        clear hK K q0 q1 q2 p0 p1 p2
        replace HF := HF.sub (L' := [(w.heap.size + 1, DO n2 a2 z2.length c2 e2), (w.heap.size, DO n1 a1 z1.length c1 x1)]) (by simp)
        obtain ⟨⟨q0, q1, q2⟩, p0, p1, p2⟩ := cells3 HF (w.heap.size + 1) _ _ _ _ (.head _)
        replace HF := HF.fill3 (by omega) (by simp) (.bool n2) (.slice a2 z2.length c2) (.int .i64 x2)
        refine Drawn.one (j := 5) (by kernel_rfl) rfl (fun K hK => ?_)
        go_simp
        refine hK _ _ (HF.sub (by simp)) ?_
        clear hK K q0 q1 q2 p0 p1 p2
        refine Drawn.done (by kernel_rfl) ?_
        try go_simp
        generalize hWf : ((((((W4.setCell ⟨w.heap.size, 0, none⟩ (.bool n1)).setCell ⟨w.heap.size, 1, none⟩ (.slice a1 z1.length c1)).setCell ⟨w.heap.size, 2, none⟩ (.int .i64 x1)).setCell ⟨w.heap.size + 1, 0, none⟩ (.bool n2)).setCell ⟨w.heap.size + 1, 1, none⟩ (.slice a2 z2.length c2)).setCell ⟨w.heap.size + 1, 2, none⟩ (.int .i64 x2)) = Wf at *
        exact Rest Wf HF
    · go_simp
      refine hK _ _ HI ?_
      clear hK K
      refine Drawn.one (j := 0) (by kernel_rfl) rfl (fun K hK => ?_)
      go_simp
      refine hK _ _ HI ?_
      clear hK K
      refine Drawn.one (j := 1) (by kernel_rfl) rfl (fun K hK => ?_)
      go_simp
      refine (H1 _).out.mono ?_
      rintro e W5 ⟨rfl, hn⟩
      refine hK _ _ (HI.keep hn) ?_
      clear hK K q0 q1 q2 s0 s1 s2
      replace HI := HI.keep hn
      replace HF := HF.keep hn
      clear hn
      obtain ⟨⟨q0, q1, q2⟩, _⟩ := cells3 HF w.heap.size _ _ _ _ (show (w.heap.size, DO n1 a1 z1.length c1 e1) ∈ _ by simp)
      obtain ⟨⟨s0, s1, s2⟩, _⟩ := cells3 HF (w.heap.size + 1) _ _ _ _ (show (w.heap.size + 1, DO n2 a2 z2.length c2 e2) ∈ _ by simp)
      refine Drawn.one (j := 3) (by kernel_rfl) rfl (fun K hK => ?_)
      go_simp
      refine (H2 _).out.mono ?_
      rintro e W6 ⟨rfl, hn⟩
      refine hK _ _ (HI.keep hn) ?_
      clear hK K q0 q1 q2 s0 s1 s2
      replace HI := HI.keep hn
      replace HF := HF.keep hn
      clear hn
      obtain ⟨⟨q0, q1, q2⟩, _⟩ := cells3 HF w.heap.size _ _ _ _ (show (w.heap.size, DO n1 a1 z1.length c1 e1) ∈ _ by simp)
      obtain ⟨⟨s0, s1, s2⟩, _⟩ := cells3 HF (w.heap.size + 1) _ _ _ _ (show (w.heap.size + 1, DO n2 a2 z2.length c2 e2) ∈ _ by simp)
      clear q0 q1 q2 s0 s1 s2
      replace HF := HF.sub (L' := [(w.heap.size, DO n1 a1 z1.length c1 e1), (w.heap.size + 1, DO n2 a2 z2.length c2 e2)]) (by simp)
      obtain ⟨⟨q0, q1, q2⟩, p0, p1, p2⟩ := cells3 HF w.heap.size _ _ _ _ (.head _)
      replace HF := HF.fill3 (Nat.le_refl _) (by simp) (.bool n1) (.slice a1 z1.length c1) (.int .i64 x1)
      refine Drawn.one (j := 4) (by kernel_rfl) rfl (fun K hK => ?_)
      go_simp
      refine hK _ _ (HF.sub (by simp)) ?_
      clear hK K q0 q1 q2 p0 p1 p2
      replace HF := HF.sub (L' := [(w.heap.size + 1, DO n2 a2 z2.length c2 e2), (w.heap.size, DO n1 a1 z1.length c1 x1)]) (by simp)
      obtain ⟨⟨q0, q1, q2⟩, p0, p1, p2⟩ := cells3 HF (w.heap.size + 1) _ _ _ _ (.head _)
      replace HF := HF.fill3 (by omega) (by simp) (.bool n2) (.slice a2 z2.length c2) (.int .i64 x2)
      refine Drawn.one (j := 5) (by kernel_rfl) rfl (fun K hK => ?_)
      go_simp
      refine hK _ _ (HF.sub (by simp)) ?_
      clear hK K q0 q1 q2 p0 p1 p2
      refine Drawn.done (by kernel_rfl) ?_
      try go_simp
      generalize hWf : ((((((W6.setCell ⟨w.heap.size, 0, none⟩ (.bool n1)).setCell ⟨w.heap.size, 1, none⟩ (.slice a1 z1.length c1)).setCell ⟨w.heap.size, 2, none⟩ (.int .i64 x1)).setCell ⟨w.heap.size + 1, 0, none⟩ (.bool n2)).setCell ⟨w.heap.size + 1, 1, none⟩ (.slice a2 z2.length c2)).setCell ⟨w.heap.size + 1, 2, none⟩ (.int .i64 x2)) = Wf at *
      exact Rest Wf HF
  case rest =>
  clear HF HI
  intro W9 BX
  obtain ⟨⟨q0, q1, q2⟩, _⟩ := cells3 BX w.heap.size _ _ _ _ (show (w.heap.size, DO n1 a1 z1.length c1 x1) ∈ _ by simp)
  obtain ⟨⟨s0, s1, s2⟩, _⟩ := cells3 BX (w.heap.size + 1) _ _ _ _ (show (w.heap.size + 1, DO n2 a2 z2.length c2 x2) ∈ _ by simp)
  go_wp2_with fail
  refine ((HR1 _ (u1.below BX.bel).lie (hT.below BX.bel (Nat.le_refl _))).out).mono ?_
  rintro e v21 ⟨rfl, hk⟩
  replace BX := BX.keep hk
  clear hk q0 q1 q2 s0 s1 s2
  obtain ⟨⟨q0, q1, q2⟩, _⟩ := cells3 BX w.heap.size _ _ _ _ (show (w.heap.size, DO n1 a1 z1.length c1 x1) ∈ _ by simp)
  obtain ⟨⟨s0, s1, s2⟩, _⟩ := cells3 BX (w.heap.size + 1) _ _ _ _ (show (w.heap.size + 1, DO n2 a2 z2.length c2 x2) ∈ _ by simp)
  go_wp2_with fail
  refine ((HR2 _ (u2.below BX.bel).lie (hT.below BX.bel (Nat.le_refl _))).out).mono ?_
  rintro e v22 ⟨rfl, hk⟩
  replace BX := BX.keep hk
  clear hk q0 q1 q2 s0 s1 s2
  obtain ⟨⟨q0, q1, q2⟩, _⟩ := cells3 BX w.heap.size _ _ _ _ (show (w.heap.size, DO n1 a1 z1.length c1 x1) ∈ _ by simp)
  obtain ⟨⟨s0, s1, s2⟩, _⟩ := cells3 BX (w.heap.size + 1) _ _ _ _ (show (w.heap.size + 1, DO n2 a2 z2.length c2 x2) ∈ _ by simp)
  go_wp2_with fail
  refine ((HC _ (u1.below BX.bel).lie (u2.below BX.bel).lie).out).mono ?_
  rintro e v23 ⟨rfl, hk⟩
  replace BX := BX.keep hk
  clear hk q0 q1 q2 s0 s1 s2
  obtain ⟨⟨q0, q1, q2⟩, _⟩ := cells3 BX w.heap.size _ _ _ _ (show (w.heap.size, DO n1 a1 z1.length c1 x1) ∈ _ by simp)
  obtain ⟨⟨s0, s1, s2⟩, _⟩ := cells3 BX (w.heap.size + 1) _ _ _ _ (show (w.heap.size + 1, DO n2 a2 z2.length c2 x2) ∈ _ by simp)
  go_wp2_with fail
  refine ((HA _).out).mono ?_
  rintro e v24 ⟨rfl, hk⟩
  replace BX := BX.keep hk
  clear hk q0 q1 q2 s0 s1 s2
  obtain ⟨⟨q0, q1, q2⟩, _⟩ := cells3 BX w.heap.size _ _ _ _ (show (w.heap.size, DO n1 a1 z1.length c1 x1) ∈ _ by simp)
  obtain ⟨⟨s0, s1, s2⟩, _⟩ := cells3 BX (w.heap.size + 1) _ _ _ _ (show (w.heap.size + 1, DO n2 a2 z2.length c2 x2) ∈ _ by simp)
  go_wp2_with fail
  refine ((HB _).out).mono ?_
  rintro e v25 ⟨rfl, hk⟩
  replace BX := BX.keep hk
  clear hk q0 q1 q2 s0 s1 s2
  obtain ⟨⟨q0, q1, q2⟩, _⟩ := cells3 BX w.heap.size _ _ _ _ (show (w.heap.size, DO n1 a1 z1.length c1 x1) ∈ _ by simp)
  obtain ⟨⟨s0, s1, s2⟩, _⟩ := cells3 BX (w.heap.size + 1) _ _ _ _ (show (w.heap.size + 1, DO n2 a2 z2.length c2 x2) ∈ _ by simp)
  go_wp2_with fail
  refine (lKnown4 _ (hT.below BX.bel (Nat.le_refl _))).mono ?_
  rintro e v26 ⟨rfl, hk⟩
  replace BX := BX.keep hk
  clear hk q0 q1 q2 s0 s1 s2
  obtain ⟨⟨q0, q1, q2⟩, _⟩ := cells3 BX w.heap.size _ _ _ _ (show (w.heap.size, DO n1 a1 z1.length c1 x1) ∈ _ by simp)
  obtain ⟨⟨s0, s1, s2⟩, _⟩ := cells3 BX (w.heap.size + 1) _ _ _ _ (show (w.heap.size + 1, DO n2 a2 z2.length c2 x2) ∈ _ by simp)
  go_wp2
  go_ret
  exact ⟨rfl, BX.bel⟩
set_option maxHeartbeats 20000000 in
theorem ro_gt (m : Int) (n1 n2 : Bool) (a1 a2 : Option Addr) (c1 c2 : Nat) (z1 z2 : List Int) (e1 e2 : Int) (b : Bool) (x1 x2 V1 X1 V2 X2 : Int) (KO : ∀ W g, DLie W a1 z1 → DLie W a2 z2 → At3 W g 0 n1 a1 z1.length c1 e1 → At3 W g 3 n2 a2 z2.length c2 e2 → Calls Tryz.prog 16 #[.int .u8 (fm b), .int .u8 m, .slice (some ⟨g, 0, none⟩) 2 2] W fun e w' => e = .returned (.int .i64 0) ∧ Below W.heap.size W w') (K1 : ∀ W, Calls Tryz.prog 37 #[dV n1 a1 z1.length c1 e1] W fun e w' => e = .returned (dV n1 a1 z1.length c1 x1) ∧ Below W.heap.size W w') (K2 : ∀ W, Calls Tryz.prog 37 #[dV n2 a2 z2.length c2 e2] W fun e w' => e = .returned (dV n2 a2 z2.length c2 x2) ∧ Below W.heap.size W w') (KR1 : ∀ W, Lie W a1 z1 → Tab W → Calls Tryz.prog 14 #[.int .u8 (fm b), .int .u8 m, dV n1 a1 z1.length c1 x1] W fun e w' => e = .returned (.tuple #[.int .u64 V1, .int .u8 X1, .int .i64 0]) ∧ Below W.heap.size W w') (KR2 : ∀ W, Lie W a2 z2 → Tab W → Calls Tryz.prog 14 #[.int .u8 (fm b), .int .u8 m, dV n2 a2 z2.length c2 x2] W fun e w' => e = .returned (.tuple #[.int .u64 V2, .int .u8 X2, .int .i64 0]) ∧ Below W.heap.size W w') (KC : ∀ W, Lie W a1 z1 → Lie W a2 z2 → Calls Tryz.prog 38 #[dV n1 a1 z1.length c1 x1, dV n2 a2 z2.length c2 x2] W fun e w' => e = .returned (.int .i64 1) ∧ Below W.heap.size W w') (KA : ∀ W, Calls Tryz.prog 39 #[.int .u8 (fm b), .int .u64 V1, .int .u64 V2] W fun e w' => e = .returned (.bool true) ∧ Below W.heap.size W w') (hl1 : (z1.length : Int) ≤ 300) (hl2 : (z2.length : Int) ≤ 300) (w : World) (u1 : DLie w a1 z1) (u2 : DLie w a2 z2) (hT : Tab w) :
    Calls Tryz.prog 8 #[.int .u8 (fm b), .int .u8 m, dV n1 a1 z1.length c1 e1, dV n2 a2 z2.length c2 e2] w fun e w' => e = .returned (.bool true) ∧ Below w.heap.size w w' := by
  have HO := fun W g h1 h2 h3 h4 => Hide.mk (KO W g h1 h2 h3 h4)
  clear KO
  have H1 := fun W => Hide.mk (K1 W)
  have H2 := fun W => Hide.mk (K2 W)
  have HR1 := fun W h1 h2 => Hide.mk (KR1 W h1 h2)
  have HR2 := fun W h1 h2 => Hide.mk (KR2 W h1 h2)
  have HC := fun W h1 h2 => Hide.mk (KC W h1 h2)
  have HA := fun W => Hide.mk (KA W)
  clear K1 K2 KR1 KR2 KC KA
  have BX := ((Bx.nil w).push (DO n1 a1 z1.length c1 e1)).push (DO n2 a2 z2.length c2 e2)
  rw [show (w.alloc (DO n1 a1 z1.length c1 e1)).heap.size = w.heap.size + 1 by simp] at BX
  obtain ⟨⟨q0, q1, q2⟩, _⟩ := cells3 BX w.heap.size _ _ _ _ (show (w.heap.size, DO n1 a1 z1.length c1 e1) ∈ _ by simp)
  obtain ⟨⟨s0, s1, s2⟩, _⟩ := cells3 BX (w.heap.size + 1) _ _ _ _ (show (w.heap.size + 1, DO n2 a2 z2.length c2 e2) ∈ _ by simp)
  go_enter Tryz.func8, Tryz.ntmps8
  go_wp2_with fail
  refine (lLong4 n1 a1 z1.length c1 e1 _ false (decide_eq_false (by omega))).mono ?_
  rintro e v27 ⟨rfl, hk⟩
  replace BX := BX.keep hk
  clear hk q0 q1 q2 s0 s1 s2
  obtain ⟨⟨q0, q1, q2⟩, _⟩ := cells3 BX w.heap.size _ _ _ _ (show (w.heap.size, DO n1 a1 z1.length c1 e1) ∈ _ by simp)
  obtain ⟨⟨s0, s1, s2⟩, _⟩ := cells3 BX (w.heap.size + 1) _ _ _ _ (show (w.heap.size + 1, DO n2 a2 z2.length c2 e2) ∈ _ by simp)
  go_wp2_with fail
  refine (lLong4 n2 a2 z2.length c2 e2 _ false (decide_eq_false (by omega))).mono ?_
  rintro e v28 ⟨rfl, hk⟩
  replace BX := BX.keep hk
  clear hk q0 q1 q2 s0 s1 s2
  obtain ⟨⟨q0, q1, q2⟩, _⟩ := cells3 BX w.heap.size _ _ _ _ (show (w.heap.size, DO n1 a1 z1.length c1 e1) ∈ _ by simp)
  obtain ⟨⟨s0, s1, s2⟩, _⟩ := cells3 BX (w.heap.size + 1) _ _ _ _ (show (w.heap.size + 1, DO n2 a2 z2.length c2 e2) ∈ _ by simp)
  go_wp2_with fail
  replace BX := BX.push (.cells #[.bool n1, .slice a1 z1.length c1, .int .i64 e1, .bool n2, .slice a2 z2.length c2, .int .i64 e2] 26 (0, 0))
  clear q0 q1 q2 s0 s1 s2
  obtain ⟨⟨q0, q1, q2⟩, _⟩ := cells3 BX w.heap.size _ _ _ _ (show (w.heap.size, DO n1 a1 z1.length c1 e1) ∈ _ by simp)
  obtain ⟨⟨s0, s1, s2⟩, _⟩ := cells3 BX (w.heap.size + 1) _ _ _ _ (show (w.heap.size + 1, DO n2 a2 z2.length c2 e2) ∈ _ by simp)
  have A1 : At3 _ _ 0 n1 a1 z1.length c1 e1 := ⟨BX.cell _ _ _ (.head _) 0, BX.cell _ _ _ (.head _) 1, BX.cell _ _ _ (.head _) 2⟩
  have A2 : At3 _ _ 3 n2 a2 z2.length c2 e2 := ⟨BX.cell _ _ _ (.head _) 3, BX.cell _ _ _ (.head _) 4, BX.cell _ _ _ (.head _) 5⟩
  refine ((HO _ _ (u1.below BX.bel) (u2.below BX.bel) A1 A2).out).mono ?_
  rintro e v29 ⟨rfl, hk⟩
  replace BX := BX.keep hk
  clear hk A1 A2 q0 q1 q2 s0 s1 s2
  obtain ⟨⟨q0, q1, q2⟩, _⟩ := cells3 BX w.heap.size _ _ _ _ (show (w.heap.size, DO n1 a1 z1.length c1 e1) ∈ _ by simp)
  obtain ⟨⟨s0, s1, s2⟩, _⟩ := cells3 BX (w.heap.size + 1) _ _ _ _ (show (w.heap.size + 1, DO n2 a2 z2.length c2 e2) ∈ _ by simp)
  go_wp2_with fail
  clear q0 q1 q2 s0 s1 s2
  have HF := (BX.sub (L' := [(w.heap.size + 1, DO n2 a2 z2.length c2 e2), (w.heap.size, DO n1 a1 z1.length c1 e1)]) (by simp)).drew
  clear BX
  have HI := HF.sub (L' := []) (by simp)
  refine Drawn.enter (Bx w []) (by kernel_rfl) ?_
  generalize hdr : v29.drew = W00 at *
  clear hdr
  refine suppose1Q (F := fun W => Bx w [(w.heap.size + 1, DO n2 a2 z2.length c2 x2), (w.heap.size, DO n1 a1 z1.length c1 x1)] W) (G := ?G) (fun Rest => ?main) ?rest
  case main =>
    obtain ⟨⟨q0, q1, q2⟩, _⟩ := cells3 HF w.heap.size _ _ _ _ (show (w.heap.size, DO n1 a1 z1.length c1 e1) ∈ _ by simp)
    obtain ⟨⟨s0, s1, s2⟩, _⟩ := cells3 HF (w.heap.size + 1) _ _ _ _ (show (w.heap.size + 1, DO n2 a2 z2.length c2 e2) ∈ _ by simp)
    refine Drawn.pair (i := 0) (j := 2) (by kernel_rfl) rfl rfl (fun K hK => ?_) (fun K hK => ?_)
    · go_simp
      refine hK _ _ HI ?_
      clear hK K
      refine Drawn.pair (i := 1) (j := 2) (by kernel_rfl) rfl rfl (fun K hK => ?_) (fun K hK => ?_)
      · go_simp
        refine (H1 _).out.mono ?_
        rintro e W1 ⟨rfl, hn⟩
        refine hK _ _ (HI.keep hn) ?_
        clear hK K q0 q1 q2 s0 s1 s2
        replace HI := HI.keep hn
        replace HF := HF.keep hn
        clear hn
        obtain ⟨⟨q0, q1, q2⟩, _⟩ := cells3 HF w.heap.size _ _ _ _ (show (w.heap.size, DO n1 a1 z1.length c1 e1) ∈ _ by simp)
        obtain ⟨⟨s0, s1, s2⟩, _⟩ := cells3 HF (w.heap.size + 1) _ _ _ _ (show (w.heap.size + 1, DO n2 a2 z2.length c2 e2) ∈ _ by simp)
        refine Drawn.one (j := 2) (by kernel_rfl) rfl (fun K hK => ?_)
        go_simp
        refine hK _ _ HI ?_
        clear hK K
        refine Drawn.one (j := 3) (by kernel_rfl) rfl (fun K hK => ?_)
        go_simp
        refine (H2 _).out.mono ?_
        rintro e W2 ⟨rfl, hn⟩
        refine hK _ _ (HI.keep hn) ?_
        clear hK K q0 q1 q2 s0 s1 s2
        replace HI := HI.keep hn
        replace HF := HF.keep hn
        clear hn
        obtain ⟨⟨q0, q1, q2⟩, _⟩ := cells3 HF w.heap.size _ _ _ _ (show (w.heap.size, DO n1 a1 z1.length c1 e1) ∈ _ by simp)
        obtain ⟨⟨s0, s1, s2⟩, _⟩ := cells3 HF (w.heap.size + 1) _ _ _ _ (show (w.heap.size + 1, DO n2 a2 z2.length c2 e2) ∈ _ by simp)
        clear q0 q1 q2 s0 s1 s2
        replace HF := HF.sub (L' := [(w.heap.size, DO n1 a1 z1.length c1 e1), (w.heap.size + 1, DO n2 a2 z2.length c2 e2)]) (by simp)
        obtain ⟨⟨q0, q1, q2⟩, p0, p1, p2⟩ := cells3 HF w.heap.size _ _ _ _ (.head _)
        replace HF := HF.fill3 (Nat.le_refl _) (by simp) (.bool n1) (.slice a1 z1.length c1) (.int .i64 x1)
        refine Drawn.one (j := 4) (by kernel_rfl) rfl (fun K hK => ?_)
        go_simp
        refine hK _ _ (HF.sub (by simp)) ?_
        clear hK K q0 q1 q2 p0 p1 p2
        replace HF := HF.sub (L' := [(w.heap.size + 1, DO n2 a2 z2.length c2 e2), (w.heap.size, DO n1 a1 z1.length c1 x1)]) (by simp)
        obtain ⟨⟨q0, q1, q2⟩, p0, p1, p2⟩ := cells3 HF (w.heap.size + 1) _ _ _ _ (.head _)
        replace HF := HF.fill3 (by omega) (by simp) (.bool n2) (.slice a2 z2.length c2) (.int .i64 x2)
        refine Drawn.one (j := 5) (by kernel_rfl) rfl (fun K hK => ?_)
        go_simp
        refine hK _ _ (HF.sub (by simp)) ?_
        clear hK K q0 q1 q2 p0 p1 p2
        refine Drawn.done (by kernel_rfl) ?_
        try go_simp
        generalize hWf : ((((((W2.setCell ⟨w.heap.size, 0, none⟩ (.bool n1)).setCell ⟨w.heap.size, 1, none⟩ (.slice a1 z1.length c1)).setCell ⟨w.heap.size, 2, none⟩ (.int .i64 x1)).setCell ⟨w.heap.size + 1, 0, none⟩ (.bool n2)).setCell ⟨w.heap.size + 1, 1, none⟩ (.slice a2 z2.length c2)).setCell ⟨w.heap.size + 1, 2, none⟩ (.int .i64 x2)) = Wf at *
        exact Rest Wf HF
      · go_simp
        refine hK _ _ HI ?_
        clear hK K
        refine Drawn.one (j := 1) (by kernel_rfl) rfl (fun K hK => ?_)
        go_simp
        refine (H1 _).out.mono ?_
        rintro e W3 ⟨rfl, hn⟩
        refine hK _ _ (HI.keep hn) ?_
        clear hK K q0 q1 q2 s0 s1 s2
        replace HI := HI.keep hn
        replace HF := HF.keep hn
        clear hn
        obtain ⟨⟨q0, q1, q2⟩, _⟩ := cells3 HF w.heap.size _ _ _ _ (show (w.heap.size, DO n1 a1 z1.length c1 e1) ∈ _ by simp)
        obtain ⟨⟨s0, s1, s2⟩, _⟩ := cells3 HF (w.heap.size + 1) _ _ _ _ (show (w.heap.size + 1, DO n2 a2 z2.length c2 e2) ∈ _ by simp)
        refine Drawn.one (j := 3) (by kernel_rfl) rfl (fun K hK => ?_)
        go_simp
        refine (H2 _).out.mono ?_
        rintro e W4 ⟨rfl, hn⟩
        refine hK _ _ (HI.keep hn) ?_
        clear hK K q0 q1 q2 s0 s1 s2
        replace HI := HI.keep hn
        replace HF := HF.keep hn
        clear hn
        obtain ⟨⟨q0, q1, q2⟩, _⟩ := cells3 HF w.heap.size _ _ _ _ (show (w.heap.size, DO n1 a1 z1.length c1 e1) ∈ _ by simp)
        obtain ⟨⟨s0, s1, s2⟩, _⟩ := cells3 HF (w.heap.size + 1) _ _ _ _ (show (w.heap.size + 1, DO n2 a2 z2.length c2 e2) ∈ _ by simp)
        clear q0 q1 q2 s0 s1 s2
        replace HF := HF.sub (L' := [(w.heap.size, DO n1 a1 z1.length c1 e1), (w.heap.size + 1, DO n2 a2 z2.length c2 e2)]) (by simp)
        obtain ⟨⟨q0, q1, q2⟩, p0, p1, p2⟩ := cells3 HF w.heap.size _ _ _ _ (.head _)
        replace HF := HF.fill3 (Nat.le_refl _) (by simp) (.bool n1) (.slice a1 z1.length c1) (.int .i64 x1)
        refine Drawn.one (j := 4) (by kernel_rfl) rfl (fun K hK => ?_)
        go_simp
        refine hK _ _ (HF.sub (by simp)) ?_
        clear hK K q0 q1 q2 p0 p1 p2
        replace HF := HF.sub (L' := [(w.heap.size + 1, DO n2 a2 z2.length c2 e2), (w.heap.size, DO n1 a1 z1.length c1 x1)]) (by simp)
        obtain ⟨⟨q0, q1, q2⟩, p0, p1, p2⟩ := cells3 HF (w.heap.size + 1) _ _ _ _ (.head _)
        replace HF := HF.fill3 (by omega) (by simp) (.bool n2) (.slice a2 z2.length c2) (.int .i64 x2)
        refine Drawn.one (j := 5) (by kernel_rfl) rfl (fun K hK => ?_)
        go_simp
        refine hK _ _ (HF.sub (by simp)) ?_
        clear hK K q0 q1 q2 p0 p1 p2
        refine Drawn.done (by kernel_rfl) ?_
        try go_simp
        generalize hWf : ((((((W4.setCell ⟨w.heap.size, 0, none⟩ (.bool n1)).setCell ⟨w.heap.size, 1, none⟩ (.slice a1 z1.length c1)).setCell ⟨w.heap.size, 2, none⟩ (.int .i64 x1)).setCell ⟨w.heap.size + 1, 0, none⟩ (.bool n2)).setCell ⟨w.heap.size + 1, 1, none⟩ (.slice a2 z2.length c2)).setCell ⟨w.heap.size + 1, 2, none⟩ (.int .i64 x2)) = Wf at *
        exact Rest Wf HF
    · go_simp
      refine hK _ _ HI ?_
      clear hK K
      refine Drawn.one (j := 0) (by kernel_rfl) rfl (fun K hK => ?_)
      go_simp
      refine hK _ _ HI ?_
      clear hK K
      refine Drawn.one (j := 1) (by kernel_rfl) rfl (fun K hK => ?_)
      go_simp
      refine (H1 _).out.mono ?_
      rintro e W5 ⟨rfl, hn⟩
      refine hK _ _ (HI.keep hn) ?_
      clear hK K q0 q1 q2 s0 s1 s2
      replace HI := HI.keep hn
      replace HF := HF.keep hn
      clear hn
      obtain ⟨⟨q0, q1, q2⟩, _⟩ := cells3 HF w.heap.size _ _ _ _ (show (w.heap.size, DO n1 a1 z1.length c1 e1) ∈ _ by simp)
      obtain ⟨⟨s0, s1, s2⟩, _⟩ := cells3 HF (w.heap.size + 1) _ _ _ _ (show (w.heap.size + 1, DO n2 a2 z2.length c2 e2) ∈ _ by simp)
      refine Drawn.one (j := 3) (by kernel_rfl) rfl (fun K hK => ?_)
      go_simp
      refine (H2 _).out.mono ?_
      rintro e W6 ⟨rfl, hn⟩
      refine hK _ _ (HI.keep hn) ?_
      clear hK K q0 q1 q2 s0 s1 s2
      replace HI := HI.keep hn
      replace HF := HF.keep hn
      clear hn
      obtain ⟨⟨q0, q1, q2⟩, _⟩ := cells3 HF w.heap.size _ _ _ _ (show (w.heap.size, DO n1 a1 z1.length c1 e1) ∈ _ by simp)
      obtain ⟨⟨s0, s1, s2⟩, _⟩ := cells3 HF (w.heap.size + 1) _ _ _ _ (show (w.heap.size + 1, DO n2 a2 z2.length c2 e2) ∈ _ by simp)
      clear q0 q1 q2 s0 s1 s2
      replace HF := HF.sub (L' := [(w.heap.size, DO n1 a1 z1.length c1 e1), (w.heap.size + 1, DO n2 a2 z2.length c2 e2)]) (by simp)
      obtain ⟨⟨q0, q1, q2⟩, p0, p1, p2⟩ := cells3 HF w.heap.size _ _ _ _ (.head _)
      replace HF := HF.fill3 (Nat.le_refl _) (by simp) (.bool n1) (.slice a1 z1.length c1) (.int .i64 x1)
      refine Drawn.one (j := 4) (by kernel_rfl) rfl (fun K hK => ?_)
      go_simp
      refine hK _ _ (HF.sub (by simp)) ?_
      clear hK K q0 q1 q2 p0 p1 p2
      replace HF := HF.sub (L' := [(w.heap.size + 1, DO n2 a2 z2.length c2 e2), (w.heap.size, DO n1 a1 z1.length c1 x1)]) (by simp)
      obtain ⟨⟨q0, q1, q2⟩, p0, p1, p2⟩ := cells3 HF (w.heap.size + 1) _ _ _ _ (.head _)
      replace HF := HF.fill3 (by omega) (by simp) (.bool n2) (.slice a2 z2.length c2) (.int .i64 x2)
      refine Drawn.one (j := 5) (by kernel_rfl) rfl (fun K hK => ?_)
      go_simp
      refine hK _ _ (HF.sub (by simp)) ?_
      clear hK K q0 q1 q2 p0 p1 p2
      refine Drawn.done (by kernel_rfl) ?_
      try go_simp
      generalize hWf : ((((((W6.setCell ⟨w.heap.size, 0, none⟩ (.bool n1)).setCell ⟨w.heap.size, 1, none⟩ (.slice a1 z1.length c1)).setCell ⟨w.heap.size, 2, none⟩ (.int .i64 x1)).setCell ⟨w.heap.size + 1, 0, none⟩ (.bool n2)).setCell ⟨w.heap.size + 1, 1, none⟩ (.slice a2 z2.length c2)).setCell ⟨w.heap.size + 1, 2, none⟩ (.int .i64 x2)) = Wf at *
      exact Rest Wf HF
  case rest =>
  clear HF HI
  intro W9 BX
  obtain ⟨⟨q0, q1, q2⟩, _⟩ := cells3 BX w.heap.size _ _ _ _ (show (w.heap.size, DO n1 a1 z1.length c1 x1) ∈ _ by simp)
  obtain ⟨⟨s0, s1, s2⟩, _⟩ := cells3 BX (w.heap.size + 1) _ _ _ _ (show (w.heap.size + 1, DO n2 a2 z2.length c2 x2) ∈ _ by simp)
  go_wp2_with fail
  refine ((HR1 _ (u1.below BX.bel).lie (hT.below BX.bel (Nat.le_refl _))).out).mono ?_
  rintro e v30 ⟨rfl, hk⟩
  replace BX := BX.keep hk
  clear hk q0 q1 q2 s0 s1 s2
  obtain ⟨⟨q0, q1, q2⟩, _⟩ := cells3 BX w.heap.size _ _ _ _ (show (w.heap.size, DO n1 a1 z1.length c1 x1) ∈ _ by simp)
  obtain ⟨⟨s0, s1, s2⟩, _⟩ := cells3 BX (w.heap.size + 1) _ _ _ _ (show (w.heap.size + 1, DO n2 a2 z2.length c2 x2) ∈ _ by simp)
  go_wp2_with fail
  refine ((HR2 _ (u2.below BX.bel).lie (hT.below BX.bel (Nat.le_refl _))).out).mono ?_
  rintro e v31 ⟨rfl, hk⟩
  replace BX := BX.keep hk
  clear hk q0 q1 q2 s0 s1 s2
  obtain ⟨⟨q0, q1, q2⟩, _⟩ := cells3 BX w.heap.size _ _ _ _ (show (w.heap.size, DO n1 a1 z1.length c1 x1) ∈ _ by simp)
  obtain ⟨⟨s0, s1, s2⟩, _⟩ := cells3 BX (w.heap.size + 1) _ _ _ _ (show (w.heap.size + 1, DO n2 a2 z2.length c2 x2) ∈ _ by simp)
  go_wp2_with fail
  refine ((HC _ (u1.below BX.bel).lie (u2.below BX.bel).lie).out).mono ?_
  rintro e v32 ⟨rfl, hk⟩
  replace BX := BX.keep hk
  clear hk q0 q1 q2 s0 s1 s2
  obtain ⟨⟨q0, q1, q2⟩, _⟩ := cells3 BX w.heap.size _ _ _ _ (show (w.heap.size, DO n1 a1 z1.length c1 x1) ∈ _ by simp)
  obtain ⟨⟨s0, s1, s2⟩, _⟩ := cells3 BX (w.heap.size + 1) _ _ _ _ (show (w.heap.size + 1, DO n2 a2 z2.length c2 x2) ∈ _ by simp)
  go_wp2_with fail
  refine ((HA _).out).mono ?_
  rintro e v33 ⟨rfl, hk⟩
  replace BX := BX.keep hk
  clear hk q0 q1 q2 s0 s1 s2
  obtain ⟨⟨q0, q1, q2⟩, _⟩ := cells3 BX w.heap.size _ _ _ _ (show (w.heap.size, DO n1 a1 z1.length c1 x1) ∈ _ by simp)
  obtain ⟨⟨s0, s1, s2⟩, _⟩ := cells3 BX (w.heap.size + 1) _ _ _ _ (show (w.heap.size + 1, DO n2 a2 z2.length c2 x2) ∈ _ by simp)
  go_wp2_with fail
  refine (lKnown4 _ (hT.below BX.bel (Nat.le_refl _))).mono ?_
  rintro e v34 ⟨rfl, hk⟩
  replace BX := BX.keep hk
  clear hk q0 q1 q2 s0 s1 s2
  obtain ⟨⟨q0, q1, q2⟩, _⟩ := cells3 BX w.heap.size _ _ _ _ (show (w.heap.size, DO n1 a1 z1.length c1 x1) ∈ _ by simp)
  obtain ⟨⟨s0, s1, s2⟩, _⟩ := cells3 BX (w.heap.size + 1) _ _ _ _ (show (w.heap.size + 1, DO n2 a2 z2.length c2 x2) ∈ _ by simp)
  go_wp2
  go_ret
  exact ⟨rfl, BX.bel⟩
end Go.Proofs.YtdnghibkagcbcaaGreatDoor

namespace Go.Proofs.YtdnghibkagcbcaaGreatDoor
open Go.RowKit Go.Wd Go.Box
set_option linter.unusedVariables false
set_option maxRecDepth 3000
theorem small_any {n : Bool} {z : List Int} {ex : Int} (g : DG n z ex) : ∃ x, DG n z x ∧ -1200 < x ∧ x < 1200 ∧ ∀ (a : Option Addr) (c : Nat) (W : World),
    Calls Tryz.prog 37 #[dV n a z.length c ex] W fun e w' => e = .returned (dV n a z.length c x) ∧ Below W.heap.size W w' := by
  have hb := g.ex_bd
  by_cases hz : 0 < z.length
  · have h1 := Int.tmod_lt_of_pos ex (show (0 : Int) < 1200 by decide)
    have h2 : -1200 < ex.tmod 1200 := by
      have := Int.tmod_lt_of_pos (-ex) (show (0 : Int) < 1200 by decide)
      rw [Int.neg_tmod] at this
      omega
    refine ⟨ex.tmod 1200, ?_, h2, h1, fun a c W => lSmall_pos n a c z.length ex (by omega) hb.1 hb.2 W⟩
    rcases g.form with ⟨rfl, _⟩ | ⟨_, h, _⟩
    · simp at hz
    · exact ⟨g.can, g.len, .inr ⟨hz, h, by omega, by omega⟩⟩
  · obtain ⟨h1, h2, h3⟩ := g.nil (by omega)
    subst h1
    exact ⟨ex, g, by omega, by omega, fun a c W => lSmall_zero n a c ex W⟩
/-- RoundOrder, whatever it is called with. -/
theorem ro_any (f m : Int) (n1 n2 : Bool) (a1 a2 : Option Addr) (c1 c2 : Nat) (z1 z2 : List Int) (e1 e2 : Int) (w : World) (u1 : DLie w a1 z1) (u2 : DLie w a2 z2) (hT : Tab w) :
    Calls Tryz.prog 8 #[.int .u8 f, .int .u8 m, dV n1 a1 z1.length c1 e1, dV n2 a2 z2.length c2 e2] w fun e w' => e = .returned (.bool true) ∧ Below w.heap.size w w' := by
  by_cases hl1 : (300 : Int) < (z1.length : Int)
  · exact ro_long1 m n1 n2 a1 a2 c1 c2 z1 z2 e1 e2 f hl1 w u1 u2 hT
  · replace hl1 : (z1.length : Int) ≤ 300 := by omega
    by_cases hl2 : (300 : Int) < (z2.length : Int)
    · exact ro_long2 m n1 n2 a1 a2 c1 c2 z1 z2 e1 e2 f hl1 hl2 w u1 u2 hT
    · replace hl2 : (z2.length : Int) ≤ 300 := by omega
      rcases fm_or_bad f with ⟨b, rfl⟩ | hf
      · by_cases hm : Mode m
        · cases hq1 : dmayB n1 z1 e1 with
          | false => exact ro_open m n1 n2 a1 a2 c1 c2 z1 z2 e1 e2 (fm b) 2 rfl (fun W g v1 v2 k1 k2 => lOpens2_no b m hm g n1 a1 c1 z1 e1 n2 a2 c2 z2 e2 W v1 hq1 k1) hl1 hl2 w u1 u2 hT
          | true =>
            cases hq2 : dmayB n2 z2 e2 with
            | false => exact ro_open m n1 n2 a1 a2 c1 c2 z1 z2 e1 e2 (fm b) 2 rfl (fun W g v1 v2 k1 k2 => lOpens2_no2 b m hm g n1 a1 c1 z1 e1 n2 a2 c2 z2 e2 W v1 hq1 k1 v2 hq2 k2) hl1 hl2 w u1 u2 hT
            | true =>
              have KO : ∀ W g, DLie W a1 z1 → DLie W a2 z2 → At3 W g 0 n1 a1 z1.length c1 e1 → At3 W g 3 n2 a2 z2.length c2 e2 → Calls Tryz.prog 16 #[.int .u8 (fm b), .int .u8 m, .slice (some ⟨g, 0, none⟩) 2 2] W fun e w' => e = .returned (.int .i64 0) ∧ Below W.heap.size W w' := fun W g v1 v2 k1 k2 => lOpens2 b m hm g n1 a1 c1 z1 e1 n2 a2 c2 z2 e2 W v1 hq1 k1 v2 hq2 k2
              obtain ⟨x1, g1, _, _, K1⟩ := small_any (DG.of u1.rng hq1)
              obtain ⟨x2, g2, _, _, K2⟩ := small_any (DG.of u2.rng hq2)
              obtain ⟨s1, X1, R1, P1⟩ := pRdd b m hm n1 z1 x1 g1
              obtain ⟨s2, X2, R2, P2⟩ := pRdd b m hm n2 z2 x2 g2
              have N1 : DN n1 z1 x1 (dv n1 z1 x1) := ⟨g1, rfl⟩
              have N2 : DN n2 z2 x2 (dv n2 z2 x2) := ⟨g2, rfl⟩
              have d1 : dv n1 z1 x1 = sv n1 (Nt.val z1 * pK x1) := by unfold dv; cases n1 <;> simp [sv, Int.neg_mul]
              have d2 : dv n2 z2 x2 = sv n2 (Nt.val z2 * pK x2) := by unfold dv; cases n2 <;> simp [sv, Int.neg_mul]
              have b1 := R1.bd
              have b2 := R2.bd
              rcases (show dv n1 z1 x1 < dv n2 z2 x2 ∨ dv n1 z1 x1 = dv n2 z2 x2 ∨ dv n2 z2 x2 < dv n1 z1 x1 by omega) with q | q | q
              · have hs : sgn (dv n1 z1 x1) (dv n2 z2 x2) = -1 := by unfold sgn; rw [if_pos q]
                exact ro_lt m n1 n2 a1 a2 c1 c2 z1 z2 e1 e2 b x1 x2 _ X1 _ X2 KO (K1 a1 c1) (K2 a2 c2) (P1 a1 c1) (P2 a2 c2) (fun W l1 l2 => cmpX n1 n2 a1 a2 c1 c2 z1 z2 x1 x2 W l1 l2 N1 N2 _ hs)
                  (lAbove b b2.1 b2.2.1 b1.1 b1.2.1 (R1.mono R2 (by rw [← d1, ← d2]; omega))) hl1 hl2 w u1 u2 hT
              · have hs : sgn (dv n1 z1 x1) (dv n2 z2 x2) = 0 := by unfold sgn; rw [if_neg (by omega), if_neg (by omega)]
                exact ro_eq m n1 n2 a1 a2 c1 c2 z1 z2 e1 e2 b x1 x2 _ X1 _ X2 KO (K1 a1 c1) (K2 a2 c2) (P1 a1 c1) (P2 a2 c2) (fun W l1 l2 => cmpX n1 n2 a1 a2 c1 c2 z1 z2 x1 x2 W l1 l2 N1 N2 _ hs)
                  (lAbove b b1.1 b1.2.1 b2.1 b2.2.1 (R2.mono R1 (by rw [← d1, ← d2]; omega))) (lAbove b b2.1 b2.2.1 b1.1 b1.2.1 (R1.mono R2 (by rw [← d1, ← d2]; omega))) hl1 hl2 w u1 u2 hT
              · have hs : sgn (dv n1 z1 x1) (dv n2 z2 x2) = 1 := by unfold sgn; rw [if_neg (by omega), if_pos q]
                exact ro_gt m n1 n2 a1 a2 c1 c2 z1 z2 e1 e2 b x1 x2 _ X1 _ X2 KO (K1 a1 c1) (K2 a2 c2) (P1 a1 c1) (P2 a2 c2) (fun W l1 l2 => cmpX n1 n2 a1 a2 c1 c2 z1 z2 x1 x2 W l1 l2 N1 N2 _ hs)
                  (lAbove b b1.1 b1.2.1 b2.1 b2.2.1 (R2.mono R1 (by rw [← d1, ← d2]; omega))) hl1 hl2 w u1 u2 hT
        · exact ro_open m n1 n2 a1 a2 c1 c2 z1 z2 e1 e2 (fm b) 5 rfl (fun W g _ _ _ _ => lOpens_bad (fm b) m 5 _ (.inr ⟨b, rfl, .inl ⟨hm, rfl⟩⟩) rfl W) hl1 hl2 w u1 u2 hT
      · exact ro_open m n1 n2 a1 a2 c1 c2 z1 z2 e1 e2 f 4 rfl (fun W g _ _ _ _ => lOpens_bad f m 4 _ (.inl ⟨hf, rfl⟩) rfl W) hl1 hl2 w u1 u2 hT
end Go.Proofs.YtdnghibkagcbcaaGreatDoor
