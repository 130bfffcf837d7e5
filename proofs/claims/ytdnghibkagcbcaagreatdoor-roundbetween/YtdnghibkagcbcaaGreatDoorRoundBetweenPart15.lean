import Derived.Test.YtdnghibkagcbcaaGreatDoorRoundBetweenPart14
namespace Go.Proofs.YtdnghibkagcbcaaGreatDoor
open Go.RowKit Go.Wd Go.Box
set_option linter.unusedVariables false
set_option maxRecDepth 3000
set_option maxHeartbeats 8000000 in
theorem rv_long (n : Bool) (a : Option Addr) (c : Nat) (z : List Int) (ex m : Int) (f : Int) (hl : (300 : Int) < (z.length : Int)) (w : World) (u : DLie w a z) (hT : Tab w) :
    Calls Tryz.prog 6 #[.int .u8 f, .int .u8 m, dV n a z.length c ex] w fun e w' => e = .returned (.bool true) ∧ Below w.heap.size w w' := by
  have BX := (Bx.nil w).push (DO n a z.length c ex)
  obtain ⟨⟨q0, q1, q2⟩, _⟩ := cells3 BX w.heap.size _ _ _ _ (show (w.heap.size, DO n a z.length c ex) ∈ _ by simp)
  go_enter Tryz.func6, Tryz.ntmps6
  go_wp2_with fail
  refine (lLong4 n a z.length c ex _ true (decide_eq_true hl)).mono ?_
  rintro e v7 ⟨rfl, hk⟩
  replace BX := BX.keep hk
  clear hk q0 q1 q2
  obtain ⟨⟨q0, q1, q2⟩, _⟩ := cells3 BX w.heap.size _ _ _ _ (show (w.heap.size, DO n a z.length c ex) ∈ _ by simp)
  go_wp2_with fail
  refine (lKnown4 _ (hT.below BX.bel (Nat.le_refl _))).mono ?_
  rintro e v8 ⟨rfl, hk⟩
  replace BX := BX.keep hk
  clear hk q0 q1 q2
  obtain ⟨⟨q0, q1, q2⟩, _⟩ := cells3 BX w.heap.size _ _ _ _ (show (w.heap.size, DO n a z.length c ex) ∈ _ by simp)
  go_wp2
  go_ret
  exact ⟨by first | rfl | simp, BX.bel⟩
set_option maxHeartbeats 8000000 in
theorem rv_open (n : Bool) (a : Option Addr) (c : Nat) (z : List Int) (ex m : Int) (f code : Int) (hc : (code == 0) = false) (KO : ∀ W g, DLie W a z → At3 W g 0 n a z.length c ex → Calls Tryz.prog 16 #[.int .u8 f, .int .u8 m, .slice (some ⟨g, 0, none⟩) 1 1] W fun e w' => e = .returned (.int .i64 code) ∧ Below W.heap.size W w') (hl : (z.length : Int) ≤ 300) (w : World) (u : DLie w a z) (hT : Tab w) :
    Calls Tryz.prog 6 #[.int .u8 f, .int .u8 m, dV n a z.length c ex] w fun e w' => e = .returned (.bool true) ∧ Below w.heap.size w w' := by
  have HO := fun W g h1 h2 => Hide.mk (KO W g h1 h2)
  clear KO
  have hc2 : (code != 0) = true := by simp only [bne, hc, Bool.not_false]
  have BX := (Bx.nil w).push (DO n a z.length c ex)
  obtain ⟨⟨q0, q1, q2⟩, _⟩ := cells3 BX w.heap.size _ _ _ _ (show (w.heap.size, DO n a z.length c ex) ∈ _ by simp)
  go_enter Tryz.func6, Tryz.ntmps6
  go_wp2_with fail
  refine (lLong4 n a z.length c ex _ false (decide_eq_false (by omega))).mono ?_
  rintro e v9 ⟨rfl, hk⟩
  replace BX := BX.keep hk
  clear hk q0 q1 q2
  obtain ⟨⟨q0, q1, q2⟩, _⟩ := cells3 BX w.heap.size _ _ _ _ (show (w.heap.size, DO n a z.length c ex) ∈ _ by simp)
  go_wp2_with fail
  replace BX := BX.push (DO n a z.length c ex)
  clear q0 q1 q2
  obtain ⟨⟨q0, q1, q2⟩, _⟩ := cells3 BX w.heap.size _ _ _ _ (show (w.heap.size, DO n a z.length c ex) ∈ _ by simp)
  refine ((HO _ _ (u.below BX.bel) (at3_of BX (.head _))).out).mono ?_
  rintro e v10 ⟨rfl, hk⟩
  replace BX := BX.keep hk
  clear hk q0 q1 q2
  obtain ⟨⟨q0, q1, q2⟩, _⟩ := cells3 BX w.heap.size _ _ _ _ (show (w.heap.size, DO n a z.length c ex) ∈ _ by simp)
  go_wp2_with fail
  refine (lKnown4 _ (hT.below BX.bel (Nat.le_refl _))).mono ?_
  rintro e v11 ⟨rfl, hk⟩
  replace BX := BX.keep hk
  clear hk q0 q1 q2
  obtain ⟨⟨q0, q1, q2⟩, _⟩ := cells3 BX w.heap.size _ _ _ _ (show (w.heap.size, DO n a z.length c ex) ∈ _ by simp)
  go_wp2
  go_ret
  exact ⟨by first | rfl | simp, BX.bel⟩
set_option maxHeartbeats 8000000 in
theorem rv_zero (n : Bool) (a : Option Addr) (c : Nat) (z : List Int) (ex m : Int) (b : Bool) (KO : ∀ W g, DLie W a z → At3 W g 0 n a z.length c ex → Calls Tryz.prog 16 #[.int .u8 (fm b), .int .u8 m, .slice (some ⟨g, 0, none⟩) 1 1] W fun e w' => e = .returned (.int .i64 0) ∧ Below W.heap.size W w') (KS : ∀ W, Calls Tryz.prog 23 #[dV n a z.length c ex] W fun e w' => e = .returned (.int .i64 0) ∧ Below W.heap.size W w') (hl : (z.length : Int) ≤ 300) (w : World) (u : DLie w a z) (hT : Tab w) :
    Calls Tryz.prog 6 #[.int .u8 (fm b), .int .u8 m, dV n a z.length c ex] w fun e w' => e = .returned (.bool true) ∧ Below w.heap.size w w' := by
  have HO := fun W g h1 h2 => Hide.mk (KO W g h1 h2)
  clear KO
  have HS := fun W => Hide.mk (KS W)
  clear KS
  have BX := (Bx.nil w).push (DO n a z.length c ex)
  obtain ⟨⟨q0, q1, q2⟩, _⟩ := cells3 BX w.heap.size _ _ _ _ (show (w.heap.size, DO n a z.length c ex) ∈ _ by simp)
  go_enter Tryz.func6, Tryz.ntmps6
  go_wp2_with fail
  refine (lLong4 n a z.length c ex _ false (decide_eq_false (by omega))).mono ?_
  rintro e v12 ⟨rfl, hk⟩
  replace BX := BX.keep hk
  clear hk q0 q1 q2
  obtain ⟨⟨q0, q1, q2⟩, _⟩ := cells3 BX w.heap.size _ _ _ _ (show (w.heap.size, DO n a z.length c ex) ∈ _ by simp)
  go_wp2_with fail
  replace BX := BX.push (DO n a z.length c ex)
  clear q0 q1 q2
  obtain ⟨⟨q0, q1, q2⟩, _⟩ := cells3 BX w.heap.size _ _ _ _ (show (w.heap.size, DO n a z.length c ex) ∈ _ by simp)
  refine ((HO _ _ (u.below BX.bel) (at3_of BX (.head _))).out).mono ?_
  rintro e v13 ⟨rfl, hk⟩
  replace BX := BX.keep hk
  clear hk q0 q1 q2
  obtain ⟨⟨q0, q1, q2⟩, _⟩ := cells3 BX w.heap.size _ _ _ _ (show (w.heap.size, DO n a z.length c ex) ∈ _ by simp)
  go_wp2_with fail
  refine ((HS _).out).mono ?_
  rintro e v14 ⟨rfl, hk⟩
  replace BX := BX.keep hk
  clear hk q0 q1 q2
  obtain ⟨⟨q0, q1, q2⟩, _⟩ := cells3 BX w.heap.size _ _ _ _ (show (w.heap.size, DO n a z.length c ex) ∈ _ by simp)
  go_wp2_with fail
  refine (lKnown4 _ (hT.below BX.bel (Nat.le_refl _))).mono ?_
  rintro e v15 ⟨rfl, hk⟩
  replace BX := BX.keep hk
  clear hk q0 q1 q2
  obtain ⟨⟨q0, q1, q2⟩, _⟩ := cells3 BX w.heap.size _ _ _ _ (show (w.heap.size, DO n a z.length c ex) ∈ _ by simp)
  go_wp2
  go_ret
  exact ⟨by first | rfl | simp, BX.bel⟩
set_option maxHeartbeats 8000000 in
theorem rv_same (n : Bool) (a : Option Addr) (c : Nat) (z : List Int) (ex m : Int) (b : Bool) (KO : ∀ W g, DLie W a z → At3 W g 0 n a z.length c ex → Calls Tryz.prog 16 #[.int .u8 (fm b), .int .u8 m, .slice (some ⟨g, 0, none⟩) 1 1] W fun e w' => e = .returned (.int .i64 0) ∧ Below W.heap.size W w') (s1 : Int) (hs1 : (s1 == 0) = false) (KS : ∀ W, Calls Tryz.prog 23 #[dV n a z.length c ex] W fun e w' => e = .returned (.int .i64 s1) ∧ Below W.heap.size W w') (V X3 : Int) (KR5 : ∀ W, Lie W a z → Tab W → Calls Tryz.prog 14 #[.int .u8 (fm b), .int .u8 5, dV n a z.length c ex] W fun e w' => e = .returned (.tuple #[.int .u64 V, .int .u8 0, .int .i64 0]) ∧ Below W.heap.size W w') (KR4 : ∀ W, Lie W a z → Tab W → Calls Tryz.prog 14 #[.int .u8 (fm b), .int .u8 4, dV n a z.length c ex] W fun e w' => e = .returned (.tuple #[.int .u64 V, .int .u8 0, .int .i64 0]) ∧ Below W.heap.size W w') (KR3 : ∀ W, Lie W a z → Tab W → Calls Tryz.prog 14 #[.int .u8 (fm b), .int .u8 3, dV n a z.length c ex] W fun e w' => e = .returned (.tuple #[.int .u64 V, .int .u8 X3, .int .i64 0]) ∧ Below W.heap.size W w') (KR0 : ∀ W, Lie W a z → Tab W → Calls Tryz.prog 14 #[.int .u8 (fm b), .int .u8 m, dV n a z.length c ex] W fun e w' => e = .returned (.tuple #[.int .u64 V, .int .u8 0, .int .i64 0]) ∧ Below W.heap.size W w') (KU : ∀ W, Lie W a z → Calls Tryz.prog 27 #[.int .u8 (fm b), .int .u64 V, dV n a z.length c ex] W fun e w' => e = .returned (.bool true) ∧ Below W.heap.size W w') (KV : ∀ W, Lie W a z → Calls Tryz.prog 28 #[.int .u8 (fm b), .int .u64 V, dV n a z.length c ex] W fun e w' => e = .returned (.bool true) ∧ Below W.heap.size W w') (hl : (z.length : Int) ≤ 300) (w : World) (u : DLie w a z) (hT : Tab w) :
    Calls Tryz.prog 6 #[.int .u8 (fm b), .int .u8 m, dV n a z.length c ex] w fun e w' => e = .returned (.bool true) ∧ Below w.heap.size w w' := by
  have HO := fun W g h1 h2 => Hide.mk (KO W g h1 h2)
  clear KO
  have HS := fun W => Hide.mk (KS W)
  clear KS
  have HR5 := fun W h1 h2 => Hide.mk (KR5 W h1 h2)
  have HR4 := fun W h1 h2 => Hide.mk (KR4 W h1 h2)
  have HR3 := fun W h1 h2 => Hide.mk (KR3 W h1 h2)
  have HR0 := fun W h1 h2 => Hide.mk (KR0 W h1 h2)
  have HU := fun W h1 => Hide.mk (KU W h1)
  have HV := fun W h1 => Hide.mk (KV W h1)
  clear KR5 KR4 KR3 KR0 KU KV
  have hvv : (V == V) = true := by simp
  have BX := (Bx.nil w).push (DO n a z.length c ex)
  obtain ⟨⟨q0, q1, q2⟩, _⟩ := cells3 BX w.heap.size _ _ _ _ (show (w.heap.size, DO n a z.length c ex) ∈ _ by simp)
  go_enter Tryz.func6, Tryz.ntmps6
  go_wp2_with fail
  refine (lLong4 n a z.length c ex _ false (decide_eq_false (by omega))).mono ?_
  rintro e v16 ⟨rfl, hk⟩
  replace BX := BX.keep hk
  clear hk q0 q1 q2
  obtain ⟨⟨q0, q1, q2⟩, _⟩ := cells3 BX w.heap.size _ _ _ _ (show (w.heap.size, DO n a z.length c ex) ∈ _ by simp)
  go_wp2_with fail
  replace BX := BX.push (DO n a z.length c ex)
  clear q0 q1 q2
  obtain ⟨⟨q0, q1, q2⟩, _⟩ := cells3 BX w.heap.size _ _ _ _ (show (w.heap.size, DO n a z.length c ex) ∈ _ by simp)
  refine ((HO _ _ (u.below BX.bel) (at3_of BX (.head _))).out).mono ?_
  rintro e v17 ⟨rfl, hk⟩
  replace BX := BX.keep hk
  clear hk q0 q1 q2
  obtain ⟨⟨q0, q1, q2⟩, _⟩ := cells3 BX w.heap.size _ _ _ _ (show (w.heap.size, DO n a z.length c ex) ∈ _ by simp)
  go_wp2_with fail
  refine ((HS _).out).mono ?_
  rintro e v18 ⟨rfl, hk⟩
  replace BX := BX.keep hk
  clear hk q0 q1 q2
  obtain ⟨⟨q0, q1, q2⟩, _⟩ := cells3 BX w.heap.size _ _ _ _ (show (w.heap.size, DO n a z.length c ex) ∈ _ by simp)
  go_wp2_with fail
  refine ((HR5 _ (u.below BX.bel).lie (hT.below BX.bel (Nat.le_refl _))).out).mono ?_
  rintro e v19 ⟨rfl, hk⟩
  replace BX := BX.keep hk
  clear hk q0 q1 q2
  obtain ⟨⟨q0, q1, q2⟩, _⟩ := cells3 BX w.heap.size _ _ _ _ (show (w.heap.size, DO n a z.length c ex) ∈ _ by simp)
  go_wp2_with fail
  refine ((HR4 _ (u.below BX.bel).lie (hT.below BX.bel (Nat.le_refl _))).out).mono ?_
  rintro e v20 ⟨rfl, hk⟩
  replace BX := BX.keep hk
  clear hk q0 q1 q2
  obtain ⟨⟨q0, q1, q2⟩, _⟩ := cells3 BX w.heap.size _ _ _ _ (show (w.heap.size, DO n a z.length c ex) ∈ _ by simp)
  go_wp2_with fail
  refine ((HR3 _ (u.below BX.bel).lie (hT.below BX.bel (Nat.le_refl _))).out).mono ?_
  rintro e v21 ⟨rfl, hk⟩
  replace BX := BX.keep hk
  clear hk q0 q1 q2
  obtain ⟨⟨q0, q1, q2⟩, _⟩ := cells3 BX w.heap.size _ _ _ _ (show (w.heap.size, DO n a z.length c ex) ∈ _ by simp)
  go_wp2_with fail
  refine ((HR0 _ (u.below BX.bel).lie (hT.below BX.bel (Nat.le_refl _))).out).mono ?_
  rintro e v22 ⟨rfl, hk⟩
  replace BX := BX.keep hk
  clear hk q0 q1 q2
  obtain ⟨⟨q0, q1, q2⟩, _⟩ := cells3 BX w.heap.size _ _ _ _ (show (w.heap.size, DO n a z.length c ex) ∈ _ by simp)
  go_wp2_with fail
  refine ((HU _ (u.below BX.bel).lie).out).mono ?_
  rintro e v23 ⟨rfl, hk⟩
  replace BX := BX.keep hk
  clear hk q0 q1 q2
  obtain ⟨⟨q0, q1, q2⟩, _⟩ := cells3 BX w.heap.size _ _ _ _ (show (w.heap.size, DO n a z.length c ex) ∈ _ by simp)
  go_wp2_with fail
  refine ((HV _ (u.below BX.bel).lie).out).mono ?_
  rintro e v24 ⟨rfl, hk⟩
  replace BX := BX.keep hk
  clear hk q0 q1 q2
  obtain ⟨⟨q0, q1, q2⟩, _⟩ := cells3 BX w.heap.size _ _ _ _ (show (w.heap.size, DO n a z.length c ex) ∈ _ by simp)
  go_wp2_with fail
  refine (lKnown4 _ (hT.below BX.bel (Nat.le_refl _))).mono ?_
  rintro e v25 ⟨rfl, hk⟩
  replace BX := BX.keep hk
  clear hk q0 q1 q2
  obtain ⟨⟨q0, q1, q2⟩, _⟩ := cells3 BX w.heap.size _ _ _ _ (show (w.heap.size, DO n a z.length c ex) ∈ _ by simp)
  go_wp2
  go_ret
  exact ⟨by first | rfl | simp, BX.bel⟩
end Go.Proofs.YtdnghibkagcbcaaGreatDoor

namespace Go.Proofs.YtdnghibkagcbcaaGreatDoor
open Go.RowKit Go.Wd Go.Box
set_option linter.unusedVariables false
set_option maxRecDepth 3000
/-- Flags that tell of an answer that is not exact. -/
def Inx (X : Int) : Prop := X = 16 ∨ X = 20 ∨ X = 24
theorem inx_bits {X : Int} (h : Inx X) : 0 < bits BinOp.and IntKind.u8 X 16 := by
  rcases h with rfl | rfl | rfl <;> decide
set_option maxHeartbeats 8000000 in
theorem rv_pAl (a : Option Addr) (c : Nat) (z : List Int) (ex m : Int) (b : Bool) (KO : ∀ W g, DLie W a z → At3 W g 0 false a z.length c ex → Calls Tryz.prog 16 #[.int .u8 (fm b), .int .u8 m, .slice (some ⟨g, 0, none⟩) 1 1] W fun e w' => e = .returned (.int .i64 0) ∧ Below W.heap.size W w') (s1 : Int) (hs1 : (s1 == 0) = false) (KS : ∀ W, Calls Tryz.prog 23 #[dV false a z.length c ex] W fun e w' => e = .returned (.int .i64 s1) ∧ Below W.heap.size W w') (L H X5 X4 X3 X0 : Int) (hlh : (L == H) = false) (hhl : (H == L) = false) (KR5 : ∀ W, Lie W a z → Tab W → Calls Tryz.prog 14 #[.int .u8 (fm b), .int .u8 5, dV false a z.length c ex] W fun e w' => e = .returned (.tuple #[.int .u64 L, .int .u8 X5, .int .i64 0]) ∧ Below W.heap.size W w') (KR4 : ∀ W, Lie W a z → Tab W → Calls Tryz.prog 14 #[.int .u8 (fm b), .int .u8 4, dV false a z.length c ex] W fun e w' => e = .returned (.tuple #[.int .u64 H, .int .u8 X4, .int .i64 0]) ∧ Below W.heap.size W w') (KR3 : ∀ W, Lie W a z → Tab W → Calls Tryz.prog 14 #[.int .u8 (fm b), .int .u8 3, dV false a z.length c ex] W fun e w' => e = .returned (.tuple #[.int .u64 L, .int .u8 X3, .int .i64 0]) ∧ Below W.heap.size W w') (KR0 : ∀ W, Lie W a z → Tab W → Calls Tryz.prog 14 #[.int .u8 (fm b), .int .u8 m, dV false a z.length c ex] W fun e w' => e = .returned (.tuple #[.int .u64 L, .int .u8 X0, .int .i64 0]) ∧ Below W.heap.size W w') (KU : ∀ W, Lie W a z → Calls Tryz.prog 27 #[.int .u8 (fm b), .int .u64 L, dV false a z.length c ex] W fun e w' => e = .returned (.bool true) ∧ Below W.heap.size W w') (KV : ∀ W, Lie W a z → Calls Tryz.prog 28 #[.int .u8 (fm b), .int .u64 H, dV false a z.length c ex] W fun e w' => e = .returned (.bool true) ∧ Below W.heap.size W w') (F5 : Inx X5) (F4 : Inx X4) (F0 : Inx X0) (UU : Int) (uo : Bool) (KP : ∀ W, Calls Tryz.prog 29 #[.int .u8 (fm b), .int .u64 L] W fun e w' => e = .returned (.tuple #[.int .u64 UU, .bool uo]) ∧ Below W.heap.size W w') (hr : (L.tmod (sg b) == 0) = true) (KG : ∀ W, Calls Tryz.prog 31 #[.int .u8 (fm b), .int .u64 0, .bool true] W fun e w' => e = .returned (.int .u64 (sg b)) ∧ Below W.heap.size W w') (h1s : (1 == sg b) = false) (h1H : (1 == H) = true) (hl : (z.length : Int) ≤ 300) (w : World) (u : DLie w a z) (hT : Tab w) :
    Calls Tryz.prog 6 #[.int .u8 (fm b), .int .u8 m, dV false a z.length c ex] w fun e w' => e = .returned (.bool true) ∧ Below w.heap.size w w' := by
  have HO := fun W g h1 h2 => Hide.mk (KO W g h1 h2)
  clear KO
  have HS := fun W => Hide.mk (KS W)
  clear KS
  have HR5 := fun W h1 h2 => Hide.mk (KR5 W h1 h2)
  have HR4 := fun W h1 h2 => Hide.mk (KR4 W h1 h2)
  have HR3 := fun W h1 h2 => Hide.mk (KR3 W h1 h2)
  have HR0 := fun W h1 h2 => Hide.mk (KR0 W h1 h2)
  have HU := fun W h1 => Hide.mk (KU W h1)
  have HV := fun W h1 => Hide.mk (KV W h1)
  clear KR5 KR4 KR3 KR0 KU KV
  have g5 := inx_bits F5
  have g4 := inx_bits F4
  have g0 := inx_bits F0
  clear F5 F4 F0
  have hLL : (L == L) = true := by simp
  have hHH : (H == H) = true := by simp
  have hsg : 0 < sg b := sg_pos b
  have hsg0 : (sg b == 0) = false := beq_eq_false_iff_ne.2 (by omega)
  have HP := fun W => Hide.mk (KP W)
  have HG := fun W => Hide.mk (KG W)
  clear KP KG
  have BX := (Bx.nil w).push (DO false a z.length c ex)
  obtain ⟨⟨q0, q1, q2⟩, _⟩ := cells3 BX w.heap.size _ _ _ _ (show (w.heap.size, DO false a z.length c ex) ∈ _ by simp)
  go_enter Tryz.func6, Tryz.ntmps6
  go_wp2_with fail
  refine (lLong4 false a z.length c ex _ false (decide_eq_false (by omega))).mono ?_
  rintro e v39 ⟨rfl, hk⟩
  replace BX := BX.keep hk
  clear hk q0 q1 q2
  obtain ⟨⟨q0, q1, q2⟩, _⟩ := cells3 BX w.heap.size _ _ _ _ (show (w.heap.size, DO false a z.length c ex) ∈ _ by simp)
  go_wp2_with fail
  replace BX := BX.push (DO false a z.length c ex)
  clear q0 q1 q2
  obtain ⟨⟨q0, q1, q2⟩, _⟩ := cells3 BX w.heap.size _ _ _ _ (show (w.heap.size, DO false a z.length c ex) ∈ _ by simp)
  refine ((HO _ _ (u.below BX.bel) (at3_of BX (.head _))).out).mono ?_
  rintro e v40 ⟨rfl, hk⟩
  replace BX := BX.keep hk
  clear hk q0 q1 q2
  obtain ⟨⟨q0, q1, q2⟩, _⟩ := cells3 BX w.heap.size _ _ _ _ (show (w.heap.size, DO false a z.length c ex) ∈ _ by simp)
  go_wp2_with fail
  refine ((HS _).out).mono ?_
  rintro e v41 ⟨rfl, hk⟩
  replace BX := BX.keep hk
  clear hk q0 q1 q2
  obtain ⟨⟨q0, q1, q2⟩, _⟩ := cells3 BX w.heap.size _ _ _ _ (show (w.heap.size, DO false a z.length c ex) ∈ _ by simp)
  go_wp2_with fail
  refine ((HR5 _ (u.below BX.bel).lie (hT.below BX.bel (Nat.le_refl _))).out).mono ?_
  rintro e v42 ⟨rfl, hk⟩
  replace BX := BX.keep hk
  clear hk q0 q1 q2
  obtain ⟨⟨q0, q1, q2⟩, _⟩ := cells3 BX w.heap.size _ _ _ _ (show (w.heap.size, DO false a z.length c ex) ∈ _ by simp)
  go_wp2_with fail
  refine ((HR4 _ (u.below BX.bel).lie (hT.below BX.bel (Nat.le_refl _))).out).mono ?_
  rintro e v43 ⟨rfl, hk⟩
  replace BX := BX.keep hk
  clear hk q0 q1 q2
  obtain ⟨⟨q0, q1, q2⟩, _⟩ := cells3 BX w.heap.size _ _ _ _ (show (w.heap.size, DO false a z.length c ex) ∈ _ by simp)
  go_wp2_with fail
  refine ((HR3 _ (u.below BX.bel).lie (hT.below BX.bel (Nat.le_refl _))).out).mono ?_
  rintro e v44 ⟨rfl, hk⟩
  replace BX := BX.keep hk
  clear hk q0 q1 q2
  obtain ⟨⟨q0, q1, q2⟩, _⟩ := cells3 BX w.heap.size _ _ _ _ (show (w.heap.size, DO false a z.length c ex) ∈ _ by simp)
  go_wp2_with fail
  refine ((HR0 _ (u.below BX.bel).lie (hT.below BX.bel (Nat.le_refl _))).out).mono ?_
  rintro e v45 ⟨rfl, hk⟩
  replace BX := BX.keep hk
  clear hk q0 q1 q2
  obtain ⟨⟨q0, q1, q2⟩, _⟩ := cells3 BX w.heap.size _ _ _ _ (show (w.heap.size, DO false a z.length c ex) ∈ _ by simp)
  go_wp2_with fail
  refine ((HU _ (u.below BX.bel).lie).out).mono ?_
  rintro e v46 ⟨rfl, hk⟩
  replace BX := BX.keep hk
  clear hk q0 q1 q2
  obtain ⟨⟨q0, q1, q2⟩, _⟩ := cells3 BX w.heap.size _ _ _ _ (show (w.heap.size, DO false a z.length c ex) ∈ _ by simp)
  go_wp2_with fail
  refine ((HV _ (u.below BX.bel).lie).out).mono ?_
  rintro e v47 ⟨rfl, hk⟩
  replace BX := BX.keep hk
  clear hk q0 q1 q2
  obtain ⟨⟨q0, q1, q2⟩, _⟩ := cells3 BX w.heap.size _ _ _ _ (show (w.heap.size, DO false a z.length c ex) ∈ _ by simp)
  go_wp2_with fail
  refine ((HP _).out).mono ?_
  rintro e v48 ⟨rfl, hk⟩
  replace BX := BX.keep hk
  clear hk q0 q1 q2
  obtain ⟨⟨q0, q1, q2⟩, _⟩ := cells3 BX w.heap.size _ _ _ _ (show (w.heap.size, DO false a z.length c ex) ∈ _ by simp)
  go_wp2_with fail
  refine (rSign b _).mono ?_
  rintro e v49 ⟨rfl, hk⟩
  replace BX := BX.keep hk
  clear hk q0 q1 q2
  obtain ⟨⟨q0, q1, q2⟩, _⟩ := cells3 BX w.heap.size _ _ _ _ (show (w.heap.size, DO false a z.length c ex) ∈ _ by simp)
  go_wp2_with fail
  refine ((HG _).out).mono ?_
  rintro e v50 ⟨rfl, hk⟩
  replace BX := BX.keep hk
  clear hk q0 q1 q2
  obtain ⟨⟨q0, q1, q2⟩, _⟩ := cells3 BX w.heap.size _ _ _ _ (show (w.heap.size, DO false a z.length c ex) ∈ _ by simp)
  go_wp2_with fail
  refine (lKnown4 _ (hT.below BX.bel (Nat.le_refl _))).mono ?_
  rintro e v51 ⟨rfl, hk⟩
  replace BX := BX.keep hk
  clear hk q0 q1 q2
  obtain ⟨⟨q0, q1, q2⟩, _⟩ := cells3 BX w.heap.size _ _ _ _ (show (w.heap.size, DO false a z.length c ex) ∈ _ by simp)
  go_wp2
  go_ret
  exact ⟨by first | rfl | simp, BX.bel⟩
set_option maxHeartbeats 8000000 in
theorem rv_pAh (a : Option Addr) (c : Nat) (z : List Int) (ex m : Int) (b : Bool) (KO : ∀ W g, DLie W a z → At3 W g 0 false a z.length c ex → Calls Tryz.prog 16 #[.int .u8 (fm b), .int .u8 m, .slice (some ⟨g, 0, none⟩) 1 1] W fun e w' => e = .returned (.int .i64 0) ∧ Below W.heap.size W w') (s1 : Int) (hs1 : (s1 == 0) = false) (KS : ∀ W, Calls Tryz.prog 23 #[dV false a z.length c ex] W fun e w' => e = .returned (.int .i64 s1) ∧ Below W.heap.size W w') (L H X5 X4 X3 X0 : Int) (hlh : (L == H) = false) (hhl : (H == L) = false) (KR5 : ∀ W, Lie W a z → Tab W → Calls Tryz.prog 14 #[.int .u8 (fm b), .int .u8 5, dV false a z.length c ex] W fun e w' => e = .returned (.tuple #[.int .u64 L, .int .u8 X5, .int .i64 0]) ∧ Below W.heap.size W w') (KR4 : ∀ W, Lie W a z → Tab W → Calls Tryz.prog 14 #[.int .u8 (fm b), .int .u8 4, dV false a z.length c ex] W fun e w' => e = .returned (.tuple #[.int .u64 H, .int .u8 X4, .int .i64 0]) ∧ Below W.heap.size W w') (KR3 : ∀ W, Lie W a z → Tab W → Calls Tryz.prog 14 #[.int .u8 (fm b), .int .u8 3, dV false a z.length c ex] W fun e w' => e = .returned (.tuple #[.int .u64 L, .int .u8 X3, .int .i64 0]) ∧ Below W.heap.size W w') (KR0 : ∀ W, Lie W a z → Tab W → Calls Tryz.prog 14 #[.int .u8 (fm b), .int .u8 m, dV false a z.length c ex] W fun e w' => e = .returned (.tuple #[.int .u64 H, .int .u8 X0, .int .i64 0]) ∧ Below W.heap.size W w') (KU : ∀ W, Lie W a z → Calls Tryz.prog 27 #[.int .u8 (fm b), .int .u64 L, dV false a z.length c ex] W fun e w' => e = .returned (.bool true) ∧ Below W.heap.size W w') (KV : ∀ W, Lie W a z → Calls Tryz.prog 28 #[.int .u8 (fm b), .int .u64 H, dV false a z.length c ex] W fun e w' => e = .returned (.bool true) ∧ Below W.heap.size W w') (F5 : Inx X5) (F4 : Inx X4) (F0 : Inx X0) (UU : Int) (uo : Bool) (KP : ∀ W, Calls Tryz.prog 29 #[.int .u8 (fm b), .int .u64 L] W fun e w' => e = .returned (.tuple #[.int .u64 UU, .bool uo]) ∧ Below W.heap.size W w') (hr : (L.tmod (sg b) == 0) = true) (KG : ∀ W, Calls Tryz.prog 31 #[.int .u8 (fm b), .int .u64 0, .bool true] W fun e w' => e = .returned (.int .u64 (sg b)) ∧ Below W.heap.size W w') (h1s : (1 == sg b) = false) (h1H : (1 == H) = true) (hl : (z.length : Int) ≤ 300) (w : World) (u : DLie w a z) (hT : Tab w) :
    Calls Tryz.prog 6 #[.int .u8 (fm b), .int .u8 m, dV false a z.length c ex] w fun e w' => e = .returned (.bool true) ∧ Below w.heap.size w w' := by
  have HO := fun W g h1 h2 => Hide.mk (KO W g h1 h2)
  clear KO
  have HS := fun W => Hide.mk (KS W)
  clear KS
  have HR5 := fun W h1 h2 => Hide.mk (KR5 W h1 h2)
  have HR4 := fun W h1 h2 => Hide.mk (KR4 W h1 h2)
  have HR3 := fun W h1 h2 => Hide.mk (KR3 W h1 h2)
  have HR0 := fun W h1 h2 => Hide.mk (KR0 W h1 h2)
  have HU := fun W h1 => Hide.mk (KU W h1)
  have HV := fun W h1 => Hide.mk (KV W h1)
  clear KR5 KR4 KR3 KR0 KU KV
  have g5 := inx_bits F5
  have g4 := inx_bits F4
  have g0 := inx_bits F0
  clear F5 F4 F0
  have hLL : (L == L) = true := by simp
  have hHH : (H == H) = true := by simp
  have hsg : 0 < sg b := sg_pos b
  have hsg0 : (sg b == 0) = false := beq_eq_false_iff_ne.2 (by omega)
  have HP := fun W => Hide.mk (KP W)
  have HG := fun W => Hide.mk (KG W)
  clear KP KG
  have BX := (Bx.nil w).push (DO false a z.length c ex)
  obtain ⟨⟨q0, q1, q2⟩, _⟩ := cells3 BX w.heap.size _ _ _ _ (show (w.heap.size, DO false a z.length c ex) ∈ _ by simp)
  go_enter Tryz.func6, Tryz.ntmps6
  go_wp2_with fail
  refine (lLong4 false a z.length c ex _ false (decide_eq_false (by omega))).mono ?_
  rintro e v52 ⟨rfl, hk⟩
  replace BX := BX.keep hk
  clear hk q0 q1 q2
  obtain ⟨⟨q0, q1, q2⟩, _⟩ := cells3 BX w.heap.size _ _ _ _ (show (w.heap.size, DO false a z.length c ex) ∈ _ by simp)
  go_wp2_with fail
  replace BX := BX.push (DO false a z.length c ex)
  clear q0 q1 q2
  obtain ⟨⟨q0, q1, q2⟩, _⟩ := cells3 BX w.heap.size _ _ _ _ (show (w.heap.size, DO false a z.length c ex) ∈ _ by simp)
  refine ((HO _ _ (u.below BX.bel) (at3_of BX (.head _))).out).mono ?_
  rintro e v53 ⟨rfl, hk⟩
  replace BX := BX.keep hk
  clear hk q0 q1 q2
  obtain ⟨⟨q0, q1, q2⟩, _⟩ := cells3 BX w.heap.size _ _ _ _ (show (w.heap.size, DO false a z.length c ex) ∈ _ by simp)
  go_wp2_with fail
  refine ((HS _).out).mono ?_
  rintro e v54 ⟨rfl, hk⟩
  replace BX := BX.keep hk
  clear hk q0 q1 q2
  obtain ⟨⟨q0, q1, q2⟩, _⟩ := cells3 BX w.heap.size _ _ _ _ (show (w.heap.size, DO false a z.length c ex) ∈ _ by simp)
  go_wp2_with fail
  refine ((HR5 _ (u.below BX.bel).lie (hT.below BX.bel (Nat.le_refl _))).out).mono ?_
  rintro e v55 ⟨rfl, hk⟩
  replace BX := BX.keep hk
  clear hk q0 q1 q2
  obtain ⟨⟨q0, q1, q2⟩, _⟩ := cells3 BX w.heap.size _ _ _ _ (show (w.heap.size, DO false a z.length c ex) ∈ _ by simp)
  go_wp2_with fail
  refine ((HR4 _ (u.below BX.bel).lie (hT.below BX.bel (Nat.le_refl _))).out).mono ?_
  rintro e v56 ⟨rfl, hk⟩
  replace BX := BX.keep hk
  clear hk q0 q1 q2
  obtain ⟨⟨q0, q1, q2⟩, _⟩ := cells3 BX w.heap.size _ _ _ _ (show (w.heap.size, DO false a z.length c ex) ∈ _ by simp)
  go_wp2_with fail
  refine ((HR3 _ (u.below BX.bel).lie (hT.below BX.bel (Nat.le_refl _))).out).mono ?_
  rintro e v57 ⟨rfl, hk⟩
  replace BX := BX.keep hk
  clear hk q0 q1 q2
  obtain ⟨⟨q0, q1, q2⟩, _⟩ := cells3 BX w.heap.size _ _ _ _ (show (w.heap.size, DO false a z.length c ex) ∈ _ by simp)
  go_wp2_with fail
  refine ((HR0 _ (u.below BX.bel).lie (hT.below BX.bel (Nat.le_refl _))).out).mono ?_
  rintro e v58 ⟨rfl, hk⟩
  replace BX := BX.keep hk
  clear hk q0 q1 q2
  obtain ⟨⟨q0, q1, q2⟩, _⟩ := cells3 BX w.heap.size _ _ _ _ (show (w.heap.size, DO false a z.length c ex) ∈ _ by simp)
  go_wp2_with fail
  refine ((HU _ (u.below BX.bel).lie).out).mono ?_
  rintro e v59 ⟨rfl, hk⟩
  replace BX := BX.keep hk
  clear hk q0 q1 q2
  obtain ⟨⟨q0, q1, q2⟩, _⟩ := cells3 BX w.heap.size _ _ _ _ (show (w.heap.size, DO false a z.length c ex) ∈ _ by simp)
  go_wp2_with fail
  refine ((HV _ (u.below BX.bel).lie).out).mono ?_
  rintro e v60 ⟨rfl, hk⟩
  replace BX := BX.keep hk
  clear hk q0 q1 q2
  obtain ⟨⟨q0, q1, q2⟩, _⟩ := cells3 BX w.heap.size _ _ _ _ (show (w.heap.size, DO false a z.length c ex) ∈ _ by simp)
  go_wp2_with fail
  refine ((HP _).out).mono ?_
  rintro e v61 ⟨rfl, hk⟩
  replace BX := BX.keep hk
  clear hk q0 q1 q2
  obtain ⟨⟨q0, q1, q2⟩, _⟩ := cells3 BX w.heap.size _ _ _ _ (show (w.heap.size, DO false a z.length c ex) ∈ _ by simp)
  go_wp2_with fail
  refine (rSign b _).mono ?_
  rintro e v62 ⟨rfl, hk⟩
  replace BX := BX.keep hk
  clear hk q0 q1 q2
  obtain ⟨⟨q0, q1, q2⟩, _⟩ := cells3 BX w.heap.size _ _ _ _ (show (w.heap.size, DO false a z.length c ex) ∈ _ by simp)
  go_wp2_with fail
  refine ((HG _).out).mono ?_
  rintro e v63 ⟨rfl, hk⟩
  replace BX := BX.keep hk
  clear hk q0 q1 q2
  obtain ⟨⟨q0, q1, q2⟩, _⟩ := cells3 BX w.heap.size _ _ _ _ (show (w.heap.size, DO false a z.length c ex) ∈ _ by simp)
  go_wp2_with fail
  refine (lKnown4 _ (hT.below BX.bel (Nat.le_refl _))).mono ?_
  rintro e v64 ⟨rfl, hk⟩
  replace BX := BX.keep hk
  clear hk q0 q1 q2
  obtain ⟨⟨q0, q1, q2⟩, _⟩ := cells3 BX w.heap.size _ _ _ _ (show (w.heap.size, DO false a z.length c ex) ∈ _ by simp)
  go_wp2
  go_ret
  exact ⟨by first | rfl | simp, BX.bel⟩
set_option maxHeartbeats 8000000 in
theorem rv_pBl (a : Option Addr) (c : Nat) (z : List Int) (ex m : Int) (b : Bool) (KO : ∀ W g, DLie W a z → At3 W g 0 false a z.length c ex → Calls Tryz.prog 16 #[.int .u8 (fm b), .int .u8 m, .slice (some ⟨g, 0, none⟩) 1 1] W fun e w' => e = .returned (.int .i64 0) ∧ Below W.heap.size W w') (s1 : Int) (hs1 : (s1 == 0) = false) (KS : ∀ W, Calls Tryz.prog 23 #[dV false a z.length c ex] W fun e w' => e = .returned (.int .i64 s1) ∧ Below W.heap.size W w') (L H X5 X4 X3 X0 : Int) (hlh : (L == H) = false) (hhl : (H == L) = false) (KR5 : ∀ W, Lie W a z → Tab W → Calls Tryz.prog 14 #[.int .u8 (fm b), .int .u8 5, dV false a z.length c ex] W fun e w' => e = .returned (.tuple #[.int .u64 L, .int .u8 X5, .int .i64 0]) ∧ Below W.heap.size W w') (KR4 : ∀ W, Lie W a z → Tab W → Calls Tryz.prog 14 #[.int .u8 (fm b), .int .u8 4, dV false a z.length c ex] W fun e w' => e = .returned (.tuple #[.int .u64 H, .int .u8 X4, .int .i64 0]) ∧ Below W.heap.size W w') (KR3 : ∀ W, Lie W a z → Tab W → Calls Tryz.prog 14 #[.int .u8 (fm b), .int .u8 3, dV false a z.length c ex] W fun e w' => e = .returned (.tuple #[.int .u64 L, .int .u8 X3, .int .i64 0]) ∧ Below W.heap.size W w') (KR0 : ∀ W, Lie W a z → Tab W → Calls Tryz.prog 14 #[.int .u8 (fm b), .int .u8 m, dV false a z.length c ex] W fun e w' => e = .returned (.tuple #[.int .u64 L, .int .u8 X0, .int .i64 0]) ∧ Below W.heap.size W w') (KU : ∀ W, Lie W a z → Calls Tryz.prog 27 #[.int .u8 (fm b), .int .u64 L, dV false a z.length c ex] W fun e w' => e = .returned (.bool true) ∧ Below W.heap.size W w') (KV : ∀ W, Lie W a z → Calls Tryz.prog 28 #[.int .u8 (fm b), .int .u64 H, dV false a z.length c ex] W fun e w' => e = .returned (.bool true) ∧ Below W.heap.size W w') (F5 : Inx X5) (F4 : Inx X4) (F0 : Inx X0) (KP : ∀ W, Calls Tryz.prog 29 #[.int .u8 (fm b), .int .u64 L] W fun e w' => e = .returned (.tuple #[.int .u64 H, .bool true]) ∧ Below W.heap.size W w') (hr : (L.tmod (sg b) == 0) = false) (KG : ∀ W, Calls Tryz.prog 31 #[.int .u8 (fm b), .int .u64 0, .bool true] W fun e w' => e = .returned (.int .u64 (sg b)) ∧ Below W.heap.size W w') (hHs : (H == sg b) = false) (hl : (z.length : Int) ≤ 300) (w : World) (u : DLie w a z) (hT : Tab w) :
    Calls Tryz.prog 6 #[.int .u8 (fm b), .int .u8 m, dV false a z.length c ex] w fun e w' => e = .returned (.bool true) ∧ Below w.heap.size w w' := by
  have HO := fun W g h1 h2 => Hide.mk (KO W g h1 h2)
  clear KO
  have HS := fun W => Hide.mk (KS W)
  clear KS
  have HR5 := fun W h1 h2 => Hide.mk (KR5 W h1 h2)
  have HR4 := fun W h1 h2 => Hide.mk (KR4 W h1 h2)
  have HR3 := fun W h1 h2 => Hide.mk (KR3 W h1 h2)
  have HR0 := fun W h1 h2 => Hide.mk (KR0 W h1 h2)
  have HU := fun W h1 => Hide.mk (KU W h1)
  have HV := fun W h1 => Hide.mk (KV W h1)
  clear KR5 KR4 KR3 KR0 KU KV
  have g5 := inx_bits F5
  have g4 := inx_bits F4
  have g0 := inx_bits F0
  clear F5 F4 F0
  have hLL : (L == L) = true := by simp
  have hHH : (H == H) = true := by simp
  have hsg : 0 < sg b := sg_pos b
  have hsg0 : (sg b == 0) = false := beq_eq_false_iff_ne.2 (by omega)
  have HP := fun W => Hide.mk (KP W)
  have HG := fun W => Hide.mk (KG W)
  clear KP KG
  have BX := (Bx.nil w).push (DO false a z.length c ex)
  obtain ⟨⟨q0, q1, q2⟩, _⟩ := cells3 BX w.heap.size _ _ _ _ (show (w.heap.size, DO false a z.length c ex) ∈ _ by simp)
  go_enter Tryz.func6, Tryz.ntmps6
  go_wp2_with fail
  refine (lLong4 false a z.length c ex _ false (decide_eq_false (by omega))).mono ?_
  rintro e v65 ⟨rfl, hk⟩
  replace BX := BX.keep hk
  clear hk q0 q1 q2
  obtain ⟨⟨q0, q1, q2⟩, _⟩ := cells3 BX w.heap.size _ _ _ _ (show (w.heap.size, DO false a z.length c ex) ∈ _ by simp)
  go_wp2_with fail
  replace BX := BX.push (DO false a z.length c ex)
  clear q0 q1 q2
  obtain ⟨⟨q0, q1, q2⟩, _⟩ := cells3 BX w.heap.size _ _ _ _ (show (w.heap.size, DO false a z.length c ex) ∈ _ by simp)
  refine ((HO _ _ (u.below BX.bel) (at3_of BX (.head _))).out).mono ?_
  rintro e v66 ⟨rfl, hk⟩
  replace BX := BX.keep hk
  clear hk q0 q1 q2
  obtain ⟨⟨q0, q1, q2⟩, _⟩ := cells3 BX w.heap.size _ _ _ _ (show (w.heap.size, DO false a z.length c ex) ∈ _ by simp)
  go_wp2_with fail
  refine ((HS _).out).mono ?_
  rintro e v67 ⟨rfl, hk⟩
  replace BX := BX.keep hk
  clear hk q0 q1 q2
  obtain ⟨⟨q0, q1, q2⟩, _⟩ := cells3 BX w.heap.size _ _ _ _ (show (w.heap.size, DO false a z.length c ex) ∈ _ by simp)
  go_wp2_with fail
  refine ((HR5 _ (u.below BX.bel).lie (hT.below BX.bel (Nat.le_refl _))).out).mono ?_
  rintro e v68 ⟨rfl, hk⟩
  replace BX := BX.keep hk
  clear hk q0 q1 q2
  obtain ⟨⟨q0, q1, q2⟩, _⟩ := cells3 BX w.heap.size _ _ _ _ (show (w.heap.size, DO false a z.length c ex) ∈ _ by simp)
  go_wp2_with fail
  refine ((HR4 _ (u.below BX.bel).lie (hT.below BX.bel (Nat.le_refl _))).out).mono ?_
  rintro e v69 ⟨rfl, hk⟩
  replace BX := BX.keep hk
  clear hk q0 q1 q2
  obtain ⟨⟨q0, q1, q2⟩, _⟩ := cells3 BX w.heap.size _ _ _ _ (show (w.heap.size, DO false a z.length c ex) ∈ _ by simp)
  go_wp2_with fail
  refine ((HR3 _ (u.below BX.bel).lie (hT.below BX.bel (Nat.le_refl _))).out).mono ?_
  rintro e v70 ⟨rfl, hk⟩
  replace BX := BX.keep hk
  clear hk q0 q1 q2
  obtain ⟨⟨q0, q1, q2⟩, _⟩ := cells3 BX w.heap.size _ _ _ _ (show (w.heap.size, DO false a z.length c ex) ∈ _ by simp)
  go_wp2_with fail
  refine ((HR0 _ (u.below BX.bel).lie (hT.below BX.bel (Nat.le_refl _))).out).mono ?_
  rintro e v71 ⟨rfl, hk⟩
  replace BX := BX.keep hk
  clear hk q0 q1 q2
  obtain ⟨⟨q0, q1, q2⟩, _⟩ := cells3 BX w.heap.size _ _ _ _ (show (w.heap.size, DO false a z.length c ex) ∈ _ by simp)
  go_wp2_with fail
  refine ((HU _ (u.below BX.bel).lie).out).mono ?_
  rintro e v72 ⟨rfl, hk⟩
  replace BX := BX.keep hk
  clear hk q0 q1 q2
  obtain ⟨⟨q0, q1, q2⟩, _⟩ := cells3 BX w.heap.size _ _ _ _ (show (w.heap.size, DO false a z.length c ex) ∈ _ by simp)
  go_wp2_with fail
  refine ((HV _ (u.below BX.bel).lie).out).mono ?_
  rintro e v73 ⟨rfl, hk⟩
  replace BX := BX.keep hk
  clear hk q0 q1 q2
  obtain ⟨⟨q0, q1, q2⟩, _⟩ := cells3 BX w.heap.size _ _ _ _ (show (w.heap.size, DO false a z.length c ex) ∈ _ by simp)
  go_wp2_with fail
  refine ((HP _).out).mono ?_
  rintro e v74 ⟨rfl, hk⟩
  replace BX := BX.keep hk
  clear hk q0 q1 q2
  obtain ⟨⟨q0, q1, q2⟩, _⟩ := cells3 BX w.heap.size _ _ _ _ (show (w.heap.size, DO false a z.length c ex) ∈ _ by simp)
  go_wp2_with fail
  refine (rSign b _).mono ?_
  rintro e v75 ⟨rfl, hk⟩
  replace BX := BX.keep hk
  clear hk q0 q1 q2
  obtain ⟨⟨q0, q1, q2⟩, _⟩ := cells3 BX w.heap.size _ _ _ _ (show (w.heap.size, DO false a z.length c ex) ∈ _ by simp)
  go_wp2_with fail
  refine ((HG _).out).mono ?_
  rintro e v76 ⟨rfl, hk⟩
  replace BX := BX.keep hk
  clear hk q0 q1 q2
  obtain ⟨⟨q0, q1, q2⟩, _⟩ := cells3 BX w.heap.size _ _ _ _ (show (w.heap.size, DO false a z.length c ex) ∈ _ by simp)
  go_wp2_with fail
  refine (lKnown4 _ (hT.below BX.bel (Nat.le_refl _))).mono ?_
  rintro e v77 ⟨rfl, hk⟩
  replace BX := BX.keep hk
  clear hk q0 q1 q2
  obtain ⟨⟨q0, q1, q2⟩, _⟩ := cells3 BX w.heap.size _ _ _ _ (show (w.heap.size, DO false a z.length c ex) ∈ _ by simp)
  go_wp2
  go_ret
  exact ⟨by first | rfl | simp, BX.bel⟩
end Go.Proofs.YtdnghibkagcbcaaGreatDoor

namespace Go.Proofs.YtdnghibkagcbcaaGreatDoor
open Go.RowKit Go.Wd Go.Box
set_option linter.unusedVariables false
set_option maxRecDepth 3000
set_option maxHeartbeats 8000000 in
theorem rv_pBh (a : Option Addr) (c : Nat) (z : List Int) (ex m : Int) (b : Bool) (KO : ∀ W g, DLie W a z → At3 W g 0 false a z.length c ex → Calls Tryz.prog 16 #[.int .u8 (fm b), .int .u8 m, .slice (some ⟨g, 0, none⟩) 1 1] W fun e w' => e = .returned (.int .i64 0) ∧ Below W.heap.size W w') (s1 : Int) (hs1 : (s1 == 0) = false) (KS : ∀ W, Calls Tryz.prog 23 #[dV false a z.length c ex] W fun e w' => e = .returned (.int .i64 s1) ∧ Below W.heap.size W w') (L H X5 X4 X3 X0 : Int) (hlh : (L == H) = false) (hhl : (H == L) = false) (KR5 : ∀ W, Lie W a z → Tab W → Calls Tryz.prog 14 #[.int .u8 (fm b), .int .u8 5, dV false a z.length c ex] W fun e w' => e = .returned (.tuple #[.int .u64 L, .int .u8 X5, .int .i64 0]) ∧ Below W.heap.size W w') (KR4 : ∀ W, Lie W a z → Tab W → Calls Tryz.prog 14 #[.int .u8 (fm b), .int .u8 4, dV false a z.length c ex] W fun e w' => e = .returned (.tuple #[.int .u64 H, .int .u8 X4, .int .i64 0]) ∧ Below W.heap.size W w') (KR3 : ∀ W, Lie W a z → Tab W → Calls Tryz.prog 14 #[.int .u8 (fm b), .int .u8 3, dV false a z.length c ex] W fun e w' => e = .returned (.tuple #[.int .u64 L, .int .u8 X3, .int .i64 0]) ∧ Below W.heap.size W w') (KR0 : ∀ W, Lie W a z → Tab W → Calls Tryz.prog 14 #[.int .u8 (fm b), .int .u8 m, dV false a z.length c ex] W fun e w' => e = .returned (.tuple #[.int .u64 H, .int .u8 X0, .int .i64 0]) ∧ Below W.heap.size W w') (KU : ∀ W, Lie W a z → Calls Tryz.prog 27 #[.int .u8 (fm b), .int .u64 L, dV false a z.length c ex] W fun e w' => e = .returned (.bool true) ∧ Below W.heap.size W w') (KV : ∀ W, Lie W a z → Calls Tryz.prog 28 #[.int .u8 (fm b), .int .u64 H, dV false a z.length c ex] W fun e w' => e = .returned (.bool true) ∧ Below W.heap.size W w') (F5 : Inx X5) (F4 : Inx X4) (F0 : Inx X0) (KP : ∀ W, Calls Tryz.prog 29 #[.int .u8 (fm b), .int .u64 L] W fun e w' => e = .returned (.tuple #[.int .u64 H, .bool true]) ∧ Below W.heap.size W w') (hr : (L.tmod (sg b) == 0) = false) (KG : ∀ W, Calls Tryz.prog 31 #[.int .u8 (fm b), .int .u64 0, .bool true] W fun e w' => e = .returned (.int .u64 (sg b)) ∧ Below W.heap.size W w') (hHs : (H == sg b) = false) (hl : (z.length : Int) ≤ 300) (w : World) (u : DLie w a z) (hT : Tab w) :
    Calls Tryz.prog 6 #[.int .u8 (fm b), .int .u8 m, dV false a z.length c ex] w fun e w' => e = .returned (.bool true) ∧ Below w.heap.size w w' := by
  have HO := fun W g h1 h2 => Hide.mk (KO W g h1 h2)
  clear KO
  have HS := fun W => Hide.mk (KS W)
  clear KS
  have HR5 := fun W h1 h2 => Hide.mk (KR5 W h1 h2)
  have HR4 := fun W h1 h2 => Hide.mk (KR4 W h1 h2)
  have HR3 := fun W h1 h2 => Hide.mk (KR3 W h1 h2)
  have HR0 := fun W h1 h2 => Hide.mk (KR0 W h1 h2)
  have HU := fun W h1 => Hide.mk (KU W h1)
  have HV := fun W h1 => Hide.mk (KV W h1)
  clear KR5 KR4 KR3 KR0 KU KV
  have g5 := inx_bits F5
  have g4 := inx_bits F4
  have g0 := inx_bits F0
  clear F5 F4 F0
  have hLL : (L == L) = true := by simp
  have hHH : (H == H) = true := by simp
  have hsg : 0 < sg b := sg_pos b
  have hsg0 : (sg b == 0) = false := beq_eq_false_iff_ne.2 (by omega)
  have HP := fun W => Hide.mk (KP W)
  have HG := fun W => Hide.mk (KG W)
  clear KP KG
  have BX := (Bx.nil w).push (DO false a z.length c ex)
  obtain ⟨⟨q0, q1, q2⟩, _⟩ := cells3 BX w.heap.size _ _ _ _ (show (w.heap.size, DO false a z.length c ex) ∈ _ by simp)
  go_enter Tryz.func6, Tryz.ntmps6
  go_wp2_with fail
  refine (lLong4 false a z.length c ex _ false (decide_eq_false (by omega))).mono ?_
  rintro e v78 ⟨rfl, hk⟩
  replace BX := BX.keep hk
  clear hk q0 q1 q2
  obtain ⟨⟨q0, q1, q2⟩, _⟩ := cells3 BX w.heap.size _ _ _ _ (show (w.heap.size, DO false a z.length c ex) ∈ _ by simp)
  go_wp2_with fail
  replace BX := BX.push (DO false a z.length c ex)
  clear q0 q1 q2
  obtain ⟨⟨q0, q1, q2⟩, _⟩ := cells3 BX w.heap.size _ _ _ _ (show (w.heap.size, DO false a z.length c ex) ∈ _ by simp)
  refine ((HO _ _ (u.below BX.bel) (at3_of BX (.head _))).out).mono ?_
  rintro e v79 ⟨rfl, hk⟩
  replace BX := BX.keep hk
  clear hk q0 q1 q2
  obtain ⟨⟨q0, q1, q2⟩, _⟩ := cells3 BX w.heap.size _ _ _ _ (show (w.heap.size, DO false a z.length c ex) ∈ _ by simp)
  go_wp2_with fail
  refine ((HS _).out).mono ?_
  rintro e v80 ⟨rfl, hk⟩
  replace BX := BX.keep hk
  clear hk q0 q1 q2
  obtain ⟨⟨q0, q1, q2⟩, _⟩ := cells3 BX w.heap.size _ _ _ _ (show (w.heap.size, DO false a z.length c ex) ∈ _ by simp)
  go_wp2_with fail
  refine ((HR5 _ (u.below BX.bel).lie (hT.below BX.bel (Nat.le_refl _))).out).mono ?_
  rintro e v81 ⟨rfl, hk⟩
  replace BX := BX.keep hk
  clear hk q0 q1 q2
  obtain ⟨⟨q0, q1, q2⟩, _⟩ := cells3 BX w.heap.size _ _ _ _ (show (w.heap.size, DO false a z.length c ex) ∈ _ by simp)
  go_wp2_with fail
  refine ((HR4 _ (u.below BX.bel).lie (hT.below BX.bel (Nat.le_refl _))).out).mono ?_
  rintro e v82 ⟨rfl, hk⟩
  replace BX := BX.keep hk
  clear hk q0 q1 q2
  obtain ⟨⟨q0, q1, q2⟩, _⟩ := cells3 BX w.heap.size _ _ _ _ (show (w.heap.size, DO false a z.length c ex) ∈ _ by simp)
  go_wp2_with fail
  refine ((HR3 _ (u.below BX.bel).lie (hT.below BX.bel (Nat.le_refl _))).out).mono ?_
  rintro e v83 ⟨rfl, hk⟩
  replace BX := BX.keep hk
  clear hk q0 q1 q2
  obtain ⟨⟨q0, q1, q2⟩, _⟩ := cells3 BX w.heap.size _ _ _ _ (show (w.heap.size, DO false a z.length c ex) ∈ _ by simp)
  go_wp2_with fail
  refine ((HR0 _ (u.below BX.bel).lie (hT.below BX.bel (Nat.le_refl _))).out).mono ?_
  rintro e v84 ⟨rfl, hk⟩
  replace BX := BX.keep hk
  clear hk q0 q1 q2
  obtain ⟨⟨q0, q1, q2⟩, _⟩ := cells3 BX w.heap.size _ _ _ _ (show (w.heap.size, DO false a z.length c ex) ∈ _ by simp)
  go_wp2_with fail
  refine ((HU _ (u.below BX.bel).lie).out).mono ?_
  rintro e v85 ⟨rfl, hk⟩
  replace BX := BX.keep hk
  clear hk q0 q1 q2
  obtain ⟨⟨q0, q1, q2⟩, _⟩ := cells3 BX w.heap.size _ _ _ _ (show (w.heap.size, DO false a z.length c ex) ∈ _ by simp)
  go_wp2_with fail
  refine ((HV _ (u.below BX.bel).lie).out).mono ?_
  rintro e v86 ⟨rfl, hk⟩
  replace BX := BX.keep hk
  clear hk q0 q1 q2
  obtain ⟨⟨q0, q1, q2⟩, _⟩ := cells3 BX w.heap.size _ _ _ _ (show (w.heap.size, DO false a z.length c ex) ∈ _ by simp)
  go_wp2_with fail
  refine ((HP _).out).mono ?_
  rintro e v87 ⟨rfl, hk⟩
  replace BX := BX.keep hk
  clear hk q0 q1 q2
  obtain ⟨⟨q0, q1, q2⟩, _⟩ := cells3 BX w.heap.size _ _ _ _ (show (w.heap.size, DO false a z.length c ex) ∈ _ by simp)
  go_wp2_with fail
  refine (rSign b _).mono ?_
  rintro e v88 ⟨rfl, hk⟩
  replace BX := BX.keep hk
  clear hk q0 q1 q2
  obtain ⟨⟨q0, q1, q2⟩, _⟩ := cells3 BX w.heap.size _ _ _ _ (show (w.heap.size, DO false a z.length c ex) ∈ _ by simp)
  go_wp2_with fail
  refine ((HG _).out).mono ?_
  rintro e v89 ⟨rfl, hk⟩
  replace BX := BX.keep hk
  clear hk q0 q1 q2
  obtain ⟨⟨q0, q1, q2⟩, _⟩ := cells3 BX w.heap.size _ _ _ _ (show (w.heap.size, DO false a z.length c ex) ∈ _ by simp)
  go_wp2_with fail
  refine (lKnown4 _ (hT.below BX.bel (Nat.le_refl _))).mono ?_
  rintro e v90 ⟨rfl, hk⟩
  replace BX := BX.keep hk
  clear hk q0 q1 q2
  obtain ⟨⟨q0, q1, q2⟩, _⟩ := cells3 BX w.heap.size _ _ _ _ (show (w.heap.size, DO false a z.length c ex) ∈ _ by simp)
  go_wp2
  go_ret
  exact ⟨by first | rfl | simp, BX.bel⟩
set_option maxHeartbeats 8000000 in
theorem rv_nBl (a : Option Addr) (c : Nat) (z : List Int) (ex m : Int) (b : Bool) (KO : ∀ W g, DLie W a z → At3 W g 0 true a z.length c ex → Calls Tryz.prog 16 #[.int .u8 (fm b), .int .u8 m, .slice (some ⟨g, 0, none⟩) 1 1] W fun e w' => e = .returned (.int .i64 0) ∧ Below W.heap.size W w') (s1 : Int) (hs1 : (s1 == 0) = false) (KS : ∀ W, Calls Tryz.prog 23 #[dV true a z.length c ex] W fun e w' => e = .returned (.int .i64 s1) ∧ Below W.heap.size W w') (L H X5 X4 X3 X0 : Int) (hlh : (L == H) = false) (hhl : (H == L) = false) (KR5 : ∀ W, Lie W a z → Tab W → Calls Tryz.prog 14 #[.int .u8 (fm b), .int .u8 5, dV true a z.length c ex] W fun e w' => e = .returned (.tuple #[.int .u64 L, .int .u8 X5, .int .i64 0]) ∧ Below W.heap.size W w') (KR4 : ∀ W, Lie W a z → Tab W → Calls Tryz.prog 14 #[.int .u8 (fm b), .int .u8 4, dV true a z.length c ex] W fun e w' => e = .returned (.tuple #[.int .u64 H, .int .u8 X4, .int .i64 0]) ∧ Below W.heap.size W w') (KR3 : ∀ W, Lie W a z → Tab W → Calls Tryz.prog 14 #[.int .u8 (fm b), .int .u8 3, dV true a z.length c ex] W fun e w' => e = .returned (.tuple #[.int .u64 H, .int .u8 X3, .int .i64 0]) ∧ Below W.heap.size W w') (KR0 : ∀ W, Lie W a z → Tab W → Calls Tryz.prog 14 #[.int .u8 (fm b), .int .u8 m, dV true a z.length c ex] W fun e w' => e = .returned (.tuple #[.int .u64 L, .int .u8 X0, .int .i64 0]) ∧ Below W.heap.size W w') (KU : ∀ W, Lie W a z → Calls Tryz.prog 27 #[.int .u8 (fm b), .int .u64 L, dV true a z.length c ex] W fun e w' => e = .returned (.bool true) ∧ Below W.heap.size W w') (KV : ∀ W, Lie W a z → Calls Tryz.prog 28 #[.int .u8 (fm b), .int .u64 H, dV true a z.length c ex] W fun e w' => e = .returned (.bool true) ∧ Below W.heap.size W w') (F5 : Inx X5) (F4 : Inx X4) (F0 : Inx X0) (KP : ∀ W, Calls Tryz.prog 29 #[.int .u8 (fm b), .int .u64 L] W fun e w' => e = .returned (.tuple #[.int .u64 H, .bool true]) ∧ Below W.heap.size W w') (hr : (L.tmod (sg b) == 0) = false) (KG : ∀ W, Calls Tryz.prog 31 #[.int .u8 (fm b), .int .u64 0, .bool true] W fun e w' => e = .returned (.int .u64 (sg b)) ∧ Below W.heap.size W w') (hHs : (H == sg b) = true) (hH0 : (H == 0) = false) (hl : (z.length : Int) ≤ 300) (w : World) (u : DLie w a z) (hT : Tab w) :
    Calls Tryz.prog 6 #[.int .u8 (fm b), .int .u8 m, dV true a z.length c ex] w fun e w' => e = .returned (.bool true) ∧ Below w.heap.size w w' := by
  have HO := fun W g h1 h2 => Hide.mk (KO W g h1 h2)
  clear KO
  have HS := fun W => Hide.mk (KS W)
  clear KS
  have HR5 := fun W h1 h2 => Hide.mk (KR5 W h1 h2)
  have HR4 := fun W h1 h2 => Hide.mk (KR4 W h1 h2)
  have HR3 := fun W h1 h2 => Hide.mk (KR3 W h1 h2)
  have HR0 := fun W h1 h2 => Hide.mk (KR0 W h1 h2)
  have HU := fun W h1 => Hide.mk (KU W h1)
  have HV := fun W h1 => Hide.mk (KV W h1)
  clear KR5 KR4 KR3 KR0 KU KV
  have g5 := inx_bits F5
  have g4 := inx_bits F4
  have g0 := inx_bits F0
  clear F5 F4 F0
  have hLL : (L == L) = true := by simp
  have hHH : (H == H) = true := by simp
  have hsg : 0 < sg b := sg_pos b
  have hsg0 : (sg b == 0) = false := beq_eq_false_iff_ne.2 (by omega)
  have HP := fun W => Hide.mk (KP W)
  have HG := fun W => Hide.mk (KG W)
  clear KP KG
  have BX := (Bx.nil w).push (DO true a z.length c ex)
  obtain ⟨⟨q0, q1, q2⟩, _⟩ := cells3 BX w.heap.size _ _ _ _ (show (w.heap.size, DO true a z.length c ex) ∈ _ by simp)
  go_enter Tryz.func6, Tryz.ntmps6
  go_wp2_with fail
  refine (lLong4 true a z.length c ex _ false (decide_eq_false (by omega))).mono ?_
  rintro e v91 ⟨rfl, hk⟩
  replace BX := BX.keep hk
  clear hk q0 q1 q2
  obtain ⟨⟨q0, q1, q2⟩, _⟩ := cells3 BX w.heap.size _ _ _ _ (show (w.heap.size, DO true a z.length c ex) ∈ _ by simp)
  go_wp2_with fail
  replace BX := BX.push (DO true a z.length c ex)
  clear q0 q1 q2
  obtain ⟨⟨q0, q1, q2⟩, _⟩ := cells3 BX w.heap.size _ _ _ _ (show (w.heap.size, DO true a z.length c ex) ∈ _ by simp)
  refine ((HO _ _ (u.below BX.bel) (at3_of BX (.head _))).out).mono ?_
  rintro e v92 ⟨rfl, hk⟩
  replace BX := BX.keep hk
  clear hk q0 q1 q2
  obtain ⟨⟨q0, q1, q2⟩, _⟩ := cells3 BX w.heap.size _ _ _ _ (show (w.heap.size, DO true a z.length c ex) ∈ _ by simp)
  go_wp2_with fail
  refine ((HS _).out).mono ?_
  rintro e v93 ⟨rfl, hk⟩
  replace BX := BX.keep hk
  clear hk q0 q1 q2
  obtain ⟨⟨q0, q1, q2⟩, _⟩ := cells3 BX w.heap.size _ _ _ _ (show (w.heap.size, DO true a z.length c ex) ∈ _ by simp)
  go_wp2_with fail
  refine ((HR5 _ (u.below BX.bel).lie (hT.below BX.bel (Nat.le_refl _))).out).mono ?_
  rintro e v94 ⟨rfl, hk⟩
  replace BX := BX.keep hk
  clear hk q0 q1 q2
  obtain ⟨⟨q0, q1, q2⟩, _⟩ := cells3 BX w.heap.size _ _ _ _ (show (w.heap.size, DO true a z.length c ex) ∈ _ by simp)
  go_wp2_with fail
  refine ((HR4 _ (u.below BX.bel).lie (hT.below BX.bel (Nat.le_refl _))).out).mono ?_
  rintro e v95 ⟨rfl, hk⟩
  replace BX := BX.keep hk
  clear hk q0 q1 q2
  obtain ⟨⟨q0, q1, q2⟩, _⟩ := cells3 BX w.heap.size _ _ _ _ (show (w.heap.size, DO true a z.length c ex) ∈ _ by simp)
  go_wp2_with fail
  refine ((HR3 _ (u.below BX.bel).lie (hT.below BX.bel (Nat.le_refl _))).out).mono ?_
  rintro e v96 ⟨rfl, hk⟩
  replace BX := BX.keep hk
  clear hk q0 q1 q2
  obtain ⟨⟨q0, q1, q2⟩, _⟩ := cells3 BX w.heap.size _ _ _ _ (show (w.heap.size, DO true a z.length c ex) ∈ _ by simp)
  go_wp2_with fail
  refine ((HR0 _ (u.below BX.bel).lie (hT.below BX.bel (Nat.le_refl _))).out).mono ?_
  rintro e v97 ⟨rfl, hk⟩
  replace BX := BX.keep hk
  clear hk q0 q1 q2
  obtain ⟨⟨q0, q1, q2⟩, _⟩ := cells3 BX w.heap.size _ _ _ _ (show (w.heap.size, DO true a z.length c ex) ∈ _ by simp)
  go_wp2_with fail
  refine ((HU _ (u.below BX.bel).lie).out).mono ?_
  rintro e v98 ⟨rfl, hk⟩
  replace BX := BX.keep hk
  clear hk q0 q1 q2
  obtain ⟨⟨q0, q1, q2⟩, _⟩ := cells3 BX w.heap.size _ _ _ _ (show (w.heap.size, DO true a z.length c ex) ∈ _ by simp)
  go_wp2_with fail
  refine ((HV _ (u.below BX.bel).lie).out).mono ?_
  rintro e v99 ⟨rfl, hk⟩
  replace BX := BX.keep hk
  clear hk q0 q1 q2
  obtain ⟨⟨q0, q1, q2⟩, _⟩ := cells3 BX w.heap.size _ _ _ _ (show (w.heap.size, DO true a z.length c ex) ∈ _ by simp)
  go_wp2_with fail
  refine ((HP _).out).mono ?_
  rintro e v100 ⟨rfl, hk⟩
  replace BX := BX.keep hk
  clear hk q0 q1 q2
  obtain ⟨⟨q0, q1, q2⟩, _⟩ := cells3 BX w.heap.size _ _ _ _ (show (w.heap.size, DO true a z.length c ex) ∈ _ by simp)
  go_wp2_with fail
  refine (rSign b _).mono ?_
  rintro e v101 ⟨rfl, hk⟩
  replace BX := BX.keep hk
  clear hk q0 q1 q2
  obtain ⟨⟨q0, q1, q2⟩, _⟩ := cells3 BX w.heap.size _ _ _ _ (show (w.heap.size, DO true a z.length c ex) ∈ _ by simp)
  go_wp2_with fail
  refine ((HG _).out).mono ?_
  rintro e v102 ⟨rfl, hk⟩
  replace BX := BX.keep hk
  clear hk q0 q1 q2
  obtain ⟨⟨q0, q1, q2⟩, _⟩ := cells3 BX w.heap.size _ _ _ _ (show (w.heap.size, DO true a z.length c ex) ∈ _ by simp)
  go_wp2_with fail
  refine (lKnown4 _ (hT.below BX.bel (Nat.le_refl _))).mono ?_
  rintro e v103 ⟨rfl, hk⟩
  replace BX := BX.keep hk
  clear hk q0 q1 q2
  obtain ⟨⟨q0, q1, q2⟩, _⟩ := cells3 BX w.heap.size _ _ _ _ (show (w.heap.size, DO true a z.length c ex) ∈ _ by simp)
  go_wp2
  go_ret
  exact ⟨by first | rfl | simp, BX.bel⟩
set_option maxHeartbeats 8000000 in
theorem rv_nBh (a : Option Addr) (c : Nat) (z : List Int) (ex m : Int) (b : Bool) (KO : ∀ W g, DLie W a z → At3 W g 0 true a z.length c ex → Calls Tryz.prog 16 #[.int .u8 (fm b), .int .u8 m, .slice (some ⟨g, 0, none⟩) 1 1] W fun e w' => e = .returned (.int .i64 0) ∧ Below W.heap.size W w') (s1 : Int) (hs1 : (s1 == 0) = false) (KS : ∀ W, Calls Tryz.prog 23 #[dV true a z.length c ex] W fun e w' => e = .returned (.int .i64 s1) ∧ Below W.heap.size W w') (L H X5 X4 X3 X0 : Int) (hlh : (L == H) = false) (hhl : (H == L) = false) (KR5 : ∀ W, Lie W a z → Tab W → Calls Tryz.prog 14 #[.int .u8 (fm b), .int .u8 5, dV true a z.length c ex] W fun e w' => e = .returned (.tuple #[.int .u64 L, .int .u8 X5, .int .i64 0]) ∧ Below W.heap.size W w') (KR4 : ∀ W, Lie W a z → Tab W → Calls Tryz.prog 14 #[.int .u8 (fm b), .int .u8 4, dV true a z.length c ex] W fun e w' => e = .returned (.tuple #[.int .u64 H, .int .u8 X4, .int .i64 0]) ∧ Below W.heap.size W w') (KR3 : ∀ W, Lie W a z → Tab W → Calls Tryz.prog 14 #[.int .u8 (fm b), .int .u8 3, dV true a z.length c ex] W fun e w' => e = .returned (.tuple #[.int .u64 H, .int .u8 X3, .int .i64 0]) ∧ Below W.heap.size W w') (KR0 : ∀ W, Lie W a z → Tab W → Calls Tryz.prog 14 #[.int .u8 (fm b), .int .u8 m, dV true a z.length c ex] W fun e w' => e = .returned (.tuple #[.int .u64 H, .int .u8 X0, .int .i64 0]) ∧ Below W.heap.size W w') (KU : ∀ W, Lie W a z → Calls Tryz.prog 27 #[.int .u8 (fm b), .int .u64 L, dV true a z.length c ex] W fun e w' => e = .returned (.bool true) ∧ Below W.heap.size W w') (KV : ∀ W, Lie W a z → Calls Tryz.prog 28 #[.int .u8 (fm b), .int .u64 H, dV true a z.length c ex] W fun e w' => e = .returned (.bool true) ∧ Below W.heap.size W w') (F5 : Inx X5) (F4 : Inx X4) (F0 : Inx X0) (KP : ∀ W, Calls Tryz.prog 29 #[.int .u8 (fm b), .int .u64 L] W fun e w' => e = .returned (.tuple #[.int .u64 H, .bool true]) ∧ Below W.heap.size W w') (hr : (L.tmod (sg b) == 0) = false) (KG : ∀ W, Calls Tryz.prog 31 #[.int .u8 (fm b), .int .u64 0, .bool true] W fun e w' => e = .returned (.int .u64 (sg b)) ∧ Below W.heap.size W w') (hHs : (H == sg b) = true) (hH0 : (H == 0) = false) (hl : (z.length : Int) ≤ 300) (w : World) (u : DLie w a z) (hT : Tab w) :
    Calls Tryz.prog 6 #[.int .u8 (fm b), .int .u8 m, dV true a z.length c ex] w fun e w' => e = .returned (.bool true) ∧ Below w.heap.size w w' := by
  have HO := fun W g h1 h2 => Hide.mk (KO W g h1 h2)
  clear KO
  have HS := fun W => Hide.mk (KS W)
  clear KS
  have HR5 := fun W h1 h2 => Hide.mk (KR5 W h1 h2)
  have HR4 := fun W h1 h2 => Hide.mk (KR4 W h1 h2)
  have HR3 := fun W h1 h2 => Hide.mk (KR3 W h1 h2)
  have HR0 := fun W h1 h2 => Hide.mk (KR0 W h1 h2)
  have HU := fun W h1 => Hide.mk (KU W h1)
  have HV := fun W h1 => Hide.mk (KV W h1)
  clear KR5 KR4 KR3 KR0 KU KV
  have g5 := inx_bits F5
  have g4 := inx_bits F4
  have g0 := inx_bits F0
  clear F5 F4 F0
  have hLL : (L == L) = true := by simp
  have hHH : (H == H) = true := by simp
  have hsg : 0 < sg b := sg_pos b
  have hsg0 : (sg b == 0) = false := beq_eq_false_iff_ne.2 (by omega)
  have HP := fun W => Hide.mk (KP W)
  have HG := fun W => Hide.mk (KG W)
  clear KP KG
  have BX := (Bx.nil w).push (DO true a z.length c ex)
  obtain ⟨⟨q0, q1, q2⟩, _⟩ := cells3 BX w.heap.size _ _ _ _ (show (w.heap.size, DO true a z.length c ex) ∈ _ by simp)
  go_enter Tryz.func6, Tryz.ntmps6
  go_wp2_with fail
  refine (lLong4 true a z.length c ex _ false (decide_eq_false (by omega))).mono ?_
  rintro e v104 ⟨rfl, hk⟩
  replace BX := BX.keep hk
  clear hk q0 q1 q2
  obtain ⟨⟨q0, q1, q2⟩, _⟩ := cells3 BX w.heap.size _ _ _ _ (show (w.heap.size, DO true a z.length c ex) ∈ _ by simp)
  go_wp2_with fail
  replace BX := BX.push (DO true a z.length c ex)
  clear q0 q1 q2
  obtain ⟨⟨q0, q1, q2⟩, _⟩ := cells3 BX w.heap.size _ _ _ _ (show (w.heap.size, DO true a z.length c ex) ∈ _ by simp)
  refine ((HO _ _ (u.below BX.bel) (at3_of BX (.head _))).out).mono ?_
  rintro e v105 ⟨rfl, hk⟩
  replace BX := BX.keep hk
  clear hk q0 q1 q2
  obtain ⟨⟨q0, q1, q2⟩, _⟩ := cells3 BX w.heap.size _ _ _ _ (show (w.heap.size, DO true a z.length c ex) ∈ _ by simp)
  go_wp2_with fail
  refine ((HS _).out).mono ?_
  rintro e v106 ⟨rfl, hk⟩
  replace BX := BX.keep hk
  clear hk q0 q1 q2
  obtain ⟨⟨q0, q1, q2⟩, _⟩ := cells3 BX w.heap.size _ _ _ _ (show (w.heap.size, DO true a z.length c ex) ∈ _ by simp)
  go_wp2_with fail
  refine ((HR5 _ (u.below BX.bel).lie (hT.below BX.bel (Nat.le_refl _))).out).mono ?_
  rintro e v107 ⟨rfl, hk⟩
  replace BX := BX.keep hk
  clear hk q0 q1 q2
  obtain ⟨⟨q0, q1, q2⟩, _⟩ := cells3 BX w.heap.size _ _ _ _ (show (w.heap.size, DO true a z.length c ex) ∈ _ by simp)
  go_wp2_with fail
  refine ((HR4 _ (u.below BX.bel).lie (hT.below BX.bel (Nat.le_refl _))).out).mono ?_
  rintro e v108 ⟨rfl, hk⟩
  replace BX := BX.keep hk
  clear hk q0 q1 q2
  obtain ⟨⟨q0, q1, q2⟩, _⟩ := cells3 BX w.heap.size _ _ _ _ (show (w.heap.size, DO true a z.length c ex) ∈ _ by simp)
  go_wp2_with fail
  refine ((HR3 _ (u.below BX.bel).lie (hT.below BX.bel (Nat.le_refl _))).out).mono ?_
  rintro e v109 ⟨rfl, hk⟩
  replace BX := BX.keep hk
  clear hk q0 q1 q2
  obtain ⟨⟨q0, q1, q2⟩, _⟩ := cells3 BX w.heap.size _ _ _ _ (show (w.heap.size, DO true a z.length c ex) ∈ _ by simp)
  go_wp2_with fail
  refine ((HR0 _ (u.below BX.bel).lie (hT.below BX.bel (Nat.le_refl _))).out).mono ?_
  rintro e v110 ⟨rfl, hk⟩
  replace BX := BX.keep hk
  clear hk q0 q1 q2
  obtain ⟨⟨q0, q1, q2⟩, _⟩ := cells3 BX w.heap.size _ _ _ _ (show (w.heap.size, DO true a z.length c ex) ∈ _ by simp)
  go_wp2_with fail
  refine ((HU _ (u.below BX.bel).lie).out).mono ?_
  rintro e v111 ⟨rfl, hk⟩
  replace BX := BX.keep hk
  clear hk q0 q1 q2
  obtain ⟨⟨q0, q1, q2⟩, _⟩ := cells3 BX w.heap.size _ _ _ _ (show (w.heap.size, DO true a z.length c ex) ∈ _ by simp)
  go_wp2_with fail
  refine ((HV _ (u.below BX.bel).lie).out).mono ?_
  rintro e v112 ⟨rfl, hk⟩
  replace BX := BX.keep hk
  clear hk q0 q1 q2
  obtain ⟨⟨q0, q1, q2⟩, _⟩ := cells3 BX w.heap.size _ _ _ _ (show (w.heap.size, DO true a z.length c ex) ∈ _ by simp)
  go_wp2_with fail
  refine ((HP _).out).mono ?_
  rintro e v113 ⟨rfl, hk⟩
  replace BX := BX.keep hk
  clear hk q0 q1 q2
  obtain ⟨⟨q0, q1, q2⟩, _⟩ := cells3 BX w.heap.size _ _ _ _ (show (w.heap.size, DO true a z.length c ex) ∈ _ by simp)
  go_wp2_with fail
  refine (rSign b _).mono ?_
  rintro e v114 ⟨rfl, hk⟩
  replace BX := BX.keep hk
  clear hk q0 q1 q2
  obtain ⟨⟨q0, q1, q2⟩, _⟩ := cells3 BX w.heap.size _ _ _ _ (show (w.heap.size, DO true a z.length c ex) ∈ _ by simp)
  go_wp2_with fail
  refine ((HG _).out).mono ?_
  rintro e v115 ⟨rfl, hk⟩
  replace BX := BX.keep hk
  clear hk q0 q1 q2
  obtain ⟨⟨q0, q1, q2⟩, _⟩ := cells3 BX w.heap.size _ _ _ _ (show (w.heap.size, DO true a z.length c ex) ∈ _ by simp)
  go_wp2_with fail
  refine (lKnown4 _ (hT.below BX.bel (Nat.le_refl _))).mono ?_
  rintro e v116 ⟨rfl, hk⟩
  replace BX := BX.keep hk
  clear hk q0 q1 q2
  obtain ⟨⟨q0, q1, q2⟩, _⟩ := cells3 BX w.heap.size _ _ _ _ (show (w.heap.size, DO true a z.length c ex) ∈ _ by simp)
  go_wp2
  go_ret
  exact ⟨by first | rfl | simp, BX.bel⟩
end Go.Proofs.YtdnghibkagcbcaaGreatDoor
