import Derived.Test.YtdnghibkagcbcaaGreatDoorRoundBetweenPart15
namespace Go.Proofs.YtdnghibkagcbcaaGreatDoor
open Go.RowKit Go.Wd Go.Box
set_option linter.unusedVariables false
set_option maxRecDepth 3000
set_option maxHeartbeats 8000000 in
theorem rv_nCl (a : Option Addr) (c : Nat) (z : List Int) (ex m : Int) (b : Bool) (KO : ∀ W g, DLie W a z → At3 W g 0 true a z.length c ex → Calls Tryz.prog 16 #[.int .u8 (fm b), .int .u8 m, .slice (some ⟨g, 0, none⟩) 1 1] W fun e w' => e = .returned (.int .i64 0) ∧ Below W.heap.size W w') (s1 : Int) (hs1 : (s1 == 0) = false) (KS : ∀ W, Calls Tryz.prog 23 #[dV true a z.length c ex] W fun e w' => e = .returned (.int .i64 s1) ∧ Below W.heap.size W w') (L H X5 X4 X3 X0 : Int) (hlh : (L == H) = false) (hhl : (H == L) = false) (KR5 : ∀ W, Lie W a z → Tab W → Calls Tryz.prog 14 #[.int .u8 (fm b), .int .u8 5, dV true a z.length c ex] W fun e w' => e = .returned (.tuple #[.int .u64 L, .int .u8 X5, .int .i64 0]) ∧ Below W.heap.size W w') (KR4 : ∀ W, Lie W a z → Tab W → Calls Tryz.prog 14 #[.int .u8 (fm b), .int .u8 4, dV true a z.length c ex] W fun e w' => e = .returned (.tuple #[.int .u64 H, .int .u8 X4, .int .i64 0]) ∧ Below W.heap.size W w') (KR3 : ∀ W, Lie W a z → Tab W → Calls Tryz.prog 14 #[.int .u8 (fm b), .int .u8 3, dV true a z.length c ex] W fun e w' => e = .returned (.tuple #[.int .u64 H, .int .u8 X3, .int .i64 0]) ∧ Below W.heap.size W w') (KR0 : ∀ W, Lie W a z → Tab W → Calls Tryz.prog 14 #[.int .u8 (fm b), .int .u8 m, dV true a z.length c ex] W fun e w' => e = .returned (.tuple #[.int .u64 L, .int .u8 X0, .int .i64 0]) ∧ Below W.heap.size W w') (KU : ∀ W, Lie W a z → Calls Tryz.prog 27 #[.int .u8 (fm b), .int .u64 L, dV true a z.length c ex] W fun e w' => e = .returned (.bool true) ∧ Below W.heap.size W w') (KV : ∀ W, Lie W a z → Calls Tryz.prog 28 #[.int .u8 (fm b), .int .u64 H, dV true a z.length c ex] W fun e w' => e = .returned (.bool true) ∧ Below W.heap.size W w') (F5 : Inx X5) (F4 : Inx X4) (F0 : Inx X0) (KP : ∀ W, Calls Tryz.prog 29 #[.int .u8 (fm b), .int .u64 L] W fun e w' => e = .returned (.tuple #[.int .u64 H, .bool true]) ∧ Below W.heap.size W w') (hr : (L.tmod (sg b) == 0) = false) (KG : ∀ W, Calls Tryz.prog 31 #[.int .u8 (fm b), .int .u64 0, .bool true] W fun e w' => e = .returned (.int .u64 (sg b)) ∧ Below W.heap.size W w') (hHs : (H == sg b) = false) (hl : (z.length : Int) ≤ 300) (w : World) (u : DLie w a z) (hT : Tab w) :
    Calls Tryz.prog 6 #[.int .u8 (fm b), .int .u8 m, dV true a z.length c ex] w fun e w' => e = .returned (.bool true) ∧ Below w.heap.size w w' := by
  have HO := fun W g h1 h2 => Hide.mk (KO W g h1 h2)
  clear KO
  have HS := fun W => Hide.mk (KS W)
  clear KS
  have HR5 := fun W h1 h2 => Hide.mk (KR5 W h1 h2)
  have HR4 := fun W h1 h2 => Hide.mk (KR4 W h1 h2)
  have HR3 := fun W h1 h2 => Hide.mk (KR3 W h1 h2)
  have HR0 := fun W h1 h2 => Hide.mk (KR0 W h1 h2)
  have HU := fun W h1 => Hide.mk (KU W h1)
  have HV := fun W h1 => Hide.mk (KV W h1)
  clear KR5 KR4 KR3 KR0 KU KV
  have g5 := inx_bits F5
  have g4 := inx_bits F4
  have g0 := inx_bits F0
  clear F5 F4 F0
  have hLL : (L == L) = true := by simp
  have hHH : (H == H) = true := by simp
  have hsg : 0 < sg b := sg_pos b
  have hsg0 : (sg b == 0) = false := beq_eq_false_iff_ne.2 (by omega)
  have HP := fun W => Hide.mk (KP W)
  have HG := fun W => Hide.mk (KG W)
  clear KP KG
  have BX := (Bx.nil w).push (DO true a z.length c ex)
  obtain ⟨⟨q0, q1, q2⟩, _⟩ := cells3 BX w.heap.size _ _ _ _ (show (w.heap.size, DO true a z.length c ex) ∈ _ by simp)
  go_enter Tryz.func6, Tryz.ntmps6
  go_wp2_with fail
  refine (lLong4 true a z.length c ex _ false (decide_eq_false (by omega))).mono ?_
  rintro e v117 ⟨rfl, hk⟩
  replace BX := BX.keep hk
  clear hk q0 q1 q2
  obtain ⟨⟨q0, q1, q2⟩, _⟩ := cells3 BX w.heap.size _ _ _ _ (show (w.heap.size, DO true a z.length c ex) ∈ _ by simp)
  go_wp2_with fail
  replace BX := BX.push (DO true a z.length c ex)
  clear q0 q1 q2
  obtain ⟨⟨q0, q1, q2⟩, _⟩ := cells3 BX w.heap.size _ _ _ _ (show (w.heap.size, DO true a z.length c ex) ∈ _ by simp)
  refine ((HO _ _ (u.below BX.bel) (at3_of BX (.head _))).out).mono ?_
  rintro e v118 ⟨rfl, hk⟩
  replace BX := BX.keep hk
  clear hk q0 q1 q2
  obtain ⟨⟨q0, q1, q2⟩, _⟩ := cells3 BX w.heap.size _ _ _ _ (show (w.heap.size, DO true a z.length c ex) ∈ _ by simp)
  go_wp2_with fail
  refine ((HS _).out).mono ?_
  rintro e v119 ⟨rfl, hk⟩
  replace BX := BX.keep hk
  clear hk q0 q1 q2
  obtain ⟨⟨q0, q1, q2⟩, _⟩ := cells3 BX w.heap.size _ _ _ _ (show (w.heap.size, DO true a z.length c ex) ∈ _ by simp)
  go_wp2_with fail
  refine ((HR5 _ (u.below BX.bel).lie (hT.below BX.bel (Nat.le_refl _))).out).mono ?_
  rintro e v120 ⟨rfl, hk⟩
  replace BX := BX.keep hk
  clear hk q0 q1 q2
  obtain ⟨⟨q0, q1, q2⟩, _⟩ := cells3 BX w.heap.size _ _ _ _ (show (w.heap.size, DO true a z.length c ex) ∈ _ by simp)
  go_wp2_with fail
  refine ((HR4 _ (u.below BX.bel).lie (hT.below BX.bel (Nat.le_refl _))).out).mono ?_
  rintro e v121 ⟨rfl, hk⟩
  replace BX := BX.keep hk
  clear hk q0 q1 q2
  obtain ⟨⟨q0, q1, q2⟩, _⟩ := cells3 BX w.heap.size _ _ _ _ (show (w.heap.size, DO true a z.length c ex) ∈ _ by simp)
  go_wp2_with fail
  refine ((HR3 _ (u.below BX.bel).lie (hT.below BX.bel (Nat.le_refl _))).out).mono ?_
  rintro e v122 ⟨rfl, hk⟩
  replace BX := BX.keep hk
  clear hk q0 q1 q2
  obtain ⟨⟨q0, q1, q2⟩, _⟩ := cells3 BX w.heap.size _ _ _ _ (show (w.heap.size, DO true a z.length c ex) ∈ _ by simp)
  go_wp2_with fail
  refine ((HR0 _ (u.below BX.bel).lie (hT.below BX.bel (Nat.le_refl _))).out).mono ?_
  rintro e v123 ⟨rfl, hk⟩
  replace BX := BX.keep hk
  clear hk q0 q1 q2
  obtain ⟨⟨q0, q1, q2⟩, _⟩ := cells3 BX w.heap.size _ _ _ _ (show (w.heap.size, DO true a z.length c ex) ∈ _ by simp)
  go_wp2_with fail
  refine ((HU _ (u.below BX.bel).lie).out).mono ?_
  rintro e v124 ⟨rfl, hk⟩
  replace BX := BX.keep hk
  clear hk q0 q1 q2
  obtain ⟨⟨q0, q1, q2⟩, _⟩ := cells3 BX w.heap.size _ _ _ _ (show (w.heap.size, DO true a z.length c ex) ∈ _ by simp)
  go_wp2_with fail
  refine ((HV _ (u.below BX.bel).lie).out).mono ?_
  rintro e v125 ⟨rfl, hk⟩
  replace BX := BX.keep hk
  clear hk q0 q1 q2
  obtain ⟨⟨q0, q1, q2⟩, _⟩ := cells3 BX w.heap.size _ _ _ _ (show (w.heap.size, DO true a z.length c ex) ∈ _ by simp)
  go_wp2_with fail
  refine ((HP _).out).mono ?_
  rintro e v126 ⟨rfl, hk⟩
  replace BX := BX.keep hk
  clear hk q0 q1 q2
  obtain ⟨⟨q0, q1, q2⟩, _⟩ := cells3 BX w.heap.size _ _ _ _ (show (w.heap.size, DO true a z.length c ex) ∈ _ by simp)
  go_wp2_with fail
  refine (rSign b _).mono ?_
  rintro e v127 ⟨rfl, hk⟩
  replace BX := BX.keep hk
  clear hk q0 q1 q2
  obtain ⟨⟨q0, q1, q2⟩, _⟩ := cells3 BX w.heap.size _ _ _ _ (show (w.heap.size, DO true a z.length c ex) ∈ _ by simp)
  go_wp2_with fail
  refine ((HG _).out).mono ?_
  rintro e v128 ⟨rfl, hk⟩
  replace BX := BX.keep hk
  clear hk q0 q1 q2
  obtain ⟨⟨q0, q1, q2⟩, _⟩ := cells3 BX w.heap.size _ _ _ _ (show (w.heap.size, DO true a z.length c ex) ∈ _ by simp)
  go_wp2_with fail
  refine (lKnown4 _ (hT.below BX.bel (Nat.le_refl _))).mono ?_
  rintro e v129 ⟨rfl, hk⟩
  replace BX := BX.keep hk
  clear hk q0 q1 q2
  obtain ⟨⟨q0, q1, q2⟩, _⟩ := cells3 BX w.heap.size _ _ _ _ (show (w.heap.size, DO true a z.length c ex) ∈ _ by simp)
  go_wp2
  go_ret
  exact ⟨by first | rfl | simp, BX.bel⟩
set_option maxHeartbeats 8000000 in
theorem rv_nCh (a : Option Addr) (c : Nat) (z : List Int) (ex m : Int) (b : Bool) (KO : ∀ W g, DLie W a z → At3 W g 0 true a z.length c ex → Calls Tryz.prog 16 #[.int .u8 (fm b), .int .u8 m, .slice (some ⟨g, 0, none⟩) 1 1] W fun e w' => e = .returned (.int .i64 0) ∧ Below W.heap.size W w') (s1 : Int) (hs1 : (s1 == 0) = false) (KS : ∀ W, Calls Tryz.prog 23 #[dV true a z.length c ex] W fun e w' => e = .returned (.int .i64 s1) ∧ Below W.heap.size W w') (L H X5 X4 X3 X0 : Int) (hlh : (L == H) = false) (hhl : (H == L) = false) (KR5 : ∀ W, Lie W a z → Tab W → Calls Tryz.prog 14 #[.int .u8 (fm b), .int .u8 5, dV true a z.length c ex] W fun e w' => e = .returned (.tuple #[.int .u64 L, .int .u8 X5, .int .i64 0]) ∧ Below W.heap.size W w') (KR4 : ∀ W, Lie W a z → Tab W → Calls Tryz.prog 14 #[.int .u8 (fm b), .int .u8 4, dV true a z.length c ex] W fun e w' => e = .returned (.tuple #[.int .u64 H, .int .u8 X4, .int .i64 0]) ∧ Below W.heap.size W w') (KR3 : ∀ W, Lie W a z → Tab W → Calls Tryz.prog 14 #[.int .u8 (fm b), .int .u8 3, dV true a z.length c ex] W fun e w' => e = .returned (.tuple #[.int .u64 H, .int .u8 X3, .int .i64 0]) ∧ Below W.heap.size W w') (KR0 : ∀ W, Lie W a z → Tab W → Calls Tryz.prog 14 #[.int .u8 (fm b), .int .u8 m, dV true a z.length c ex] W fun e w' => e = .returned (.tuple #[.int .u64 H, .int .u8 X0, .int .i64 0]) ∧ Below W.heap.size W w') (KU : ∀ W, Lie W a z → Calls Tryz.prog 27 #[.int .u8 (fm b), .int .u64 L, dV true a z.length c ex] W fun e w' => e = .returned (.bool true) ∧ Below W.heap.size W w') (KV : ∀ W, Lie W a z → Calls Tryz.prog 28 #[.int .u8 (fm b), .int .u64 H, dV true a z.length c ex] W fun e w' => e = .returned (.bool true) ∧ Below W.heap.size W w') (F5 : Inx X5) (F4 : Inx X4) (F0 : Inx X0) (KP : ∀ W, Calls Tryz.prog 29 #[.int .u8 (fm b), .int .u64 L] W fun e w' => e = .returned (.tuple #[.int .u64 H, .bool true]) ∧ Below W.heap.size W w') (hr : (L.tmod (sg b) == 0) = false) (KG : ∀ W, Calls Tryz.prog 31 #[.int .u8 (fm b), .int .u64 0, .bool true] W fun e w' => e = .returned (.int .u64 (sg b)) ∧ Below W.heap.size W w') (hHs : (H == sg b) = false) (hl : (z.length : Int) ≤ 300) (w : World) (u : DLie w a z) (hT : Tab w) :
    Calls Tryz.prog 6 #[.int .u8 (fm b), .int .u8 m, dV true a z.length c ex] w fun e w' => e = .returned (.bool true) ∧ Below w.heap.size w w' := by
  have HO := fun W g h1 h2 => Hide.mk (KO W g h1 h2)
  clear KO
  have HS := fun W => Hide.mk (KS W)
  clear KS
  have HR5 := fun W h1 h2 => Hide.mk (KR5 W h1 h2)
  have HR4 := fun W h1 h2 => Hide.mk (KR4 W h1 h2)
  have HR3 := fun W h1 h2 => Hide.mk (KR3 W h1 h2)
  have HR0 := fun W h1 h2 => Hide.mk (KR0 W h1 h2)
  have HU := fun W h1 => Hide.mk (KU W h1)
  have HV := fun W h1 => Hide.mk (KV W h1)
  clear KR5 KR4 KR3 KR0 KU KV
  have g5 := inx_bits F5
  have g4 := inx_bits F4
  have g0 := inx_bits F0
  clear F5 F4 F0
  have hLL : (L == L) = true := by simp
  have hHH : (H == H) = true := by simp
  have hsg : 0 < sg b := sg_pos b
  have hsg0 : (sg b == 0) = false := beq_eq_false_iff_ne.2 (by omega)
  have HP := fun W => Hide.mk (KP W)
  have HG := fun W => Hide.mk (KG W)
  clear KP KG
  have BX := (Bx.nil w).push (DO true a z.length c ex)
  obtain ⟨⟨q0, q1, q2⟩, _⟩ := cells3 BX w.heap.size _ _ _ _ (show (w.heap.size, DO true a z.length c ex) ∈ _ by simp)
  go_enter Tryz.func6, Tryz.ntmps6
  go_wp2_with fail
  refine (lLong4 true a z.length c ex _ false (decide_eq_false (by omega))).mono ?_
  rintro e v130 ⟨rfl, hk⟩
  replace BX := BX.keep hk
  clear hk q0 q1 q2
  obtain ⟨⟨q0, q1, q2⟩, _⟩ := cells3 BX w.heap.size _ _ _ _ (show (w.heap.size, DO true a z.length c ex) ∈ _ by simp)
  go_wp2_with fail
  replace BX := BX.push (DO true a z.length c ex)
  clear q0 q1 q2
  obtain ⟨⟨q0, q1, q2⟩, _⟩ := cells3 BX w.heap.size _ _ _ _ (show (w.heap.size, DO true a z.length c ex) ∈ _ by simp)
  refine ((HO _ _ (u.below BX.bel) (at3_of BX (.head _))).out).mono ?_
  rintro e v131 ⟨rfl, hk⟩
  replace BX := BX.keep hk
  clear hk q0 q1 q2
  obtain ⟨⟨q0, q1, q2⟩, _⟩ := cells3 BX w.heap.size _ _ _ _ (show (w.heap.size, DO true a z.length c ex) ∈ _ by simp)
  go_wp2_with fail
  refine ((HS _).out).mono ?_
  rintro e v132 ⟨rfl, hk⟩
  replace BX := BX.keep hk
  clear hk q0 q1 q2
  obtain ⟨⟨q0, q1, q2⟩, _⟩ := cells3 BX w.heap.size _ _ _ _ (show (w.heap.size, DO true a z.length c ex) ∈ _ by simp)
  go_wp2_with fail
  refine ((HR5 _ (u.below BX.bel).lie (hT.below BX.bel (Nat.le_refl _))).out).mono ?_
  rintro e v133 ⟨rfl, hk⟩
  replace BX := BX.keep hk
  clear hk q0 q1 q2
  obtain ⟨⟨q0, q1, q2⟩, _⟩ := cells3 BX w.heap.size _ _ _ _ (show (w.heap.size, DO true a z.length c ex) ∈ _ by simp)
  go_wp2_with fail
  refine ((HR4 _ (u.below BX.bel).lie (hT.below BX.bel (Nat.le_refl _))).out).mono ?_
  rintro e v134 ⟨rfl, hk⟩
  replace BX := BX.keep hk
  clear hk q0 q1 q2
  obtain ⟨⟨q0, q1, q2⟩, _⟩ := cells3 BX w.heap.size _ _ _ _ (show (w.heap.size, DO true a z.length c ex) ∈ _ by simp)
  go_wp2_with fail
  refine ((HR3 _ (u.below BX.bel).lie (hT.below BX.bel (Nat.le_refl _))).out).mono ?_
  rintro e v135 ⟨rfl, hk⟩
  replace BX := BX.keep hk
  clear hk q0 q1 q2
  obtain ⟨⟨q0, q1, q2⟩, _⟩ := cells3 BX w.heap.size _ _ _ _ (show (w.heap.size, DO true a z.length c ex) ∈ _ by simp)
  go_wp2_with fail
  refine ((HR0 _ (u.below BX.bel).lie (hT.below BX.bel (Nat.le_refl _))).out).mono ?_
  rintro e v136 ⟨rfl, hk⟩
  replace BX := BX.keep hk
  clear hk q0 q1 q2
  obtain ⟨⟨q0, q1, q2⟩, _⟩ := cells3 BX w.heap.size _ _ _ _ (show (w.heap.size, DO true a z.length c ex) ∈ _ by simp)
  go_wp2_with fail
  refine ((HU _ (u.below BX.bel).lie).out).mono ?_
  rintro e v137 ⟨rfl, hk⟩
  replace BX := BX.keep hk
  clear hk q0 q1 q2
  obtain ⟨⟨q0, q1, q2⟩, _⟩ := cells3 BX w.heap.size _ _ _ _ (show (w.heap.size, DO true a z.length c ex) ∈ _ by simp)
  go_wp2_with fail
  refine ((HV _ (u.below BX.bel).lie).out).mono ?_
  rintro e v138 ⟨rfl, hk⟩
  replace BX := BX.keep hk
  clear hk q0 q1 q2
  obtain ⟨⟨q0, q1, q2⟩, _⟩ := cells3 BX w.heap.size _ _ _ _ (show (w.heap.size, DO true a z.length c ex) ∈ _ by simp)
  go_wp2_with fail
  refine ((HP _).out).mono ?_
  rintro e v139 ⟨rfl, hk⟩
  replace BX := BX.keep hk
  clear hk q0 q1 q2
  obtain ⟨⟨q0, q1, q2⟩, _⟩ := cells3 BX w.heap.size _ _ _ _ (show (w.heap.size, DO true a z.length c ex) ∈ _ by simp)
  go_wp2_with fail
  refine (rSign b _).mono ?_
  rintro e v140 ⟨rfl, hk⟩
  replace BX := BX.keep hk
  clear hk q0 q1 q2
  obtain ⟨⟨q0, q1, q2⟩, _⟩ := cells3 BX w.heap.size _ _ _ _ (show (w.heap.size, DO true a z.length c ex) ∈ _ by simp)
  go_wp2_with fail
  refine ((HG _).out).mono ?_
  rintro e v141 ⟨rfl, hk⟩
  replace BX := BX.keep hk
  clear hk q0 q1 q2
  obtain ⟨⟨q0, q1, q2⟩, _⟩ := cells3 BX w.heap.size _ _ _ _ (show (w.heap.size, DO true a z.length c ex) ∈ _ by simp)
  go_wp2_with fail
  refine (lKnown4 _ (hT.below BX.bel (Nat.le_refl _))).mono ?_
  rintro e v142 ⟨rfl, hk⟩
  replace BX := BX.keep hk
  clear hk q0 q1 q2
  obtain ⟨⟨q0, q1, q2⟩, _⟩ := cells3 BX w.heap.size _ _ _ _ (show (w.heap.size, DO true a z.length c ex) ∈ _ by simp)
  go_wp2
  go_ret
  exact ⟨by first | rfl | simp, BX.bel⟩
end Go.Proofs.YtdnghibkagcbcaaGreatDoor

namespace Go.Proofs.YtdnghibkagcbcaaGreatDoor
open Go.RowKit Go.Wd Go.Box
set_option linter.unusedVariables false
set_option maxRecDepth 3000
/-- The two sizes that a number lies between. -/
def fa (b : Bool) (f : Int) : Int := if inf b ≤ f then inf b - 1 else f
def fb (b : Bool) (f p : Int) : Int := if p = 0 then (if inf b ≤ f then inf b else f) else if inf b ≤ f + 1 then inf b else f + 1
theorem cap_in (b : Bool) {m : Int} (hm : Mode m) (n : Bool) {f p : Int} (h1 : 0 ≤ p) (h2 : p ≤ 3) : wcap b m n (tkf m n f p) = fa b f ∨ wcap b m n (tkf m n f p) = fb b f p := by
  unfold wcap tkf fa fb
  by_cases c : p = 0
  · simp only [if_pos c]
    by_cases d : inf b ≤ f
    · simp only [if_pos d]; split <;> simp
    · simp only [if_neg d]; simp
  · simp only [if_neg c]
    by_cases t : outw m n (decide (f % 2 = 1)) p = true
    · simp only [if_pos t]
      by_cases d : inf b ≤ f + 1
      · simp only [if_pos d]
        by_cases d2 : inf b ≤ f
        · simp only [if_pos d2]; split <;> simp
        · simp only [if_neg d2]
          by_cases t3 : outw m n false 3 = true
          · simp [if_pos t3]
          · simp only [if_neg t3]
            exact .inl (by omega)
      · simp [if_neg d]
    · simp only [if_neg t]
      by_cases d2 : inf b ≤ f
      · simp only [if_pos d2, if_pos (show inf b ≤ f + 1 by omega)]; split <;> simp
      · simp only [if_neg d2]; simp
theorem cap_low (b : Bool) {m : Int} {n : Bool} (h : (m = 3) ∨ (m = 5 ∧ n = false) ∨ (m = 4 ∧ n = true)) (f p : Int) : wcap b m n (tkf m n f p) = fa b f := by
  have ho : ∀ o q, outw m n o q = false := by
    intro o q
    rcases h with rfl | ⟨rfl, rfl⟩ | ⟨rfl, rfl⟩ <;> simp [outw]
  unfold wcap tkf fa
  simp only [ho]
  split <;> simp
theorem cap_high (b : Bool) {m : Int} {n : Bool} (h : (m = 4 ∧ n = false) ∨ (m = 5 ∧ n = true)) (f p : Int) : wcap b m n (tkf m n f p) = fb b f p := by
  have ho : ∀ o q, outw m n o q = true := by
    intro o q
    rcases h with ⟨rfl, rfl⟩ | ⟨rfl, rfl⟩ <;> simp [outw]
  unfold wcap tkf fb
  by_cases c : p = 0
  · simp [ho, c]
  · simp [ho, c]
theorem fa_fb (b : Bool) {f p : Int} (h0 : 0 ≤ f) : 0 ≤ fa b f ∧ fa b f < inf b ∧ fb b f p ≤ inf b ∧ (fa b f = fb b f p ∧ p = 0 ∧ f < inf b ∨ fb b f p = fa b f + 1 ∧ ¬ (p = 0 ∧ f < inf b)) := by
  have := inf_bd b
  unfold fa fb
  split <;> split <;> (try split) <;> omega
theorem Sits.fa_le {b : Bool} {M f p : Int} (S : Sits b M f p) : vz b (fa b f) ≤ M := by
  have h0 := S.nn
  have h1 := S.le
  have h2 := inf_bd b
  unfold fa
  split
  · have := vz_mono b (s := inf b - 1) (t := f) (by omega) (by omega)
    omega
  · exact h1
theorem Sits.fb_ge {b : Bool} {M f p : Int} (S : Sits b M f p) (h : fb b f p ≠ inf b) : M ≤ vz b (fb b f p) := by
  have h1 := S.cs
  have h2 := S.lt
  unfold fb at *
  split at h
  · rename_i c
    rw [if_pos c]
    split at h
    · exact absurd rfl h
    · rename_i d
      rw [if_neg d]; omega
  · rename_i c
    rw [if_neg c]
    split at h
    · exact absurd rfl h
    · rename_i d
      rw [if_neg d]; omega
theorem cl_inf (b : Bool) {s : Int} (n : Bool) (h0 : 0 ≤ s) (h1 : s < sg b) : cl b (sd b s n) = 4 ↔ s = inf b := by
  have hp := sg_pos b
  have h2 : sz b (sd b s n) = s := by
    unfold sz sd
    cases n
    · exact Int.emod_eq_of_lt h0 h1
    · rw [if_pos rfl, Int.add_emod_right]; exact Int.emod_eq_of_lt h0 h1
  rw [(cl_cases b _).2, h2]
/-- RoundBetween, whatever it is called with. -/
theorem rv_any (f m : Int) (n : Bool) (a : Option Addr) (c : Nat) (z : List Int) (ex : Int) (w : World) (u : DLie w a z) (hT : Tab w) :
    Calls Tryz.prog 6 #[.int .u8 f, .int .u8 m, dV n a z.length c ex] w fun e w' => e = .returned (.bool true) ∧ Below w.heap.size w w' := by
  by_cases hl : (300 : Int) < (z.length : Int)
  · exact rv_long n a c z ex m f hl w u hT
  · have hl2 : (z.length : Int) ≤ 300 := by omega
    rcases fm_or_bad f with ⟨b, rfl⟩ | hf
    · by_cases hm : Mode m
      · cases hq : dmayB n z ex with
        | false => exact rv_open n a c z ex m (fm b) _ rfl (fun W g h1 h2 => lOpens1_no b m hm g n a c z ex W h1 hq h2) hl2 w u hT
        | true =>
          have g := DG.of u.rng hq
          have KO : ∀ W g, DLie W a z → At3 W g 0 n a z.length c ex → Calls Tryz.prog 16 #[.int .u8 (fm b), .int .u8 m, .slice (some ⟨g, 0, none⟩) 1 1] W fun e w' => e = .returned (.int .i64 0) ∧ Below W.heap.size W w' := fun W g h1 h2 => lOpens1 b m hm g n a c z ex W h1 hq h2
          by_cases hz : 0 < z.length
          · obtain ⟨B, hB, hB2⟩ := val_bits g
            have hp := g.pos hz
            have hx := g.ex_bd
            have hK := KK_int
            have hi := inf_lt b
            have hib := inf_bd b
            have hsp := sg_pos b
            obtain ⟨F, p, S, hW, hX⟩ := rd_sits b hp hB (ex := ex) (by omega)
            have N : DN n z ex (sv n (Nt.val z * pK ex)) := ⟨g, by unfold dv; cases n <;> simp only [sv_t, sv_f, Int.neg_mul]⟩
            have KR : ∀ m', Mode m' → ∀ W, Lie W a z → Tab W → Calls Tryz.prog 14 #[.int .u8 (fm b), .int .u8 m', dV n a z.length c ex] W fun e w' => e = .returned (.tuple #[.int .u64 (sd b (wcap b m' n (tkf m' n F p)) n), .int .u8 (rdX b m' n (B + ex) (qf (Nt.val z) 1 (ex + 1 - ulp b (B + ex))) (qg (Nt.val z) 1 (ex + 1 - ulp b (B + ex))) (qf (Nt.val z) 1 (ex + 1 - (B + ex - pr b))) (qg (Nt.val z) 1 (ex + 1 - (B + ex - pr b)))), .int .i64 0]) ∧ Below W.heap.size W w' := fun m' hm' W h1 h2 => by
              have := pRound b m' hm' n a c z ex (B + ex) W h1 g hz h2 hB hB2 rfl rfl rfl rfl rfl
              rw [hW m' n] at this
              exact this
            have m3 : Mode 3 := .inr (.inr (.inl rfl))
            have m4 : Mode 4 := .inr (.inr (.inr (.inl rfl)))
            have m5 : Mode 5 := .inr (.inr (.inr (.inr rfl)))
            have pb := S.p_bd
            have nn := S.nn
            obtain ⟨a0, a1, a2, a3⟩ := fa_fb b (p := p) nn
            have va := S.fa_le
            have vb := S.fb_ge
            have M0 : 0 ≤ Nt.val z * pK ex := Int.mul_nonneg (by omega) (Int.le_of_lt (pK_pos ex))
            have FX : fb b F p = fa b F + 1 → ∀ m', Inx (rdX b m' n (B + ex) (qf (Nt.val z) 1 (ex + 1 - ulp b (B + ex))) (qg (Nt.val z) 1 (ex + 1 - ulp b (B + ex))) (qf (Nt.val z) 1 (ex + 1 - (B + ex - pr b))) (qg (Nt.val z) 1 (ex + 1 - (B + ex - pr b)))) := fun q m' => by
              obtain ⟨x1, x2, x3⟩ := hX m' n (qf (Nt.val z) 1 (ex + 1 - (B + ex - pr b))) (qg (Nt.val z) 1 (ex + 1 - (B + ex - pr b)))
              have tb := tkf_bd m' n F p
              by_cases o : inf b ≤ tkf m' n F p
              · exact .inr (.inl (x1 o))
              · by_cases o2 : p = 0
                · exfalso; omega
                · rcases x3 (by omega) o2 with h | h
                  · exact .inr (.inr h)
                  · exact .inl h
            have FZ : fa b F = fb b F p → ∀ m', rdX b m' n (B + ex) (qf (Nt.val z) 1 (ex + 1 - ulp b (B + ex))) (qg (Nt.val z) 1 (ex + 1 - ulp b (B + ex))) (qf (Nt.val z) 1 (ex + 1 - (B + ex - pr b))) (qg (Nt.val z) 1 (ex + 1 - (B + ex - pr b))) = 0 := fun q m' => by
              obtain ⟨x1, x2, x3⟩ := hX m' n (qf (Nt.val z) 1 (ex + 1 - (B + ex - pr b))) (qg (Nt.val z) 1 (ex + 1 - (B + ex - pr b)))
              have q2 : p = 0 ∧ F < inf b := by omega
              refine x2 ?_ q2.1
              unfold tkf
              rw [if_pos q2.1]
              exact q2.2
            have KUa : ∀ W, Lie W a z → (n = false → Calls Tryz.prog 27 #[.int .u8 (fm b), .int .u64 (sd b (fa b F) n), dV n a z.length c ex] W fun e w' => e = .returned (.bool true) ∧ Below W.heap.size W w') ∧ (n = true → Calls Tryz.prog 28 #[.int .u8 (fm b), .int .u64 (sd b (fa b F) n), dV n a z.length c ex] W fun e w' => e = .returned (.bool true) ∧ Below W.heap.size W w') := by
              intro W l
              have hc : (cl b (sd b (fa b F) n) == 4) = false := beq_eq_false_iff_ne.2 (fun q => by have := (cl_inf b n a0 (by omega)).1 q; omega)
              constructor
              · rintro rfl
                refine lUnder_fin b _ (sd_ok b _ a0 (by omega)) _ a c z ex _ hc N _ rfl ?_ W l
                rw [wv_sd b a0 (by omega), sv_f, sv_f]
                unfold sgn; split <;> (try split) <;> omega
              · rintro rfl
                refine lOver_fin b _ (sd_ok b _ a0 (by omega)) _ a c z ex _ hc N _ rfl ?_ W l
                rw [wv_sd b a0 (by omega), sv_t, sv_t]
                unfold sgn; split <;> (try split) <;> omega
            have KUb : ∀ W, Lie W a z → (n = false → Calls Tryz.prog 28 #[.int .u8 (fm b), .int .u64 (sd b (fb b F p) n), dV n a z.length c ex] W fun e w' => e = .returned (.bool true) ∧ Below W.heap.size W w') ∧ (n = true → Calls Tryz.prog 27 #[.int .u8 (fm b), .int .u64 (sd b (fb b F p) n), dV n a z.length c ex] W fun e w' => e = .returned (.bool true) ∧ Below W.heap.size W w') := by
              intro W l
              have b0 : 0 ≤ fb b F p := by omega
              by_cases q : fb b F p = inf b
              · have hc : (cl b (sd b (fb b F p) n) == 4) = true := beq_iff_eq.2 ((cl_inf b n b0 (by omega)).2 q)
                constructor
                · rintro rfl
                  exact lOver_inf b _ (sd_ok b _ b0 (by omega)) _ a c z ex hc (by rw [q]; simp) W
                · rintro rfl
                  exact lUnder_inf b _ (sd_ok b _ b0 (by omega)) _ a c z ex hc (by rw [q]; simp) W
              · have hc : (cl b (sd b (fb b F p) n) == 4) = false := beq_eq_false_iff_ne.2 (fun q2 => q ((cl_inf b n b0 (by omega)).1 q2))
                have vb := vb q
                constructor
                · rintro rfl
                  refine lOver_fin b _ (sd_ok b _ b0 (by omega)) _ a c z ex _ hc N _ rfl ?_ W l
                  rw [wv_sd b b0 (by omega), sv_f, sv_f]
                  unfold sgn; split <;> (try split) <;> omega
                · rintro rfl
                  refine lUnder_fin b _ (sd_ok b _ b0 (by omega)) _ a c z ex _ hc N _ rfl ?_ W l
                  rw [wv_sd b b0 (by omega), sv_t, sv_t]
                  unfold sgn; split <;> (try split) <;> omega
            obtain ⟨s1, hs1, KS⟩ : ∃ s1 : Int, (s1 == 0) = false ∧ ∀ W, Calls Tryz.prog 23 #[dV n a z.length c ex] W fun e w' => e = .returned (.int .i64 s1) ∧ Below W.heap.size W w' := by
              cases n
              · exact ⟨1, rfl, fun W => rSgnAny false a c z.length ex 1 (.inr (.inl ⟨hz, rfl, rfl⟩)) W⟩
              · exact ⟨-1, rfl, fun W => rSgnAny true a c z.length ex (-1) (.inr (.inr ⟨hz, rfl, rfl⟩)) W⟩
            have KG : ∀ W, Calls Tryz.prog 31 #[.int .u8 (fm b), .int .u64 0, .bool true] W fun e w' => e = .returned (.int .u64 (sg b)) ∧ Below W.heap.size W w' := fun W => by
              have := rSignedP b 0 true ⟨by omega, by omega⟩ W
              rw [show sz b 0 = 0 by cases b <;> rfl, show sd b 0 true = sg b by unfold sd; simp] at this
              exact this
            have R5 := KR 5 m5
            have R4 := KR 4 m4
            have R3 := KR 3 m3
            have R0 := KR m hm
            rw [cap_low b (.inl rfl)] at R3
            have hin := cap_in b hm n (f := F) pb.1 pb.2
            generalize hgm : wcap b m n (tkf m n F p) = Q at *
            rcases a3 with ⟨e1, e2⟩ | ⟨e1, e2⟩
            · have hQ : Q = fa b F := by omega
              have hZ := FZ e1
              simp only [hZ] at R5 R4 R3 R0
              rw [hQ] at R0
              rw [← e1] at KUb
              cases n
              · rw [cap_low b (.inr (.inl ⟨rfl, rfl⟩))] at R5
                rw [cap_high b (.inl ⟨rfl, rfl⟩), ← e1] at R4
                exact rv_same false a c z ex m b KO s1 hs1 KS _ 0 R5 R4 R3 R0 (fun W l => (KUa W l).1 rfl) (fun W l => (KUb W l).1 rfl) hl2 w u hT
              · rw [cap_high b (.inr ⟨rfl, rfl⟩), ← e1] at R5
                rw [cap_low b (.inr (.inr ⟨rfl, rfl⟩))] at R4
                exact rv_same true a c z ex m b KO s1 hs1 KS _ 0 R5 R4 R3 R0 (fun W l => (KUb W l).2 rfl) (fun W l => (KUa W l).2 rfl) hl2 w u hT
            · have hI := FX e1
              have FF5 := hI 5
              have FF4 := hI 4
              have FF0 := hI m
              have b0 : 0 ≤ fb b F p := by omega
              have oa := sd_ok b n a0 (show fa b F < sg b by omega)
              have ob := sd_ok b n b0 (show fb b F p < sg b by omega)
              have hne : (sd b (fa b F) n == sd b (fb b F p) n) = false := beq_eq_false_iff_ne.2 (fun q => by have := ((sd_inj b a0 (by omega) b0 (by omega)).1 q).1; omega)
              have hne2 : (sd b (fb b F p) n == sd b (fa b F) n) = false := beq_eq_false_iff_ne.2 (fun q => by have := ((sd_inj b b0 (by omega) a0 (by omega)).1 q).1; omega)
              have ta := sd_tmod b a0 (show fa b F < sg b by omega) n
              have tb := sd_tmod b b0 (show fb b F p < sg b by omega) n
              cases n
              · rw [cap_low b (.inr (.inl ⟨rfl, rfl⟩))] at R5
                rw [cap_high b (.inl ⟨rfl, rfl⟩)] at R4
                have KU1 := fun W l => (KUa W l).1 rfl
                have KU2 := fun W l => (KUb W l).1 rfl
                have sf : ∀ s : Int, sd b s false = s := fun s => rfl
                by_cases q0 : fa b F = 0
                · have hr : ((sd b (fa b F) false).tmod (sg b) == 0) = true := beq_iff_eq.2 (by rw [ta, q0])
                  have h1s : ((1 : Int) == sg b) = false := beq_eq_false_iff_ne.2 (by have := sg_one b; omega)
                  have h1H : ((1 : Int) == sd b (fb b F p) false) = true := beq_iff_eq.2 (by rw [sf]; omega)
                  rcases hin with hQ | hQ
                  · rw [hQ] at R0
                    exact rv_pAl a c z ex m b KO s1 hs1 KS _ _ _ _ _ _ hne hne2 R5 R4 R3 R0 KU1 KU2 FF5 FF4 FF0 _ _ (rUp b _ oa) hr KG h1s h1H hl2 w u hT
                  · rw [hQ] at R0
                    exact rv_pAh a c z ex m b KO s1 hs1 KS _ _ _ _ _ _ hne hne2 R5 R4 R3 R0 KU1 KU2 FF5 FF4 FF0 _ _ (rUp b _ oa) hr KG h1s h1H hl2 w u hT
                · have hr : ((sd b (fa b F) false).tmod (sg b) == 0) = false := beq_eq_false_iff_ne.2 (by rw [ta]; exact q0)
                  have hHs : (sd b (fb b F p) false == sg b) = false := beq_eq_false_iff_ne.2 (by rw [sf]; omega)
                  have hs : sz b (sd b (fa b F) false) = fa b F := sz_pos oa (by rw [sf]; omega)
                  have hup : upx b (sd b (fa b F) false) = (sd b (fb b F p) false, 0) := by
                    unfold upx
                    rw [hs, if_neg (by omega), if_neg (by rw [sf]; omega)]
                    unfold up
                    rw [hs, if_neg q0, if_neg (by rw [sf]; omega), sf, sf, e1]
                  have KP := rUp b _ oa
                  rw [hup] at KP
                  rcases hin with hQ | hQ
                  · rw [hQ] at R0
                    exact rv_pBl a c z ex m b KO s1 hs1 KS _ _ _ _ _ _ hne hne2 R5 R4 R3 R0 KU1 KU2 FF5 FF4 FF0 KP hr KG hHs hl2 w u hT
                  · rw [hQ] at R0
                    exact rv_pBh a c z ex m b KO s1 hs1 KS _ _ _ _ _ _ hne hne2 R5 R4 R3 R0 KU1 KU2 FF5 FF4 FF0 KP hr KG hHs hl2 w u hT
              · rw [cap_high b (.inr ⟨rfl, rfl⟩)] at R5
                rw [cap_low b (.inr (.inr ⟨rfl, rfl⟩))] at R4
                have KU1 := fun W l => (KUb W l).2 rfl
                have KU2 := fun W l => (KUa W l).2 rfl
                have st : ∀ s : Int, sd b s true = s + sg b := fun s => rfl
                have hr : ((sd b (fb b F p) true).tmod (sg b) == 0) = false := beq_eq_false_iff_ne.2 (by rw [tb]; omega)
                have hs : sz b (sd b (fb b F p) true) = fb b F p := by rw [sz_neg ob (by rw [st]; omega), st]; omega
                have hup : upx b (sd b (fb b F p) true) = (sd b (fa b F) true, 0) := by
                  unfold upx
                  rw [hs, if_neg (by omega), if_neg (by rw [st]; omega)]
                  unfold up
                  rw [hs, if_neg (by omega), if_pos (by rw [st]; omega), st, st, e1]
                  congr 1
                  omega
                have KP := rUp b _ ob
                rw [hup] at KP
                by_cases q0 : fa b F = 0
                · have hHs : (sd b (fa b F) true == sg b) = true := beq_iff_eq.2 (by rw [st, q0]; omega)
                  have hH0 : (sd b (fa b F) true == 0) = false := beq_eq_false_iff_ne.2 (by rw [st]; omega)
                  rcases hin with hQ | hQ
                  · rw [hQ] at R0
                    exact rv_nBh a c z ex m b KO s1 hs1 KS _ _ _ _ _ _ hne2 hne R5 R4 R3 R0 KU1 KU2 FF5 FF4 FF0 KP hr KG hHs hH0 hl2 w u hT
                  · rw [hQ] at R0
                    exact rv_nBl a c z ex m b KO s1 hs1 KS _ _ _ _ _ _ hne2 hne R5 R4 R3 R0 KU1 KU2 FF5 FF4 FF0 KP hr KG hHs hH0 hl2 w u hT
                · have hHs : (sd b (fa b F) true == sg b) = false := beq_eq_false_iff_ne.2 (by rw [st]; omega)
                  rcases hin with hQ | hQ
                  · rw [hQ] at R0
                    exact rv_nCh a c z ex m b KO s1 hs1 KS _ _ _ _ _ _ hne2 hne R5 R4 R3 R0 KU1 KU2 FF5 FF4 FF0 KP hr KG hHs hl2 w u hT
                  · rw [hQ] at R0
                    exact rv_nCl a c z ex m b KO s1 hs1 KS _ _ _ _ _ _ hne2 hne R5 R4 R3 R0 KU1 KU2 FF5 FF4 FF0 KP hr KG hHs hl2 w u hT
          · obtain ⟨h1, h2, h3⟩ := g.nil (by omega)
            exact rv_zero n a c z ex m b KO (fun W => rSgnAny n a c z.length ex 0 (.inl ⟨by rw [h1]; rfl, rfl⟩) W) hl2 w u hT
      · exact rv_open n a c z ex m (fm b) 5 rfl (fun W g _ _ => lOpens_bad (fm b) m 5 _ (.inr ⟨b, rfl, .inl ⟨hm, rfl⟩⟩) rfl W) hl2 w u hT
    · exact rv_open n a c z ex m f 4 rfl (fun W g _ _ => lOpens_bad f m 4 _ (.inl ⟨hf, rfl⟩) rfl W) hl2 w u hT
end Go.Proofs.YtdnghibkagcbcaaGreatDoor
