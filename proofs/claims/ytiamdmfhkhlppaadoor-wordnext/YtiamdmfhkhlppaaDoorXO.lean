import Derived.Test.YtiamdmfhkhlppaaDoorXN
namespace Go.Proofs.YtiamdmfhkhlppaaDoor
open Go.RowKit Go.Wd Go.Box
set_option linter.unusedVariables false
set_option maxRecDepth 3000
theorem sameN (n1 n2 : Bool) (a1 a2 : Option Addr) (c1 c2 : Nat) (z1 z2 : List Int) (e1 e2 u v : Int) (w : World) (N1 : DN n1 z1 e1 u) (N2 : DN n2 z2 e2 v) (l1 : Lie w a1 z1) (l2 : Lie w a2 z2) (q : Bool) (hq : decide (u = v) = q) :
    Calls Tryd.prog 28 #[dV n1 a1 z1.length c1 e1, dV n2 a2 z2.length c2 e2] w fun e w' => e = .returned (.bool q) ∧ Below w.heap.size w w' := by
  refine dsame40 n1 n2 a1 a2 c1 c2 z1 z2 e1 e2 w (N1.dg.lie l1) (N2.dg.lie l2) q ?_
  rw [← hq]
  by_cases h : u = v
  · rw [decide_eq_true h]; exact decide_eq_true (N1.same N2 h)
  · rw [decide_eq_false h]; exact decide_eq_false (fun e => h (N1.inj N2 e))
theorem wv_db (b : Bool) (x : Int) : DB (KK - 1074) (KK + 2054) (wv b x) := by
  have hu := un_bd b x
  have hx := ue_bd b x
  exact db_small hu.1 hu.2 hx.1 hx.2
theorem zero_ok (b : Bool) : Ok b 0 := ⟨by omega, by have := sg_pos b; omega⟩
theorem nan_ok (b : Bool) : Ok b (nan b) := by unfold Ok; cases b <;> decide
theorem zero_fin (b : Bool) : sz b 0 < inf b := by cases b <;> decide
theorem m4h (K : Nat) (h : K = 16777216) : K + 2054 + 1 ≤ K - 1074 + 131072 ∧ K + 2054 + 1 ≤ 2 * K := by omega
set_option maxHeartbeats 4000000 in
theorem next_bad4 (f x y : Int) (h : GE f x 4) (h2 : VE f 0 4) (w : World) (hT : Tab w) :
    Calls Tryd.prog 9 #[.int .u8 f, .int .u64 x, .int .u64 y] w fun e w' => e = .returned (.bool true) ∧ Below w.heap.size w w' := by
  have BX := Bx.nil w
  go_enter Tryd.func9, Tryd.ntmps9
  go_wp2_with fail
  refine (wValue_err f x 4 (.inl h) _).mono ?_
  rintro e u1 ⟨rfl, k1⟩
  replace BX := BX.keep k1
  clear k1
  replace BX := BX.push (DO false none 0 0 0)
  go_wp2_with fail
  generalize hw1 : u1.alloc (DO false none 0 0 0) = v1 at *
  clear hw1
  refine (wUp_err f x 4 h _).mono ?_
  rintro e k1w ⟨rfl, k1⟩
  replace BX := BX.keep k1
  clear k1
  clear h
  go_wp2_with fail
  refine (wValue_err f 0 4 h2 _).mono ?_
  rintro e u3 ⟨rfl, k3⟩
  replace BX := BX.keep k3
  clear k3
  replace BX := BX.push (DO false none 0 0 0)
  go_wp2_with fail
  generalize hw3 : u3.alloc (DO false none 0 0 0) = v3 at *
  clear hw3
  refine (lKnown _).mono ?_
  rintro e k2w ⟨rfl, k2⟩
  replace BX := BX.keep k2
  clear k2
  go_wp2
  go_ret
  exact ⟨rfl, BX.bel⟩
set_option maxHeartbeats 4000000 in
theorem next_bad6 (f x y : Int) (b : Bool) (hb : f = fm b) (h : GE f x 6) (w : World) (hT : Tab w) :
    Calls Tryd.prog 9 #[.int .u8 f, .int .u64 x, .int .u64 y] w fun e w' => e = .returned (.bool true) ∧ Below w.heap.size w w' := by
  have BX := Bx.nil w
  subst hb
  go_enter Tryd.func9, Tryd.ntmps9
  go_wp2_with fail
  refine (wValue_err (fm b) x 6 (.inl h) _).mono ?_
  rintro e u1 ⟨rfl, k1⟩
  replace BX := BX.keep k1
  clear k1
  replace BX := BX.push (DO false none 0 0 0)
  go_wp2_with fail
  generalize hw1 : u1.alloc (DO false none 0 0 0) = v1 at *
  clear hw1
  refine (wUp_err (fm b) x 6 h _).mono ?_
  rintro e k1w ⟨rfl, k1⟩
  replace BX := BX.keep k1
  clear k1
  clear h
  go_wp2_with fail
  refine (wValue b 0 (zero_ok b) (zero_fin b) _ (hT.below BX.bel (Nat.le_refl _))).mono ?_
  rintro e u3 ⟨n3, z3, x3, a3, c3, rfl, d3⟩
  replace BX := BX.keep d3.bel
  have l3 := d3.lie
  have N3 := Hide.mk d3.num
  clear d3
  replace BX := BX.push (DO n3 a3 z3.length c3 x3)
  replace l3 := l3.below (below_alloc u3 (DO n3 a3 z3.length c3 x3)) (Nat.le_refl _)
  go_wp2_with fail
  generalize hw3 : u3.alloc (DO n3 a3 z3.length c3 x3) = v3 at *
  clear hw3
  refine (lKnown _).mono ?_
  rintro e k2w ⟨rfl, k2⟩
  replace BX := BX.keep k2
  replace l3 := l3.below k2 (Nat.le_refl _)
  clear k2
  go_wp2
  go_ret
  exact ⟨rfl, BX.bel⟩
set_option maxHeartbeats 4000000 in
theorem next_inf (b : Bool) (x y : Int) (h : Ok b x) (hf : inf b ≤ sz b x) (u : Int) (c : Int) (hu : upx b x = (u, c)) (hv : VE (fm b) u 7) (w : World) (hT : Tab w) :
    Calls Tryd.prog 9 #[.int .u8 (fm b), .int .u64 x, .int .u64 y] w fun e w' => e = .returned (.bool true) ∧ Below w.heap.size w w' := by
  have BX := Bx.nil w
  have HU := fun w => Hide.mk (wUp b x h w)
  rw [hu] at HU
  go_enter Tryd.func9, Tryd.ntmps9
  go_wp2_with fail
  refine (wValue_err (fm b) x 7 (.inr ⟨b, rfl, h, hf, rfl⟩) _).mono ?_
  rintro e u1 ⟨rfl, k1⟩
  replace BX := BX.keep k1
  clear k1
  replace BX := BX.push (DO false none 0 0 0)
  go_wp2_with fail
  generalize hw1 : u1.alloc (DO false none 0 0 0) = v1 at *
  clear hw1
  refine ((HU _).out).mono ?_
  rintro e k1w ⟨rfl, k1⟩
  replace BX := BX.keep k1
  clear k1
  clear HU hu
  go_wp2_with fail
  refine (wValue_err (fm b) u 7 hv _).mono ?_
  rintro e u3 ⟨rfl, k3⟩
  replace BX := BX.keep k3
  clear k3
  replace BX := BX.push (DO false none 0 0 0)
  go_wp2_with fail
  generalize hw3 : u3.alloc (DO false none 0 0 0) = v3 at *
  clear hw3
  refine (lKnown _).mono ?_
  rintro e k2w ⟨rfl, k2⟩
  replace BX := BX.keep k2
  clear k2
  go_wp2
  go_ret
  exact ⟨rfl, BX.bel⟩
set_option maxHeartbeats 4000000 in
theorem next_infF (b : Bool) (x y : Int) (h : Ok b x) (hf : inf b ≤ sz b x) (u : Int) (c : Int) (hu : upx b x = (u, c)) (ho : Ok b u) (hv : sz b u < inf b) (w : World) (hT : Tab w) :
    Calls Tryd.prog 9 #[.int .u8 (fm b), .int .u64 x, .int .u64 y] w fun e w' => e = .returned (.bool true) ∧ Below w.heap.size w w' := by
  have BX := Bx.nil w
  have HU := fun w => Hide.mk (wUp b x h w)
  rw [hu] at HU
  go_enter Tryd.func9, Tryd.ntmps9
  go_wp2_with fail
  refine (wValue_err (fm b) x 7 (.inr ⟨b, rfl, h, hf, rfl⟩) _).mono ?_
  rintro e u1 ⟨rfl, k1⟩
  replace BX := BX.keep k1
  clear k1
  replace BX := BX.push (DO false none 0 0 0)
  go_wp2_with fail
  generalize hw1 : u1.alloc (DO false none 0 0 0) = v1 at *
  clear hw1
  refine ((HU _).out).mono ?_
  rintro e k1w ⟨rfl, k1⟩
  replace BX := BX.keep k1
  clear k1
  clear HU hu
  go_wp2_with fail
  refine (wValue b u ho hv _ (hT.below BX.bel (Nat.le_refl _))).mono ?_
  rintro e u3 ⟨n3, z3, x3, a3, c3, rfl, d3⟩
  replace BX := BX.keep d3.bel
  have l3 := d3.lie
  have N3 := Hide.mk d3.num
  clear d3
  replace BX := BX.push (DO n3 a3 z3.length c3 x3)
  replace l3 := l3.below (below_alloc u3 (DO n3 a3 z3.length c3 x3)) (Nat.le_refl _)
  go_wp2_with fail
  generalize hw3 : u3.alloc (DO n3 a3 z3.length c3 x3) = v3 at *
  clear hw3
  refine (lKnown _).mono ?_
  rintro e k2w ⟨rfl, k2⟩
  replace BX := BX.keep k2
  replace l3 := l3.below k2 (Nat.le_refl _)
  clear k2
  go_wp2
  go_ret
  exact ⟨rfl, BX.bel⟩
set_option maxHeartbeats 4000000 in
theorem next_top (b : Bool) (x y : Int) (h : Ok b x) (hf : sz b x < inf b) (u : Int) (hu : upx b x = (u, 0)) (hv : VE (fm b) u 7) (w : World) (hT : Tab w) :
    Calls Tryd.prog 9 #[.int .u8 (fm b), .int .u64 x, .int .u64 y] w fun e w' => e = .returned (.bool true) ∧ Below w.heap.size w w' := by
  have BX := Bx.nil w
  have HU := fun w => Hide.mk (wUp b x h w)
  rw [hu] at HU
  go_enter Tryd.func9, Tryd.ntmps9
  go_wp2_with fail
  refine (wValue b x h hf _ (hT.below BX.bel (Nat.le_refl _))).mono ?_
  rintro e u1 ⟨n1, z1, x1, a1, c1, rfl, d1⟩
  replace BX := BX.keep d1.bel
  have l1 := d1.lie
  have N1 := Hide.mk d1.num
  clear d1
  replace BX := BX.push (DO n1 a1 z1.length c1 x1)
  replace l1 := l1.below (below_alloc u1 (DO n1 a1 z1.length c1 x1)) (Nat.le_refl _)
  go_wp2_with fail
  generalize hw1 : u1.alloc (DO n1 a1 z1.length c1 x1) = v1 at *
  clear hw1
  refine ((HU _).out).mono ?_
  rintro e k1w ⟨rfl, k1⟩
  replace BX := BX.keep k1
  replace l1 := l1.below k1 (Nat.le_refl _)
  clear k1
  clear HU hu
  go_wp2_with fail
  refine (wValue_err (fm b) u 7 hv _).mono ?_
  rintro e u3 ⟨rfl, k3⟩
  replace BX := BX.keep k3
  replace l1 := l1.below k3 (Nat.le_refl _)
  clear k3
  replace BX := BX.push (DO false none 0 0 0)
  replace l1 := l1.below (below_alloc u3 (DO false none 0 0 0)) (Nat.le_refl _)
  go_wp2_with fail
  generalize hw3 : u3.alloc (DO false none 0 0 0) = v3 at *
  clear hw3
  refine (lKnown _).mono ?_
  rintro e k2w ⟨rfl, k2⟩
  replace BX := BX.keep k2
  replace l1 := l1.below k2 (Nat.le_refl _)
  clear k2
  go_wp2
  go_ret
  exact ⟨rfl, BX.bel⟩
set_option maxHeartbeats 4000000 in
theorem next_one_err6 (b : Bool) (x y : Int) (h : Ok b x) (hf : sz b x < inf b) (u d : Int) (hu : upx b x = (u, 0)) (ho : Ok b u) (hv : sz b u < inf b) (hd : dnx b u = (d, 0)) (hdo : Ok b d) (hdf : sz b d < inf b) (hback : wv b d = wv b x) (hgt : wv b x < wv b u) (hr : wv b u - wv b x = pK (ue b x)) (hy : VE (fm b) y 6)  (w : World) (hT : Tab w) :
    Calls Tryd.prog 9 #[.int .u8 (fm b), .int .u64 x, .int .u64 y] w fun e w' => e = .returned (.bool true) ∧ Below w.heap.size w w' := by
  have BX := Bx.nil w
  have HU := fun w => Hide.mk (wUp b x h w)
  rw [hu] at HU
  have HD := fun w => Hide.mk (wDown b u ho w)
  rw [hd] at HD
  clear hu hd
  go_enter Tryd.func9, Tryd.ntmps9
  go_wp2_with fail
  refine (wValue b x h hf _ (hT.below BX.bel (Nat.le_refl _))).mono ?_
  rintro e u1 ⟨n1, z1, x1, a1, c1, rfl, d1⟩
  replace BX := BX.keep d1.bel
  have l1 := d1.lie
  have N1 := Hide.mk d1.num
  clear d1
  replace BX := BX.push (DO n1 a1 z1.length c1 x1)
  replace l1 := l1.below (below_alloc u1 (DO n1 a1 z1.length c1 x1)) (Nat.le_refl _)
  go_wp2_with fail
  generalize hw1 : u1.alloc (DO n1 a1 z1.length c1 x1) = v1 at *
  clear hw1
  refine ((HU _).out).mono ?_
  rintro e k1w ⟨rfl, k1⟩
  replace BX := BX.keep k1
  replace l1 := l1.below k1 (Nat.le_refl _)
  clear k1
  clear HU
  go_wp2_with fail
  refine (wValue b u ho hv _ (hT.below BX.bel (Nat.le_refl _))).mono ?_
  rintro e u3 ⟨n3, z3, x3, a3, c3, rfl, d3⟩
  replace BX := BX.keep d3.bel
  replace l1 := l1.below d3.bel (Nat.le_refl _)
  have l3 := d3.lie
  have N3 := Hide.mk d3.num
  clear d3
  replace BX := BX.push (DO n3 a3 z3.length c3 x3)
  replace l1 := l1.below (below_alloc u3 (DO n3 a3 z3.length c3 x3)) (Nat.le_refl _)
  replace l3 := l3.below (below_alloc u3 (DO n3 a3 z3.length c3 x3)) (Nat.le_refl _)
  go_wp2_with fail
  generalize hw3 : u3.alloc (DO n3 a3 z3.length c3 x3) = v3 at *
  clear hw3
  refine ((HD _).out).mono ?_
  rintro e k2w ⟨rfl, k2⟩
  replace BX := BX.keep k2
  replace l1 := l1.below k2 (Nat.le_refl _)
  replace l3 := l3.below k2 (Nat.le_refl _)
  clear k2
  clear HD
  go_wp2_with fail
  refine (wValue b d hdo hdf _ (hT.below BX.bel (Nat.le_refl _))).mono ?_
  rintro e u7 ⟨n7, z7, x7, a7, c7, rfl, d7⟩
  replace BX := BX.keep d7.bel
  replace l1 := l1.below d7.bel (Nat.le_refl _)
  replace l3 := l3.below d7.bel (Nat.le_refl _)
  have l7 := d7.lie
  have N7 := Hide.mk d7.num
  clear d7
  replace BX := BX.push (DO n7 a7 z7.length c7 x7)
  replace l1 := l1.below (below_alloc u7 (DO n7 a7 z7.length c7 x7)) (Nat.le_refl _)
  replace l3 := l3.below (below_alloc u7 (DO n7 a7 z7.length c7 x7)) (Nat.le_refl _)
  replace l7 := l7.below (below_alloc u7 (DO n7 a7 z7.length c7 x7)) (Nat.le_refl _)
  go_wp2_with fail
  generalize hw7 : u7.alloc (DO n7 a7 z7.length c7 x7) = v7 at *
  clear hw7
  refine (wUnit b x h hf _ (hT.below BX.bel (Nat.le_refl _))).mono ?_
  rintro e u8 ⟨n8, z8, x8, a8, c8, rfl, d8⟩
  replace BX := BX.keep d8.bel
  replace l1 := l1.below d8.bel (Nat.le_refl _)
  replace l3 := l3.below d8.bel (Nat.le_refl _)
  replace l7 := l7.below d8.bel (Nat.le_refl _)
  have l8 := d8.lie
  have N8 := Hide.mk d8.num
  clear d8
  replace BX := BX.push (DO n8 a8 z8.length c8 x8)
  replace l1 := l1.below (below_alloc u8 (DO n8 a8 z8.length c8 x8)) (Nat.le_refl _)
  replace l3 := l3.below (below_alloc u8 (DO n8 a8 z8.length c8 x8)) (Nat.le_refl _)
  replace l7 := l7.below (below_alloc u8 (DO n8 a8 z8.length c8 x8)) (Nat.le_refl _)
  replace l8 := l8.below (below_alloc u8 (DO n8 a8 z8.length c8 x8)) (Nat.le_refl _)
  go_wp2_with fail
  generalize hw8 : u8.alloc (DO n8 a8 z8.length c8 x8) = v8 at *
  clear hw8
  refine (wUnit b u ho hv _ (hT.below BX.bel (Nat.le_refl _))).mono ?_
  rintro e u9 ⟨n9, z9, x9, a9, c9, rfl, d9⟩
  replace BX := BX.keep d9.bel
  replace l1 := l1.below d9.bel (Nat.le_refl _)
  replace l3 := l3.below d9.bel (Nat.le_refl _)
  replace l7 := l7.below d9.bel (Nat.le_refl _)
  replace l8 := l8.below d9.bel (Nat.le_refl _)
  have l9 := d9.lie
  have N9 := Hide.mk d9.num
  clear d9
  replace BX := BX.push (DO n9 a9 z9.length c9 x9)
  replace l1 := l1.below (below_alloc u9 (DO n9 a9 z9.length c9 x9)) (Nat.le_refl _)
  replace l3 := l3.below (below_alloc u9 (DO n9 a9 z9.length c9 x9)) (Nat.le_refl _)
  replace l7 := l7.below (below_alloc u9 (DO n9 a9 z9.length c9 x9)) (Nat.le_refl _)
  replace l8 := l8.below (below_alloc u9 (DO n9 a9 z9.length c9 x9)) (Nat.le_refl _)
  replace l9 := l9.below (below_alloc u9 (DO n9 a9 z9.length c9 x9)) (Nat.le_refl _)
  obtain ⟨⟨f70, f71, f72⟩, _⟩ := cells3 BX u7.heap.size _ _ _ _ (show (u7.heap.size, DO n7 a7 z7.length c7 x7) ∈ _ by simp)
  obtain ⟨⟨f10, f11, f12⟩, _⟩ := cells3 BX u1.heap.size _ _ _ _ (show (u1.heap.size, DO n1 a1 z1.length c1 x1) ∈ _ by simp)
  obtain ⟨⟨f30, f31, f32⟩, _⟩ := cells3 BX u3.heap.size _ _ _ _ (show (u3.heap.size, DO n3 a3 z3.length c3 x3) ∈ _ by simp)
  go_wp2_with fail
  generalize hw9 : u9.alloc (DO n9 a9 z9.length c9 x9) = v9 at *
  clear hw9
  refine (sameN n7 n1 a7 a1 c7 c1 z7 z1 x7 x1 _ _ _ N7.out N1.out l7 l1 true (decide_eq_true hback)).mono ?_
  rintro e k3w ⟨rfl, k3⟩
  replace BX := BX.keep k3
  replace l1 := l1.below k3 (Nat.le_refl _)
  replace l3 := l3.below k3 (Nat.le_refl _)
  replace l7 := l7.below k3 (Nat.le_refl _)
  replace l8 := l8.below k3 (Nat.le_refl _)
  replace l9 := l9.below k3 (Nat.le_refl _)
  clear k3
  clear l7 N7
  obtain ⟨⟨f30, f31, f32⟩, _⟩ := cells3 BX u3.heap.size _ _ _ _ (show (u3.heap.size, DO n3 a3 z3.length c3 x3) ∈ _ by simp)
  obtain ⟨⟨f10, f11, f12⟩, _⟩ := cells3 BX u1.heap.size _ _ _ _ (show (u1.heap.size, DO n1 a1 z1.length c1 x1) ∈ _ by simp)
  go_wp2_with fail
  refine (cmpX n3 n1 a3 a1 c3 c1 z3 z1 x3 x1 _ l3 l1 N3.out N1.out 1 (sgn_is2 hgt)).mono ?_
  rintro e k4w ⟨rfl, k4⟩
  replace BX := BX.keep k4
  replace l1 := l1.below k4 (Nat.le_refl _)
  replace l3 := l3.below k4 (Nat.le_refl _)
  replace l8 := l8.below k4 (Nat.le_refl _)
  replace l9 := l9.below k4 (Nat.le_refl _)
  clear k4
  obtain ⟨⟨f30, f31, f32⟩, _⟩ := cells3 BX u3.heap.size _ _ _ _ (show (u3.heap.size, DO n3 a3 z3.length c3 x3) ∈ _ by simp)
  obtain ⟨⟨f10, f11, f12⟩, _⟩ := cells3 BX u1.heap.size _ _ _ _ (show (u1.heap.size, DO n1 a1 z1.length c1 x1) ∈ _ by simp)
  go_wp2_with fail
  refine (subD n3 n1 a3 a1 c3 c1 z3 z1 x3 x1 _ l3 l1 N3.out N1.out (wv_db b u) (wv_db b x) (m4h KK KK_eq).1 (m4h KK KK_eq).2).mono ?_
  rintro e uS ⟨nS, zS, xS, aS, cS, rfl, NS0, lS, kS⟩
  have NS := Hide.mk NS0
  clear NS0
  replace BX := BX.keep kS
  replace l1 := l1.below kS (Nat.le_refl _)
  replace l3 := l3.below kS (Nat.le_refl _)
  replace l8 := l8.below kS (Nat.le_refl _)
  replace l9 := l9.below kS (Nat.le_refl _)
  clear kS
  replace BX := BX.push (DO nS aS zS.length cS xS)
  replace l1 := l1.below (below_alloc uS (DO nS aS zS.length cS xS)) (Nat.le_refl _)
  replace l3 := l3.below (below_alloc uS (DO nS aS zS.length cS xS)) (Nat.le_refl _)
  replace l8 := l8.below (below_alloc uS (DO nS aS zS.length cS xS)) (Nat.le_refl _)
  replace l9 := l9.below (below_alloc uS (DO nS aS zS.length cS xS)) (Nat.le_refl _)
  replace lS := lS.below (below_alloc uS (DO nS aS zS.length cS xS)) (Nat.le_refl _)
  obtain ⟨⟨fS0, fS1, fS2⟩, _⟩ := cells3 BX uS.heap.size _ _ _ _ (show (uS.heap.size, DO nS aS zS.length cS xS) ∈ _ by simp)
  obtain ⟨⟨f80, f81, f82⟩, _⟩ := cells3 BX u8.heap.size _ _ _ _ (show (u8.heap.size, DO n8 a8 z8.length c8 x8) ∈ _ by simp)
  obtain ⟨⟨f90, f91, f92⟩, _⟩ := cells3 BX u9.heap.size _ _ _ _ (show (u9.heap.size, DO n9 a9 z9.length c9 x9) ∈ _ by simp)
  go_wp2_with fail
  generalize hwS : uS.alloc (DO nS aS zS.length cS xS) = vS at *
  clear hwS
  refine (sameN nS n8 aS a8 cS c8 zS z8 xS x8 _ _ _ NS.out N8.out lS l8 true (decide_eq_true hr)).mono ?_
  rintro e k5w ⟨rfl, k5⟩
  replace BX := BX.keep k5
  replace l1 := l1.below k5 (Nat.le_refl _)
  replace l3 := l3.below k5 (Nat.le_refl _)
  replace l8 := l8.below k5 (Nat.le_refl _)
  replace l9 := l9.below k5 (Nat.le_refl _)
  replace lS := lS.below k5 (Nat.le_refl _)
  clear k5
  clear l8 N8 l9 N9 lS NS
  go_wp2_with fail
  refine (wValue_err (fm b) y 6 hy _).mono ?_
  rintro e uY ⟨rfl, kY⟩
  replace BX := BX.keep kY
  replace l1 := l1.below kY (Nat.le_refl _)
  replace l3 := l3.below kY (Nat.le_refl _)
  clear kY
  replace BX := BX.push (DO false none 0 0 0)
  replace l1 := l1.below (below_alloc uY (DO false none 0 0 0)) (Nat.le_refl _)
  replace l3 := l3.below (below_alloc uY (DO false none 0 0 0)) (Nat.le_refl _)
  go_wp2_with fail
  generalize hwY : uY.alloc (DO false none 0 0 0) = vY at *
  clear hwY
  refine (lKnown _).mono ?_
  rintro e k6w ⟨rfl, k6⟩
  replace BX := BX.keep k6
  replace l1 := l1.below k6 (Nat.le_refl _)
  replace l3 := l3.below k6 (Nat.le_refl _)
  clear k6
  go_wp2
  go_ret
  exact ⟨rfl, BX.bel⟩
set_option maxHeartbeats 4000000 in
theorem next_one_err7 (b : Bool) (x y : Int) (h : Ok b x) (hf : sz b x < inf b) (u d : Int) (hu : upx b x = (u, 0)) (ho : Ok b u) (hv : sz b u < inf b) (hd : dnx b u = (d, 0)) (hdo : Ok b d) (hdf : sz b d < inf b) (hback : wv b d = wv b x) (hgt : wv b x < wv b u) (hr : wv b u - wv b x = pK (ue b x)) (hy : VE (fm b) y 7)  (w : World) (hT : Tab w) :
    Calls Tryd.prog 9 #[.int .u8 (fm b), .int .u64 x, .int .u64 y] w fun e w' => e = .returned (.bool true) ∧ Below w.heap.size w w' := by
  have BX := Bx.nil w
  have HU := fun w => Hide.mk (wUp b x h w)
  rw [hu] at HU
  have HD := fun w => Hide.mk (wDown b u ho w)
  rw [hd] at HD
  clear hu hd
  go_enter Tryd.func9, Tryd.ntmps9
  go_wp2_with fail
  refine (wValue b x h hf _ (hT.below BX.bel (Nat.le_refl _))).mono ?_
  rintro e u1 ⟨n1, z1, x1, a1, c1, rfl, d1⟩
  replace BX := BX.keep d1.bel
  have l1 := d1.lie
  have N1 := Hide.mk d1.num
  clear d1
  replace BX := BX.push (DO n1 a1 z1.length c1 x1)
  replace l1 := l1.below (below_alloc u1 (DO n1 a1 z1.length c1 x1)) (Nat.le_refl _)
  go_wp2_with fail
  generalize hw1 : u1.alloc (DO n1 a1 z1.length c1 x1) = v1 at *
  clear hw1
  refine ((HU _).out).mono ?_
  rintro e k1w ⟨rfl, k1⟩
  replace BX := BX.keep k1
  replace l1 := l1.below k1 (Nat.le_refl _)
  clear k1
  clear HU
  go_wp2_with fail
  refine (wValue b u ho hv _ (hT.below BX.bel (Nat.le_refl _))).mono ?_
  rintro e u3 ⟨n3, z3, x3, a3, c3, rfl, d3⟩
  replace BX := BX.keep d3.bel
  replace l1 := l1.below d3.bel (Nat.le_refl _)
  have l3 := d3.lie
  have N3 := Hide.mk d3.num
  clear d3
  replace BX := BX.push (DO n3 a3 z3.length c3 x3)
  replace l1 := l1.below (below_alloc u3 (DO n3 a3 z3.length c3 x3)) (Nat.le_refl _)
  replace l3 := l3.below (below_alloc u3 (DO n3 a3 z3.length c3 x3)) (Nat.le_refl _)
  go_wp2_with fail
  generalize hw3 : u3.alloc (DO n3 a3 z3.length c3 x3) = v3 at *
  clear hw3
  refine ((HD _).out).mono ?_
  rintro e k2w ⟨rfl, k2⟩
  replace BX := BX.keep k2
  replace l1 := l1.below k2 (Nat.le_refl _)
  replace l3 := l3.below k2 (Nat.le_refl _)
  clear k2
  clear HD
  go_wp2_with fail
  refine (wValue b d hdo hdf _ (hT.below BX.bel (Nat.le_refl _))).mono ?_
  rintro e u7 ⟨n7, z7, x7, a7, c7, rfl, d7⟩
  replace BX := BX.keep d7.bel
  replace l1 := l1.below d7.bel (Nat.le_refl _)
  replace l3 := l3.below d7.bel (Nat.le_refl _)
  have l7 := d7.lie
  have N7 := Hide.mk d7.num
  clear d7
  replace BX := BX.push (DO n7 a7 z7.length c7 x7)
  replace l1 := l1.below (below_alloc u7 (DO n7 a7 z7.length c7 x7)) (Nat.le_refl _)
  replace l3 := l3.below (below_alloc u7 (DO n7 a7 z7.length c7 x7)) (Nat.le_refl _)
  replace l7 := l7.below (below_alloc u7 (DO n7 a7 z7.length c7 x7)) (Nat.le_refl _)
  go_wp2_with fail
  generalize hw7 : u7.alloc (DO n7 a7 z7.length c7 x7) = v7 at *
  clear hw7
  refine (wUnit b x h hf _ (hT.below BX.bel (Nat.le_refl _))).mono ?_
  rintro e u8 ⟨n8, z8, x8, a8, c8, rfl, d8⟩
  replace BX := BX.keep d8.bel
  replace l1 := l1.below d8.bel (Nat.le_refl _)
  replace l3 := l3.below d8.bel (Nat.le_refl _)
  replace l7 := l7.below d8.bel (Nat.le_refl _)
  have l8 := d8.lie
  have N8 := Hide.mk d8.num
  clear d8
  replace BX := BX.push (DO n8 a8 z8.length c8 x8)
  replace l1 := l1.below (below_alloc u8 (DO n8 a8 z8.length c8 x8)) (Nat.le_refl _)
  replace l3 := l3.below (below_alloc u8 (DO n8 a8 z8.length c8 x8)) (Nat.le_refl _)
  replace l7 := l7.below (below_alloc u8 (DO n8 a8 z8.length c8 x8)) (Nat.le_refl _)
  replace l8 := l8.below (below_alloc u8 (DO n8 a8 z8.length c8 x8)) (Nat.le_refl _)
  go_wp2_with fail
  generalize hw8 : u8.alloc (DO n8 a8 z8.length c8 x8) = v8 at *
  clear hw8
  refine (wUnit b u ho hv _ (hT.below BX.bel (Nat.le_refl _))).mono ?_
  rintro e u9 ⟨n9, z9, x9, a9, c9, rfl, d9⟩
  replace BX := BX.keep d9.bel
  replace l1 := l1.below d9.bel (Nat.le_refl _)
  replace l3 := l3.below d9.bel (Nat.le_refl _)
  replace l7 := l7.below d9.bel (Nat.le_refl _)
  replace l8 := l8.below d9.bel (Nat.le_refl _)
  have l9 := d9.lie
  have N9 := Hide.mk d9.num
  clear d9
  replace BX := BX.push (DO n9 a9 z9.length c9 x9)
  replace l1 := l1.below (below_alloc u9 (DO n9 a9 z9.length c9 x9)) (Nat.le_refl _)
  replace l3 := l3.below (below_alloc u9 (DO n9 a9 z9.length c9 x9)) (Nat.le_refl _)
  replace l7 := l7.below (below_alloc u9 (DO n9 a9 z9.length c9 x9)) (Nat.le_refl _)
  replace l8 := l8.below (below_alloc u9 (DO n9 a9 z9.length c9 x9)) (Nat.le_refl _)
  replace l9 := l9.below (below_alloc u9 (DO n9 a9 z9.length c9 x9)) (Nat.le_refl _)
  obtain ⟨⟨f70, f71, f72⟩, _⟩ := cells3 BX u7.heap.size _ _ _ _ (show (u7.heap.size, DO n7 a7 z7.length c7 x7) ∈ _ by simp)
  obtain ⟨⟨f10, f11, f12⟩, _⟩ := cells3 BX u1.heap.size _ _ _ _ (show (u1.heap.size, DO n1 a1 z1.length c1 x1) ∈ _ by simp)
  obtain ⟨⟨f30, f31, f32⟩, _⟩ := cells3 BX u3.heap.size _ _ _ _ (show (u3.heap.size, DO n3 a3 z3.length c3 x3) ∈ _ by simp)
  go_wp2_with fail
  generalize hw9 : u9.alloc (DO n9 a9 z9.length c9 x9) = v9 at *
  clear hw9
  refine (sameN n7 n1 a7 a1 c7 c1 z7 z1 x7 x1 _ _ _ N7.out N1.out l7 l1 true (decide_eq_true hback)).mono ?_
  rintro e k3w ⟨rfl, k3⟩
  replace BX := BX.keep k3
  replace l1 := l1.below k3 (Nat.le_refl _)
  replace l3 := l3.below k3 (Nat.le_refl _)
  replace l7 := l7.below k3 (Nat.le_refl _)
  replace l8 := l8.below k3 (Nat.le_refl _)
  replace l9 := l9.below k3 (Nat.le_refl _)
  clear k3
  clear l7 N7
  obtain ⟨⟨f30, f31, f32⟩, _⟩ := cells3 BX u3.heap.size _ _ _ _ (show (u3.heap.size, DO n3 a3 z3.length c3 x3) ∈ _ by simp)
  obtain ⟨⟨f10, f11, f12⟩, _⟩ := cells3 BX u1.heap.size _ _ _ _ (show (u1.heap.size, DO n1 a1 z1.length c1 x1) ∈ _ by simp)
  go_wp2_with fail
  refine (cmpX n3 n1 a3 a1 c3 c1 z3 z1 x3 x1 _ l3 l1 N3.out N1.out 1 (sgn_is2 hgt)).mono ?_
  rintro e k4w ⟨rfl, k4⟩
  replace BX := BX.keep k4
  replace l1 := l1.below k4 (Nat.le_refl _)
  replace l3 := l3.below k4 (Nat.le_refl _)
  replace l8 := l8.below k4 (Nat.le_refl _)
  replace l9 := l9.below k4 (Nat.le_refl _)
  clear k4
  obtain ⟨⟨f30, f31, f32⟩, _⟩ := cells3 BX u3.heap.size _ _ _ _ (show (u3.heap.size, DO n3 a3 z3.length c3 x3) ∈ _ by simp)
  obtain ⟨⟨f10, f11, f12⟩, _⟩ := cells3 BX u1.heap.size _ _ _ _ (show (u1.heap.size, DO n1 a1 z1.length c1 x1) ∈ _ by simp)
  go_wp2_with fail
  refine (subD n3 n1 a3 a1 c3 c1 z3 z1 x3 x1 _ l3 l1 N3.out N1.out (wv_db b u) (wv_db b x) (m4h KK KK_eq).1 (m4h KK KK_eq).2).mono ?_
  rintro e uS ⟨nS, zS, xS, aS, cS, rfl, NS0, lS, kS⟩
  have NS := Hide.mk NS0
  clear NS0
  replace BX := BX.keep kS
  replace l1 := l1.below kS (Nat.le_refl _)
  replace l3 := l3.below kS (Nat.le_refl _)
  replace l8 := l8.below kS (Nat.le_refl _)
  replace l9 := l9.below kS (Nat.le_refl _)
  clear kS
  replace BX := BX.push (DO nS aS zS.length cS xS)
  replace l1 := l1.below (below_alloc uS (DO nS aS zS.length cS xS)) (Nat.le_refl _)
  replace l3 := l3.below (below_alloc uS (DO nS aS zS.length cS xS)) (Nat.le_refl _)
  replace l8 := l8.below (below_alloc uS (DO nS aS zS.length cS xS)) (Nat.le_refl _)
  replace l9 := l9.below (below_alloc uS (DO nS aS zS.length cS xS)) (Nat.le_refl _)
  replace lS := lS.below (below_alloc uS (DO nS aS zS.length cS xS)) (Nat.le_refl _)
  obtain ⟨⟨fS0, fS1, fS2⟩, _⟩ := cells3 BX uS.heap.size _ _ _ _ (show (uS.heap.size, DO nS aS zS.length cS xS) ∈ _ by simp)
  obtain ⟨⟨f80, f81, f82⟩, _⟩ := cells3 BX u8.heap.size _ _ _ _ (show (u8.heap.size, DO n8 a8 z8.length c8 x8) ∈ _ by simp)
  obtain ⟨⟨f90, f91, f92⟩, _⟩ := cells3 BX u9.heap.size _ _ _ _ (show (u9.heap.size, DO n9 a9 z9.length c9 x9) ∈ _ by simp)
  go_wp2_with fail
  generalize hwS : uS.alloc (DO nS aS zS.length cS xS) = vS at *
  clear hwS
  refine (sameN nS n8 aS a8 cS c8 zS z8 xS x8 _ _ _ NS.out N8.out lS l8 true (decide_eq_true hr)).mono ?_
  rintro e k5w ⟨rfl, k5⟩
  replace BX := BX.keep k5
  replace l1 := l1.below k5 (Nat.le_refl _)
  replace l3 := l3.below k5 (Nat.le_refl _)
  replace l8 := l8.below k5 (Nat.le_refl _)
  replace l9 := l9.below k5 (Nat.le_refl _)
  replace lS := lS.below k5 (Nat.le_refl _)
  clear k5
  clear l8 N8 l9 N9 lS NS
  go_wp2_with fail
  refine (wValue_err (fm b) y 7 hy _).mono ?_
  rintro e uY ⟨rfl, kY⟩
  replace BX := BX.keep kY
  replace l1 := l1.below kY (Nat.le_refl _)
  replace l3 := l3.below kY (Nat.le_refl _)
  clear kY
  replace BX := BX.push (DO false none 0 0 0)
  replace l1 := l1.below (below_alloc uY (DO false none 0 0 0)) (Nat.le_refl _)
  replace l3 := l3.below (below_alloc uY (DO false none 0 0 0)) (Nat.le_refl _)
  go_wp2_with fail
  generalize hwY : uY.alloc (DO false none 0 0 0) = vY at *
  clear hwY
  refine (lKnown _).mono ?_
  rintro e k6w ⟨rfl, k6⟩
  replace BX := BX.keep k6
  replace l1 := l1.below k6 (Nat.le_refl _)
  replace l3 := l3.below k6 (Nat.le_refl _)
  clear k6
  go_wp2
  go_ret
  exact ⟨rfl, BX.bel⟩
set_option maxHeartbeats 4000000 in
theorem next_one_ltm (b : Bool) (x y : Int) (h : Ok b x) (hf : sz b x < inf b) (u d : Int) (hu : upx b x = (u, 0)) (ho : Ok b u) (hv : sz b u < inf b) (hd : dnx b u = (d, 0)) (hdo : Ok b d) (hdf : sz b d < inf b) (hback : wv b d = wv b x) (hgt : wv b x < wv b u) (hr : wv b u - wv b x = pK (ue b x)) (oy : Ok b y) (fy : sz b y < inf b) (hy : sgn (wv b y) (wv b x) = (-1))  (w : World) (hT : Tab w) :
    Calls Tryd.prog 9 #[.int .u8 (fm b), .int .u64 x, .int .u64 y] w fun e w' => e = .returned (.bool true) ∧ Below w.heap.size w w' := by
  have BX := Bx.nil w
  have HU := fun w => Hide.mk (wUp b x h w)
  rw [hu] at HU
  have HD := fun w => Hide.mk (wDown b u ho w)
  rw [hd] at HD
  clear hu hd
  go_enter Tryd.func9, Tryd.ntmps9
  go_wp2_with fail
  refine (wValue b x h hf _ (hT.below BX.bel (Nat.le_refl _))).mono ?_
  rintro e u1 ⟨n1, z1, x1, a1, c1, rfl, d1⟩
  replace BX := BX.keep d1.bel
  have l1 := d1.lie
  have N1 := Hide.mk d1.num
  clear d1
  replace BX := BX.push (DO n1 a1 z1.length c1 x1)
  replace l1 := l1.below (below_alloc u1 (DO n1 a1 z1.length c1 x1)) (Nat.le_refl _)
  go_wp2_with fail
  generalize hw1 : u1.alloc (DO n1 a1 z1.length c1 x1) = v1 at *
  clear hw1
  refine ((HU _).out).mono ?_
  rintro e k1w ⟨rfl, k1⟩
  replace BX := BX.keep k1
  replace l1 := l1.below k1 (Nat.le_refl _)
  clear k1
  clear HU
  go_wp2_with fail
  refine (wValue b u ho hv _ (hT.below BX.bel (Nat.le_refl _))).mono ?_
  rintro e u3 ⟨n3, z3, x3, a3, c3, rfl, d3⟩
  replace BX := BX.keep d3.bel
  replace l1 := l1.below d3.bel (Nat.le_refl _)
  have l3 := d3.lie
  have N3 := Hide.mk d3.num
  clear d3
  replace BX := BX.push (DO n3 a3 z3.length c3 x3)
  replace l1 := l1.below (below_alloc u3 (DO n3 a3 z3.length c3 x3)) (Nat.le_refl _)
  replace l3 := l3.below (below_alloc u3 (DO n3 a3 z3.length c3 x3)) (Nat.le_refl _)
  go_wp2_with fail
  generalize hw3 : u3.alloc (DO n3 a3 z3.length c3 x3) = v3 at *
  clear hw3
  refine ((HD _).out).mono ?_
  rintro e k2w ⟨rfl, k2⟩
  replace BX := BX.keep k2
  replace l1 := l1.below k2 (Nat.le_refl _)
  replace l3 := l3.below k2 (Nat.le_refl _)
  clear k2
  clear HD
  go_wp2_with fail
  refine (wValue b d hdo hdf _ (hT.below BX.bel (Nat.le_refl _))).mono ?_
  rintro e u7 ⟨n7, z7, x7, a7, c7, rfl, d7⟩
  replace BX := BX.keep d7.bel
  replace l1 := l1.below d7.bel (Nat.le_refl _)
  replace l3 := l3.below d7.bel (Nat.le_refl _)
  have l7 := d7.lie
  have N7 := Hide.mk d7.num
  clear d7
  replace BX := BX.push (DO n7 a7 z7.length c7 x7)
  replace l1 := l1.below (below_alloc u7 (DO n7 a7 z7.length c7 x7)) (Nat.le_refl _)
  replace l3 := l3.below (below_alloc u7 (DO n7 a7 z7.length c7 x7)) (Nat.le_refl _)
  replace l7 := l7.below (below_alloc u7 (DO n7 a7 z7.length c7 x7)) (Nat.le_refl _)
  go_wp2_with fail
  generalize hw7 : u7.alloc (DO n7 a7 z7.length c7 x7) = v7 at *
  clear hw7
  refine (wUnit b x h hf _ (hT.below BX.bel (Nat.le_refl _))).mono ?_
  rintro e u8 ⟨n8, z8, x8, a8, c8, rfl, d8⟩
  replace BX := BX.keep d8.bel
  replace l1 := l1.below d8.bel (Nat.le_refl _)
  replace l3 := l3.below d8.bel (Nat.le_refl _)
  replace l7 := l7.below d8.bel (Nat.le_refl _)
  have l8 := d8.lie
  have N8 := Hide.mk d8.num
  clear d8
  replace BX := BX.push (DO n8 a8 z8.length c8 x8)
  replace l1 := l1.below (below_alloc u8 (DO n8 a8 z8.length c8 x8)) (Nat.le_refl _)
  replace l3 := l3.below (below_alloc u8 (DO n8 a8 z8.length c8 x8)) (Nat.le_refl _)
  replace l7 := l7.below (below_alloc u8 (DO n8 a8 z8.length c8 x8)) (Nat.le_refl _)
  replace l8 := l8.below (below_alloc u8 (DO n8 a8 z8.length c8 x8)) (Nat.le_refl _)
  go_wp2_with fail
  generalize hw8 : u8.alloc (DO n8 a8 z8.length c8 x8) = v8 at *
  clear hw8
  refine (wUnit b u ho hv _ (hT.below BX.bel (Nat.le_refl _))).mono ?_
  rintro e u9 ⟨n9, z9, x9, a9, c9, rfl, d9⟩
  replace BX := BX.keep d9.bel
  replace l1 := l1.below d9.bel (Nat.le_refl _)
  replace l3 := l3.below d9.bel (Nat.le_refl _)
  replace l7 := l7.below d9.bel (Nat.le_refl _)
  replace l8 := l8.below d9.bel (Nat.le_refl _)
  have l9 := d9.lie
  have N9 := Hide.mk d9.num
  clear d9
  replace BX := BX.push (DO n9 a9 z9.length c9 x9)
  replace l1 := l1.below (below_alloc u9 (DO n9 a9 z9.length c9 x9)) (Nat.le_refl _)
  replace l3 := l3.below (below_alloc u9 (DO n9 a9 z9.length c9 x9)) (Nat.le_refl _)
  replace l7 := l7.below (below_alloc u9 (DO n9 a9 z9.length c9 x9)) (Nat.le_refl _)
  replace l8 := l8.below (below_alloc u9 (DO n9 a9 z9.length c9 x9)) (Nat.le_refl _)
  replace l9 := l9.below (below_alloc u9 (DO n9 a9 z9.length c9 x9)) (Nat.le_refl _)
  obtain ⟨⟨f70, f71, f72⟩, _⟩ := cells3 BX u7.heap.size _ _ _ _ (show (u7.heap.size, DO n7 a7 z7.length c7 x7) ∈ _ by simp)
  obtain ⟨⟨f10, f11, f12⟩, _⟩ := cells3 BX u1.heap.size _ _ _ _ (show (u1.heap.size, DO n1 a1 z1.length c1 x1) ∈ _ by simp)
  obtain ⟨⟨f30, f31, f32⟩, _⟩ := cells3 BX u3.heap.size _ _ _ _ (show (u3.heap.size, DO n3 a3 z3.length c3 x3) ∈ _ by simp)
  go_wp2_with fail
  generalize hw9 : u9.alloc (DO n9 a9 z9.length c9 x9) = v9 at *
  clear hw9
  refine (sameN n7 n1 a7 a1 c7 c1 z7 z1 x7 x1 _ _ _ N7.out N1.out l7 l1 true (decide_eq_true hback)).mono ?_
  rintro e k3w ⟨rfl, k3⟩
  replace BX := BX.keep k3
  replace l1 := l1.below k3 (Nat.le_refl _)
  replace l3 := l3.below k3 (Nat.le_refl _)
  replace l7 := l7.below k3 (Nat.le_refl _)
  replace l8 := l8.below k3 (Nat.le_refl _)
  replace l9 := l9.below k3 (Nat.le_refl _)
  clear k3
  clear l7 N7
  obtain ⟨⟨f30, f31, f32⟩, _⟩ := cells3 BX u3.heap.size _ _ _ _ (show (u3.heap.size, DO n3 a3 z3.length c3 x3) ∈ _ by simp)
  obtain ⟨⟨f10, f11, f12⟩, _⟩ := cells3 BX u1.heap.size _ _ _ _ (show (u1.heap.size, DO n1 a1 z1.length c1 x1) ∈ _ by simp)
  go_wp2_with fail
  refine (cmpX n3 n1 a3 a1 c3 c1 z3 z1 x3 x1 _ l3 l1 N3.out N1.out 1 (sgn_is2 hgt)).mono ?_
  rintro e k4w ⟨rfl, k4⟩
  replace BX := BX.keep k4
  replace l1 := l1.below k4 (Nat.le_refl _)
  replace l3 := l3.below k4 (Nat.le_refl _)
  replace l8 := l8.below k4 (Nat.le_refl _)
  replace l9 := l9.below k4 (Nat.le_refl _)
  clear k4
  obtain ⟨⟨f30, f31, f32⟩, _⟩ := cells3 BX u3.heap.size _ _ _ _ (show (u3.heap.size, DO n3 a3 z3.length c3 x3) ∈ _ by simp)
  obtain ⟨⟨f10, f11, f12⟩, _⟩ := cells3 BX u1.heap.size _ _ _ _ (show (u1.heap.size, DO n1 a1 z1.length c1 x1) ∈ _ by simp)
  go_wp2_with fail
  refine (subD n3 n1 a3 a1 c3 c1 z3 z1 x3 x1 _ l3 l1 N3.out N1.out (wv_db b u) (wv_db b x) (m4h KK KK_eq).1 (m4h KK KK_eq).2).mono ?_
  rintro e uS ⟨nS, zS, xS, aS, cS, rfl, NS0, lS, kS⟩
  have NS := Hide.mk NS0
  clear NS0
  replace BX := BX.keep kS
  replace l1 := l1.below kS (Nat.le_refl _)
  replace l3 := l3.below kS (Nat.le_refl _)
  replace l8 := l8.below kS (Nat.le_refl _)
  replace l9 := l9.below kS (Nat.le_refl _)
  clear kS
  replace BX := BX.push (DO nS aS zS.length cS xS)
  replace l1 := l1.below (below_alloc uS (DO nS aS zS.length cS xS)) (Nat.le_refl _)
  replace l3 := l3.below (below_alloc uS (DO nS aS zS.length cS xS)) (Nat.le_refl _)
  replace l8 := l8.below (below_alloc uS (DO nS aS zS.length cS xS)) (Nat.le_refl _)
  replace l9 := l9.below (below_alloc uS (DO nS aS zS.length cS xS)) (Nat.le_refl _)
  replace lS := lS.below (below_alloc uS (DO nS aS zS.length cS xS)) (Nat.le_refl _)
  obtain ⟨⟨fS0, fS1, fS2⟩, _⟩ := cells3 BX uS.heap.size _ _ _ _ (show (uS.heap.size, DO nS aS zS.length cS xS) ∈ _ by simp)
  obtain ⟨⟨f80, f81, f82⟩, _⟩ := cells3 BX u8.heap.size _ _ _ _ (show (u8.heap.size, DO n8 a8 z8.length c8 x8) ∈ _ by simp)
  obtain ⟨⟨f90, f91, f92⟩, _⟩ := cells3 BX u9.heap.size _ _ _ _ (show (u9.heap.size, DO n9 a9 z9.length c9 x9) ∈ _ by simp)
  go_wp2_with fail
  generalize hwS : uS.alloc (DO nS aS zS.length cS xS) = vS at *
  clear hwS
  refine (sameN nS n8 aS a8 cS c8 zS z8 xS x8 _ _ _ NS.out N8.out lS l8 true (decide_eq_true hr)).mono ?_
  rintro e k5w ⟨rfl, k5⟩
  replace BX := BX.keep k5
  replace l1 := l1.below k5 (Nat.le_refl _)
  replace l3 := l3.below k5 (Nat.le_refl _)
  replace l8 := l8.below k5 (Nat.le_refl _)
  replace l9 := l9.below k5 (Nat.le_refl _)
  replace lS := lS.below k5 (Nat.le_refl _)
  clear k5
  clear l8 N8 l9 N9 lS NS
  go_wp2_with fail
  refine (wValue b y oy fy _ (hT.below BX.bel (Nat.le_refl _))).mono ?_
  rintro e uY ⟨nY, zY, xY, aY, cY, rfl, dY⟩
  replace BX := BX.keep dY.bel
  replace l1 := l1.below dY.bel (Nat.le_refl _)
  replace l3 := l3.below dY.bel (Nat.le_refl _)
  have lY := dY.lie
  have NY := Hide.mk dY.num
  clear dY
  replace BX := BX.push (DO nY aY zY.length cY xY)
  replace l1 := l1.below (below_alloc uY (DO nY aY zY.length cY xY)) (Nat.le_refl _)
  replace l3 := l3.below (below_alloc uY (DO nY aY zY.length cY xY)) (Nat.le_refl _)
  replace lY := lY.below (below_alloc uY (DO nY aY zY.length cY xY)) (Nat.le_refl _)
  obtain ⟨⟨fY0, fY1, fY2⟩, _⟩ := cells3 BX uY.heap.size _ _ _ _ (show (uY.heap.size, DO nY aY zY.length cY xY) ∈ _ by simp)
  obtain ⟨⟨f10, f11, f12⟩, _⟩ := cells3 BX u1.heap.size _ _ _ _ (show (u1.heap.size, DO n1 a1 z1.length c1 x1) ∈ _ by simp)
  obtain ⟨⟨f30, f31, f32⟩, _⟩ := cells3 BX u3.heap.size _ _ _ _ (show (u3.heap.size, DO n3 a3 z3.length c3 x3) ∈ _ by simp)
  go_wp2_with fail
  generalize hwY : uY.alloc (DO nY aY zY.length cY xY) = vY at *
  clear hwY
  refine (cmpX nY n1 aY a1 cY c1 zY z1 xY x1 _ lY l1 NY.out N1.out (-1) hy).mono ?_
  rintro e k6w ⟨rfl, k6⟩
  replace BX := BX.keep k6
  replace l1 := l1.below k6 (Nat.le_refl _)
  replace l3 := l3.below k6 (Nat.le_refl _)
  replace lY := lY.below k6 (Nat.le_refl _)
  clear k6
  go_wp2_with fail
  refine (lKnown _).mono ?_
  rintro e k7w ⟨rfl, k7⟩
  replace BX := BX.keep k7
  replace l1 := l1.below k7 (Nat.le_refl _)
  replace l3 := l3.below k7 (Nat.le_refl _)
  replace lY := lY.below k7 (Nat.le_refl _)
  clear k7
  go_wp2
  go_ret
  exact ⟨rfl, BX.bel⟩
set_option maxHeartbeats 4000000 in
theorem next_one_lt0 (b : Bool) (x y : Int) (h : Ok b x) (hf : sz b x < inf b) (u d : Int) (hu : upx b x = (u, 0)) (ho : Ok b u) (hv : sz b u < inf b) (hd : dnx b u = (d, 0)) (hdo : Ok b d) (hdf : sz b d < inf b) (hback : wv b d = wv b x) (hgt : wv b x < wv b u) (hr : wv b u - wv b x = pK (ue b x)) (oy : Ok b y) (fy : sz b y < inf b) (hy : sgn (wv b y) (wv b x) = 0)  (w : World) (hT : Tab w) :
    Calls Tryd.prog 9 #[.int .u8 (fm b), .int .u64 x, .int .u64 y] w fun e w' => e = .returned (.bool true) ∧ Below w.heap.size w w' := by
  have BX := Bx.nil w
  have HU := fun w => Hide.mk (wUp b x h w)
  rw [hu] at HU
  have HD := fun w => Hide.mk (wDown b u ho w)
  rw [hd] at HD
  clear hu hd
  go_enter Tryd.func9, Tryd.ntmps9
  go_wp2_with fail
  refine (wValue b x h hf _ (hT.below BX.bel (Nat.le_refl _))).mono ?_
  rintro e u1 ⟨n1, z1, x1, a1, c1, rfl, d1⟩
  replace BX := BX.keep d1.bel
  have l1 := d1.lie
  have N1 := Hide.mk d1.num
  clear d1
  replace BX := BX.push (DO n1 a1 z1.length c1 x1)
  replace l1 := l1.below (below_alloc u1 (DO n1 a1 z1.length c1 x1)) (Nat.le_refl _)
  go_wp2_with fail
  generalize hw1 : u1.alloc (DO n1 a1 z1.length c1 x1) = v1 at *
  clear hw1
  refine ((HU _).out).mono ?_
  rintro e k1w ⟨rfl, k1⟩
  replace BX := BX.keep k1
  replace l1 := l1.below k1 (Nat.le_refl _)
  clear k1
  clear HU
  go_wp2_with fail
  refine (wValue b u ho hv _ (hT.below BX.bel (Nat.le_refl _))).mono ?_
  rintro e u3 ⟨n3, z3, x3, a3, c3, rfl, d3⟩
  replace BX := BX.keep d3.bel
  replace l1 := l1.below d3.bel (Nat.le_refl _)
  have l3 := d3.lie
  have N3 := Hide.mk d3.num
  clear d3
  replace BX := BX.push (DO n3 a3 z3.length c3 x3)
  replace l1 := l1.below (below_alloc u3 (DO n3 a3 z3.length c3 x3)) (Nat.le_refl _)
  replace l3 := l3.below (below_alloc u3 (DO n3 a3 z3.length c3 x3)) (Nat.le_refl _)
  go_wp2_with fail
  generalize hw3 : u3.alloc (DO n3 a3 z3.length c3 x3) = v3 at *
  clear hw3
  refine ((HD _).out).mono ?_
  rintro e k2w ⟨rfl, k2⟩
  replace BX := BX.keep k2
  replace l1 := l1.below k2 (Nat.le_refl _)
  replace l3 := l3.below k2 (Nat.le_refl _)
  clear k2
  clear HD
  go_wp2_with fail
  refine (wValue b d hdo hdf _ (hT.below BX.bel (Nat.le_refl _))).mono ?_
  rintro e u7 ⟨n7, z7, x7, a7, c7, rfl, d7⟩
  replace BX := BX.keep d7.bel
  replace l1 := l1.below d7.bel (Nat.le_refl _)
  replace l3 := l3.below d7.bel (Nat.le_refl _)
  have l7 := d7.lie
  have N7 := Hide.mk d7.num
  clear d7
  replace BX := BX.push (DO n7 a7 z7.length c7 x7)
  replace l1 := l1.below (below_alloc u7 (DO n7 a7 z7.length c7 x7)) (Nat.le_refl _)
  replace l3 := l3.below (below_alloc u7 (DO n7 a7 z7.length c7 x7)) (Nat.le_refl _)
  replace l7 := l7.below (below_alloc u7 (DO n7 a7 z7.length c7 x7)) (Nat.le_refl _)
  go_wp2_with fail
  generalize hw7 : u7.alloc (DO n7 a7 z7.length c7 x7) = v7 at *
  clear hw7
  refine (wUnit b x h hf _ (hT.below BX.bel (Nat.le_refl _))).mono ?_
  rintro e u8 ⟨n8, z8, x8, a8, c8, rfl, d8⟩
  replace BX := BX.keep d8.bel
  replace l1 := l1.below d8.bel (Nat.le_refl _)
  replace l3 := l3.below d8.bel (Nat.le_refl _)
  replace l7 := l7.below d8.bel (Nat.le_refl _)
  have l8 := d8.lie
  have N8 := Hide.mk d8.num
  clear d8
  replace BX := BX.push (DO n8 a8 z8.length c8 x8)
  replace l1 := l1.below (below_alloc u8 (DO n8 a8 z8.length c8 x8)) (Nat.le_refl _)
  replace l3 := l3.below (below_alloc u8 (DO n8 a8 z8.length c8 x8)) (Nat.le_refl _)
  replace l7 := l7.below (below_alloc u8 (DO n8 a8 z8.length c8 x8)) (Nat.le_refl _)
  replace l8 := l8.below (below_alloc u8 (DO n8 a8 z8.length c8 x8)) (Nat.le_refl _)
  go_wp2_with fail
  generalize hw8 : u8.alloc (DO n8 a8 z8.length c8 x8) = v8 at *
  clear hw8
  refine (wUnit b u ho hv _ (hT.below BX.bel (Nat.le_refl _))).mono ?_
  rintro e u9 ⟨n9, z9, x9, a9, c9, rfl, d9⟩
  replace BX := BX.keep d9.bel
  replace l1 := l1.below d9.bel (Nat.le_refl _)
  replace l3 := l3.below d9.bel (Nat.le_refl _)
  replace l7 := l7.below d9.bel (Nat.le_refl _)
  replace l8 := l8.below d9.bel (Nat.le_refl _)
  have l9 := d9.lie
  have N9 := Hide.mk d9.num
  clear d9
  replace BX := BX.push (DO n9 a9 z9.length c9 x9)
  replace l1 := l1.below (below_alloc u9 (DO n9 a9 z9.length c9 x9)) (Nat.le_refl _)
  replace l3 := l3.below (below_alloc u9 (DO n9 a9 z9.length c9 x9)) (Nat.le_refl _)
  replace l7 := l7.below (below_alloc u9 (DO n9 a9 z9.length c9 x9)) (Nat.le_refl _)
  replace l8 := l8.below (below_alloc u9 (DO n9 a9 z9.length c9 x9)) (Nat.le_refl _)
  replace l9 := l9.below (below_alloc u9 (DO n9 a9 z9.length c9 x9)) (Nat.le_refl _)
  obtain ⟨⟨f70, f71, f72⟩, _⟩ := cells3 BX u7.heap.size _ _ _ _ (show (u7.heap.size, DO n7 a7 z7.length c7 x7) ∈ _ by simp)
  obtain ⟨⟨f10, f11, f12⟩, _⟩ := cells3 BX u1.heap.size _ _ _ _ (show (u1.heap.size, DO n1 a1 z1.length c1 x1) ∈ _ by simp)
  obtain ⟨⟨f30, f31, f32⟩, _⟩ := cells3 BX u3.heap.size _ _ _ _ (show (u3.heap.size, DO n3 a3 z3.length c3 x3) ∈ _ by simp)
  go_wp2_with fail
  generalize hw9 : u9.alloc (DO n9 a9 z9.length c9 x9) = v9 at *
  clear hw9
  refine (sameN n7 n1 a7 a1 c7 c1 z7 z1 x7 x1 _ _ _ N7.out N1.out l7 l1 true (decide_eq_true hback)).mono ?_
  rintro e k3w ⟨rfl, k3⟩
  replace BX := BX.keep k3
  replace l1 := l1.below k3 (Nat.le_refl _)
  replace l3 := l3.below k3 (Nat.le_refl _)
  replace l7 := l7.below k3 (Nat.le_refl _)
  replace l8 := l8.below k3 (Nat.le_refl _)
  replace l9 := l9.below k3 (Nat.le_refl _)
  clear k3
  clear l7 N7
  obtain ⟨⟨f30, f31, f32⟩, _⟩ := cells3 BX u3.heap.size _ _ _ _ (show (u3.heap.size, DO n3 a3 z3.length c3 x3) ∈ _ by simp)
  obtain ⟨⟨f10, f11, f12⟩, _⟩ := cells3 BX u1.heap.size _ _ _ _ (show (u1.heap.size, DO n1 a1 z1.length c1 x1) ∈ _ by simp)
  go_wp2_with fail
  refine (cmpX n3 n1 a3 a1 c3 c1 z3 z1 x3 x1 _ l3 l1 N3.out N1.out 1 (sgn_is2 hgt)).mono ?_
  rintro e k4w ⟨rfl, k4⟩
  replace BX := BX.keep k4
  replace l1 := l1.below k4 (Nat.le_refl _)
  replace l3 := l3.below k4 (Nat.le_refl _)
  replace l8 := l8.below k4 (Nat.le_refl _)
  replace l9 := l9.below k4 (Nat.le_refl _)
  clear k4
  obtain ⟨⟨f30, f31, f32⟩, _⟩ := cells3 BX u3.heap.size _ _ _ _ (show (u3.heap.size, DO n3 a3 z3.length c3 x3) ∈ _ by simp)
  obtain ⟨⟨f10, f11, f12⟩, _⟩ := cells3 BX u1.heap.size _ _ _ _ (show (u1.heap.size, DO n1 a1 z1.length c1 x1) ∈ _ by simp)
  go_wp2_with fail
  refine (subD n3 n1 a3 a1 c3 c1 z3 z1 x3 x1 _ l3 l1 N3.out N1.out (wv_db b u) (wv_db b x) (m4h KK KK_eq).1 (m4h KK KK_eq).2).mono ?_
  rintro e uS ⟨nS, zS, xS, aS, cS, rfl, NS0, lS, kS⟩
  have NS := Hide.mk NS0
  clear NS0
  replace BX := BX.keep kS
  replace l1 := l1.below kS (Nat.le_refl _)
  replace l3 := l3.below kS (Nat.le_refl _)
  replace l8 := l8.below kS (Nat.le_refl _)
  replace l9 := l9.below kS (Nat.le_refl _)
  clear kS
  replace BX := BX.push (DO nS aS zS.length cS xS)
  replace l1 := l1.below (below_alloc uS (DO nS aS zS.length cS xS)) (Nat.le_refl _)
  replace l3 := l3.below (below_alloc uS (DO nS aS zS.length cS xS)) (Nat.le_refl _)
  replace l8 := l8.below (below_alloc uS (DO nS aS zS.length cS xS)) (Nat.le_refl _)
  replace l9 := l9.below (below_alloc uS (DO nS aS zS.length cS xS)) (Nat.le_refl _)
  replace lS := lS.below (below_alloc uS (DO nS aS zS.length cS xS)) (Nat.le_refl _)
  obtain ⟨⟨fS0, fS1, fS2⟩, _⟩ := cells3 BX uS.heap.size _ _ _ _ (show (uS.heap.size, DO nS aS zS.length cS xS) ∈ _ by simp)
  obtain ⟨⟨f80, f81, f82⟩, _⟩ := cells3 BX u8.heap.size _ _ _ _ (show (u8.heap.size, DO n8 a8 z8.length c8 x8) ∈ _ by simp)
  obtain ⟨⟨f90, f91, f92⟩, _⟩ := cells3 BX u9.heap.size _ _ _ _ (show (u9.heap.size, DO n9 a9 z9.length c9 x9) ∈ _ by simp)
  go_wp2_with fail
  generalize hwS : uS.alloc (DO nS aS zS.length cS xS) = vS at *
  clear hwS
  refine (sameN nS n8 aS a8 cS c8 zS z8 xS x8 _ _ _ NS.out N8.out lS l8 true (decide_eq_true hr)).mono ?_
  rintro e k5w ⟨rfl, k5⟩
  replace BX := BX.keep k5
  replace l1 := l1.below k5 (Nat.le_refl _)
  replace l3 := l3.below k5 (Nat.le_refl _)
  replace l8 := l8.below k5 (Nat.le_refl _)
  replace l9 := l9.below k5 (Nat.le_refl _)
  replace lS := lS.below k5 (Nat.le_refl _)
  clear k5
  clear l8 N8 l9 N9 lS NS
  go_wp2_with fail
  refine (wValue b y oy fy _ (hT.below BX.bel (Nat.le_refl _))).mono ?_
  rintro e uY ⟨nY, zY, xY, aY, cY, rfl, dY⟩
  replace BX := BX.keep dY.bel
  replace l1 := l1.below dY.bel (Nat.le_refl _)
  replace l3 := l3.below dY.bel (Nat.le_refl _)
  have lY := dY.lie
  have NY := Hide.mk dY.num
  clear dY
  replace BX := BX.push (DO nY aY zY.length cY xY)
  replace l1 := l1.below (below_alloc uY (DO nY aY zY.length cY xY)) (Nat.le_refl _)
  replace l3 := l3.below (below_alloc uY (DO nY aY zY.length cY xY)) (Nat.le_refl _)
  replace lY := lY.below (below_alloc uY (DO nY aY zY.length cY xY)) (Nat.le_refl _)
  obtain ⟨⟨fY0, fY1, fY2⟩, _⟩ := cells3 BX uY.heap.size _ _ _ _ (show (uY.heap.size, DO nY aY zY.length cY xY) ∈ _ by simp)
  obtain ⟨⟨f10, f11, f12⟩, _⟩ := cells3 BX u1.heap.size _ _ _ _ (show (u1.heap.size, DO n1 a1 z1.length c1 x1) ∈ _ by simp)
  obtain ⟨⟨f30, f31, f32⟩, _⟩ := cells3 BX u3.heap.size _ _ _ _ (show (u3.heap.size, DO n3 a3 z3.length c3 x3) ∈ _ by simp)
  go_wp2_with fail
  generalize hwY : uY.alloc (DO nY aY zY.length cY xY) = vY at *
  clear hwY
  refine (cmpX nY n1 aY a1 cY c1 zY z1 xY x1 _ lY l1 NY.out N1.out 0 hy).mono ?_
  rintro e k6w ⟨rfl, k6⟩
  replace BX := BX.keep k6
  replace l1 := l1.below k6 (Nat.le_refl _)
  replace l3 := l3.below k6 (Nat.le_refl _)
  replace lY := lY.below k6 (Nat.le_refl _)
  clear k6
  go_wp2_with fail
  refine (lKnown _).mono ?_
  rintro e k7w ⟨rfl, k7⟩
  replace BX := BX.keep k7
  replace l1 := l1.below k7 (Nat.le_refl _)
  replace l3 := l3.below k7 (Nat.le_refl _)
  replace lY := lY.below k7 (Nat.le_refl _)
  clear k7
  go_wp2
  go_ret
  exact ⟨rfl, BX.bel⟩
set_option maxHeartbeats 4000000 in
theorem next_one_ge0 (b : Bool) (x y : Int) (h : Ok b x) (hf : sz b x < inf b) (u d : Int) (hu : upx b x = (u, 0)) (ho : Ok b u) (hv : sz b u < inf b) (hd : dnx b u = (d, 0)) (hdo : Ok b d) (hdf : sz b d < inf b) (hback : wv b d = wv b x) (hgt : wv b x < wv b u) (hr : wv b u - wv b x = pK (ue b x)) (oy : Ok b y) (fy : sz b y < inf b) (hy0 : wv b x < wv b y) (hy : sgn (wv b y) (wv b u) = 0)  (w : World) (hT : Tab w) :
    Calls Tryd.prog 9 #[.int .u8 (fm b), .int .u64 x, .int .u64 y] w fun e w' => e = .returned (.bool true) ∧ Below w.heap.size w w' := by
  have BX := Bx.nil w
  have HU := fun w => Hide.mk (wUp b x h w)
  rw [hu] at HU
  have HD := fun w => Hide.mk (wDown b u ho w)
  rw [hd] at HD
  clear hu hd
  go_enter Tryd.func9, Tryd.ntmps9
  go_wp2_with fail
  refine (wValue b x h hf _ (hT.below BX.bel (Nat.le_refl _))).mono ?_
  rintro e u1 ⟨n1, z1, x1, a1, c1, rfl, d1⟩
  replace BX := BX.keep d1.bel
  have l1 := d1.lie
  have N1 := Hide.mk d1.num
  clear d1
  replace BX := BX.push (DO n1 a1 z1.length c1 x1)
  replace l1 := l1.below (below_alloc u1 (DO n1 a1 z1.length c1 x1)) (Nat.le_refl _)
  go_wp2_with fail
  generalize hw1 : u1.alloc (DO n1 a1 z1.length c1 x1) = v1 at *
  clear hw1
  refine ((HU _).out).mono ?_
  rintro e k1w ⟨rfl, k1⟩
  replace BX := BX.keep k1
  replace l1 := l1.below k1 (Nat.le_refl _)
  clear k1
  clear HU
  go_wp2_with fail
  refine (wValue b u ho hv _ (hT.below BX.bel (Nat.le_refl _))).mono ?_
  rintro e u3 ⟨n3, z3, x3, a3, c3, rfl, d3⟩
  replace BX := BX.keep d3.bel
  replace l1 := l1.below d3.bel (Nat.le_refl _)
  have l3 := d3.lie
  have N3 := Hide.mk d3.num
  clear d3
  replace BX := BX.push (DO n3 a3 z3.length c3 x3)
  replace l1 := l1.below (below_alloc u3 (DO n3 a3 z3.length c3 x3)) (Nat.le_refl _)
  replace l3 := l3.below (below_alloc u3 (DO n3 a3 z3.length c3 x3)) (Nat.le_refl _)
  go_wp2_with fail
  generalize hw3 : u3.alloc (DO n3 a3 z3.length c3 x3) = v3 at *
  clear hw3
  refine ((HD _).out).mono ?_
  rintro e k2w ⟨rfl, k2⟩
  replace BX := BX.keep k2
  replace l1 := l1.below k2 (Nat.le_refl _)
  replace l3 := l3.below k2 (Nat.le_refl _)
  clear k2
  clear HD
  go_wp2_with fail
  refine (wValue b d hdo hdf _ (hT.below BX.bel (Nat.le_refl _))).mono ?_
  rintro e u7 ⟨n7, z7, x7, a7, c7, rfl, d7⟩
  replace BX := BX.keep d7.bel
  replace l1 := l1.below d7.bel (Nat.le_refl _)
  replace l3 := l3.below d7.bel (Nat.le_refl _)
  have l7 := d7.lie
  have N7 := Hide.mk d7.num
  clear d7
  replace BX := BX.push (DO n7 a7 z7.length c7 x7)
  replace l1 := l1.below (below_alloc u7 (DO n7 a7 z7.length c7 x7)) (Nat.le_refl _)
  replace l3 := l3.below (below_alloc u7 (DO n7 a7 z7.length c7 x7)) (Nat.le_refl _)
  replace l7 := l7.below (below_alloc u7 (DO n7 a7 z7.length c7 x7)) (Nat.le_refl _)
  go_wp2_with fail
  generalize hw7 : u7.alloc (DO n7 a7 z7.length c7 x7) = v7 at *
  clear hw7
  refine (wUnit b x h hf _ (hT.below BX.bel (Nat.le_refl _))).mono ?_
  rintro e u8 ⟨n8, z8, x8, a8, c8, rfl, d8⟩
  replace BX := BX.keep d8.bel
  replace l1 := l1.below d8.bel (Nat.le_refl _)
  replace l3 := l3.below d8.bel (Nat.le_refl _)
  replace l7 := l7.below d8.bel (Nat.le_refl _)
  have l8 := d8.lie
  have N8 := Hide.mk d8.num
  clear d8
  replace BX := BX.push (DO n8 a8 z8.length c8 x8)
  replace l1 := l1.below (below_alloc u8 (DO n8 a8 z8.length c8 x8)) (Nat.le_refl _)
  replace l3 := l3.below (below_alloc u8 (DO n8 a8 z8.length c8 x8)) (Nat.le_refl _)
  replace l7 := l7.below (below_alloc u8 (DO n8 a8 z8.length c8 x8)) (Nat.le_refl _)
  replace l8 := l8.below (below_alloc u8 (DO n8 a8 z8.length c8 x8)) (Nat.le_refl _)
  go_wp2_with fail
  generalize hw8 : u8.alloc (DO n8 a8 z8.length c8 x8) = v8 at *
  clear hw8
  refine (wUnit b u ho hv _ (hT.below BX.bel (Nat.le_refl _))).mono ?_
  rintro e u9 ⟨n9, z9, x9, a9, c9, rfl, d9⟩
  replace BX := BX.keep d9.bel
  replace l1 := l1.below d9.bel (Nat.le_refl _)
  replace l3 := l3.below d9.bel (Nat.le_refl _)
  replace l7 := l7.below d9.bel (Nat.le_refl _)
  replace l8 := l8.below d9.bel (Nat.le_refl _)
  have l9 := d9.lie
  have N9 := Hide.mk d9.num
  clear d9
  replace BX := BX.push (DO n9 a9 z9.length c9 x9)
  replace l1 := l1.below (below_alloc u9 (DO n9 a9 z9.length c9 x9)) (Nat.le_refl _)
  replace l3 := l3.below (below_alloc u9 (DO n9 a9 z9.length c9 x9)) (Nat.le_refl _)
  replace l7 := l7.below (below_alloc u9 (DO n9 a9 z9.length c9 x9)) (Nat.le_refl _)
  replace l8 := l8.below (below_alloc u9 (DO n9 a9 z9.length c9 x9)) (Nat.le_refl _)
  replace l9 := l9.below (below_alloc u9 (DO n9 a9 z9.length c9 x9)) (Nat.le_refl _)
  obtain ⟨⟨f70, f71, f72⟩, _⟩ := cells3 BX u7.heap.size _ _ _ _ (show (u7.heap.size, DO n7 a7 z7.length c7 x7) ∈ _ by simp)
  obtain ⟨⟨f10, f11, f12⟩, _⟩ := cells3 BX u1.heap.size _ _ _ _ (show (u1.heap.size, DO n1 a1 z1.length c1 x1) ∈ _ by simp)
  obtain ⟨⟨f30, f31, f32⟩, _⟩ := cells3 BX u3.heap.size _ _ _ _ (show (u3.heap.size, DO n3 a3 z3.length c3 x3) ∈ _ by simp)
  go_wp2_with fail
  generalize hw9 : u9.alloc (DO n9 a9 z9.length c9 x9) = v9 at *
  clear hw9
  refine (sameN n7 n1 a7 a1 c7 c1 z7 z1 x7 x1 _ _ _ N7.out N1.out l7 l1 true (decide_eq_true hback)).mono ?_
  rintro e k3w ⟨rfl, k3⟩
  replace BX := BX.keep k3
  replace l1 := l1.below k3 (Nat.le_refl _)
  replace l3 := l3.below k3 (Nat.le_refl _)
  replace l7 := l7.below k3 (Nat.le_refl _)
  replace l8 := l8.below k3 (Nat.le_refl _)
  replace l9 := l9.below k3 (Nat.le_refl _)
  clear k3
  clear l7 N7
  obtain ⟨⟨f30, f31, f32⟩, _⟩ := cells3 BX u3.heap.size _ _ _ _ (show (u3.heap.size, DO n3 a3 z3.length c3 x3) ∈ _ by simp)
  obtain ⟨⟨f10, f11, f12⟩, _⟩ := cells3 BX u1.heap.size _ _ _ _ (show (u1.heap.size, DO n1 a1 z1.length c1 x1) ∈ _ by simp)
  go_wp2_with fail
  refine (cmpX n3 n1 a3 a1 c3 c1 z3 z1 x3 x1 _ l3 l1 N3.out N1.out 1 (sgn_is2 hgt)).mono ?_
  rintro e k4w ⟨rfl, k4⟩
  replace BX := BX.keep k4
  replace l1 := l1.below k4 (Nat.le_refl _)
  replace l3 := l3.below k4 (Nat.le_refl _)
  replace l8 := l8.below k4 (Nat.le_refl _)
  replace l9 := l9.below k4 (Nat.le_refl _)
  clear k4
  obtain ⟨⟨f30, f31, f32⟩, _⟩ := cells3 BX u3.heap.size _ _ _ _ (show (u3.heap.size, DO n3 a3 z3.length c3 x3) ∈ _ by simp)
  obtain ⟨⟨f10, f11, f12⟩, _⟩ := cells3 BX u1.heap.size _ _ _ _ (show (u1.heap.size, DO n1 a1 z1.length c1 x1) ∈ _ by simp)
  go_wp2_with fail
  refine (subD n3 n1 a3 a1 c3 c1 z3 z1 x3 x1 _ l3 l1 N3.out N1.out (wv_db b u) (wv_db b x) (m4h KK KK_eq).1 (m4h KK KK_eq).2).mono ?_
  rintro e uS ⟨nS, zS, xS, aS, cS, rfl, NS0, lS, kS⟩
  have NS := Hide.mk NS0
  clear NS0
  replace BX := BX.keep kS
  replace l1 := l1.below kS (Nat.le_refl _)
  replace l3 := l3.below kS (Nat.le_refl _)
  replace l8 := l8.below kS (Nat.le_refl _)
  replace l9 := l9.below kS (Nat.le_refl _)
  clear kS
  replace BX := BX.push (DO nS aS zS.length cS xS)
  replace l1 := l1.below (below_alloc uS (DO nS aS zS.length cS xS)) (Nat.le_refl _)
  replace l3 := l3.below (below_alloc uS (DO nS aS zS.length cS xS)) (Nat.le_refl _)
  replace l8 := l8.below (below_alloc uS (DO nS aS zS.length cS xS)) (Nat.le_refl _)
  replace l9 := l9.below (below_alloc uS (DO nS aS zS.length cS xS)) (Nat.le_refl _)
  replace lS := lS.below (below_alloc uS (DO nS aS zS.length cS xS)) (Nat.le_refl _)
  obtain ⟨⟨fS0, fS1, fS2⟩, _⟩ := cells3 BX uS.heap.size _ _ _ _ (show (uS.heap.size, DO nS aS zS.length cS xS) ∈ _ by simp)
  obtain ⟨⟨f80, f81, f82⟩, _⟩ := cells3 BX u8.heap.size _ _ _ _ (show (u8.heap.size, DO n8 a8 z8.length c8 x8) ∈ _ by simp)
  obtain ⟨⟨f90, f91, f92⟩, _⟩ := cells3 BX u9.heap.size _ _ _ _ (show (u9.heap.size, DO n9 a9 z9.length c9 x9) ∈ _ by simp)
  go_wp2_with fail
  generalize hwS : uS.alloc (DO nS aS zS.length cS xS) = vS at *
  clear hwS
  refine (sameN nS n8 aS a8 cS c8 zS z8 xS x8 _ _ _ NS.out N8.out lS l8 true (decide_eq_true hr)).mono ?_
  rintro e k5w ⟨rfl, k5⟩
  replace BX := BX.keep k5
  replace l1 := l1.below k5 (Nat.le_refl _)
  replace l3 := l3.below k5 (Nat.le_refl _)
  replace l8 := l8.below k5 (Nat.le_refl _)
  replace l9 := l9.below k5 (Nat.le_refl _)
  replace lS := lS.below k5 (Nat.le_refl _)
  clear k5
  clear l8 N8 l9 N9 lS NS
  go_wp2_with fail
  refine (wValue b y oy fy _ (hT.below BX.bel (Nat.le_refl _))).mono ?_
  rintro e uY ⟨nY, zY, xY, aY, cY, rfl, dY⟩
  replace BX := BX.keep dY.bel
  replace l1 := l1.below dY.bel (Nat.le_refl _)
  replace l3 := l3.below dY.bel (Nat.le_refl _)
  have lY := dY.lie
  have NY := Hide.mk dY.num
  clear dY
  replace BX := BX.push (DO nY aY zY.length cY xY)
  replace l1 := l1.below (below_alloc uY (DO nY aY zY.length cY xY)) (Nat.le_refl _)
  replace l3 := l3.below (below_alloc uY (DO nY aY zY.length cY xY)) (Nat.le_refl _)
  replace lY := lY.below (below_alloc uY (DO nY aY zY.length cY xY)) (Nat.le_refl _)
  obtain ⟨⟨fY0, fY1, fY2⟩, _⟩ := cells3 BX uY.heap.size _ _ _ _ (show (uY.heap.size, DO nY aY zY.length cY xY) ∈ _ by simp)
  obtain ⟨⟨f10, f11, f12⟩, _⟩ := cells3 BX u1.heap.size _ _ _ _ (show (u1.heap.size, DO n1 a1 z1.length c1 x1) ∈ _ by simp)
  obtain ⟨⟨f30, f31, f32⟩, _⟩ := cells3 BX u3.heap.size _ _ _ _ (show (u3.heap.size, DO n3 a3 z3.length c3 x3) ∈ _ by simp)
  go_wp2_with fail
  generalize hwY : uY.alloc (DO nY aY zY.length cY xY) = vY at *
  clear hwY
  refine (cmpX nY n1 aY a1 cY c1 zY z1 xY x1 _ lY l1 NY.out N1.out 1 (sgn_is2 hy0)).mono ?_
  rintro e k6w ⟨rfl, k6⟩
  replace BX := BX.keep k6
  replace l1 := l1.below k6 (Nat.le_refl _)
  replace l3 := l3.below k6 (Nat.le_refl _)
  replace lY := lY.below k6 (Nat.le_refl _)
  clear k6
  obtain ⟨⟨fY0, fY1, fY2⟩, _⟩ := cells3 BX uY.heap.size _ _ _ _ (show (uY.heap.size, DO nY aY zY.length cY xY) ∈ _ by simp)
  obtain ⟨⟨f30, f31, f32⟩, _⟩ := cells3 BX u3.heap.size _ _ _ _ (show (u3.heap.size, DO n3 a3 z3.length c3 x3) ∈ _ by simp)
  go_wp2_with fail
  refine (cmpX nY n3 aY a3 cY c3 zY z3 xY x3 _ lY l3 NY.out N3.out 0 hy).mono ?_
  rintro e k7w ⟨rfl, k7⟩
  replace BX := BX.keep k7
  replace l1 := l1.below k7 (Nat.le_refl _)
  replace l3 := l3.below k7 (Nat.le_refl _)
  replace lY := lY.below k7 (Nat.le_refl _)
  clear k7
  go_wp2_with fail
  refine (lKnown _).mono ?_
  rintro e k8w ⟨rfl, k8⟩
  replace BX := BX.keep k8
  replace l1 := l1.below k8 (Nat.le_refl _)
  replace l3 := l3.below k8 (Nat.le_refl _)
  replace lY := lY.below k8 (Nat.le_refl _)
  clear k8
  go_wp2
  go_ret
  exact ⟨rfl, BX.bel⟩
set_option maxHeartbeats 4000000 in
theorem next_one_ge1 (b : Bool) (x y : Int) (h : Ok b x) (hf : sz b x < inf b) (u d : Int) (hu : upx b x = (u, 0)) (ho : Ok b u) (hv : sz b u < inf b) (hd : dnx b u = (d, 0)) (hdo : Ok b d) (hdf : sz b d < inf b) (hback : wv b d = wv b x) (hgt : wv b x < wv b u) (hr : wv b u - wv b x = pK (ue b x)) (oy : Ok b y) (fy : sz b y < inf b) (hy0 : wv b x < wv b y) (hy : sgn (wv b y) (wv b u) = 1)  (w : World) (hT : Tab w) :
    Calls Tryd.prog 9 #[.int .u8 (fm b), .int .u64 x, .int .u64 y] w fun e w' => e = .returned (.bool true) ∧ Below w.heap.size w w' := by
  have BX := Bx.nil w
  have HU := fun w => Hide.mk (wUp b x h w)
  rw [hu] at HU
  have HD := fun w => Hide.mk (wDown b u ho w)
  rw [hd] at HD
  clear hu hd
  go_enter Tryd.func9, Tryd.ntmps9
  go_wp2_with fail
  refine (wValue b x h hf _ (hT.below BX.bel (Nat.le_refl _))).mono ?_
  rintro e u1 ⟨n1, z1, x1, a1, c1, rfl, d1⟩
  replace BX := BX.keep d1.bel
  have l1 := d1.lie
  have N1 := Hide.mk d1.num
  clear d1
  replace BX := BX.push (DO n1 a1 z1.length c1 x1)
  replace l1 := l1.below (below_alloc u1 (DO n1 a1 z1.length c1 x1)) (Nat.le_refl _)
  go_wp2_with fail
  generalize hw1 : u1.alloc (DO n1 a1 z1.length c1 x1) = v1 at *
  clear hw1
  refine ((HU _).out).mono ?_
  rintro e k1w ⟨rfl, k1⟩
  replace BX := BX.keep k1
  replace l1 := l1.below k1 (Nat.le_refl _)
  clear k1
  clear HU
  go_wp2_with fail
  refine (wValue b u ho hv _ (hT.below BX.bel (Nat.le_refl _))).mono ?_
  rintro e u3 ⟨n3, z3, x3, a3, c3, rfl, d3⟩
  replace BX := BX.keep d3.bel
  replace l1 := l1.below d3.bel (Nat.le_refl _)
  have l3 := d3.lie
  have N3 := Hide.mk d3.num
  clear d3
  replace BX := BX.push (DO n3 a3 z3.length c3 x3)
  replace l1 := l1.below (below_alloc u3 (DO n3 a3 z3.length c3 x3)) (Nat.le_refl _)
  replace l3 := l3.below (below_alloc u3 (DO n3 a3 z3.length c3 x3)) (Nat.le_refl _)
  go_wp2_with fail
  generalize hw3 : u3.alloc (DO n3 a3 z3.length c3 x3) = v3 at *
  clear hw3
  refine ((HD _).out).mono ?_
  rintro e k2w ⟨rfl, k2⟩
  replace BX := BX.keep k2
  replace l1 := l1.below k2 (Nat.le_refl _)
  replace l3 := l3.below k2 (Nat.le_refl _)
  clear k2
  clear HD
  go_wp2_with fail
  refine (wValue b d hdo hdf _ (hT.below BX.bel (Nat.le_refl _))).mono ?_
  rintro e u7 ⟨n7, z7, x7, a7, c7, rfl, d7⟩
  replace BX := BX.keep d7.bel
  replace l1 := l1.below d7.bel (Nat.le_refl _)
  replace l3 := l3.below d7.bel (Nat.le_refl _)
  have l7 := d7.lie
  have N7 := Hide.mk d7.num
  clear d7
  replace BX := BX.push (DO n7 a7 z7.length c7 x7)
  replace l1 := l1.below (below_alloc u7 (DO n7 a7 z7.length c7 x7)) (Nat.le_refl _)
  replace l3 := l3.below (below_alloc u7 (DO n7 a7 z7.length c7 x7)) (Nat.le_refl _)
  replace l7 := l7.below (below_alloc u7 (DO n7 a7 z7.length c7 x7)) (Nat.le_refl _)
  go_wp2_with fail
  generalize hw7 : u7.alloc (DO n7 a7 z7.length c7 x7) = v7 at *
  clear hw7
  refine (wUnit b x h hf _ (hT.below BX.bel (Nat.le_refl _))).mono ?_
  rintro e u8 ⟨n8, z8, x8, a8, c8, rfl, d8⟩
  replace BX := BX.keep d8.bel
  replace l1 := l1.below d8.bel (Nat.le_refl _)
  replace l3 := l3.below d8.bel (Nat.le_refl _)
  replace l7 := l7.below d8.bel (Nat.le_refl _)
  have l8 := d8.lie
  have N8 := Hide.mk d8.num
  clear d8
  replace BX := BX.push (DO n8 a8 z8.length c8 x8)
  replace l1 := l1.below (below_alloc u8 (DO n8 a8 z8.length c8 x8)) (Nat.le_refl _)
  replace l3 := l3.below (below_alloc u8 (DO n8 a8 z8.length c8 x8)) (Nat.le_refl _)
  replace l7 := l7.below (below_alloc u8 (DO n8 a8 z8.length c8 x8)) (Nat.le_refl _)
  replace l8 := l8.below (below_alloc u8 (DO n8 a8 z8.length c8 x8)) (Nat.le_refl _)
  go_wp2_with fail
  generalize hw8 : u8.alloc (DO n8 a8 z8.length c8 x8) = v8 at *
  clear hw8
  refine (wUnit b u ho hv _ (hT.below BX.bel (Nat.le_refl _))).mono ?_
  rintro e u9 ⟨n9, z9, x9, a9, c9, rfl, d9⟩
  replace BX := BX.keep d9.bel
  replace l1 := l1.below d9.bel (Nat.le_refl _)
  replace l3 := l3.below d9.bel (Nat.le_refl _)
  replace l7 := l7.below d9.bel (Nat.le_refl _)
  replace l8 := l8.below d9.bel (Nat.le_refl _)
  have l9 := d9.lie
  have N9 := Hide.mk d9.num
  clear d9
  replace BX := BX.push (DO n9 a9 z9.length c9 x9)
  replace l1 := l1.below (below_alloc u9 (DO n9 a9 z9.length c9 x9)) (Nat.le_refl _)
  replace l3 := l3.below (below_alloc u9 (DO n9 a9 z9.length c9 x9)) (Nat.le_refl _)
  replace l7 := l7.below (below_alloc u9 (DO n9 a9 z9.length c9 x9)) (Nat.le_refl _)
  replace l8 := l8.below (below_alloc u9 (DO n9 a9 z9.length c9 x9)) (Nat.le_refl _)
  replace l9 := l9.below (below_alloc u9 (DO n9 a9 z9.length c9 x9)) (Nat.le_refl _)
  obtain ⟨⟨f70, f71, f72⟩, _⟩ := cells3 BX u7.heap.size _ _ _ _ (show (u7.heap.size, DO n7 a7 z7.length c7 x7) ∈ _ by simp)
  obtain ⟨⟨f10, f11, f12⟩, _⟩ := cells3 BX u1.heap.size _ _ _ _ (show (u1.heap.size, DO n1 a1 z1.length c1 x1) ∈ _ by simp)
  obtain ⟨⟨f30, f31, f32⟩, _⟩ := cells3 BX u3.heap.size _ _ _ _ (show (u3.heap.size, DO n3 a3 z3.length c3 x3) ∈ _ by simp)
  go_wp2_with fail
  generalize hw9 : u9.alloc (DO n9 a9 z9.length c9 x9) = v9 at *
  clear hw9
  refine (sameN n7 n1 a7 a1 c7 c1 z7 z1 x7 x1 _ _ _ N7.out N1.out l7 l1 true (decide_eq_true hback)).mono ?_
  rintro e k3w ⟨rfl, k3⟩
  replace BX := BX.keep k3
  replace l1 := l1.below k3 (Nat.le_refl _)
  replace l3 := l3.below k3 (Nat.le_refl _)
  replace l7 := l7.below k3 (Nat.le_refl _)
  replace l8 := l8.below k3 (Nat.le_refl _)
  replace l9 := l9.below k3 (Nat.le_refl _)
  clear k3
  clear l7 N7
  obtain ⟨⟨f30, f31, f32⟩, _⟩ := cells3 BX u3.heap.size _ _ _ _ (show (u3.heap.size, DO n3 a3 z3.length c3 x3) ∈ _ by simp)
  obtain ⟨⟨f10, f11, f12⟩, _⟩ := cells3 BX u1.heap.size _ _ _ _ (show (u1.heap.size, DO n1 a1 z1.length c1 x1) ∈ _ by simp)
  go_wp2_with fail
  refine (cmpX n3 n1 a3 a1 c3 c1 z3 z1 x3 x1 _ l3 l1 N3.out N1.out 1 (sgn_is2 hgt)).mono ?_
  rintro e k4w ⟨rfl, k4⟩
  replace BX := BX.keep k4
  replace l1 := l1.below k4 (Nat.le_refl _)
  replace l3 := l3.below k4 (Nat.le_refl _)
  replace l8 := l8.below k4 (Nat.le_refl _)
  replace l9 := l9.below k4 (Nat.le_refl _)
  clear k4
  obtain ⟨⟨f30, f31, f32⟩, _⟩ := cells3 BX u3.heap.size _ _ _ _ (show (u3.heap.size, DO n3 a3 z3.length c3 x3) ∈ _ by simp)
  obtain ⟨⟨f10, f11, f12⟩, _⟩ := cells3 BX u1.heap.size _ _ _ _ (show (u1.heap.size, DO n1 a1 z1.length c1 x1) ∈ _ by simp)
  go_wp2_with fail
  refine (subD n3 n1 a3 a1 c3 c1 z3 z1 x3 x1 _ l3 l1 N3.out N1.out (wv_db b u) (wv_db b x) (m4h KK KK_eq).1 (m4h KK KK_eq).2).mono ?_
  rintro e uS ⟨nS, zS, xS, aS, cS, rfl, NS0, lS, kS⟩
  have NS := Hide.mk NS0
  clear NS0
  replace BX := BX.keep kS
  replace l1 := l1.below kS (Nat.le_refl _)
  replace l3 := l3.below kS (Nat.le_refl _)
  replace l8 := l8.below kS (Nat.le_refl _)
  replace l9 := l9.below kS (Nat.le_refl _)
  clear kS
  replace BX := BX.push (DO nS aS zS.length cS xS)
  replace l1 := l1.below (below_alloc uS (DO nS aS zS.length cS xS)) (Nat.le_refl _)
  replace l3 := l3.below (below_alloc uS (DO nS aS zS.length cS xS)) (Nat.le_refl _)
  replace l8 := l8.below (below_alloc uS (DO nS aS zS.length cS xS)) (Nat.le_refl _)
  replace l9 := l9.below (below_alloc uS (DO nS aS zS.length cS xS)) (Nat.le_refl _)
  replace lS := lS.below (below_alloc uS (DO nS aS zS.length cS xS)) (Nat.le_refl _)
  obtain ⟨⟨fS0, fS1, fS2⟩, _⟩ := cells3 BX uS.heap.size _ _ _ _ (show (uS.heap.size, DO nS aS zS.length cS xS) ∈ _ by simp)
  obtain ⟨⟨f80, f81, f82⟩, _⟩ := cells3 BX u8.heap.size _ _ _ _ (show (u8.heap.size, DO n8 a8 z8.length c8 x8) ∈ _ by simp)
  obtain ⟨⟨f90, f91, f92⟩, _⟩ := cells3 BX u9.heap.size _ _ _ _ (show (u9.heap.size, DO n9 a9 z9.length c9 x9) ∈ _ by simp)
  go_wp2_with fail
  generalize hwS : uS.alloc (DO nS aS zS.length cS xS) = vS at *
  clear hwS
  refine (sameN nS n8 aS a8 cS c8 zS z8 xS x8 _ _ _ NS.out N8.out lS l8 true (decide_eq_true hr)).mono ?_
  rintro e k5w ⟨rfl, k5⟩
  replace BX := BX.keep k5
  replace l1 := l1.below k5 (Nat.le_refl _)
  replace l3 := l3.below k5 (Nat.le_refl _)
  replace l8 := l8.below k5 (Nat.le_refl _)
  replace l9 := l9.below k5 (Nat.le_refl _)
  replace lS := lS.below k5 (Nat.le_refl _)
  clear k5
  clear l8 N8 l9 N9 lS NS
  go_wp2_with fail
  refine (wValue b y oy fy _ (hT.below BX.bel (Nat.le_refl _))).mono ?_
  rintro e uY ⟨nY, zY, xY, aY, cY, rfl, dY⟩
  replace BX := BX.keep dY.bel
  replace l1 := l1.below dY.bel (Nat.le_refl _)
  replace l3 := l3.below dY.bel (Nat.le_refl _)
  have lY := dY.lie
  have NY := Hide.mk dY.num
  clear dY
  replace BX := BX.push (DO nY aY zY.length cY xY)
  replace l1 := l1.below (below_alloc uY (DO nY aY zY.length cY xY)) (Nat.le_refl _)
  replace l3 := l3.below (below_alloc uY (DO nY aY zY.length cY xY)) (Nat.le_refl _)
  replace lY := lY.below (below_alloc uY (DO nY aY zY.length cY xY)) (Nat.le_refl _)
  obtain ⟨⟨fY0, fY1, fY2⟩, _⟩ := cells3 BX uY.heap.size _ _ _ _ (show (uY.heap.size, DO nY aY zY.length cY xY) ∈ _ by simp)
  obtain ⟨⟨f10, f11, f12⟩, _⟩ := cells3 BX u1.heap.size _ _ _ _ (show (u1.heap.size, DO n1 a1 z1.length c1 x1) ∈ _ by simp)
  obtain ⟨⟨f30, f31, f32⟩, _⟩ := cells3 BX u3.heap.size _ _ _ _ (show (u3.heap.size, DO n3 a3 z3.length c3 x3) ∈ _ by simp)
  go_wp2_with fail
  generalize hwY : uY.alloc (DO nY aY zY.length cY xY) = vY at *
  clear hwY
  refine (cmpX nY n1 aY a1 cY c1 zY z1 xY x1 _ lY l1 NY.out N1.out 1 (sgn_is2 hy0)).mono ?_
  rintro e k6w ⟨rfl, k6⟩
  replace BX := BX.keep k6
  replace l1 := l1.below k6 (Nat.le_refl _)
  replace l3 := l3.below k6 (Nat.le_refl _)
  replace lY := lY.below k6 (Nat.le_refl _)
  clear k6
  obtain ⟨⟨fY0, fY1, fY2⟩, _⟩ := cells3 BX uY.heap.size _ _ _ _ (show (uY.heap.size, DO nY aY zY.length cY xY) ∈ _ by simp)
  obtain ⟨⟨f30, f31, f32⟩, _⟩ := cells3 BX u3.heap.size _ _ _ _ (show (u3.heap.size, DO n3 a3 z3.length c3 x3) ∈ _ by simp)
  go_wp2_with fail
  refine (cmpX nY n3 aY a3 cY c3 zY z3 xY x3 _ lY l3 NY.out N3.out 1 hy).mono ?_
  rintro e k7w ⟨rfl, k7⟩
  replace BX := BX.keep k7
  replace l1 := l1.below k7 (Nat.le_refl _)
  replace l3 := l3.below k7 (Nat.le_refl _)
  replace lY := lY.below k7 (Nat.le_refl _)
  clear k7
  go_wp2_with fail
  refine (lKnown _).mono ?_
  rintro e k8w ⟨rfl, k8⟩
  replace BX := BX.keep k8
  replace l1 := l1.below k8 (Nat.le_refl _)
  replace l3 := l3.below k8 (Nat.le_refl _)
  replace lY := lY.below k8 (Nat.le_refl _)
  clear k8
  go_wp2
  go_ret
  exact ⟨rfl, BX.bel⟩
end Go.Proofs.YtiamdmfhkhlppaaDoor
