import Derived.Test.YtiamdmfhkhlppaaDoorXO
namespace Go.Proofs.YtiamdmfhkhlppaaDoor
open Go.RowKit Go.Wd Go.Box
set_option linter.unusedVariables false
set_option maxRecDepth 3000
set_option maxHeartbeats 4000000 in
theorem next_two_err6 (b : Bool) (x y : Int) (h : Ok b x) (hf : sz b x < inf b) (u d : Int) (hu : upx b x = (u, 0)) (ho : Ok b u) (hv : sz b u < inf b) (hd : dnx b u = (d, 0)) (hdo : Ok b d) (hdf : sz b d < inf b) (hback : wv b d = wv b x) (hgt : wv b x < wv b u) (hr0 : wv b u - wv b x ≠ pK (ue b x)) (hr : wv b u - wv b x = pK (ue b u)) (hy : VE (fm b) y 6)  (w : World) (hT : Tab w) :
    Calls Tryd.prog 9 #[.int .u8 (fm b), .int .u64 x, .int .u64 y] w fun e w' => e = .returned (.bool true) ∧ Below w.heap.size w w' := by
  have BX := Bx.nil w
  have HU := fun w => Hide.mk (wUp b x h w)
  rw [hu] at HU
  have HD := fun w => Hide.mk (wDown b u ho w)
  rw [hd] at HD
  clear hu hd
  go_enter Tryd.func9, Tryd.ntmps9
  go_wp2_with fail
  refine (wValue b x h hf _ (hT.below BX.bel (Nat.le_refl _))).mono ?_
  rintro e u1 ⟨n1, z1, x1, a1, c1, rfl, d1⟩
  replace BX := BX.keep d1.bel
  have l1 := d1.lie
  have N1 := Hide.mk d1.num
  clear d1
  replace BX := BX.push (DO n1 a1 z1.length c1 x1)
  replace l1 := l1.below (below_alloc u1 (DO n1 a1 z1.length c1 x1)) (Nat.le_refl _)
  go_wp2_with fail
  generalize hw1 : u1.alloc (DO n1 a1 z1.length c1 x1) = v1 at *
  clear hw1
  refine ((HU _).out).mono ?_
  rintro e k1w ⟨rfl, k1⟩
  replace BX := BX.keep k1
  replace l1 := l1.below k1 (Nat.le_refl _)
  clear k1
  clear HU
  go_wp2_with fail
  refine (wValue b u ho hv _ (hT.below BX.bel (Nat.le_refl _))).mono ?_
  rintro e u3 ⟨n3, z3, x3, a3, c3, rfl, d3⟩
  replace BX := BX.keep d3.bel
  replace l1 := l1.below d3.bel (Nat.le_refl _)
  have l3 := d3.lie
  have N3 := Hide.mk d3.num
  clear d3
  replace BX := BX.push (DO n3 a3 z3.length c3 x3)
  replace l1 := l1.below (below_alloc u3 (DO n3 a3 z3.length c3 x3)) (Nat.le_refl _)
  replace l3 := l3.below (below_alloc u3 (DO n3 a3 z3.length c3 x3)) (Nat.le_refl _)
  go_wp2_with fail
  generalize hw3 : u3.alloc (DO n3 a3 z3.length c3 x3) = v3 at *
  clear hw3
  refine ((HD _).out).mono ?_
  rintro e k2w ⟨rfl, k2⟩
  replace BX := BX.keep k2
  replace l1 := l1.below k2 (Nat.le_refl _)
  replace l3 := l3.below k2 (Nat.le_refl _)
  clear k2
  clear HD
  go_wp2_with fail
  refine (wValue b d hdo hdf _ (hT.below BX.bel (Nat.le_refl _))).mono ?_
  rintro e u7 ⟨n7, z7, x7, a7, c7, rfl, d7⟩
  replace BX := BX.keep d7.bel
  replace l1 := l1.below d7.bel (Nat.le_refl _)
  replace l3 := l3.below d7.bel (Nat.le_refl _)
  have l7 := d7.lie
  have N7 := Hide.mk d7.num
  clear d7
  replace BX := BX.push (DO n7 a7 z7.length c7 x7)
  replace l1 := l1.below (below_alloc u7 (DO n7 a7 z7.length c7 x7)) (Nat.le_refl _)
  replace l3 := l3.below (below_alloc u7 (DO n7 a7 z7.length c7 x7)) (Nat.le_refl _)
  replace l7 := l7.below (below_alloc u7 (DO n7 a7 z7.length c7 x7)) (Nat.le_refl _)
  go_wp2_with fail
  generalize hw7 : u7.alloc (DO n7 a7 z7.length c7 x7) = v7 at *
  clear hw7
  refine (wUnit b x h hf _ (hT.below BX.bel (Nat.le_refl _))).mono ?_
  rintro e u8 ⟨n8, z8, x8, a8, c8, rfl, d8⟩
  replace BX := BX.keep d8.bel
  replace l1 := l1.below d8.bel (Nat.le_refl _)
  replace l3 := l3.below d8.bel (Nat.le_refl _)
  replace l7 := l7.below d8.bel (Nat.le_refl _)
  have l8 := d8.lie
  have N8 := Hide.mk d8.num
  clear d8
  replace BX := BX.push (DO n8 a8 z8.length c8 x8)
  replace l1 := l1.below (below_alloc u8 (DO n8 a8 z8.length c8 x8)) (Nat.le_refl _)
  replace l3 := l3.below (below_alloc u8 (DO n8 a8 z8.length c8 x8)) (Nat.le_refl _)
  replace l7 := l7.below (below_alloc u8 (DO n8 a8 z8.length c8 x8)) (Nat.le_refl _)
  replace l8 := l8.below (below_alloc u8 (DO n8 a8 z8.length c8 x8)) (Nat.le_refl _)
  go_wp2_with fail
  generalize hw8 : u8.alloc (DO n8 a8 z8.length c8 x8) = v8 at *
  clear hw8
  refine (wUnit b u ho hv _ (hT.below BX.bel (Nat.le_refl _))).mono ?_
  rintro e u9 ⟨n9, z9, x9, a9, c9, rfl, d9⟩
  replace BX := BX.keep d9.bel
  replace l1 := l1.below d9.bel (Nat.le_refl _)
  replace l3 := l3.below d9.bel (Nat.le_refl _)
  replace l7 := l7.below d9.bel (Nat.le_refl _)
  replace l8 := l8.below d9.bel (Nat.le_refl _)
  have l9 := d9.lie
  have N9 := Hide.mk d9.num
  clear d9
  replace BX := BX.push (DO n9 a9 z9.length c9 x9)
  replace l1 := l1.below (below_alloc u9 (DO n9 a9 z9.length c9 x9)) (Nat.le_refl _)
  replace l3 := l3.below (below_alloc u9 (DO n9 a9 z9.length c9 x9)) (Nat.le_refl _)
  replace l7 := l7.below (below_alloc u9 (DO n9 a9 z9.length c9 x9)) (Nat.le_refl _)
  replace l8 := l8.below (below_alloc u9 (DO n9 a9 z9.length c9 x9)) (Nat.le_refl _)
  replace l9 := l9.below (below_alloc u9 (DO n9 a9 z9.length c9 x9)) (Nat.le_refl _)
  obtain ⟨⟨f70, f71, f72⟩, _⟩ := cells3 BX u7.heap.size _ _ _ _ (show (u7.heap.size, DO n7 a7 z7.length c7 x7) ∈ _ by simp)
  obtain ⟨⟨f10, f11, f12⟩, _⟩ := cells3 BX u1.heap.size _ _ _ _ (show (u1.heap.size, DO n1 a1 z1.length c1 x1) ∈ _ by simp)
  obtain ⟨⟨f30, f31, f32⟩, _⟩ := cells3 BX u3.heap.size _ _ _ _ (show (u3.heap.size, DO n3 a3 z3.length c3 x3) ∈ _ by simp)
  go_wp2_with fail
  generalize hw9 : u9.alloc (DO n9 a9 z9.length c9 x9) = v9 at *
  clear hw9
  refine (sameN n7 n1 a7 a1 c7 c1 z7 z1 x7 x1 _ _ _ N7.out N1.out l7 l1 true (decide_eq_true hback)).mono ?_
  rintro e k3w ⟨rfl, k3⟩
  replace BX := BX.keep k3
  replace l1 := l1.below k3 (Nat.le_refl _)
  replace l3 := l3.below k3 (Nat.le_refl _)
  replace l7 := l7.below k3 (Nat.le_refl _)
  replace l8 := l8.below k3 (Nat.le_refl _)
  replace l9 := l9.below k3 (Nat.le_refl _)
  clear k3
  clear l7 N7
  obtain ⟨⟨f30, f31, f32⟩, _⟩ := cells3 BX u3.heap.size _ _ _ _ (show (u3.heap.size, DO n3 a3 z3.length c3 x3) ∈ _ by simp)
  obtain ⟨⟨f10, f11, f12⟩, _⟩ := cells3 BX u1.heap.size _ _ _ _ (show (u1.heap.size, DO n1 a1 z1.length c1 x1) ∈ _ by simp)
  go_wp2_with fail
  refine (cmpX n3 n1 a3 a1 c3 c1 z3 z1 x3 x1 _ l3 l1 N3.out N1.out 1 (sgn_is2 hgt)).mono ?_
  rintro e k4w ⟨rfl, k4⟩
  replace BX := BX.keep k4
  replace l1 := l1.below k4 (Nat.le_refl _)
  replace l3 := l3.below k4 (Nat.le_refl _)
  replace l8 := l8.below k4 (Nat.le_refl _)
  replace l9 := l9.below k4 (Nat.le_refl _)
  clear k4
  obtain ⟨⟨f30, f31, f32⟩, _⟩ := cells3 BX u3.heap.size _ _ _ _ (show (u3.heap.size, DO n3 a3 z3.length c3 x3) ∈ _ by simp)
  obtain ⟨⟨f10, f11, f12⟩, _⟩ := cells3 BX u1.heap.size _ _ _ _ (show (u1.heap.size, DO n1 a1 z1.length c1 x1) ∈ _ by simp)
  go_wp2_with fail
  refine (subD n3 n1 a3 a1 c3 c1 z3 z1 x3 x1 _ l3 l1 N3.out N1.out (wv_db b u) (wv_db b x) (m4h KK KK_eq).1 (m4h KK KK_eq).2).mono ?_
  rintro e uS ⟨nS, zS, xS, aS, cS, rfl, NS0, lS, kS⟩
  have NS := Hide.mk NS0
  clear NS0
  replace BX := BX.keep kS
  replace l1 := l1.below kS (Nat.le_refl _)
  replace l3 := l3.below kS (Nat.le_refl _)
  replace l8 := l8.below kS (Nat.le_refl _)
  replace l9 := l9.below kS (Nat.le_refl _)
  clear kS
  replace BX := BX.push (DO nS aS zS.length cS xS)
  replace l1 := l1.below (below_alloc uS (DO nS aS zS.length cS xS)) (Nat.le_refl _)
  replace l3 := l3.below (below_alloc uS (DO nS aS zS.length cS xS)) (Nat.le_refl _)
  replace l8 := l8.below (below_alloc uS (DO nS aS zS.length cS xS)) (Nat.le_refl _)
  replace l9 := l9.below (below_alloc uS (DO nS aS zS.length cS xS)) (Nat.le_refl _)
  replace lS := lS.below (below_alloc uS (DO nS aS zS.length cS xS)) (Nat.le_refl _)
  obtain ⟨⟨fS0, fS1, fS2⟩, _⟩ := cells3 BX uS.heap.size _ _ _ _ (show (uS.heap.size, DO nS aS zS.length cS xS) ∈ _ by simp)
  obtain ⟨⟨f80, f81, f82⟩, _⟩ := cells3 BX u8.heap.size _ _ _ _ (show (u8.heap.size, DO n8 a8 z8.length c8 x8) ∈ _ by simp)
  obtain ⟨⟨f90, f91, f92⟩, _⟩ := cells3 BX u9.heap.size _ _ _ _ (show (u9.heap.size, DO n9 a9 z9.length c9 x9) ∈ _ by simp)
  go_wp2_with fail
  generalize hwS : uS.alloc (DO nS aS zS.length cS xS) = vS at *
  clear hwS
  refine (sameN nS n8 aS a8 cS c8 zS z8 xS x8 _ _ _ NS.out N8.out lS l8 false (decide_eq_false hr0)).mono ?_
  rintro e k5w ⟨rfl, k5⟩
  replace BX := BX.keep k5
  replace l1 := l1.below k5 (Nat.le_refl _)
  replace l3 := l3.below k5 (Nat.le_refl _)
  replace l8 := l8.below k5 (Nat.le_refl _)
  replace l9 := l9.below k5 (Nat.le_refl _)
  replace lS := lS.below k5 (Nat.le_refl _)
  clear k5
  clear N8
  obtain ⟨⟨fS0, fS1, fS2⟩, _⟩ := cells3 BX uS.heap.size _ _ _ _ (show (uS.heap.size, DO nS aS zS.length cS xS) ∈ _ by simp)
  obtain ⟨⟨f90, f91, f92⟩, _⟩ := cells3 BX u9.heap.size _ _ _ _ (show (u9.heap.size, DO n9 a9 z9.length c9 x9) ∈ _ by simp)
  go_wp2_with fail
  refine (sameN nS n9 aS a9 cS c9 zS z9 xS x9 _ _ _ NS.out N9.out lS l9 true (decide_eq_true hr)).mono ?_
  rintro e k6w ⟨rfl, k6⟩
  replace BX := BX.keep k6
  replace l1 := l1.below k6 (Nat.le_refl _)
  replace l3 := l3.below k6 (Nat.le_refl _)
  replace l8 := l8.below k6 (Nat.le_refl _)
  replace l9 := l9.below k6 (Nat.le_refl _)
  replace lS := lS.below k6 (Nat.le_refl _)
  clear k6
  clear l9 N9 lS NS
  go_wp2_with fail
  refine (wValue_err (fm b) y 6 hy _).mono ?_
  rintro e uY ⟨rfl, kY⟩
  replace BX := BX.keep kY
  replace l1 := l1.below kY (Nat.le_refl _)
  replace l3 := l3.below kY (Nat.le_refl _)
  clear kY
  replace BX := BX.push (DO false none 0 0 0)
  replace l1 := l1.below (below_alloc uY (DO false none 0 0 0)) (Nat.le_refl _)
  replace l3 := l3.below (below_alloc uY (DO false none 0 0 0)) (Nat.le_refl _)
  go_wp2_with fail
  generalize hwY : uY.alloc (DO false none 0 0 0) = vY at *
  clear hwY
  refine (lKnown _).mono ?_
  rintro e k7w ⟨rfl, k7⟩
  replace BX := BX.keep k7
  replace l1 := l1.below k7 (Nat.le_refl _)
  replace l3 := l3.below k7 (Nat.le_refl _)
  clear k7
  go_wp2
  go_ret
  exact ⟨rfl, BX.bel⟩
set_option maxHeartbeats 4000000 in
theorem next_two_err7 (b : Bool) (x y : Int) (h : Ok b x) (hf : sz b x < inf b) (u d : Int) (hu : upx b x = (u, 0)) (ho : Ok b u) (hv : sz b u < inf b) (hd : dnx b u = (d, 0)) (hdo : Ok b d) (hdf : sz b d < inf b) (hback : wv b d = wv b x) (hgt : wv b x < wv b u) (hr0 : wv b u - wv b x ≠ pK (ue b x)) (hr : wv b u - wv b x = pK (ue b u)) (hy : VE (fm b) y 7)  (w : World) (hT : Tab w) :
    Calls Tryd.prog 9 #[.int .u8 (fm b), .int .u64 x, .int .u64 y] w fun e w' => e = .returned (.bool true) ∧ Below w.heap.size w w' := by
  have BX := Bx.nil w
  have HU := fun w => Hide.mk (wUp b x h w)
  rw [hu] at HU
  have HD := fun w => Hide.mk (wDown b u ho w)
  rw [hd] at HD
  clear hu hd
  go_enter Tryd.func9, Tryd.ntmps9
  go_wp2_with fail
  refine (wValue b x h hf _ (hT.below BX.bel (Nat.le_refl _))).mono ?_
  rintro e u1 ⟨n1, z1, x1, a1, c1, rfl, d1⟩
  replace BX := BX.keep d1.bel
  have l1 := d1.lie
  have N1 := Hide.mk d1.num
  clear d1
  replace BX := BX.push (DO n1 a1 z1.length c1 x1)
  replace l1 := l1.below (below_alloc u1 (DO n1 a1 z1.length c1 x1)) (Nat.le_refl _)
  go_wp2_with fail
  generalize hw1 : u1.alloc (DO n1 a1 z1.length c1 x1) = v1 at *
  clear hw1
  refine ((HU _).out).mono ?_
  rintro e k1w ⟨rfl, k1⟩
  replace BX := BX.keep k1
  replace l1 := l1.below k1 (Nat.le_refl _)
  clear k1
  clear HU
  go_wp2_with fail
  refine (wValue b u ho hv _ (hT.below BX.bel (Nat.le_refl _))).mono ?_
  rintro e u3 ⟨n3, z3, x3, a3, c3, rfl, d3⟩
  replace BX := BX.keep d3.bel
  replace l1 := l1.below d3.bel (Nat.le_refl _)
  have l3 := d3.lie
  have N3 := Hide.mk d3.num
  clear d3
  replace BX := BX.push (DO n3 a3 z3.length c3 x3)
  replace l1 := l1.below (below_alloc u3 (DO n3 a3 z3.length c3 x3)) (Nat.le_refl _)
  replace l3 := l3.below (below_alloc u3 (DO n3 a3 z3.length c3 x3)) (Nat.le_refl _)
  go_wp2_with fail
  generalize hw3 : u3.alloc (DO n3 a3 z3.length c3 x3) = v3 at *
  clear hw3
  refine ((HD _).out).mono ?_
  rintro e k2w ⟨rfl, k2⟩
  replace BX := BX.keep k2
  replace l1 := l1.below k2 (Nat.le_refl _)
  replace l3 := l3.below k2 (Nat.le_refl _)
  clear k2
  clear HD
  go_wp2_with fail
  refine (wValue b d hdo hdf _ (hT.below BX.bel (Nat.le_refl _))).mono ?_
  rintro e u7 ⟨n7, z7, x7, a7, c7, rfl, d7⟩
  replace BX := BX.keep d7.bel
  replace l1 := l1.below d7.bel (Nat.le_refl _)
  replace l3 := l3.below d7.bel (Nat.le_refl _)
  have l7 := d7.lie
  have N7 := Hide.mk d7.num
  clear d7
  replace BX := BX.push (DO n7 a7 z7.length c7 x7)
  replace l1 := l1.below (below_alloc u7 (DO n7 a7 z7.length c7 x7)) (Nat.le_refl _)
  replace l3 := l3.below (below_alloc u7 (DO n7 a7 z7.length c7 x7)) (Nat.le_refl _)
  replace l7 := l7.below (below_alloc u7 (DO n7 a7 z7.length c7 x7)) (Nat.le_refl _)
  go_wp2_with fail
  generalize hw7 : u7.alloc (DO n7 a7 z7.length c7 x7) = v7 at *
  clear hw7
  refine (wUnit b x h hf _ (hT.below BX.bel (Nat.le_refl _))).mono ?_
  rintro e u8 ⟨n8, z8, x8, a8, c8, rfl, d8⟩
  replace BX := BX.keep d8.bel
  replace l1 := l1.below d8.bel (Nat.le_refl _)
  replace l3 := l3.below d8.bel (Nat.le_refl _)
  replace l7 := l7.below d8.bel (Nat.le_refl _)
  have l8 := d8.lie
  have N8 := Hide.mk d8.num
  clear d8
  replace BX := BX.push (DO n8 a8 z8.length c8 x8)
  replace l1 := l1.below (below_alloc u8 (DO n8 a8 z8.length c8 x8)) (Nat.le_refl _)
  replace l3 := l3.below (below_alloc u8 (DO n8 a8 z8.length c8 x8)) (Nat.le_refl _)
  replace l7 := l7.below (below_alloc u8 (DO n8 a8 z8.length c8 x8)) (Nat.le_refl _)
  replace l8 := l8.below (below_alloc u8 (DO n8 a8 z8.length c8 x8)) (Nat.le_refl _)
  go_wp2_with fail
  generalize hw8 : u8.alloc (DO n8 a8 z8.length c8 x8) = v8 at *
  clear hw8
  refine (wUnit b u ho hv _ (hT.below BX.bel (Nat.le_refl _))).mono ?_
  rintro e u9 ⟨n9, z9, x9, a9, c9, rfl, d9⟩
  replace BX := BX.keep d9.bel
  replace l1 := l1.below d9.bel (Nat.le_refl _)
  replace l3 := l3.below d9.bel (Nat.le_refl _)
  replace l7 := l7.below d9.bel (Nat.le_refl _)
  replace l8 := l8.below d9.bel (Nat.le_refl _)
  have l9 := d9.lie
  have N9 := Hide.mk d9.num
  clear d9
  replace BX := BX.push (DO n9 a9 z9.length c9 x9)
  replace l1 := l1.below (below_alloc u9 (DO n9 a9 z9.length c9 x9)) (Nat.le_refl _)
  replace l3 := l3.below (below_alloc u9 (DO n9 a9 z9.length c9 x9)) (Nat.le_refl _)
  replace l7 := l7.below (below_alloc u9 (DO n9 a9 z9.length c9 x9)) (Nat.le_refl _)
  replace l8 := l8.below (below_alloc u9 (DO n9 a9 z9.length c9 x9)) (Nat.le_refl _)
  replace l9 := l9.below (below_alloc u9 (DO n9 a9 z9.length c9 x9)) (Nat.le_refl _)
  obtain ⟨⟨f70, f71, f72⟩, _⟩ := cells3 BX u7.heap.size _ _ _ _ (show (u7.heap.size, DO n7 a7 z7.length c7 x7) ∈ _ by simp)
  obtain ⟨⟨f10, f11, f12⟩, _⟩ := cells3 BX u1.heap.size _ _ _ _ (show (u1.heap.size, DO n1 a1 z1.length c1 x1) ∈ _ by simp)
  obtain ⟨⟨f30, f31, f32⟩, _⟩ := cells3 BX u3.heap.size _ _ _ _ (show (u3.heap.size, DO n3 a3 z3.length c3 x3) ∈ _ by simp)
  go_wp2_with fail
  generalize hw9 : u9.alloc (DO n9 a9 z9.length c9 x9) = v9 at *
  clear hw9
  refine (sameN n7 n1 a7 a1 c7 c1 z7 z1 x7 x1 _ _ _ N7.out N1.out l7 l1 true (decide_eq_true hback)).mono ?_
  rintro e k3w ⟨rfl, k3⟩
  replace BX := BX.keep k3
  replace l1 := l1.below k3 (Nat.le_refl _)
  replace l3 := l3.below k3 (Nat.le_refl _)
  replace l7 := l7.below k3 (Nat.le_refl _)
  replace l8 := l8.below k3 (Nat.le_refl _)
  replace l9 := l9.below k3 (Nat.le_refl _)
  clear k3
  clear l7 N7
  obtain ⟨⟨f30, f31, f32⟩, _⟩ := cells3 BX u3.heap.size _ _ _ _ (show (u3.heap.size, DO n3 a3 z3.length c3 x3) ∈ _ by simp)
  obtain ⟨⟨f10, f11, f12⟩, _⟩ := cells3 BX u1.heap.size _ _ _ _ (show (u1.heap.size, DO n1 a1 z1.length c1 x1) ∈ _ by simp)
  go_wp2_with fail
  refine (cmpX n3 n1 a3 a1 c3 c1 z3 z1 x3 x1 _ l3 l1 N3.out N1.out 1 (sgn_is2 hgt)).mono ?_
  rintro e k4w ⟨rfl, k4⟩
  replace BX := BX.keep k4
  replace l1 := l1.below k4 (Nat.le_refl _)
  replace l3 := l3.below k4 (Nat.le_refl _)
  replace l8 := l8.below k4 (Nat.le_refl _)
  replace l9 := l9.below k4 (Nat.le_refl _)
  clear k4
  obtain ⟨⟨f30, f31, f32⟩, _⟩ := cells3 BX u3.heap.size _ _ _ _ (show (u3.heap.size, DO n3 a3 z3.length c3 x3) ∈ _ by simp)
  obtain ⟨⟨f10, f11, f12⟩, _⟩ := cells3 BX u1.heap.size _ _ _ _ (show (u1.heap.size, DO n1 a1 z1.length c1 x1) ∈ _ by simp)
  go_wp2_with fail
  refine (subD n3 n1 a3 a1 c3 c1 z3 z1 x3 x1 _ l3 l1 N3.out N1.out (wv_db b u) (wv_db b x) (m4h KK KK_eq).1 (m4h KK KK_eq).2).mono ?_
  rintro e uS ⟨nS, zS, xS, aS, cS, rfl, NS0, lS, kS⟩
  have NS := Hide.mk NS0
  clear NS0
  replace BX := BX.keep kS
  replace l1 := l1.below kS (Nat.le_refl _)
  replace l3 := l3.below kS (Nat.le_refl _)
  replace l8 := l8.below kS (Nat.le_refl _)
  replace l9 := l9.below kS (Nat.le_refl _)
  clear kS
  replace BX := BX.push (DO nS aS zS.length cS xS)
  replace l1 := l1.below (below_alloc uS (DO nS aS zS.length cS xS)) (Nat.le_refl _)
  replace l3 := l3.below (below_alloc uS (DO nS aS zS.length cS xS)) (Nat.le_refl _)
  replace l8 := l8.below (below_alloc uS (DO nS aS zS.length cS xS)) (Nat.le_refl _)
  replace l9 := l9.below (below_alloc uS (DO nS aS zS.length cS xS)) (Nat.le_refl _)
  replace lS := lS.below (below_alloc uS (DO nS aS zS.length cS xS)) (Nat.le_refl _)
  obtain ⟨⟨fS0, fS1, fS2⟩, _⟩ := cells3 BX uS.heap.size _ _ _ _ (show (uS.heap.size, DO nS aS zS.length cS xS) ∈ _ by simp)
  obtain ⟨⟨f80, f81, f82⟩, _⟩ := cells3 BX u8.heap.size _ _ _ _ (show (u8.heap.size, DO n8 a8 z8.length c8 x8) ∈ _ by simp)
  obtain ⟨⟨f90, f91, f92⟩, _⟩ := cells3 BX u9.heap.size _ _ _ _ (show (u9.heap.size, DO n9 a9 z9.length c9 x9) ∈ _ by simp)
  go_wp2_with fail
  generalize hwS : uS.alloc (DO nS aS zS.length cS xS) = vS at *
  clear hwS
  refine (sameN nS n8 aS a8 cS c8 zS z8 xS x8 _ _ _ NS.out N8.out lS l8 false (decide_eq_false hr0)).mono ?_
  rintro e k5w ⟨rfl, k5⟩
  replace BX := BX.keep k5
  replace l1 := l1.below k5 (Nat.le_refl _)
  replace l3 := l3.below k5 (Nat.le_refl _)
  replace l8 := l8.below k5 (Nat.le_refl _)
  replace l9 := l9.below k5 (Nat.le_refl _)
  replace lS := lS.below k5 (Nat.le_refl _)
  clear k5
  clear N8
  obtain ⟨⟨fS0, fS1, fS2⟩, _⟩ := cells3 BX uS.heap.size _ _ _ _ (show (uS.heap.size, DO nS aS zS.length cS xS) ∈ _ by simp)
  obtain ⟨⟨f90, f91, f92⟩, _⟩ := cells3 BX u9.heap.size _ _ _ _ (show (u9.heap.size, DO n9 a9 z9.length c9 x9) ∈ _ by simp)
  go_wp2_with fail
  refine (sameN nS n9 aS a9 cS c9 zS z9 xS x9 _ _ _ NS.out N9.out lS l9 true (decide_eq_true hr)).mono ?_
  rintro e k6w ⟨rfl, k6⟩
  replace BX := BX.keep k6
  replace l1 := l1.below k6 (Nat.le_refl _)
  replace l3 := l3.below k6 (Nat.le_refl _)
  replace l8 := l8.below k6 (Nat.le_refl _)
  replace l9 := l9.below k6 (Nat.le_refl _)
  replace lS := lS.below k6 (Nat.le_refl _)
  clear k6
  clear l9 N9 lS NS
  go_wp2_with fail
  refine (wValue_err (fm b) y 7 hy _).mono ?_
  rintro e uY ⟨rfl, kY⟩
  replace BX := BX.keep kY
  replace l1 := l1.below kY (Nat.le_refl _)
  replace l3 := l3.below kY (Nat.le_refl _)
  clear kY
  replace BX := BX.push (DO false none 0 0 0)
  replace l1 := l1.below (below_alloc uY (DO false none 0 0 0)) (Nat.le_refl _)
  replace l3 := l3.below (below_alloc uY (DO false none 0 0 0)) (Nat.le_refl _)
  go_wp2_with fail
  generalize hwY : uY.alloc (DO false none 0 0 0) = vY at *
  clear hwY
  refine (lKnown _).mono ?_
  rintro e k7w ⟨rfl, k7⟩
  replace BX := BX.keep k7
  replace l1 := l1.below k7 (Nat.le_refl _)
  replace l3 := l3.below k7 (Nat.le_refl _)
  clear k7
  go_wp2
  go_ret
  exact ⟨rfl, BX.bel⟩
set_option maxHeartbeats 4000000 in
theorem next_two_ltm (b : Bool) (x y : Int) (h : Ok b x) (hf : sz b x < inf b) (u d : Int) (hu : upx b x = (u, 0)) (ho : Ok b u) (hv : sz b u < inf b) (hd : dnx b u = (d, 0)) (hdo : Ok b d) (hdf : sz b d < inf b) (hback : wv b d = wv b x) (hgt : wv b x < wv b u) (hr0 : wv b u - wv b x ≠ pK (ue b x)) (hr : wv b u - wv b x = pK (ue b u)) (oy : Ok b y) (fy : sz b y < inf b) (hy : sgn (wv b y) (wv b x) = (-1))  (w : World) (hT : Tab w) :
    Calls Tryd.prog 9 #[.int .u8 (fm b), .int .u64 x, .int .u64 y] w fun e w' => e = .returned (.bool true) ∧ Below w.heap.size w w' := by
  have BX := Bx.nil w
  have HU := fun w => Hide.mk (wUp b x h w)
  rw [hu] at HU
  have HD := fun w => Hide.mk (wDown b u ho w)
  rw [hd] at HD
  clear hu hd
  go_enter Tryd.func9, Tryd.ntmps9
  go_wp2_with fail
  refine (wValue b x h hf _ (hT.below BX.bel (Nat.le_refl _))).mono ?_
  rintro e u1 ⟨n1, z1, x1, a1, c1, rfl, d1⟩
  replace BX := BX.keep d1.bel
  have l1 := d1.lie
  have N1 := Hide.mk d1.num
  clear d1
  replace BX := BX.push (DO n1 a1 z1.length c1 x1)
  replace l1 := l1.below (below_alloc u1 (DO n1 a1 z1.length c1 x1)) (Nat.le_refl _)
  go_wp2_with fail
  generalize hw1 : u1.alloc (DO n1 a1 z1.length c1 x1) = v1 at *
  clear hw1
  refine ((HU _).out).mono ?_
  rintro e k1w ⟨rfl, k1⟩
  replace BX := BX.keep k1
  replace l1 := l1.below k1 (Nat.le_refl _)
  clear k1
  clear HU
  go_wp2_with fail
  refine (wValue b u ho hv _ (hT.below BX.bel (Nat.le_refl _))).mono ?_
  rintro e u3 ⟨n3, z3, x3, a3, c3, rfl, d3⟩
  replace BX := BX.keep d3.bel
  replace l1 := l1.below d3.bel (Nat.le_refl _)
  have l3 := d3.lie
  have N3 := Hide.mk d3.num
  clear d3
  replace BX := BX.push (DO n3 a3 z3.length c3 x3)
  replace l1 := l1.below (below_alloc u3 (DO n3 a3 z3.length c3 x3)) (Nat.le_refl _)
  replace l3 := l3.below (below_alloc u3 (DO n3 a3 z3.length c3 x3)) (Nat.le_refl _)
  go_wp2_with fail
  generalize hw3 : u3.alloc (DO n3 a3 z3.length c3 x3) = v3 at *
  clear hw3
  refine ((HD _).out).mono ?_
  rintro e k2w ⟨rfl, k2⟩
  replace BX := BX.keep k2
  replace l1 := l1.below k2 (Nat.le_refl _)
  replace l3 := l3.below k2 (Nat.le_refl _)
  clear k2
  clear HD
  go_wp2_with fail
  refine (wValue b d hdo hdf _ (hT.below BX.bel (Nat.le_refl _))).mono ?_
  rintro e u7 ⟨n7, z7, x7, a7, c7, rfl, d7⟩
  replace BX := BX.keep d7.bel
  replace l1 := l1.below d7.bel (Nat.le_refl _)
  replace l3 := l3.below d7.bel (Nat.le_refl _)
  have l7 := d7.lie
  have N7 := Hide.mk d7.num
  clear d7
  replace BX := BX.push (DO n7 a7 z7.length c7 x7)
  replace l1 := l1.below (below_alloc u7 (DO n7 a7 z7.length c7 x7)) (Nat.le_refl _)
  replace l3 := l3.below (below_alloc u7 (DO n7 a7 z7.length c7 x7)) (Nat.le_refl _)
  replace l7 := l7.below (below_alloc u7 (DO n7 a7 z7.length c7 x7)) (Nat.le_refl _)
  go_wp2_with fail
  generalize hw7 : u7.alloc (DO n7 a7 z7.length c7 x7) = v7 at *
  clear hw7
  refine (wUnit b x h hf _ (hT.below BX.bel (Nat.le_refl _))).mono ?_
  rintro e u8 ⟨n8, z8, x8, a8, c8, rfl, d8⟩
  replace BX := BX.keep d8.bel
  replace l1 := l1.below d8.bel (Nat.le_refl _)
  replace l3 := l3.below d8.bel (Nat.le_refl _)
  replace l7 := l7.below d8.bel (Nat.le_refl _)
  have l8 := d8.lie
  have N8 := Hide.mk d8.num
  clear d8
  replace BX := BX.push (DO n8 a8 z8.length c8 x8)
  replace l1 := l1.below (below_alloc u8 (DO n8 a8 z8.length c8 x8)) (Nat.le_refl _)
  replace l3 := l3.below (below_alloc u8 (DO n8 a8 z8.length c8 x8)) (Nat.le_refl _)
  replace l7 := l7.below (below_alloc u8 (DO n8 a8 z8.length c8 x8)) (Nat.le_refl _)
  replace l8 := l8.below (below_alloc u8 (DO n8 a8 z8.length c8 x8)) (Nat.le_refl _)
  go_wp2_with fail
  generalize hw8 : u8.alloc (DO n8 a8 z8.length c8 x8) = v8 at *
  clear hw8
  refine (wUnit b u ho hv _ (hT.below BX.bel (Nat.le_refl _))).mono ?_
  rintro e u9 ⟨n9, z9, x9, a9, c9, rfl, d9⟩
  replace BX := BX.keep d9.bel
  replace l1 := l1.below d9.bel (Nat.le_refl _)
  replace l3 := l3.below d9.bel (Nat.le_refl _)
  replace l7 := l7.below d9.bel (Nat.le_refl _)
  replace l8 := l8.below d9.bel (Nat.le_refl _)
  have l9 := d9.lie
  have N9 := Hide.mk d9.num
  clear d9
  replace BX := BX.push (DO n9 a9 z9.length c9 x9)
  replace l1 := l1.below (below_alloc u9 (DO n9 a9 z9.length c9 x9)) (Nat.le_refl _)
  replace l3 := l3.below (below_alloc u9 (DO n9 a9 z9.length c9 x9)) (Nat.le_refl _)
  replace l7 := l7.below (below_alloc u9 (DO n9 a9 z9.length c9 x9)) (Nat.le_refl _)
  replace l8 := l8.below (below_alloc u9 (DO n9 a9 z9.length c9 x9)) (Nat.le_refl _)
  replace l9 := l9.below (below_alloc u9 (DO n9 a9 z9.length c9 x9)) (Nat.le_refl _)
  obtain ⟨⟨f70, f71, f72⟩, _⟩ := cells3 BX u7.heap.size _ _ _ _ (show (u7.heap.size, DO n7 a7 z7.length c7 x7) ∈ _ by simp)
  obtain ⟨⟨f10, f11, f12⟩, _⟩ := cells3 BX u1.heap.size _ _ _ _ (show (u1.heap.size, DO n1 a1 z1.length c1 x1) ∈ _ by simp)
  obtain ⟨⟨f30, f31, f32⟩, _⟩ := cells3 BX u3.heap.size _ _ _ _ (show (u3.heap.size, DO n3 a3 z3.length c3 x3) ∈ _ by simp)
  go_wp2_with fail
  generalize hw9 : u9.alloc (DO n9 a9 z9.length c9 x9) = v9 at *
  clear hw9
  refine (sameN n7 n1 a7 a1 c7 c1 z7 z1 x7 x1 _ _ _ N7.out N1.out l7 l1 true (decide_eq_true hback)).mono ?_
  rintro e k3w ⟨rfl, k3⟩
  replace BX := BX.keep k3
  replace l1 := l1.below k3 (Nat.le_refl _)
  replace l3 := l3.below k3 (Nat.le_refl _)
  replace l7 := l7.below k3 (Nat.le_refl _)
  replace l8 := l8.below k3 (Nat.le_refl _)
  replace l9 := l9.below k3 (Nat.le_refl _)
  clear k3
  clear l7 N7
  obtain ⟨⟨f30, f31, f32⟩, _⟩ := cells3 BX u3.heap.size _ _ _ _ (show (u3.heap.size, DO n3 a3 z3.length c3 x3) ∈ _ by simp)
  obtain ⟨⟨f10, f11, f12⟩, _⟩ := cells3 BX u1.heap.size _ _ _ _ (show (u1.heap.size, DO n1 a1 z1.length c1 x1) ∈ _ by simp)
  go_wp2_with fail
  refine (cmpX n3 n1 a3 a1 c3 c1 z3 z1 x3 x1 _ l3 l1 N3.out N1.out 1 (sgn_is2 hgt)).mono ?_
  rintro e k4w ⟨rfl, k4⟩
  replace BX := BX.keep k4
  replace l1 := l1.below k4 (Nat.le_refl _)
  replace l3 := l3.below k4 (Nat.le_refl _)
  replace l8 := l8.below k4 (Nat.le_refl _)
  replace l9 := l9.below k4 (Nat.le_refl _)
  clear k4
  obtain ⟨⟨f30, f31, f32⟩, _⟩ := cells3 BX u3.heap.size _ _ _ _ (show (u3.heap.size, DO n3 a3 z3.length c3 x3) ∈ _ by simp)
  obtain ⟨⟨f10, f11, f12⟩, _⟩ := cells3 BX u1.heap.size _ _ _ _ (show (u1.heap.size, DO n1 a1 z1.length c1 x1) ∈ _ by simp)
  go_wp2_with fail
  refine (subD n3 n1 a3 a1 c3 c1 z3 z1 x3 x1 _ l3 l1 N3.out N1.out (wv_db b u) (wv_db b x) (m4h KK KK_eq).1 (m4h KK KK_eq).2).mono ?_
  rintro e uS ⟨nS, zS, xS, aS, cS, rfl, NS0, lS, kS⟩
  have NS := Hide.mk NS0
  clear NS0
  replace BX := BX.keep kS
  replace l1 := l1.below kS (Nat.le_refl _)
  replace l3 := l3.below kS (Nat.le_refl _)
  replace l8 := l8.below kS (Nat.le_refl _)
  replace l9 := l9.below kS (Nat.le_refl _)
  clear kS
  replace BX := BX.push (DO nS aS zS.length cS xS)
  replace l1 := l1.below (below_alloc uS (DO nS aS zS.length cS xS)) (Nat.le_refl _)
  replace l3 := l3.below (below_alloc uS (DO nS aS zS.length cS xS)) (Nat.le_refl _)
  replace l8 := l8.below (below_alloc uS (DO nS aS zS.length cS xS)) (Nat.le_refl _)
  replace l9 := l9.below (below_alloc uS (DO nS aS zS.length cS xS)) (Nat.le_refl _)
  replace lS := lS.below (below_alloc uS (DO nS aS zS.length cS xS)) (Nat.le_refl _)
  obtain ⟨⟨fS0, fS1, fS2⟩, _⟩ := cells3 BX uS.heap.size _ _ _ _ (show (uS.heap.size, DO nS aS zS.length cS xS) ∈ _ by simp)
  obtain ⟨⟨f80, f81, f82⟩, _⟩ := cells3 BX u8.heap.size _ _ _ _ (show (u8.heap.size, DO n8 a8 z8.length c8 x8) ∈ _ by simp)
  obtain ⟨⟨f90, f91, f92⟩, _⟩ := cells3 BX u9.heap.size _ _ _ _ (show (u9.heap.size, DO n9 a9 z9.length c9 x9) ∈ _ by simp)
  go_wp2_with fail
  generalize hwS : uS.alloc (DO nS aS zS.length cS xS) = vS at *
  clear hwS
  refine (sameN nS n8 aS a8 cS c8 zS z8 xS x8 _ _ _ NS.out N8.out lS l8 false (decide_eq_false hr0)).mono ?_
  rintro e k5w ⟨rfl, k5⟩
  replace BX := BX.keep k5
  replace l1 := l1.below k5 (Nat.le_refl _)
  replace l3 := l3.below k5 (Nat.le_refl _)
  replace l8 := l8.below k5 (Nat.le_refl _)
  replace l9 := l9.below k5 (Nat.le_refl _)
  replace lS := lS.below k5 (Nat.le_refl _)
  clear k5
  clear N8
  obtain ⟨⟨fS0, fS1, fS2⟩, _⟩ := cells3 BX uS.heap.size _ _ _ _ (show (uS.heap.size, DO nS aS zS.length cS xS) ∈ _ by simp)
  obtain ⟨⟨f90, f91, f92⟩, _⟩ := cells3 BX u9.heap.size _ _ _ _ (show (u9.heap.size, DO n9 a9 z9.length c9 x9) ∈ _ by simp)
  go_wp2_with fail
  refine (sameN nS n9 aS a9 cS c9 zS z9 xS x9 _ _ _ NS.out N9.out lS l9 true (decide_eq_true hr)).mono ?_
  rintro e k6w ⟨rfl, k6⟩
  replace BX := BX.keep k6
  replace l1 := l1.below k6 (Nat.le_refl _)
  replace l3 := l3.below k6 (Nat.le_refl _)
  replace l8 := l8.below k6 (Nat.le_refl _)
  replace l9 := l9.below k6 (Nat.le_refl _)
  replace lS := lS.below k6 (Nat.le_refl _)
  clear k6
  clear l9 N9 lS NS
  go_wp2_with fail
  refine (wValue b y oy fy _ (hT.below BX.bel (Nat.le_refl _))).mono ?_
  rintro e uY ⟨nY, zY, xY, aY, cY, rfl, dY⟩
  replace BX := BX.keep dY.bel
  replace l1 := l1.below dY.bel (Nat.le_refl _)
  replace l3 := l3.below dY.bel (Nat.le_refl _)
  have lY := dY.lie
  have NY := Hide.mk dY.num
  clear dY
  replace BX := BX.push (DO nY aY zY.length cY xY)
  replace l1 := l1.below (below_alloc uY (DO nY aY zY.length cY xY)) (Nat.le_refl _)
  replace l3 := l3.below (below_alloc uY (DO nY aY zY.length cY xY)) (Nat.le_refl _)
  replace lY := lY.below (below_alloc uY (DO nY aY zY.length cY xY)) (Nat.le_refl _)
  obtain ⟨⟨fY0, fY1, fY2⟩, _⟩ := cells3 BX uY.heap.size _ _ _ _ (show (uY.heap.size, DO nY aY zY.length cY xY) ∈ _ by simp)
  obtain ⟨⟨f10, f11, f12⟩, _⟩ := cells3 BX u1.heap.size _ _ _ _ (show (u1.heap.size, DO n1 a1 z1.length c1 x1) ∈ _ by simp)
  obtain ⟨⟨f30, f31, f32⟩, _⟩ := cells3 BX u3.heap.size _ _ _ _ (show (u3.heap.size, DO n3 a3 z3.length c3 x3) ∈ _ by simp)
  go_wp2_with fail
  generalize hwY : uY.alloc (DO nY aY zY.length cY xY) = vY at *
  clear hwY
  refine (cmpX nY n1 aY a1 cY c1 zY z1 xY x1 _ lY l1 NY.out N1.out (-1) hy).mono ?_
  rintro e k7w ⟨rfl, k7⟩
  replace BX := BX.keep k7
  replace l1 := l1.below k7 (Nat.le_refl _)
  replace l3 := l3.below k7 (Nat.le_refl _)
  replace lY := lY.below k7 (Nat.le_refl _)
  clear k7
  go_wp2_with fail
  refine (lKnown _).mono ?_
  rintro e k8w ⟨rfl, k8⟩
  replace BX := BX.keep k8
  replace l1 := l1.below k8 (Nat.le_refl _)
  replace l3 := l3.below k8 (Nat.le_refl _)
  replace lY := lY.below k8 (Nat.le_refl _)
  clear k8
  go_wp2
  go_ret
  exact ⟨rfl, BX.bel⟩
set_option maxHeartbeats 4000000 in
theorem next_two_lt0 (b : Bool) (x y : Int) (h : Ok b x) (hf : sz b x < inf b) (u d : Int) (hu : upx b x = (u, 0)) (ho : Ok b u) (hv : sz b u < inf b) (hd : dnx b u = (d, 0)) (hdo : Ok b d) (hdf : sz b d < inf b) (hback : wv b d = wv b x) (hgt : wv b x < wv b u) (hr0 : wv b u - wv b x ≠ pK (ue b x)) (hr : wv b u - wv b x = pK (ue b u)) (oy : Ok b y) (fy : sz b y < inf b) (hy : sgn (wv b y) (wv b x) = 0)  (w : World) (hT : Tab w) :
    Calls Tryd.prog 9 #[.int .u8 (fm b), .int .u64 x, .int .u64 y] w fun e w' => e = .returned (.bool true) ∧ Below w.heap.size w w' := by
  have BX := Bx.nil w
  have HU := fun w => Hide.mk (wUp b x h w)
  rw [hu] at HU
  have HD := fun w => Hide.mk (wDown b u ho w)
  rw [hd] at HD
  clear hu hd
  go_enter Tryd.func9, Tryd.ntmps9
  go_wp2_with fail
  refine (wValue b x h hf _ (hT.below BX.bel (Nat.le_refl _))).mono ?_
  rintro e u1 ⟨n1, z1, x1, a1, c1, rfl, d1⟩
  replace BX := BX.keep d1.bel
  have l1 := d1.lie
  have N1 := Hide.mk d1.num
  clear d1
  replace BX := BX.push (DO n1 a1 z1.length c1 x1)
  replace l1 := l1.below (below_alloc u1 (DO n1 a1 z1.length c1 x1)) (Nat.le_refl _)
  go_wp2_with fail
  generalize hw1 : u1.alloc (DO n1 a1 z1.length c1 x1) = v1 at *
  clear hw1
  refine ((HU _).out).mono ?_
  rintro e k1w ⟨rfl, k1⟩
  replace BX := BX.keep k1
  replace l1 := l1.below k1 (Nat.le_refl _)
  clear k1
  clear HU
  go_wp2_with fail
  refine (wValue b u ho hv _ (hT.below BX.bel (Nat.le_refl _))).mono ?_
  rintro e u3 ⟨n3, z3, x3, a3, c3, rfl, d3⟩
  replace BX := BX.keep d3.bel
  replace l1 := l1.below d3.bel (Nat.le_refl _)
  have l3 := d3.lie
  have N3 := Hide.mk d3.num
  clear d3
  replace BX := BX.push (DO n3 a3 z3.length c3 x3)
  replace l1 := l1.below (below_alloc u3 (DO n3 a3 z3.length c3 x3)) (Nat.le_refl _)
  replace l3 := l3.below (below_alloc u3 (DO n3 a3 z3.length c3 x3)) (Nat.le_refl _)
  go_wp2_with fail
  generalize hw3 : u3.alloc (DO n3 a3 z3.length c3 x3) = v3 at *
  clear hw3
  refine ((HD _).out).mono ?_
  rintro e k2w ⟨rfl, k2⟩
  replace BX := BX.keep k2
  replace l1 := l1.below k2 (Nat.le_refl _)
  replace l3 := l3.below k2 (Nat.le_refl _)
  clear k2
  clear HD
  go_wp2_with fail
  refine (wValue b d hdo hdf _ (hT.below BX.bel (Nat.le_refl _))).mono ?_
  rintro e u7 ⟨n7, z7, x7, a7, c7, rfl, d7⟩
  replace BX := BX.keep d7.bel
  replace l1 := l1.below d7.bel (Nat.le_refl _)
  replace l3 := l3.below d7.bel (Nat.le_refl _)
  have l7 := d7.lie
  have N7 := Hide.mk d7.num
  clear d7
  replace BX := BX.push (DO n7 a7 z7.length c7 x7)
  replace l1 := l1.below (below_alloc u7 (DO n7 a7 z7.length c7 x7)) (Nat.le_refl _)
  replace l3 := l3.below (below_alloc u7 (DO n7 a7 z7.length c7 x7)) (Nat.le_refl _)
  replace l7 := l7.below (below_alloc u7 (DO n7 a7 z7.length c7 x7)) (Nat.le_refl _)
  go_wp2_with fail
  generalize hw7 : u7.alloc (DO n7 a7 z7.length c7 x7) = v7 at *
  clear hw7
  refine (wUnit b x h hf _ (hT.below BX.bel (Nat.le_refl _))).mono ?_
  rintro e u8 ⟨n8, z8, x8, a8, c8, rfl, d8⟩
  replace BX := BX.keep d8.bel
  replace l1 := l1.below d8.bel (Nat.le_refl _)
  replace l3 := l3.below d8.bel (Nat.le_refl _)
  replace l7 := l7.below d8.bel (Nat.le_refl _)
  have l8 := d8.lie
  have N8 := Hide.mk d8.num
  clear d8
  replace BX := BX.push (DO n8 a8 z8.length c8 x8)
  replace l1 := l1.below (below_alloc u8 (DO n8 a8 z8.length c8 x8)) (Nat.le_refl _)
  replace l3 := l3.below (below_alloc u8 (DO n8 a8 z8.length c8 x8)) (Nat.le_refl _)
  replace l7 := l7.below (below_alloc u8 (DO n8 a8 z8.length c8 x8)) (Nat.le_refl _)
  replace l8 := l8.below (below_alloc u8 (DO n8 a8 z8.length c8 x8)) (Nat.le_refl _)
  go_wp2_with fail
  generalize hw8 : u8.alloc (DO n8 a8 z8.length c8 x8) = v8 at *
  clear hw8
  refine (wUnit b u ho hv _ (hT.below BX.bel (Nat.le_refl _))).mono ?_
  rintro e u9 ⟨n9, z9, x9, a9, c9, rfl, d9⟩
  replace BX := BX.keep d9.bel
  replace l1 := l1.below d9.bel (Nat.le_refl _)
  replace l3 := l3.below d9.bel (Nat.le_refl _)
  replace l7 := l7.below d9.bel (Nat.le_refl _)
  replace l8 := l8.below d9.bel (Nat.le_refl _)
  have l9 := d9.lie
  have N9 := Hide.mk d9.num
  clear d9
  replace BX := BX.push (DO n9 a9 z9.length c9 x9)
  replace l1 := l1.below (below_alloc u9 (DO n9 a9 z9.length c9 x9)) (Nat.le_refl _)
  replace l3 := l3.below (below_alloc u9 (DO n9 a9 z9.length c9 x9)) (Nat.le_refl _)
  replace l7 := l7.below (below_alloc u9 (DO n9 a9 z9.length c9 x9)) (Nat.le_refl _)
  replace l8 := l8.below (below_alloc u9 (DO n9 a9 z9.length c9 x9)) (Nat.le_refl _)
  replace l9 := l9.below (below_alloc u9 (DO n9 a9 z9.length c9 x9)) (Nat.le_refl _)
  obtain ⟨⟨f70, f71, f72⟩, _⟩ := cells3 BX u7.heap.size _ _ _ _ (show (u7.heap.size, DO n7 a7 z7.length c7 x7) ∈ _ by simp)
  obtain ⟨⟨f10, f11, f12⟩, _⟩ := cells3 BX u1.heap.size _ _ _ _ (show (u1.heap.size, DO n1 a1 z1.length c1 x1) ∈ _ by simp)
  obtain ⟨⟨f30, f31, f32⟩, _⟩ := cells3 BX u3.heap.size _ _ _ _ (show (u3.heap.size, DO n3 a3 z3.length c3 x3) ∈ _ by simp)
  go_wp2_with fail
  generalize hw9 : u9.alloc (DO n9 a9 z9.length c9 x9) = v9 at *
  clear hw9
  refine (sameN n7 n1 a7 a1 c7 c1 z7 z1 x7 x1 _ _ _ N7.out N1.out l7 l1 true (decide_eq_true hback)).mono ?_
  rintro e k3w ⟨rfl, k3⟩
  replace BX := BX.keep k3
  replace l1 := l1.below k3 (Nat.le_refl _)
  replace l3 := l3.below k3 (Nat.le_refl _)
  replace l7 := l7.below k3 (Nat.le_refl _)
  replace l8 := l8.below k3 (Nat.le_refl _)
  replace l9 := l9.below k3 (Nat.le_refl _)
  clear k3
  clear l7 N7
  obtain ⟨⟨f30, f31, f32⟩, _⟩ := cells3 BX u3.heap.size _ _ _ _ (show (u3.heap.size, DO n3 a3 z3.length c3 x3) ∈ _ by simp)
  obtain ⟨⟨f10, f11, f12⟩, _⟩ := cells3 BX u1.heap.size _ _ _ _ (show (u1.heap.size, DO n1 a1 z1.length c1 x1) ∈ _ by simp)
  go_wp2_with fail
  refine (cmpX n3 n1 a3 a1 c3 c1 z3 z1 x3 x1 _ l3 l1 N3.out N1.out 1 (sgn_is2 hgt)).mono ?_
  rintro e k4w ⟨rfl, k4⟩
  replace BX := BX.keep k4
  replace l1 := l1.below k4 (Nat.le_refl _)
  replace l3 := l3.below k4 (Nat.le_refl _)
  replace l8 := l8.below k4 (Nat.le_refl _)
  replace l9 := l9.below k4 (Nat.le_refl _)
  clear k4
  obtain ⟨⟨f30, f31, f32⟩, _⟩ := cells3 BX u3.heap.size _ _ _ _ (show (u3.heap.size, DO n3 a3 z3.length c3 x3) ∈ _ by simp)
  obtain ⟨⟨f10, f11, f12⟩, _⟩ := cells3 BX u1.heap.size _ _ _ _ (show (u1.heap.size, DO n1 a1 z1.length c1 x1) ∈ _ by simp)
  go_wp2_with fail
  refine (subD n3 n1 a3 a1 c3 c1 z3 z1 x3 x1 _ l3 l1 N3.out N1.out (wv_db b u) (wv_db b x) (m4h KK KK_eq).1 (m4h KK KK_eq).2).mono ?_
  rintro e uS ⟨nS, zS, xS, aS, cS, rfl, NS0, lS, kS⟩
  have NS := Hide.mk NS0
  clear NS0
  replace BX := BX.keep kS
  replace l1 := l1.below kS (Nat.le_refl _)
  replace l3 := l3.below kS (Nat.le_refl _)
  replace l8 := l8.below kS (Nat.le_refl _)
  replace l9 := l9.below kS (Nat.le_refl _)
  clear kS
  replace BX := BX.push (DO nS aS zS.length cS xS)
  replace l1 := l1.below (below_alloc uS (DO nS aS zS.length cS xS)) (Nat.le_refl _)
  replace l3 := l3.below (below_alloc uS (DO nS aS zS.length cS xS)) (Nat.le_refl _)
  replace l8 := l8.below (below_alloc uS (DO nS aS zS.length cS xS)) (Nat.le_refl _)
  replace l9 := l9.below (below_alloc uS (DO nS aS zS.length cS xS)) (Nat.le_refl _)
  replace lS := lS.below (below_alloc uS (DO nS aS zS.length cS xS)) (Nat.le_refl _)
  obtain ⟨⟨fS0, fS1, fS2⟩, _⟩ := cells3 BX uS.heap.size _ _ _ _ (show (uS.heap.size, DO nS aS zS.length cS xS) ∈ _ by simp)
  obtain ⟨⟨f80, f81, f82⟩, _⟩ := cells3 BX u8.heap.size _ _ _ _ (show (u8.heap.size, DO n8 a8 z8.length c8 x8) ∈ _ by simp)
  obtain ⟨⟨f90, f91, f92⟩, _⟩ := cells3 BX u9.heap.size _ _ _ _ (show (u9.heap.size, DO n9 a9 z9.length c9 x9) ∈ _ by simp)
  go_wp2_with fail
  generalize hwS : uS.alloc (DO nS aS zS.length cS xS) = vS at *
  clear hwS
  refine (sameN nS n8 aS a8 cS c8 zS z8 xS x8 _ _ _ NS.out N8.out lS l8 false (decide_eq_false hr0)).mono ?_
  rintro e k5w ⟨rfl, k5⟩
  replace BX := BX.keep k5
  replace l1 := l1.below k5 (Nat.le_refl _)
  replace l3 := l3.below k5 (Nat.le_refl _)
  replace l8 := l8.below k5 (Nat.le_refl _)
  replace l9 := l9.below k5 (Nat.le_refl _)
  replace lS := lS.below k5 (Nat.le_refl _)
  clear k5
  clear N8
  obtain ⟨⟨fS0, fS1, fS2⟩, _⟩ := cells3 BX uS.heap.size _ _ _ _ (show (uS.heap.size, DO nS aS zS.length cS xS) ∈ _ by simp)
  obtain ⟨⟨f90, f91, f92⟩, _⟩ := cells3 BX u9.heap.size _ _ _ _ (show (u9.heap.size, DO n9 a9 z9.length c9 x9) ∈ _ by simp)
  go_wp2_with fail
  refine (sameN nS n9 aS a9 cS c9 zS z9 xS x9 _ _ _ NS.out N9.out lS l9 true (decide_eq_true hr)).mono ?_
  rintro e k6w ⟨rfl, k6⟩
  replace BX := BX.keep k6
  replace l1 := l1.below k6 (Nat.le_refl _)
  replace l3 := l3.below k6 (Nat.le_refl _)
  replace l8 := l8.below k6 (Nat.le_refl _)
  replace l9 := l9.below k6 (Nat.le_refl _)
  replace lS := lS.below k6 (Nat.le_refl _)
  clear k6
  clear l9 N9 lS NS
  go_wp2_with fail
  refine (wValue b y oy fy _ (hT.below BX.bel (Nat.le_refl _))).mono ?_
  rintro e uY ⟨nY, zY, xY, aY, cY, rfl, dY⟩
  replace BX := BX.keep dY.bel
  replace l1 := l1.below dY.bel (Nat.le_refl _)
  replace l3 := l3.below dY.bel (Nat.le_refl _)
  have lY := dY.lie
  have NY := Hide.mk dY.num
  clear dY
  replace BX := BX.push (DO nY aY zY.length cY xY)
  replace l1 := l1.below (below_alloc uY (DO nY aY zY.length cY xY)) (Nat.le_refl _)
  replace l3 := l3.below (below_alloc uY (DO nY aY zY.length cY xY)) (Nat.le_refl _)
  replace lY := lY.below (below_alloc uY (DO nY aY zY.length cY xY)) (Nat.le_refl _)
  obtain ⟨⟨fY0, fY1, fY2⟩, _⟩ := cells3 BX uY.heap.size _ _ _ _ (show (uY.heap.size, DO nY aY zY.length cY xY) ∈ _ by simp)
  obtain ⟨⟨f10, f11, f12⟩, _⟩ := cells3 BX u1.heap.size _ _ _ _ (show (u1.heap.size, DO n1 a1 z1.length c1 x1) ∈ _ by simp)
  obtain ⟨⟨f30, f31, f32⟩, _⟩ := cells3 BX u3.heap.size _ _ _ _ (show (u3.heap.size, DO n3 a3 z3.length c3 x3) ∈ _ by simp)
  go_wp2_with fail
  generalize hwY : uY.alloc (DO nY aY zY.length cY xY) = vY at *
  clear hwY
  refine (cmpX nY n1 aY a1 cY c1 zY z1 xY x1 _ lY l1 NY.out N1.out 0 hy).mono ?_
  rintro e k7w ⟨rfl, k7⟩
  replace BX := BX.keep k7
  replace l1 := l1.below k7 (Nat.le_refl _)
  replace l3 := l3.below k7 (Nat.le_refl _)
  replace lY := lY.below k7 (Nat.le_refl _)
  clear k7
  go_wp2_with fail
  refine (lKnown _).mono ?_
  rintro e k8w ⟨rfl, k8⟩
  replace BX := BX.keep k8
  replace l1 := l1.below k8 (Nat.le_refl _)
  replace l3 := l3.below k8 (Nat.le_refl _)
  replace lY := lY.below k8 (Nat.le_refl _)
  clear k8
  go_wp2
  go_ret
  exact ⟨rfl, BX.bel⟩
set_option maxHeartbeats 4000000 in
theorem next_two_ge0 (b : Bool) (x y : Int) (h : Ok b x) (hf : sz b x < inf b) (u d : Int) (hu : upx b x = (u, 0)) (ho : Ok b u) (hv : sz b u < inf b) (hd : dnx b u = (d, 0)) (hdo : Ok b d) (hdf : sz b d < inf b) (hback : wv b d = wv b x) (hgt : wv b x < wv b u) (hr0 : wv b u - wv b x ≠ pK (ue b x)) (hr : wv b u - wv b x = pK (ue b u)) (oy : Ok b y) (fy : sz b y < inf b) (hy0 : wv b x < wv b y) (hy : sgn (wv b y) (wv b u) = 0)  (w : World) (hT : Tab w) :
    Calls Tryd.prog 9 #[.int .u8 (fm b), .int .u64 x, .int .u64 y] w fun e w' => e = .returned (.bool true) ∧ Below w.heap.size w w' := by
  have BX := Bx.nil w
  have HU := fun w => Hide.mk (wUp b x h w)
  rw [hu] at HU
  have HD := fun w => Hide.mk (wDown b u ho w)
  rw [hd] at HD
  clear hu hd
  go_enter Tryd.func9, Tryd.ntmps9
  go_wp2_with fail
  refine (wValue b x h hf _ (hT.below BX.bel (Nat.le_refl _))).mono ?_
  rintro e u1 ⟨n1, z1, x1, a1, c1, rfl, d1⟩
  replace BX := BX.keep d1.bel
  have l1 := d1.lie
  have N1 := Hide.mk d1.num
  clear d1
  replace BX := BX.push (DO n1 a1 z1.length c1 x1)
  replace l1 := l1.below (below_alloc u1 (DO n1 a1 z1.length c1 x1)) (Nat.le_refl _)
  go_wp2_with fail
  generalize hw1 : u1.alloc (DO n1 a1 z1.length c1 x1) = v1 at *
  clear hw1
  refine ((HU _).out).mono ?_
  rintro e k1w ⟨rfl, k1⟩
  replace BX := BX.keep k1
  replace l1 := l1.below k1 (Nat.le_refl _)
  clear k1
  clear HU
  go_wp2_with fail
  refine (wValue b u ho hv _ (hT.below BX.bel (Nat.le_refl _))).mono ?_
  rintro e u3 ⟨n3, z3, x3, a3, c3, rfl, d3⟩
  replace BX := BX.keep d3.bel
  replace l1 := l1.below d3.bel (Nat.le_refl _)
  have l3 := d3.lie
  have N3 := Hide.mk d3.num
  clear d3
  replace BX := BX.push (DO n3 a3 z3.length c3 x3)
  replace l1 := l1.below (below_alloc u3 (DO n3 a3 z3.length c3 x3)) (Nat.le_refl _)
  replace l3 := l3.below (below_alloc u3 (DO n3 a3 z3.length c3 x3)) (Nat.le_refl _)
  go_wp2_with fail
  generalize hw3 : u3.alloc (DO n3 a3 z3.length c3 x3) = v3 at *
  clear hw3
  refine ((HD _).out).mono ?_
  rintro e k2w ⟨rfl, k2⟩
  replace BX := BX.keep k2
  replace l1 := l1.below k2 (Nat.le_refl _)
  replace l3 := l3.below k2 (Nat.le_refl _)
  clear k2
  clear HD
  go_wp2_with fail
  refine (wValue b d hdo hdf _ (hT.below BX.bel (Nat.le_refl _))).mono ?_
  rintro e u7 ⟨n7, z7, x7, a7, c7, rfl, d7⟩
  replace BX := BX.keep d7.bel
  replace l1 := l1.below d7.bel (Nat.le_refl _)
  replace l3 := l3.below d7.bel (Nat.le_refl _)
  have l7 := d7.lie
  have N7 := Hide.mk d7.num
  clear d7
  replace BX := BX.push (DO n7 a7 z7.length c7 x7)
  replace l1 := l1.below (below_alloc u7 (DO n7 a7 z7.length c7 x7)) (Nat.le_refl _)
  replace l3 := l3.below (below_alloc u7 (DO n7 a7 z7.length c7 x7)) (Nat.le_refl _)
  replace l7 := l7.below (below_alloc u7 (DO n7 a7 z7.length c7 x7)) (Nat.le_refl _)
  go_wp2_with fail
  generalize hw7 : u7.alloc (DO n7 a7 z7.length c7 x7) = v7 at *
  clear hw7
  refine (wUnit b x h hf _ (hT.below BX.bel (Nat.le_refl _))).mono ?_
  rintro e u8 ⟨n8, z8, x8, a8, c8, rfl, d8⟩
  replace BX := BX.keep d8.bel
  replace l1 := l1.below d8.bel (Nat.le_refl _)
  replace l3 := l3.below d8.bel (Nat.le_refl _)
  replace l7 := l7.below d8.bel (Nat.le_refl _)
  have l8 := d8.lie
  have N8 := Hide.mk d8.num
  clear d8
  replace BX := BX.push (DO n8 a8 z8.length c8 x8)
  replace l1 := l1.below (below_alloc u8 (DO n8 a8 z8.length c8 x8)) (Nat.le_refl _)
  replace l3 := l3.below (below_alloc u8 (DO n8 a8 z8.length c8 x8)) (Nat.le_refl _)
  replace l7 := l7.below (below_alloc u8 (DO n8 a8 z8.length c8 x8)) (Nat.le_refl _)
  replace l8 := l8.below (below_alloc u8 (DO n8 a8 z8.length c8 x8)) (Nat.le_refl _)
  go_wp2_with fail
  generalize hw8 : u8.alloc (DO n8 a8 z8.length c8 x8) = v8 at *
  clear hw8
  refine (wUnit b u ho hv _ (hT.below BX.bel (Nat.le_refl _))).mono ?_
  rintro e u9 ⟨n9, z9, x9, a9, c9, rfl, d9⟩
  replace BX := BX.keep d9.bel
  replace l1 := l1.below d9.bel (Nat.le_refl _)
  replace l3 := l3.below d9.bel (Nat.le_refl _)
  replace l7 := l7.below d9.bel (Nat.le_refl _)
  replace l8 := l8.below d9.bel (Nat.le_refl _)
  have l9 := d9.lie
  have N9 := Hide.mk d9.num
  clear d9
  replace BX := BX.push (DO n9 a9 z9.length c9 x9)
  replace l1 := l1.below (below_alloc u9 (DO n9 a9 z9.length c9 x9)) (Nat.le_refl _)
  replace l3 := l3.below (below_alloc u9 (DO n9 a9 z9.length c9 x9)) (Nat.le_refl _)
  replace l7 := l7.below (below_alloc u9 (DO n9 a9 z9.length c9 x9)) (Nat.le_refl _)
  replace l8 := l8.below (below_alloc u9 (DO n9 a9 z9.length c9 x9)) (Nat.le_refl _)
  replace l9 := l9.below (below_alloc u9 (DO n9 a9 z9.length c9 x9)) (Nat.le_refl _)
  obtain ⟨⟨f70, f71, f72⟩, _⟩ := cells3 BX u7.heap.size _ _ _ _ (show (u7.heap.size, DO n7 a7 z7.length c7 x7) ∈ _ by simp)
  obtain ⟨⟨f10, f11, f12⟩, _⟩ := cells3 BX u1.heap.size _ _ _ _ (show (u1.heap.size, DO n1 a1 z1.length c1 x1) ∈ _ by simp)
  obtain ⟨⟨f30, f31, f32⟩, _⟩ := cells3 BX u3.heap.size _ _ _ _ (show (u3.heap.size, DO n3 a3 z3.length c3 x3) ∈ _ by simp)
  go_wp2_with fail
  generalize hw9 : u9.alloc (DO n9 a9 z9.length c9 x9) = v9 at *
  clear hw9
  refine (sameN n7 n1 a7 a1 c7 c1 z7 z1 x7 x1 _ _ _ N7.out N1.out l7 l1 true (decide_eq_true hback)).mono ?_
  rintro e k3w ⟨rfl, k3⟩
  replace BX := BX.keep k3
  replace l1 := l1.below k3 (Nat.le_refl _)
  replace l3 := l3.below k3 (Nat.le_refl _)
  replace l7 := l7.below k3 (Nat.le_refl _)
  replace l8 := l8.below k3 (Nat.le_refl _)
  replace l9 := l9.below k3 (Nat.le_refl _)
  clear k3
  clear l7 N7
  obtain ⟨⟨f30, f31, f32⟩, _⟩ := cells3 BX u3.heap.size _ _ _ _ (show (u3.heap.size, DO n3 a3 z3.length c3 x3) ∈ _ by simp)
  obtain ⟨⟨f10, f11, f12⟩, _⟩ := cells3 BX u1.heap.size _ _ _ _ (show (u1.heap.size, DO n1 a1 z1.length c1 x1) ∈ _ by simp)
  go_wp2_with fail
  refine (cmpX n3 n1 a3 a1 c3 c1 z3 z1 x3 x1 _ l3 l1 N3.out N1.out 1 (sgn_is2 hgt)).mono ?_
  rintro e k4w ⟨rfl, k4⟩
  replace BX := BX.keep k4
  replace l1 := l1.below k4 (Nat.le_refl _)
  replace l3 := l3.below k4 (Nat.le_refl _)
  replace l8 := l8.below k4 (Nat.le_refl _)
  replace l9 := l9.below k4 (Nat.le_refl _)
  clear k4
  obtain ⟨⟨f30, f31, f32⟩, _⟩ := cells3 BX u3.heap.size _ _ _ _ (show (u3.heap.size, DO n3 a3 z3.length c3 x3) ∈ _ by simp)
  obtain ⟨⟨f10, f11, f12⟩, _⟩ := cells3 BX u1.heap.size _ _ _ _ (show (u1.heap.size, DO n1 a1 z1.length c1 x1) ∈ _ by simp)
  go_wp2_with fail
  refine (subD n3 n1 a3 a1 c3 c1 z3 z1 x3 x1 _ l3 l1 N3.out N1.out (wv_db b u) (wv_db b x) (m4h KK KK_eq).1 (m4h KK KK_eq).2).mono ?_
  rintro e uS ⟨nS, zS, xS, aS, cS, rfl, NS0, lS, kS⟩
  have NS := Hide.mk NS0
  clear NS0
  replace BX := BX.keep kS
  replace l1 := l1.below kS (Nat.le_refl _)
  replace l3 := l3.below kS (Nat.le_refl _)
  replace l8 := l8.below kS (Nat.le_refl _)
  replace l9 := l9.below kS (Nat.le_refl _)
  clear kS
  replace BX := BX.push (DO nS aS zS.length cS xS)
  replace l1 := l1.below (below_alloc uS (DO nS aS zS.length cS xS)) (Nat.le_refl _)
  replace l3 := l3.below (below_alloc uS (DO nS aS zS.length cS xS)) (Nat.le_refl _)
  replace l8 := l8.below (below_alloc uS (DO nS aS zS.length cS xS)) (Nat.le_refl _)
  replace l9 := l9.below (below_alloc uS (DO nS aS zS.length cS xS)) (Nat.le_refl _)
  replace lS := lS.below (below_alloc uS (DO nS aS zS.length cS xS)) (Nat.le_refl _)
  obtain ⟨⟨fS0, fS1, fS2⟩, _⟩ := cells3 BX uS.heap.size _ _ _ _ (show (uS.heap.size, DO nS aS zS.length cS xS) ∈ _ by simp)
  obtain ⟨⟨f80, f81, f82⟩, _⟩ := cells3 BX u8.heap.size _ _ _ _ (show (u8.heap.size, DO n8 a8 z8.length c8 x8) ∈ _ by simp)
  obtain ⟨⟨f90, f91, f92⟩, _⟩ := cells3 BX u9.heap.size _ _ _ _ (show (u9.heap.size, DO n9 a9 z9.length c9 x9) ∈ _ by simp)
  go_wp2_with fail
  generalize hwS : uS.alloc (DO nS aS zS.length cS xS) = vS at *
  clear hwS
  refine (sameN nS n8 aS a8 cS c8 zS z8 xS x8 _ _ _ NS.out N8.out lS l8 false (decide_eq_false hr0)).mono ?_
  rintro e k5w ⟨rfl, k5⟩
  replace BX := BX.keep k5
  replace l1 := l1.below k5 (Nat.le_refl _)
  replace l3 := l3.below k5 (Nat.le_refl _)
  replace l8 := l8.below k5 (Nat.le_refl _)
  replace l9 := l9.below k5 (Nat.le_refl _)
  replace lS := lS.below k5 (Nat.le_refl _)
  clear k5
  clear N8
  obtain ⟨⟨fS0, fS1, fS2⟩, _⟩ := cells3 BX uS.heap.size _ _ _ _ (show (uS.heap.size, DO nS aS zS.length cS xS) ∈ _ by simp)
  obtain ⟨⟨f90, f91, f92⟩, _⟩ := cells3 BX u9.heap.size _ _ _ _ (show (u9.heap.size, DO n9 a9 z9.length c9 x9) ∈ _ by simp)
  go_wp2_with fail
  refine (sameN nS n9 aS a9 cS c9 zS z9 xS x9 _ _ _ NS.out N9.out lS l9 true (decide_eq_true hr)).mono ?_
  rintro e k6w ⟨rfl, k6⟩
  replace BX := BX.keep k6
  replace l1 := l1.below k6 (Nat.le_refl _)
  replace l3 := l3.below k6 (Nat.le_refl _)
  replace l8 := l8.below k6 (Nat.le_refl _)
  replace l9 := l9.below k6 (Nat.le_refl _)
  replace lS := lS.below k6 (Nat.le_refl _)
  clear k6
  clear l9 N9 lS NS
  go_wp2_with fail
  refine (wValue b y oy fy _ (hT.below BX.bel (Nat.le_refl _))).mono ?_
  rintro e uY ⟨nY, zY, xY, aY, cY, rfl, dY⟩
  replace BX := BX.keep dY.bel
  replace l1 := l1.below dY.bel (Nat.le_refl _)
  replace l3 := l3.below dY.bel (Nat.le_refl _)
  have lY := dY.lie
  have NY := Hide.mk dY.num
  clear dY
  replace BX := BX.push (DO nY aY zY.length cY xY)
  replace l1 := l1.below (below_alloc uY (DO nY aY zY.length cY xY)) (Nat.le_refl _)
  replace l3 := l3.below (below_alloc uY (DO nY aY zY.length cY xY)) (Nat.le_refl _)
  replace lY := lY.below (below_alloc uY (DO nY aY zY.length cY xY)) (Nat.le_refl _)
  obtain ⟨⟨fY0, fY1, fY2⟩, _⟩ := cells3 BX uY.heap.size _ _ _ _ (show (uY.heap.size, DO nY aY zY.length cY xY) ∈ _ by simp)
  obtain ⟨⟨f10, f11, f12⟩, _⟩ := cells3 BX u1.heap.size _ _ _ _ (show (u1.heap.size, DO n1 a1 z1.length c1 x1) ∈ _ by simp)
  obtain ⟨⟨f30, f31, f32⟩, _⟩ := cells3 BX u3.heap.size _ _ _ _ (show (u3.heap.size, DO n3 a3 z3.length c3 x3) ∈ _ by simp)
  go_wp2_with fail
  generalize hwY : uY.alloc (DO nY aY zY.length cY xY) = vY at *
  clear hwY
  refine (cmpX nY n1 aY a1 cY c1 zY z1 xY x1 _ lY l1 NY.out N1.out 1 (sgn_is2 hy0)).mono ?_
  rintro e k7w ⟨rfl, k7⟩
  replace BX := BX.keep k7
  replace l1 := l1.below k7 (Nat.le_refl _)
  replace l3 := l3.below k7 (Nat.le_refl _)
  replace lY := lY.below k7 (Nat.le_refl _)
  clear k7
  obtain ⟨⟨fY0, fY1, fY2⟩, _⟩ := cells3 BX uY.heap.size _ _ _ _ (show (uY.heap.size, DO nY aY zY.length cY xY) ∈ _ by simp)
  obtain ⟨⟨f30, f31, f32⟩, _⟩ := cells3 BX u3.heap.size _ _ _ _ (show (u3.heap.size, DO n3 a3 z3.length c3 x3) ∈ _ by simp)
  go_wp2_with fail
  refine (cmpX nY n3 aY a3 cY c3 zY z3 xY x3 _ lY l3 NY.out N3.out 0 hy).mono ?_
  rintro e k8w ⟨rfl, k8⟩
  replace BX := BX.keep k8
  replace l1 := l1.below k8 (Nat.le_refl _)
  replace l3 := l3.below k8 (Nat.le_refl _)
  replace lY := lY.below k8 (Nat.le_refl _)
  clear k8
  go_wp2_with fail
  refine (lKnown _).mono ?_
  rintro e k9w ⟨rfl, k9⟩
  replace BX := BX.keep k9
  replace l1 := l1.below k9 (Nat.le_refl _)
  replace l3 := l3.below k9 (Nat.le_refl _)
  replace lY := lY.below k9 (Nat.le_refl _)
  clear k9
  go_wp2
  go_ret
  exact ⟨rfl, BX.bel⟩
set_option maxHeartbeats 4000000 in
theorem next_two_ge1 (b : Bool) (x y : Int) (h : Ok b x) (hf : sz b x < inf b) (u d : Int) (hu : upx b x = (u, 0)) (ho : Ok b u) (hv : sz b u < inf b) (hd : dnx b u = (d, 0)) (hdo : Ok b d) (hdf : sz b d < inf b) (hback : wv b d = wv b x) (hgt : wv b x < wv b u) (hr0 : wv b u - wv b x ≠ pK (ue b x)) (hr : wv b u - wv b x = pK (ue b u)) (oy : Ok b y) (fy : sz b y < inf b) (hy0 : wv b x < wv b y) (hy : sgn (wv b y) (wv b u) = 1)  (w : World) (hT : Tab w) :
    Calls Tryd.prog 9 #[.int .u8 (fm b), .int .u64 x, .int .u64 y] w fun e w' => e = .returned (.bool true) ∧ Below w.heap.size w w' := by
  have BX := Bx.nil w
  have HU := fun w => Hide.mk (wUp b x h w)
  rw [hu] at HU
  have HD := fun w => Hide.mk (wDown b u ho w)
  rw [hd] at HD
  clear hu hd
  go_enter Tryd.func9, Tryd.ntmps9
  go_wp2_with fail
  refine (wValue b x h hf _ (hT.below BX.bel (Nat.le_refl _))).mono ?_
  rintro e u1 ⟨n1, z1, x1, a1, c1, rfl, d1⟩
  replace BX := BX.keep d1.bel
  have l1 := d1.lie
  have N1 := Hide.mk d1.num
  clear d1
  replace BX := BX.push (DO n1 a1 z1.length c1 x1)
  replace l1 := l1.below (below_alloc u1 (DO n1 a1 z1.length c1 x1)) (Nat.le_refl _)
  go_wp2_with fail
  generalize hw1 : u1.alloc (DO n1 a1 z1.length c1 x1) = v1 at *
  clear hw1
  refine ((HU _).out).mono ?_
  rintro e k1w ⟨rfl, k1⟩
  replace BX := BX.keep k1
  replace l1 := l1.below k1 (Nat.le_refl _)
  clear k1
  clear HU
  go_wp2_with fail
  refine (wValue b u ho hv _ (hT.below BX.bel (Nat.le_refl _))).mono ?_
  rintro e u3 ⟨n3, z3, x3, a3, c3, rfl, d3⟩
  replace BX := BX.keep d3.bel
  replace l1 := l1.below d3.bel (Nat.le_refl _)
  have l3 := d3.lie
  have N3 := Hide.mk d3.num
  clear d3
  replace BX := BX.push (DO n3 a3 z3.length c3 x3)
  replace l1 := l1.below (below_alloc u3 (DO n3 a3 z3.length c3 x3)) (Nat.le_refl _)
  replace l3 := l3.below (below_alloc u3 (DO n3 a3 z3.length c3 x3)) (Nat.le_refl _)
  go_wp2_with fail
  generalize hw3 : u3.alloc (DO n3 a3 z3.length c3 x3) = v3 at *
  clear hw3
  refine ((HD _).out).mono ?_
  rintro e k2w ⟨rfl, k2⟩
  replace BX := BX.keep k2
  replace l1 := l1.below k2 (Nat.le_refl _)
  replace l3 := l3.below k2 (Nat.le_refl _)
  clear k2
  clear HD
  go_wp2_with fail
  refine (wValue b d hdo hdf _ (hT.below BX.bel (Nat.le_refl _))).mono ?_
  rintro e u7 ⟨n7, z7, x7, a7, c7, rfl, d7⟩
  replace BX := BX.keep d7.bel
  replace l1 := l1.below d7.bel (Nat.le_refl _)
  replace l3 := l3.below d7.bel (Nat.le_refl _)
  have l7 := d7.lie
  have N7 := Hide.mk d7.num
  clear d7
  replace BX := BX.push (DO n7 a7 z7.length c7 x7)
  replace l1 := l1.below (below_alloc u7 (DO n7 a7 z7.length c7 x7)) (Nat.le_refl _)
  replace l3 := l3.below (below_alloc u7 (DO n7 a7 z7.length c7 x7)) (Nat.le_refl _)
  replace l7 := l7.below (below_alloc u7 (DO n7 a7 z7.length c7 x7)) (Nat.le_refl _)
  go_wp2_with fail
  generalize hw7 : u7.alloc (DO n7 a7 z7.length c7 x7) = v7 at *
  clear hw7
  refine (wUnit b x h hf _ (hT.below BX.bel (Nat.le_refl _))).mono ?_
  rintro e u8 ⟨n8, z8, x8, a8, c8, rfl, d8⟩
  replace BX := BX.keep d8.bel
  replace l1 := l1.below d8.bel (Nat.le_refl _)
  replace l3 := l3.below d8.bel (Nat.le_refl _)
  replace l7 := l7.below d8.bel (Nat.le_refl _)
  have l8 := d8.lie
  have N8 := Hide.mk d8.num
  clear d8
  replace BX := BX.push (DO n8 a8 z8.length c8 x8)
  replace l1 := l1.below (below_alloc u8 (DO n8 a8 z8.length c8 x8)) (Nat.le_refl _)
  replace l3 := l3.below (below_alloc u8 (DO n8 a8 z8.length c8 x8)) (Nat.le_refl _)
  replace l7 := l7.below (below_alloc u8 (DO n8 a8 z8.length c8 x8)) (Nat.le_refl _)
  replace l8 := l8.below (below_alloc u8 (DO n8 a8 z8.length c8 x8)) (Nat.le_refl _)
  go_wp2_with fail
  generalize hw8 : u8.alloc (DO n8 a8 z8.length c8 x8) = v8 at *
  clear hw8
  refine (wUnit b u ho hv _ (hT.below BX.bel (Nat.le_refl _))).mono ?_
  rintro e u9 ⟨n9, z9, x9, a9, c9, rfl, d9⟩
  replace BX := BX.keep d9.bel
  replace l1 := l1.below d9.bel (Nat.le_refl _)
  replace l3 := l3.below d9.bel (Nat.le_refl _)
  replace l7 := l7.below d9.bel (Nat.le_refl _)
  replace l8 := l8.below d9.bel (Nat.le_refl _)
  have l9 := d9.lie
  have N9 := Hide.mk d9.num
  clear d9
  replace BX := BX.push (DO n9 a9 z9.length c9 x9)
  replace l1 := l1.below (below_alloc u9 (DO n9 a9 z9.length c9 x9)) (Nat.le_refl _)
  replace l3 := l3.below (below_alloc u9 (DO n9 a9 z9.length c9 x9)) (Nat.le_refl _)
  replace l7 := l7.below (below_alloc u9 (DO n9 a9 z9.length c9 x9)) (Nat.le_refl _)
  replace l8 := l8.below (below_alloc u9 (DO n9 a9 z9.length c9 x9)) (Nat.le_refl _)
  replace l9 := l9.below (below_alloc u9 (DO n9 a9 z9.length c9 x9)) (Nat.le_refl _)
  obtain ⟨⟨f70, f71, f72⟩, _⟩ := cells3 BX u7.heap.size _ _ _ _ (show (u7.heap.size, DO n7 a7 z7.length c7 x7) ∈ _ by simp)
  obtain ⟨⟨f10, f11, f12⟩, _⟩ := cells3 BX u1.heap.size _ _ _ _ (show (u1.heap.size, DO n1 a1 z1.length c1 x1) ∈ _ by simp)
  obtain ⟨⟨f30, f31, f32⟩, _⟩ := cells3 BX u3.heap.size _ _ _ _ (show (u3.heap.size, DO n3 a3 z3.length c3 x3) ∈ _ by simp)
  go_wp2_with fail
  generalize hw9 : u9.alloc (DO n9 a9 z9.length c9 x9) = v9 at *
  clear hw9
  refine (sameN n7 n1 a7 a1 c7 c1 z7 z1 x7 x1 _ _ _ N7.out N1.out l7 l1 true (decide_eq_true hback)).mono ?_
  rintro e k3w ⟨rfl, k3⟩
  replace BX := BX.keep k3
  replace l1 := l1.below k3 (Nat.le_refl _)
  replace l3 := l3.below k3 (Nat.le_refl _)
  replace l7 := l7.below k3 (Nat.le_refl _)
  replace l8 := l8.below k3 (Nat.le_refl _)
  replace l9 := l9.below k3 (Nat.le_refl _)
  clear k3
  clear l7 N7
  obtain ⟨⟨f30, f31, f32⟩, _⟩ := cells3 BX u3.heap.size _ _ _ _ (show (u3.heap.size, DO n3 a3 z3.length c3 x3) ∈ _ by simp)
  obtain ⟨⟨f10, f11, f12⟩, _⟩ := cells3 BX u1.heap.size _ _ _ _ (show (u1.heap.size, DO n1 a1 z1.length c1 x1) ∈ _ by simp)
  go_wp2_with fail
  refine (cmpX n3 n1 a3 a1 c3 c1 z3 z1 x3 x1 _ l3 l1 N3.out N1.out 1 (sgn_is2 hgt)).mono ?_
  rintro e k4w ⟨rfl, k4⟩
  replace BX := BX.keep k4
  replace l1 := l1.below k4 (Nat.le_refl _)
  replace l3 := l3.below k4 (Nat.le_refl _)
  replace l8 := l8.below k4 (Nat.le_refl _)
  replace l9 := l9.below k4 (Nat.le_refl _)
  clear k4
  obtain ⟨⟨f30, f31, f32⟩, _⟩ := cells3 BX u3.heap.size _ _ _ _ (show (u3.heap.size, DO n3 a3 z3.length c3 x3) ∈ _ by simp)
  obtain ⟨⟨f10, f11, f12⟩, _⟩ := cells3 BX u1.heap.size _ _ _ _ (show (u1.heap.size, DO n1 a1 z1.length c1 x1) ∈ _ by simp)
  go_wp2_with fail
  refine (subD n3 n1 a3 a1 c3 c1 z3 z1 x3 x1 _ l3 l1 N3.out N1.out (wv_db b u) (wv_db b x) (m4h KK KK_eq).1 (m4h KK KK_eq).2).mono ?_
  rintro e uS ⟨nS, zS, xS, aS, cS, rfl, NS0, lS, kS⟩
  have NS := Hide.mk NS0
  clear NS0
  replace BX := BX.keep kS
  replace l1 := l1.below kS (Nat.le_refl _)
  replace l3 := l3.below kS (Nat.le_refl _)
  replace l8 := l8.below kS (Nat.le_refl _)
  replace l9 := l9.below kS (Nat.le_refl _)
  clear kS
  replace BX := BX.push (DO nS aS zS.length cS xS)
  replace l1 := l1.below (below_alloc uS (DO nS aS zS.length cS xS)) (Nat.le_refl _)
  replace l3 := l3.below (below_alloc uS (DO nS aS zS.length cS xS)) (Nat.le_refl _)
  replace l8 := l8.below (below_alloc uS (DO nS aS zS.length cS xS)) (Nat.le_refl _)
  replace l9 := l9.below (below_alloc uS (DO nS aS zS.length cS xS)) (Nat.le_refl _)
  replace lS := lS.below (below_alloc uS (DO nS aS zS.length cS xS)) (Nat.le_refl _)
  obtain ⟨⟨fS0, fS1, fS2⟩, _⟩ := cells3 BX uS.heap.size _ _ _ _ (show (uS.heap.size, DO nS aS zS.length cS xS) ∈ _ by simp)
  obtain ⟨⟨f80, f81, f82⟩, _⟩ := cells3 BX u8.heap.size _ _ _ _ (show (u8.heap.size, DO n8 a8 z8.length c8 x8) ∈ _ by simp)
  obtain ⟨⟨f90, f91, f92⟩, _⟩ := cells3 BX u9.heap.size _ _ _ _ (show (u9.heap.size, DO n9 a9 z9.length c9 x9) ∈ _ by simp)
  go_wp2_with fail
  generalize hwS : uS.alloc (DO nS aS zS.length cS xS) = vS at *
  clear hwS
  refine (sameN nS n8 aS a8 cS c8 zS z8 xS x8 _ _ _ NS.out N8.out lS l8 false (decide_eq_false hr0)).mono ?_
  rintro e k5w ⟨rfl, k5⟩
  replace BX := BX.keep k5
  replace l1 := l1.below k5 (Nat.le_refl _)
  replace l3 := l3.below k5 (Nat.le_refl _)
  replace l8 := l8.below k5 (Nat.le_refl _)
  replace l9 := l9.below k5 (Nat.le_refl _)
  replace lS := lS.below k5 (Nat.le_refl _)
  clear k5
  clear N8
  obtain ⟨⟨fS0, fS1, fS2⟩, _⟩ := cells3 BX uS.heap.size _ _ _ _ (show (uS.heap.size, DO nS aS zS.length cS xS) ∈ _ by simp)
  obtain ⟨⟨f90, f91, f92⟩, _⟩ := cells3 BX u9.heap.size _ _ _ _ (show (u9.heap.size, DO n9 a9 z9.length c9 x9) ∈ _ by simp)
  go_wp2_with fail
  refine (sameN nS n9 aS a9 cS c9 zS z9 xS x9 _ _ _ NS.out N9.out lS l9 true (decide_eq_true hr)).mono ?_
  rintro e k6w ⟨rfl, k6⟩
  replace BX := BX.keep k6
  replace l1 := l1.below k6 (Nat.le_refl _)
  replace l3 := l3.below k6 (Nat.le_refl _)
  replace l8 := l8.below k6 (Nat.le_refl _)
  replace l9 := l9.below k6 (Nat.le_refl _)
  replace lS := lS.below k6 (Nat.le_refl _)
  clear k6
  clear l9 N9 lS NS
  go_wp2_with fail
  refine (wValue b y oy fy _ (hT.below BX.bel (Nat.le_refl _))).mono ?_
  rintro e uY ⟨nY, zY, xY, aY, cY, rfl, dY⟩
  replace BX := BX.keep dY.bel
  replace l1 := l1.below dY.bel (Nat.le_refl _)
  replace l3 := l3.below dY.bel (Nat.le_refl _)
  have lY := dY.lie
  have NY := Hide.mk dY.num
  clear dY
  replace BX := BX.push (DO nY aY zY.length cY xY)
  replace l1 := l1.below (below_alloc uY (DO nY aY zY.length cY xY)) (Nat.le_refl _)
  replace l3 := l3.below (below_alloc uY (DO nY aY zY.length cY xY)) (Nat.le_refl _)
  replace lY := lY.below (below_alloc uY (DO nY aY zY.length cY xY)) (Nat.le_refl _)
  obtain ⟨⟨fY0, fY1, fY2⟩, _⟩ := cells3 BX uY.heap.size _ _ _ _ (show (uY.heap.size, DO nY aY zY.length cY xY) ∈ _ by simp)
  obtain ⟨⟨f10, f11, f12⟩, _⟩ := cells3 BX u1.heap.size _ _ _ _ (show (u1.heap.size, DO n1 a1 z1.length c1 x1) ∈ _ by simp)
  obtain ⟨⟨f30, f31, f32⟩, _⟩ := cells3 BX u3.heap.size _ _ _ _ (show (u3.heap.size, DO n3 a3 z3.length c3 x3) ∈ _ by simp)
  go_wp2_with fail
  generalize hwY : uY.alloc (DO nY aY zY.length cY xY) = vY at *
  clear hwY
  refine (cmpX nY n1 aY a1 cY c1 zY z1 xY x1 _ lY l1 NY.out N1.out 1 (sgn_is2 hy0)).mono ?_
  rintro e k7w ⟨rfl, k7⟩
  replace BX := BX.keep k7
  replace l1 := l1.below k7 (Nat.le_refl _)
  replace l3 := l3.below k7 (Nat.le_refl _)
  replace lY := lY.below k7 (Nat.le_refl _)
  clear k7
  obtain ⟨⟨fY0, fY1, fY2⟩, _⟩ := cells3 BX uY.heap.size _ _ _ _ (show (uY.heap.size, DO nY aY zY.length cY xY) ∈ _ by simp)
  obtain ⟨⟨f30, f31, f32⟩, _⟩ := cells3 BX u3.heap.size _ _ _ _ (show (u3.heap.size, DO n3 a3 z3.length c3 x3) ∈ _ by simp)
  go_wp2_with fail
  refine (cmpX nY n3 aY a3 cY c3 zY z3 xY x3 _ lY l3 NY.out N3.out 1 hy).mono ?_
  rintro e k8w ⟨rfl, k8⟩
  replace BX := BX.keep k8
  replace l1 := l1.below k8 (Nat.le_refl _)
  replace l3 := l3.below k8 (Nat.le_refl _)
  replace lY := lY.below k8 (Nat.le_refl _)
  clear k8
  go_wp2_with fail
  refine (lKnown _).mono ?_
  rintro e k9w ⟨rfl, k9⟩
  replace BX := BX.keep k9
  replace l1 := l1.below k9 (Nat.le_refl _)
  replace l3 := l3.below k9 (Nat.le_refl _)
  replace lY := lY.below k9 (Nat.le_refl _)
  clear k9
  go_wp2
  go_ret
  exact ⟨rfl, BX.bel⟩
theorem upx_fin {b : Bool} {x : Int} (hf : sz b x < inf b) (h : Ok b x) : upx b x = (up b x, 0) := by
  unfold upx
  rw [if_neg (by omega), if_neg]
  intro e
  have hi := inf_lt b
  subst e
  rw [sz_pos h (by omega)] at hf
  omega
theorem fin_any {b : Bool} (u : Int) (ho : Ok b u) : VE (fm b) u 7 ∨ sz b u < inf b := by
  by_cases c : sz b u < inf b
  · exact .inr c
  · exact .inl (.inr ⟨b, rfl, ho, by omega, rfl⟩)
theorem next_any (f x y : Int) (hx0 : 0 ≤ x) (hy0 : 0 ≤ y) (w : World) (hT : Tab w) :
    Calls Tryd.prog 9 #[.int .u8 f, .int .u64 x, .int .u64 y] w fun e w' => e = .returned (.bool true) ∧ Below w.heap.size w w' := by
  by_cases hf : Bad f
  · exact next_bad4 f x y (.inl ⟨hf, rfl⟩) (.inl (.inl ⟨hf, rfl⟩)) w hT
  · obtain ⟨b, rfl⟩ : ∃ b, f = fm b := by
      by_cases h1 : f = 1
      · exact ⟨false, h1⟩
      · by_cases h2 : f = 2
        · exact ⟨true, h2⟩
        · exact absurd ⟨h1, h2⟩ hf
    by_cases c : x < 2 * sg b
    · have h : Ok b x := ⟨hx0, c⟩
      have hu := up_ok b h
      by_cases hfin : sz b x < inf b
      · have eu := upx_fin hfin h
        rcases fin_any (up b x) hu with hv | hv
        · exact next_top b x y h hfin (up b x) eu hv w hT
        · have N := next_up h hfin
          have hgt : wv b x < wv b (up b x) := by
            have p1 := pK_pos (ue b x)
            have p2 := pK_pos (ue b (up b x))
            rcases N.rise with r | r <;> omega
          have ed : dnx b (up b x) = (fl b (up b (fl b (up b x))), 0) := by
            unfold dnx
            rw [if_neg (by omega), if_neg N.fin]
          have key : VE (fm b) y 6 ∨ VE (fm b) y 7 ∨ (Ok b y ∧ sz b y < inf b) := by
            by_cases c2 : y < 2 * sg b
            · rcases fin_any y ⟨hy0, c2⟩ with k | k
              · exact .inr (.inl k)
              · exact .inr (.inr ⟨⟨hy0, c2⟩, k⟩)
            · exact .inl (.inl (.inr ⟨b, rfl, by omega, rfl⟩))
          have thr : ∀ {P : Prop}, (sgn (wv b y) (wv b x) = -1 → Ok b y → sz b y < inf b → P) → (sgn (wv b y) (wv b x) = 0 → Ok b y → sz b y < inf b → P) → (wv b x < wv b y → sgn (wv b y) (wv b (up b x)) = 0 → Ok b y → sz b y < inf b → P) → (wv b x < wv b y → sgn (wv b y) (wv b (up b x)) = 1 → Ok b y → sz b y < inf b → P) → (Ok b y ∧ sz b y < inf b) → P := by
            intro P k1 k2 k3 k4 ⟨q1, q2⟩
            rcases Int.lt_trichotomy (wv b y) (wv b x) with r | r | r
            · exact k1 (sgn_is1 r) q1 q2
            · exact k2 (sgn_is0 r) q1 q2
            · rcases N.none y q1 with t | t
              · omega
              · by_cases e : wv b y = wv b (up b x)
                · exact k3 r (sgn_is0 e) q1 q2
                · exact k4 r (sgn_is2 (by omega)) q1 q2
          by_cases hr : wv b (up b x) - wv b x = pK (ue b x)
          · rcases key with k | k | k
            · exact next_one_err6 b x y h hfin _ _ eu hu hv ed N.okb N.finb N.back hgt hr k w hT
            · exact next_one_err7 b x y h hfin _ _ eu hu hv ed N.okb N.finb N.back hgt hr k w hT
            · exact thr (fun q1 q2 q3 => next_one_ltm b x y h hfin _ _ eu hu hv ed N.okb N.finb N.back hgt hr q2 q3 q1 w hT) (fun q1 q2 q3 => next_one_lt0 b x y h hfin _ _ eu hu hv ed N.okb N.finb N.back hgt hr q2 q3 q1 w hT) (fun q0 q1 q2 q3 => next_one_ge0 b x y h hfin _ _ eu hu hv ed N.okb N.finb N.back hgt hr q2 q3 q0 q1 w hT) (fun q0 q1 q2 q3 => next_one_ge1 b x y h hfin _ _ eu hu hv ed N.okb N.finb N.back hgt hr q2 q3 q0 q1 w hT) k
          · have hr2 : wv b (up b x) - wv b x = pK (ue b (up b x)) := by rcases N.rise with r | r <;> omega
            rcases key with k | k | k
            · exact next_two_err6 b x y h hfin _ _ eu hu hv ed N.okb N.finb N.back hgt hr hr2 k w hT
            · exact next_two_err7 b x y h hfin _ _ eu hu hv ed N.okb N.finb N.back hgt hr hr2 k w hT
            · exact thr (fun q1 q2 q3 => next_two_ltm b x y h hfin _ _ eu hu hv ed N.okb N.finb N.back hgt hr hr2 q2 q3 q1 w hT) (fun q1 q2 q3 => next_two_lt0 b x y h hfin _ _ eu hu hv ed N.okb N.finb N.back hgt hr hr2 q2 q3 q1 w hT) (fun q0 q1 q2 q3 => next_two_ge0 b x y h hfin _ _ eu hu hv ed N.okb N.finb N.back hgt hr hr2 q2 q3 q0 q1 w hT) (fun q0 q1 q2 q3 => next_two_ge1 b x y h hfin _ _ eu hu hv ed N.okb N.finb N.back hgt hr hr2 q2 q3 q0 q1 w hT) k
      · have hinf : inf b ≤ sz b x := by omega
        have key : ∃ u c, upx b x = (u, c) ∧ Ok b u := by
          unfold upx
          by_cases c1 : inf b < sz b x
          · rw [if_pos c1]; exact ⟨_, _, rfl, nan_ok b⟩
          · by_cases c2 : x = inf b
            · rw [if_neg c1, if_pos c2]; exact ⟨_, _, rfl, zero_ok b⟩
            · rw [if_neg c1, if_neg c2]; exact ⟨_, _, rfl, hu⟩
        obtain ⟨u, c3, e3, ou⟩ := key
        rcases fin_any u ou with hv | hv
        · exact next_inf b x y h hinf u c3 e3 hv w hT
        · exact next_infF b x y h hinf u c3 e3 ou hv w hT
    · exact next_bad6 (fm b) x y b rfl (.inr ⟨b, rfl, by omega, rfl⟩) w hT
end Go.Proofs.YtiamdmfhkhlppaaDoor
