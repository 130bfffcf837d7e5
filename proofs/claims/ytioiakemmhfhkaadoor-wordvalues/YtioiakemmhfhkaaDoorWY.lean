import Derived.Test.YtioiakemmhfhkaaDoorWX
namespace Go.Proofs.YtioiakemmhfhkaaDoor
open Go.RowKit Go.Wd Go.Box
set_option linter.unusedVariables false
set_option maxRecDepth 3000
theorem lIs (x : Int) (w : World) :
    Calls Tryd.prog 89 #[.int .u64 x, .int .i64 0, .int .u64 x, .int .i64 0] w fun e w' => e = .returned (.bool true) ∧ Below w.heap.size w w' := by
  have h : (x == x) = true := by simp
  go_enter Tryd.func89, Tryd.ntmps89
  go_wp2
  go_ret
  exact ⟨rfl, Below.refl _ _⟩
theorem lIs_err (c y : Int) (h : (c == 0) = false) (w : World) :
    Calls Tryd.prog 89 #[.int .u64 0, .int .i64 c, .int .u64 y, .int .i64 c] w fun e w' => e = .returned (.bool true) ∧ Below w.heap.size w w' := by
  have h2 : (c == c) = true := by simp
  go_enter Tryd.func89, Tryd.ntmps89
  go_wp2
  go_ret
  exact ⟨rfl, Below.refl _ _⟩
theorem same_none (w : World) :
    Calls Tryd.prog 43 #[noD, noD] w fun e w' => e = .returned (.bool true) ∧ Below w.heap.size w w' :=
  dsame40 false false none none 0 0 [] [] 0 0 w (zeroDG.lie (.inl rfl)) (zeroDG.lie (.inl rfl)) true rfl
theorem same_num (n1 n2 : Bool) (a1 a2 : Option Addr) (c1 c2 : Nat) (z1 z2 : List Int) (e1 e2 v : Int) (w : World) (N1 : DN n1 z1 e1 v) (N2 : DN n2 z2 e2 v) (l1 : Lie w a1 z1) (l2 : Lie w a2 z2) :
    Calls Tryd.prog 43 #[dV n1 a1 z1.length c1 e1, dV n2 a2 z2.length c2 e2] w fun e w' => e = .returned (.bool true) ∧ Below w.heap.size w w' :=
  dsame40 n1 n2 a1 a2 c1 c2 z1 z2 e1 e2 w (N1.dg.lie l1) (N2.dg.lie l2) true (decide_eq_true (N1.same N2 rfl))
set_option maxHeartbeats 4000000 in
theorem values_long (f x : Int) (n : Bool) (a : Option Addr) (c : Nat) (zs : List Int) (ex : Int) (hlen : (4100 : Int) < (zs.length : Int)) (w : World) (u : DLie w a zs) (hT : Tab w) :
    Calls Tryd.prog 16 #[.int .u8 f, .int .u64 x, dV n a zs.length c ex] w fun e w' => e = .returned (.bool true) ∧ Below w.heap.size w w' := by
  have BX := (Bx.nil w).push (DO n a zs.length c ex)
  go_enter Tryd.func16, Tryd.ntmps16
  go_wp2_with fail
  refine (lKnown _).mono ?_
  rintro e u1 ⟨rfl, k1⟩
  replace BX := BX.keep k1
  obtain ⟨⟨q0, q1, q2⟩, _⟩ := cells3 BX w.heap.size _ _ _ _ (show (w.heap.size, DO n a zs.length c ex) ∈ _ by simp)
  clear k1
  go_wp2
  go_ret
  exact ⟨rfl, BX.bel⟩
set_option maxHeartbeats 4000000 in
theorem values_bad (f x : Int) (n : Bool) (a : Option Addr) (c : Nat) (zs : List Int) (ex : Int) (hlen : (zs.length : Int) ≤ 4100) (hb : Bad f) (hx : x < 18446744073709551616) (w : World) (u : DLie w a zs) (hT : Tab w) :
    Calls Tryd.prog 16 #[.int .u8 f, .int .u64 x, dV n a zs.length c ex] w fun e w' => e = .returned (.bool true) ∧ Below w.heap.size w w' := by
  have BX := (Bx.nil w).push (DO n a zs.length c ex)
  have hV : VE f x 4 := .inl (.inl ⟨hb, rfl⟩)
  go_enter Tryd.func16, Tryd.ntmps16
  go_wp2_with fail
  refine (rGood_err f x 4 (.inl ⟨hb, rfl⟩) hx _).mono ?_
  rintro e u2 ⟨rfl, k2⟩
  replace BX := BX.keep k2
  obtain ⟨⟨q0, q1, q2⟩, _⟩ := cells3 BX w.heap.size _ _ _ _ (show (w.heap.size, DO n a zs.length c ex) ∈ _ by simp)
  clear k2
  go_wp2_with fail
  refine (wValue_err f x 4 hV _).mono ?_
  rintro e u3 ⟨rfl, k3⟩
  replace BX := BX.keep k3
  obtain ⟨⟨q0, q1, q2⟩, _⟩ := cells3 BX w.heap.size _ _ _ _ (show (w.heap.size, DO n a zs.length c ex) ∈ _ by simp)
  clear k3
  have hlt3 : w.heap.size < u3.heap.size := BX.lt (p := (w.heap.size, DO n a zs.length c ex)) (by simp)
  replace BX := BX.push (DO false none 0 0 0)
  go_wp2_with fail
  generalize hw3 : u3.alloc (DO false none 0 0 0) = wa at *
  clear hw3
  refine (wUnit_err f x 4 hV _).mono ?_
  rintro e u4 ⟨rfl, k4⟩
  replace BX := BX.keep k4
  clear k4
  have hlt4 : w.heap.size < u4.heap.size := BX.lt (p := (w.heap.size, DO n a zs.length c ex)) (by simp)
  have hlu : u3.heap.size < u4.heap.size := BX.lt (.head _)
  obtain ⟨⟨q0, q1, q2⟩, _⟩ := cells3 BX w.heap.size _ _ _ _ (show (w.heap.size, DO n a zs.length c ex) ∈ _ by simp)
  obtain ⟨⟨p0, p1, p2⟩, _⟩ := cells3 BX u3.heap.size _ _ _ _ (.head _)
  replace BX := BX.push (DO false none 0 0 0)
  clear hV
  go_wp2_with fail
  refine (same_none _).mono ?_
  rintro e u5 ⟨rfl, k5⟩
  replace BX := BX.keep k5
  clear k5
  obtain ⟨⟨q0, q1, q2⟩, _⟩ := cells3 BX w.heap.size _ _ _ _ (show (w.heap.size, DO n a zs.length c ex) ∈ _ by simp)
  obtain ⟨⟨s0, s1, s2⟩, _⟩ := cells3 BX u4.heap.size _ _ _ _ (.head _)
  go_wp2_with fail
  refine (same_none _).mono ?_
  rintro e u6 ⟨rfl, k6⟩
  replace BX := BX.keep k6
  obtain ⟨⟨q0, q1, q2⟩, _⟩ := cells3 BX w.heap.size _ _ _ _ (show (w.heap.size, DO n a zs.length c ex) ∈ _ by simp)
  clear k6
  go_wp2_with fail
  refine (wOf_bad f hb n a zs.length c ex _).mono ?_
  rintro e u7 ⟨rfl, k7⟩
  replace BX := BX.keep k7
  obtain ⟨⟨q0, q1, q2⟩, _⟩ := cells3 BX w.heap.size _ _ _ _ (show (w.heap.size, DO n a zs.length c ex) ∈ _ by simp)
  clear k7
  go_wp2_with fail
  refine (rIs_bad f hb _).mono ?_
  rintro e u8 ⟨rfl, k8⟩
  replace BX := BX.keep k8
  obtain ⟨⟨q0, q1, q2⟩, _⟩ := cells3 BX w.heap.size _ _ _ _ (show (w.heap.size, DO n a zs.length c ex) ∈ _ by simp)
  clear k8
  go_wp2_with fail
  refine (lIs_err 4 0 rfl _).mono ?_
  rintro e u9 ⟨rfl, k9⟩
  replace BX := BX.keep k9
  obtain ⟨⟨q0, q1, q2⟩, _⟩ := cells3 BX w.heap.size _ _ _ _ (show (w.heap.size, DO n a zs.length c ex) ∈ _ by simp)
  clear k9
  go_wp2_with fail
  refine (lKnown _).mono ?_
  rintro e u10 ⟨rfl, k10⟩
  replace BX := BX.keep k10
  obtain ⟨⟨q0, q1, q2⟩, _⟩ := cells3 BX w.heap.size _ _ _ _ (show (w.heap.size, DO n a zs.length c ex) ∈ _ by simp)
  clear k10
  go_wp2
  go_ret
  exact ⟨rfl, BX.bel⟩
set_option maxHeartbeats 4000000 in
theorem values_long_arg (b : Bool) (x : Int) (n : Bool) (a : Option Addr) (c : Nat) (zs : List Int) (ex : Int) (hlen : (zs.length : Int) ≤ 4100) (hl : GE (fm b) x 6) (hx : x < 18446744073709551616) (hm : dmayB n zs ex = false) (w : World) (u : DLie w a zs) (hT : Tab w) :
    Calls Tryd.prog 16 #[.int .u8 (fm b), .int .u64 x, dV n a zs.length c ex] w fun e w' => e = .returned (.bool true) ∧ Below w.heap.size w w' := by
  have BX := (Bx.nil w).push (DO n a zs.length c ex)
  have hV : VE (fm b) x 6 := .inl hl
  go_enter Tryd.func16, Tryd.ntmps16
  go_wp2_with fail
  refine (rGood_err (fm b) x 6 hl hx _).mono ?_
  rintro e u11 ⟨rfl, k11⟩
  replace BX := BX.keep k11
  obtain ⟨⟨q0, q1, q2⟩, _⟩ := cells3 BX w.heap.size _ _ _ _ (show (w.heap.size, DO n a zs.length c ex) ∈ _ by simp)
  clear k11
  go_wp2_with fail
  refine (wValue_err (fm b) x 6 hV _).mono ?_
  rintro e u12 ⟨rfl, k12⟩
  replace BX := BX.keep k12
  obtain ⟨⟨q0, q1, q2⟩, _⟩ := cells3 BX w.heap.size _ _ _ _ (show (w.heap.size, DO n a zs.length c ex) ∈ _ by simp)
  clear k12
  have hlt12 : w.heap.size < u12.heap.size := BX.lt (p := (w.heap.size, DO n a zs.length c ex)) (by simp)
  replace BX := BX.push (DO false none 0 0 0)
  go_wp2_with fail
  generalize hw12 : u12.alloc (DO false none 0 0 0) = wa at *
  clear hw12
  refine (wUnit_err (fm b) x 6 hV _).mono ?_
  rintro e u13 ⟨rfl, k13⟩
  replace BX := BX.keep k13
  clear k13
  have hlt13 : w.heap.size < u13.heap.size := BX.lt (p := (w.heap.size, DO n a zs.length c ex)) (by simp)
  have hlu : u12.heap.size < u13.heap.size := BX.lt (.head _)
  obtain ⟨⟨q0, q1, q2⟩, _⟩ := cells3 BX w.heap.size _ _ _ _ (show (w.heap.size, DO n a zs.length c ex) ∈ _ by simp)
  obtain ⟨⟨p0, p1, p2⟩, _⟩ := cells3 BX u12.heap.size _ _ _ _ (.head _)
  replace BX := BX.push (DO false none 0 0 0)
  clear hV
  go_wp2_with fail
  refine (same_none _).mono ?_
  rintro e u14 ⟨rfl, k14⟩
  replace BX := BX.keep k14
  clear k14
  obtain ⟨⟨q0, q1, q2⟩, _⟩ := cells3 BX w.heap.size _ _ _ _ (show (w.heap.size, DO n a zs.length c ex) ∈ _ by simp)
  obtain ⟨⟨s0, s1, s2⟩, _⟩ := cells3 BX u13.heap.size _ _ _ _ (.head _)
  go_wp2_with fail
  refine (same_none _).mono ?_
  rintro e u15 ⟨rfl, k15⟩
  replace BX := BX.keep k15
  obtain ⟨⟨q0, q1, q2⟩, _⟩ := cells3 BX w.heap.size _ _ _ _ (show (w.heap.size, DO n a zs.length c ex) ∈ _ by simp)
  clear k15
  clear hl
  go_wp2_with fail
  refine (wOf_arg b n a c zs ex _ ⟨u.lie.below BX.bel (Nat.le_refl _), u.len, u.rng⟩ hm).mono ?_
  rintro e u16 ⟨rfl, k16⟩
  replace BX := BX.keep k16
  obtain ⟨⟨q0, q1, q2⟩, _⟩ := cells3 BX w.heap.size _ _ _ _ (show (w.heap.size, DO n a zs.length c ex) ∈ _ by simp)
  clear k16
  go_wp2_with fail
  refine (rIs b _).mono ?_
  rintro e u17 ⟨rfl, k17⟩
  replace BX := BX.keep k17
  obtain ⟨⟨q0, q1, q2⟩, _⟩ := cells3 BX w.heap.size _ _ _ _ (show (w.heap.size, DO n a zs.length c ex) ∈ _ by simp)
  clear k17
  go_wp2_with fail
  refine (drefmay37 n a c zs ex _ ⟨u.lie.below BX.bel (Nat.le_refl _), u.len, u.rng⟩ false hm).mono ?_
  rintro e u18 ⟨rfl, k18⟩
  replace BX := BX.keep k18
  obtain ⟨⟨q0, q1, q2⟩, _⟩ := cells3 BX w.heap.size _ _ _ _ (show (w.heap.size, DO n a zs.length c ex) ∈ _ by simp)
  clear k18
  clear hm
  go_wp2_with fail
  refine (lIs_err 2 0 rfl _).mono ?_
  rintro e u19 ⟨rfl, k19⟩
  replace BX := BX.keep k19
  obtain ⟨⟨q0, q1, q2⟩, _⟩ := cells3 BX w.heap.size _ _ _ _ (show (w.heap.size, DO n a zs.length c ex) ∈ _ by simp)
  clear k19
  go_wp2_with fail
  refine (lKnown _).mono ?_
  rintro e u20 ⟨rfl, k20⟩
  replace BX := BX.keep k20
  obtain ⟨⟨q0, q1, q2⟩, _⟩ := cells3 BX w.heap.size _ _ _ _ (show (w.heap.size, DO n a zs.length c ex) ∈ _ by simp)
  clear k20
  go_wp2
  go_ret
  exact ⟨rfl, BX.bel⟩
set_option maxHeartbeats 4000000 in
theorem values_long_zero (b : Bool) (x : Int) (n : Bool) (a : Option Addr) (c : Nat) (zs : List Int) (ex : Int) (hzero : n = false ∧ zs = [] ∧ ex = 0) (hlen : (zs.length : Int) ≤ 4100) (hl : GE (fm b) x 6) (hx : x < 18446744073709551616)  (w : World) (u : DLie w a zs) (hT : Tab w) :
    Calls Tryd.prog 16 #[.int .u8 (fm b), .int .u64 x, dV n a zs.length c ex] w fun e w' => e = .returned (.bool true) ∧ Below w.heap.size w w' := by
  obtain ⟨rfl, rfl, rfl⟩ := hzero
  have BX := (Bx.nil w).push (DO false a ([] : List Int).length c 0)
  have hV : VE (fm b) x 6 := .inl hl
  go_enter Tryd.func16, Tryd.ntmps16
  go_wp2_with fail
  refine (rGood_err (fm b) x 6 hl hx _).mono ?_
  rintro e u21 ⟨rfl, k21⟩
  replace BX := BX.keep k21
  obtain ⟨⟨q0, q1, q2⟩, _⟩ := cells3 BX w.heap.size _ _ _ _ (show (w.heap.size, DO false a ([] : List Int).length c 0) ∈ _ by simp)
  clear k21
  go_wp2_with fail
  refine (wValue_err (fm b) x 6 hV _).mono ?_
  rintro e u22 ⟨rfl, k22⟩
  replace BX := BX.keep k22
  obtain ⟨⟨q0, q1, q2⟩, _⟩ := cells3 BX w.heap.size _ _ _ _ (show (w.heap.size, DO false a ([] : List Int).length c 0) ∈ _ by simp)
  clear k22
  have hlt22 : w.heap.size < u22.heap.size := BX.lt (p := (w.heap.size, DO false a ([] : List Int).length c 0)) (by simp)
  replace BX := BX.push (DO false none 0 0 0)
  go_wp2_with fail
  generalize hw22 : u22.alloc (DO false none 0 0 0) = wa at *
  clear hw22
  refine (wUnit_err (fm b) x 6 hV _).mono ?_
  rintro e u23 ⟨rfl, k23⟩
  replace BX := BX.keep k23
  clear k23
  have hlt23 : w.heap.size < u23.heap.size := BX.lt (p := (w.heap.size, DO false a ([] : List Int).length c 0)) (by simp)
  have hlu : u22.heap.size < u23.heap.size := BX.lt (.head _)
  obtain ⟨⟨q0, q1, q2⟩, _⟩ := cells3 BX w.heap.size _ _ _ _ (show (w.heap.size, DO false a ([] : List Int).length c 0) ∈ _ by simp)
  obtain ⟨⟨p0, p1, p2⟩, _⟩ := cells3 BX u22.heap.size _ _ _ _ (.head _)
  replace BX := BX.push (DO false none 0 0 0)
  clear hV
  go_wp2_with fail
  refine (same_none _).mono ?_
  rintro e u24 ⟨rfl, k24⟩
  replace BX := BX.keep k24
  clear k24
  obtain ⟨⟨q0, q1, q2⟩, _⟩ := cells3 BX w.heap.size _ _ _ _ (show (w.heap.size, DO false a ([] : List Int).length c 0) ∈ _ by simp)
  obtain ⟨⟨s0, s1, s2⟩, _⟩ := cells3 BX u23.heap.size _ _ _ _ (.head _)
  go_wp2_with fail
  refine (same_none _).mono ?_
  rintro e u25 ⟨rfl, k25⟩
  replace BX := BX.keep k25
  obtain ⟨⟨q0, q1, q2⟩, _⟩ := cells3 BX w.heap.size _ _ _ _ (show (w.heap.size, DO false a ([] : List Int).length c 0) ∈ _ by simp)
  clear k25
  clear hl
  go_wp2_with fail
  refine (wOf_zero b a c _).mono ?_
  rintro e u26 ⟨rfl, k26⟩
  replace BX := BX.keep k26
  obtain ⟨⟨q0, q1, q2⟩, _⟩ := cells3 BX w.heap.size _ _ _ _ (show (w.heap.size, DO false a ([] : List Int).length c 0) ∈ _ by simp)
  clear k26
  go_wp2_with fail
  refine (rIs b _).mono ?_
  rintro e u27 ⟨rfl, k27⟩
  replace BX := BX.keep k27
  obtain ⟨⟨q0, q1, q2⟩, _⟩ := cells3 BX w.heap.size _ _ _ _ (show (w.heap.size, DO false a ([] : List Int).length c 0) ∈ _ by simp)
  clear k27
  go_wp2_with fail
  refine (drefmay37 false a c [] 0 _ ⟨u.lie.below BX.bel (Nat.le_refl _), u.len, u.rng⟩ true rfl).mono ?_
  rintro e u28 ⟨rfl, k28⟩
  replace BX := BX.keep k28
  obtain ⟨⟨q0, q1, q2⟩, _⟩ := cells3 BX w.heap.size _ _ _ _ (show (w.heap.size, DO false a ([] : List Int).length c 0) ∈ _ by simp)
  clear k28
  go_wp2_with fail
  refine (rOf_zero b a c _).mono ?_
  rintro e u29 ⟨rfl, k29⟩
  replace BX := BX.keep k29
  obtain ⟨⟨q0, q1, q2⟩, _⟩ := cells3 BX w.heap.size _ _ _ _ (show (w.heap.size, DO false a ([] : List Int).length c 0) ∈ _ by simp)
  clear k29
  go_wp2_with fail
  refine (lIs _ _).mono ?_
  rintro e u30 ⟨rfl, k30⟩
  replace BX := BX.keep k30
  obtain ⟨⟨q0, q1, q2⟩, _⟩ := cells3 BX w.heap.size _ _ _ _ (show (w.heap.size, DO false a ([] : List Int).length c 0) ∈ _ by simp)
  clear k30
  go_wp2_with fail
  refine (lKnown _).mono ?_
  rintro e u31 ⟨rfl, k31⟩
  replace BX := BX.keep k31
  obtain ⟨⟨q0, q1, q2⟩, _⟩ := cells3 BX w.heap.size _ _ _ _ (show (w.heap.size, DO false a ([] : List Int).length c 0) ∈ _ by simp)
  clear k31
  go_wp2
  go_ret
  exact ⟨rfl, BX.bel⟩
set_option maxHeartbeats 4000000 in
theorem values_long_none (b : Bool) (x : Int) (n : Bool) (a : Option Addr) (c : Nat) (zs : List Int) (ex : Int) (hlen : (zs.length : Int) ≤ 4100) (hl : GE (fm b) x 6) (hx : x < 18446744073709551616) (g : DG n zs ex) (hz : 0 < zs.length) {B : Nat} (hB : BitLen (Nt.val zs) B) (hbb : B ≤ 131072) (hc : tp b ≤ uu b (B + ex) - lo b + 1 ∨ ex < uu b (B + ex)) (w : World) (u : DLie w a zs) (hT : Tab w) :
    Calls Tryd.prog 16 #[.int .u8 (fm b), .int .u64 x, dV n a zs.length c ex] w fun e w' => e = .returned (.bool true) ∧ Below w.heap.size w w' := by
  have BX := (Bx.nil w).push (DO n a zs.length c ex)
  have hV : VE (fm b) x 6 := .inl hl
  go_enter Tryd.func16, Tryd.ntmps16
  go_wp2_with fail
  refine (rGood_err (fm b) x 6 hl hx _).mono ?_
  rintro e u32 ⟨rfl, k32⟩
  replace BX := BX.keep k32
  obtain ⟨⟨q0, q1, q2⟩, _⟩ := cells3 BX w.heap.size _ _ _ _ (show (w.heap.size, DO n a zs.length c ex) ∈ _ by simp)
  clear k32
  go_wp2_with fail
  refine (wValue_err (fm b) x 6 hV _).mono ?_
  rintro e u33 ⟨rfl, k33⟩
  replace BX := BX.keep k33
  obtain ⟨⟨q0, q1, q2⟩, _⟩ := cells3 BX w.heap.size _ _ _ _ (show (w.heap.size, DO n a zs.length c ex) ∈ _ by simp)
  clear k33
  have hlt33 : w.heap.size < u33.heap.size := BX.lt (p := (w.heap.size, DO n a zs.length c ex)) (by simp)
  replace BX := BX.push (DO false none 0 0 0)
  go_wp2_with fail
  generalize hw33 : u33.alloc (DO false none 0 0 0) = wa at *
  clear hw33
  refine (wUnit_err (fm b) x 6 hV _).mono ?_
  rintro e u34 ⟨rfl, k34⟩
  replace BX := BX.keep k34
  clear k34
  have hlt34 : w.heap.size < u34.heap.size := BX.lt (p := (w.heap.size, DO n a zs.length c ex)) (by simp)
  have hlu : u33.heap.size < u34.heap.size := BX.lt (.head _)
  obtain ⟨⟨q0, q1, q2⟩, _⟩ := cells3 BX w.heap.size _ _ _ _ (show (w.heap.size, DO n a zs.length c ex) ∈ _ by simp)
  obtain ⟨⟨p0, p1, p2⟩, _⟩ := cells3 BX u33.heap.size _ _ _ _ (.head _)
  replace BX := BX.push (DO false none 0 0 0)
  clear hV
  go_wp2_with fail
  refine (same_none _).mono ?_
  rintro e u35 ⟨rfl, k35⟩
  replace BX := BX.keep k35
  clear k35
  obtain ⟨⟨q0, q1, q2⟩, _⟩ := cells3 BX w.heap.size _ _ _ _ (show (w.heap.size, DO n a zs.length c ex) ∈ _ by simp)
  obtain ⟨⟨s0, s1, s2⟩, _⟩ := cells3 BX u34.heap.size _ _ _ _ (.head _)
  go_wp2_with fail
  refine (same_none _).mono ?_
  rintro e u36 ⟨rfl, k36⟩
  replace BX := BX.keep k36
  obtain ⟨⟨q0, q1, q2⟩, _⟩ := cells3 BX w.heap.size _ _ _ _ (show (w.heap.size, DO n a zs.length c ex) ∈ _ by simp)
  clear k36
  clear hl
  go_wp2_with fail
  refine (wOf_no b n a c zs ex _ (u.lie.below BX.bel (Nat.le_refl _)) g hz hB hbb hc).mono ?_
  rintro e u37 ⟨rfl, k37⟩
  replace BX := BX.keep k37
  obtain ⟨⟨q0, q1, q2⟩, _⟩ := cells3 BX w.heap.size _ _ _ _ (show (w.heap.size, DO n a zs.length c ex) ∈ _ by simp)
  clear k37
  go_wp2_with fail
  refine (rIs b _).mono ?_
  rintro e u38 ⟨rfl, k38⟩
  replace BX := BX.keep k38
  obtain ⟨⟨q0, q1, q2⟩, _⟩ := cells3 BX w.heap.size _ _ _ _ (show (w.heap.size, DO n a zs.length c ex) ∈ _ by simp)
  clear k38
  go_wp2_with fail
  refine (drefmay37 n a c zs ex _ ⟨u.lie.below BX.bel (Nat.le_refl _), u.len, u.rng⟩ true g.may).mono ?_
  rintro e u39 ⟨rfl, k39⟩
  replace BX := BX.keep k39
  obtain ⟨⟨q0, q1, q2⟩, _⟩ := cells3 BX w.heap.size _ _ _ _ (show (w.heap.size, DO n a zs.length c ex) ∈ _ by simp)
  clear k39
  go_wp2_with fail
  refine (rOf_no b n a c zs ex _ (u.lie.below BX.bel (Nat.le_refl _)) g hz hB hbb hc).mono ?_
  rintro e u40 ⟨rfl, k40⟩
  replace BX := BX.keep k40
  obtain ⟨⟨q0, q1, q2⟩, _⟩ := cells3 BX w.heap.size _ _ _ _ (show (w.heap.size, DO n a zs.length c ex) ∈ _ by simp)
  clear k40
  go_wp2_with fail
  refine (lIs_err 7 _ rfl _).mono ?_
  rintro e u41 ⟨rfl, k41⟩
  replace BX := BX.keep k41
  obtain ⟨⟨q0, q1, q2⟩, _⟩ := cells3 BX w.heap.size _ _ _ _ (show (w.heap.size, DO n a zs.length c ex) ∈ _ by simp)
  clear k41
  go_wp2_with fail
  refine (lKnown _).mono ?_
  rintro e u42 ⟨rfl, k42⟩
  replace BX := BX.keep k42
  obtain ⟨⟨q0, q1, q2⟩, _⟩ := cells3 BX w.heap.size _ _ _ _ (show (w.heap.size, DO n a zs.length c ex) ∈ _ by simp)
  clear k42
  go_wp2
  go_ret
  exact ⟨rfl, BX.bel⟩
set_option maxHeartbeats 4000000 in
theorem values_long_ok (b : Bool) (x : Int) (n : Bool) (a : Option Addr) (c : Nat) (zs : List Int) (ex : Int) (hlen : (zs.length : Int) ≤ 4100) (hl : GE (fm b) x 6) (hx : x < 18446744073709551616) (g : DG n zs ex) (hz : 0 < zs.length) {B : Nat} (hB : BitLen (Nt.val zs) B) (hbb : B ≤ 131072) (hc1 : uu b (B + ex) - lo b + 1 < tp b) (hc2 : uu b (B + ex) ≤ ex) (k : Nat) (hk : (k : Int) = ex - uu b (B + ex)) (w : World) (u : DLie w a zs) (hT : Tab w) :
    Calls Tryd.prog 16 #[.int .u8 (fm b), .int .u64 x, dV n a zs.length c ex] w fun e w' => e = .returned (.bool true) ∧ Below w.heap.size w w' := by
  have BX := (Bx.nil w).push (DO n a zs.length c ex)
  have hV : VE (fm b) x 6 := .inl hl
  go_enter Tryd.func16, Tryd.ntmps16
  go_wp2_with fail
  refine (rGood_err (fm b) x 6 hl hx _).mono ?_
  rintro e u43 ⟨rfl, k43⟩
  replace BX := BX.keep k43
  obtain ⟨⟨q0, q1, q2⟩, _⟩ := cells3 BX w.heap.size _ _ _ _ (show (w.heap.size, DO n a zs.length c ex) ∈ _ by simp)
  clear k43
  go_wp2_with fail
  refine (wValue_err (fm b) x 6 hV _).mono ?_
  rintro e u44 ⟨rfl, k44⟩
  replace BX := BX.keep k44
  obtain ⟨⟨q0, q1, q2⟩, _⟩ := cells3 BX w.heap.size _ _ _ _ (show (w.heap.size, DO n a zs.length c ex) ∈ _ by simp)
  clear k44
  have hlt44 : w.heap.size < u44.heap.size := BX.lt (p := (w.heap.size, DO n a zs.length c ex)) (by simp)
  replace BX := BX.push (DO false none 0 0 0)
  go_wp2_with fail
  generalize hw44 : u44.alloc (DO false none 0 0 0) = wa at *
  clear hw44
  refine (wUnit_err (fm b) x 6 hV _).mono ?_
  rintro e u45 ⟨rfl, k45⟩
  replace BX := BX.keep k45
  clear k45
  have hlt45 : w.heap.size < u45.heap.size := BX.lt (p := (w.heap.size, DO n a zs.length c ex)) (by simp)
  have hlu : u44.heap.size < u45.heap.size := BX.lt (.head _)
  obtain ⟨⟨q0, q1, q2⟩, _⟩ := cells3 BX w.heap.size _ _ _ _ (show (w.heap.size, DO n a zs.length c ex) ∈ _ by simp)
  obtain ⟨⟨p0, p1, p2⟩, _⟩ := cells3 BX u44.heap.size _ _ _ _ (.head _)
  replace BX := BX.push (DO false none 0 0 0)
  clear hV
  go_wp2_with fail
  refine (same_none _).mono ?_
  rintro e u46 ⟨rfl, k46⟩
  replace BX := BX.keep k46
  clear k46
  obtain ⟨⟨q0, q1, q2⟩, _⟩ := cells3 BX w.heap.size _ _ _ _ (show (w.heap.size, DO n a zs.length c ex) ∈ _ by simp)
  obtain ⟨⟨s0, s1, s2⟩, _⟩ := cells3 BX u45.heap.size _ _ _ _ (.head _)
  go_wp2_with fail
  refine (same_none _).mono ?_
  rintro e u47 ⟨rfl, k47⟩
  replace BX := BX.keep k47
  obtain ⟨⟨q0, q1, q2⟩, _⟩ := cells3 BX w.heap.size _ _ _ _ (show (w.heap.size, DO n a zs.length c ex) ∈ _ by simp)
  clear k47
  clear hl
  go_wp2_with fail
  refine (wOf_ok b n a c zs ex _ (u.lie.below BX.bel (Nat.le_refl _)) g hz hB hbb hc1 hc2 k hk).mono ?_
  rintro e u48 ⟨rfl, k48⟩
  replace BX := BX.keep k48
  obtain ⟨⟨q0, q1, q2⟩, _⟩ := cells3 BX w.heap.size _ _ _ _ (show (w.heap.size, DO n a zs.length c ex) ∈ _ by simp)
  clear k48
  go_wp2_with fail
  refine (rIs b _).mono ?_
  rintro e u49 ⟨rfl, k49⟩
  replace BX := BX.keep k49
  obtain ⟨⟨q0, q1, q2⟩, _⟩ := cells3 BX w.heap.size _ _ _ _ (show (w.heap.size, DO n a zs.length c ex) ∈ _ by simp)
  clear k49
  go_wp2_with fail
  refine (drefmay37 n a c zs ex _ ⟨u.lie.below BX.bel (Nat.le_refl _), u.len, u.rng⟩ true g.may).mono ?_
  rintro e u50 ⟨rfl, k50⟩
  replace BX := BX.keep k50
  obtain ⟨⟨q0, q1, q2⟩, _⟩ := cells3 BX w.heap.size _ _ _ _ (show (w.heap.size, DO n a zs.length c ex) ∈ _ by simp)
  clear k50
  go_wp2_with fail
  refine (rOf_ok b n a c zs ex _ (u.lie.below BX.bel (Nat.le_refl _)) g hz hB hbb hc1 hc2 k hk).mono ?_
  rintro e u51 ⟨rfl, k51⟩
  replace BX := BX.keep k51
  obtain ⟨⟨q0, q1, q2⟩, _⟩ := cells3 BX w.heap.size _ _ _ _ (show (w.heap.size, DO n a zs.length c ex) ∈ _ by simp)
  clear k51
  go_wp2_with fail
  refine (lIs _ _).mono ?_
  rintro e u52 ⟨rfl, k52⟩
  replace BX := BX.keep k52
  obtain ⟨⟨q0, q1, q2⟩, _⟩ := cells3 BX w.heap.size _ _ _ _ (show (w.heap.size, DO n a zs.length c ex) ∈ _ by simp)
  clear k52
  go_wp2_with fail
  refine (lKnown _).mono ?_
  rintro e u53 ⟨rfl, k53⟩
  replace BX := BX.keep k53
  obtain ⟨⟨q0, q1, q2⟩, _⟩ := cells3 BX w.heap.size _ _ _ _ (show (w.heap.size, DO n a zs.length c ex) ∈ _ by simp)
  clear k53
  go_wp2
  go_ret
  exact ⟨rfl, BX.bel⟩
end Go.Proofs.YtioiakemmhfhkaaDoor
