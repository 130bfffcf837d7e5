import Derived.Test.YtdnghibkagcbcaaGreatDoorRoundSquaresPart13
namespace Go.Proofs.YtdnghibkagcbcaaGreatDoor
open Go.RowKit Go.Wd Go.Box
set_option linter.unusedVariables false
set_option maxRecDepth 3000
theorem fm_odd {P E : Int} {n k : Bool} {z : List Int} {x : Int} (hP : 0 < P) (ho : P % 2 = 1) (F : Fm (sv k P) E n z x) : n = k ∧ x = E ∧ Nt.val z = P ∧ Nt.Can z ∧ 0 < z.length := by
  have hab := natAbs_sv k (Int.le_of_lt hP)
  have hne : sv k P ≠ 0 := fun q => by rw [q] at hab; simp at hab; omega
  obtain ⟨L, hL⟩ := bitLen_ex (Int.le_of_lt hP)
  obtain ⟨t, hx, ht, hc, hzz, hn, hv, hd, _⟩ := F.data hne (L := L) (by rw [hab]; exact hL)
  rw [sv_neg k hP] at hn
  have hval : Nt.val z * 2 ^ t = P := by
    have h8 := hab
    rw [← hv, natAbs_sv n (Int.mul_nonneg (Nt.val_bd hc.1).1 (Int.le_of_lt (p2pos t)))] at h8
    exact h8
  have ht0 : t = 0 := by
    cases t with
    | zero => rfl
    | succ t => exfalso; rw [Int.pow_succ, ← Int.mul_assoc] at hval; omega
  subst ht0
  rw [Int.pow_zero, Int.mul_one] at hval
  exact ⟨hn, by omega, hval, hc, hzz⟩
theorem sz_sz (b : Bool) (x : Int) : sz b (sz b x) = sz b x := by unfold sz; exact Int.emod_emod_of_dvd _ (Int.dvd_refl _)
/-- A word's number. -/
theorem word_num (b : Bool) {x : Int} (h : Ok b x) (hf : sz b x < inf b) (hz : sz b x ≠ 0) {n : Bool} {z : List Int} {ex : Int} (N : DN n z ex (wv b x)) :
    n = ng b x ∧ 0 < z.length ∧ Nt.val z < 2 ^ 53 ∧ -1074 ≤ ex ∧ ex ≤ 1024 ∧ DN false z ex (wv b (sz b x)) := by
  have F := fm_word b N
  have up := un_pos hz
  obtain ⟨u0, u1, u2, u3, u4⟩ := un_bits b h hf
  have hab := natAbs_sv (ng b x) u0
  have hne : sv (ng b x) (un b x) ≠ 0 := fun q => by rw [q] at hab; simp at hab; omega
  obtain ⟨L, hL⟩ := bitLen_ex u0
  obtain ⟨t, hx, ht, hc, hzz, hn, hv, hd, _⟩ := F.data hne (L := L) (by rw [hab]; exact hL)
  rw [sv_neg (ng b x) up] at hn
  have hLp := bl_le hL u1
  have hpb := pr_bd b
  have hlo := lo_bd b
  have hh : hi b ≤ 1024 := by cases b <;> simp [hi]
  have v0 := (Nt.val_bd hc.1).1
  have hlt : Nt.val z < 2 ^ 53 := by
    have h1 : Nt.val z < 2 ^ (L - t) := by
      rcases hd with ⟨h, _⟩ | ⟨_, h⟩
      · rw [h]; exact p2pos _
      · exact h.lt
    exact Int.lt_of_lt_of_le h1 (p2le (by omega))
  refine ⟨hn, hzz, hlt, by omega, by omega, ?_⟩
  have A := abs_num N
  have e0 := N.val
  have hsb := sz_bd b x
  have hi := inf_lt b
  have e1 : ng b (sz b x) = false := decide_eq_false (by omega)
  have e2 : wv b (sz b x) = Nt.val z * pK ex := by
    rw [wv_vz, e1, sz_sz, sv_f]
    rw [wv_vz, ← hn] at e0
    unfold dv at e0
    cases n
    · rw [sv_f, sv_f] at e0; exact e0.symm
    · rw [sv_t, sv_t, Int.neg_mul] at e0; omega
  rw [e2]
  exact A
/-- A product of two words' numbers. -/
theorem prod_num (b : Bool) {x y : Int} (hx : Ok b x) (hfx : sz b x < inf b) (hzx : sz b x ≠ 0) (hy : Ok b y) (hfy : sz b y < inf b) (hzy : sz b y ≠ 0) {n1 n2 : Bool} {z1 z2 : List Int} {e1 e2 : Int} (N1 : DN n1 z1 e1 (wv b x)) (N2 : DN n2 z2 e2 (wv b y))
    {n : Bool} {z : List Int} {ex : Int} (F : Fm (wv b x * wv b y) (-(2 * (KK : Int))) n z ex) : DG n z ex ∧ 0 < z.length ∧ n = (n1 != n2) ∧ Nt.val z = Nt.val z1 * Nt.val z2 ∧ ex = e1 + e2 ∧ z.length ≤ 4 := by
  obtain ⟨_, l1, b1, a1, c1, _⟩ := word_num b hx hfx hzx N1
  obtain ⟨_, l2, b2, a2, c2, _⟩ := word_num b hy hfy hzy N2
  have p1 := N1.dg.pos l1
  have p2 := N2.dg.pos l2
  have o1 := N1.dg.odd l1
  have o2 := N2.dg.odd l2
  have hK := KK_int
  have pp := Int.mul_pos p1 p2
  have oo := odd_mul o1 o2
  have e : wv b x * wv b y = sv (n1 != n2) (Nt.val z1 * Nt.val z2) * 2 ^ ((e1 + KK).toNat + (e2 + KK).toNat) := by
    rw [← N1.val, ← N2.val]
    unfold dv pK
    rw [Int.pow_add]
    generalize (2 : Int) ^ (e1 + KK).toNat = P
    generalize (2 : Int) ^ (e2 + KK).toNat = Q
    cases n1 <;> cases n2 <;> simp only [sv_f, sv_t, bne_self_eq_false, Bool.true_bne, Bool.false_bne, Bool.not_false] <;> grind
  rw [e] at F
  have G := F.unscale
  rw [show -(2 * (KK : Int)) + (((e1 + KK).toNat + (e2 + KK).toNat : Nat) : Int) = e1 + e2 by omega] at G
  obtain ⟨g1, g2, g3, g4, g5⟩ := fm_odd pp oo G
  have hb : Nt.val z < 4294967296 ^ 4 := by
    rw [g3]
    have h1 := Int.mul_lt_mul_of_pos_right b1 p2
    have h2 := Int.mul_lt_mul_of_pos_left b2 (show (0 : Int) < 2 ^ 53 by decide)
    have : (2 : Int) ^ 53 * 2 ^ 53 < 4294967296 ^ 4 := by decide
    omega
  have hlen := (Nt.can_len g4 4).1 hb
  exact ⟨⟨g4, by omega, .inr ⟨g5, by rw [g3]; exact oo, by omega, by omega⟩⟩, g5, g1, g3, g2, hlen⟩
theorem qf_whole (P : Int) (k : Nat) : qf P 1 k = P * 2 ^ k ∧ qg P 1 k = false := by
  unfold qf qg
  rw [show ((k : Int)).toNat = k by omega, show (-(k : Int)).toNat = 0 by omega, Int.pow_zero, Int.mul_one, Int.ediv_one, Int.emod_one]
  exact ⟨rfl, rfl⟩
/-- The root of a word's square. -/
theorem root_word (b : Bool) (m : Int) (hm : Mode m) {x : Int} (h : Ok b x) (hf : sz b x < inf b) (hz : sz b x ≠ 0) {n1 : Bool} {z1 : List Int} {e1 : Int} (N : DN n1 z1 e1 (wv b x)) {z : List Int} {ex : Int} (g : DG false z ex) (hzz : 0 < z.length) (hv : Nt.val z = Nt.val z1 * Nt.val z1) (he : ex = e1 + e1) (a0 : Option Addr) (c0 : Nat) (W : World) (l : Lie W a0 z) (hTab : Tab W) :
    Calls Tryz.prog 25 #[.int .u8 (fm b), .int .u8 m, dV false a0 z.length c0 ex] W fun e w' => e = .returned (.tuple #[.int .u64 (sz b x), .int .u8 0, .int .i64 0]) ∧ Below W.heap.size W w' := by
  obtain ⟨_, l1, b1, x1, x2, N2⟩ := word_num b h hf hz N
  have p1 := N.dg.pos l1
  have hpb := pr_bd b
  have hlo := lo_bd b
  obtain ⟨L, hL⟩ := bitLen_ex (Int.le_of_lt p1)
  have hL1 := bl_le hL b1
  have hL0 := bl_ge hL (k := 0) (by rw [Int.pow_zero]; omega)
  have hsb := sz_bd b x
  have hoks : Ok b (sz b x) := ⟨hsb.1, by omega⟩
  obtain ⟨_, r1, r2⟩ := rd_word b m (x := sz b x) hoks (by rw [sz_sz]; exact hf) (by rw [sz_sz]; exact hz) N2 hL
  obtain ⟨T, hT⟩ : ∃ T, T = (L : Int) + e1 := ⟨_, rfl⟩
  rw [← hT] at r1 r2
  have hub := ulp_ge b T
  obtain ⟨d1, hd1⟩ : ∃ d : Nat, ulp b T - T + 63 = (d : Int) := ⟨(ulp b T - T + 63).toNat, by omega⟩
  have hk2 : (2 : Int) ^ (64 - L) * 2 ^ (64 - L) = 2 ^ (2 * (64 - L)) := by rw [← Int.pow_add]; congr 1; omega
  have sq : Nt.val z1 * 2 ^ (64 - L) * (Nt.val z1 * 2 ^ (64 - L)) = Nt.val z * 2 ^ (2 * (64 - L)) := by
    rw [hv, ← hk2]; generalize (2 : Int) ^ (64 - L) = P; grind
  have hbl : BitLen (Nt.val z1 * 2 ^ (64 - L)) 64 := by
    have := hL.up p1 (64 - L)
    rw [show L + (64 - L) = 64 by omega] at this
    exact this
  have hb : 9223372036854775808 ≤ Nt.val z1 * 2 ^ (64 - L) ∧ Nt.val z1 * 2 ^ (64 - L) < 18446744073709551616 := by
    rcases hbl with ⟨_, h⟩ | ⟨_, h⟩
    · omega
    · have a := h.lt
      have b := h.le
      omega
  have R4 : RAt (Nt.val z) ex 64 (64 - L - e1) (Nt.val z1 * 2 ^ (64 - L)) false := by
    have q1 : (ex + 2 * (64 - (L : Int) - e1)).toNat = 2 * (64 - L) := by omega
    have q2 : (-(ex + 2 * (64 - (L : Int) - e1))).toNat = 0 := by omega
    refine ⟨⟨by omega, ?_, ?_, ?_⟩, hbl⟩
    · rw [q1, q2, Int.pow_zero, Int.mul_one, sq]; omega
    · rw [q1, q2, Int.pow_zero, Int.mul_one, ← sq]
      generalize Nt.val z1 * 2 ^ (64 - L) = r at hb
      have : (r + 1) * (r + 1) = r * r + (2 * r + 1) := by grind
      omega
    · rw [q1, q2, Int.pow_zero, Int.mul_one, sq]; simp
  obtain ⟨w1, w2⟩ := qf_whole (Nt.val z1) (64 - L)
  have a1 := qf_down (Nt.val z1) 1 (by omega) ((64 - L : Nat) : Int) d1
  have a2 := qg_down (Nt.val z1) 1 (by omega) ((64 - L : Nat) : Int) d1
  rw [show ((64 - L : Nat) : Int) - d1 = e1 + 1 - ulp b T by omega, w1] at a1 a2
  rw [w2] at a2
  rw [a1, a2] at r1 r2
  have u := g.lie l
  have hp := g.pos hzz
  have hs : sgn (dv false z ex) 0 = 1 := by
    have h9 := pK_pos ex
    refine sgn_is2 ?_
    unfold dv
    rw [sv_f]
    exact Int.mul_pos hp h9
  refine wRoot_good b m false a0 c0 z.length ex 1 false T (Nt.val z1 * 2 ^ (64 - L)) _ _ false W rfl (by decide) ?_ ?_ ?_ ?_
  · intro g0 V hV h3
    have := wWayFor1 b m hm g0 false a0 c0 z ex V (u.below hV) true g.may h3
    exact this
  · intro V hV
    exact dsign49 false a0 c0 z ex _ V (l.below hV (Nat.le_refl _)) ⟨g, rfl⟩ 1 hs
  · intro V hV
    have := wSeenRoot a0 c0 z ex V (l.below hV (Nat.le_refl _)) g hzz (hTab.below hV (Nat.le_refl _)) R4 (by omega) (by omega)
    rw [show 64 - (64 - (L : Int) - e1) = T by omega] at this
    exact this
  · intro V hV
    have := wRounded b m false T (Nt.val z1 * 2 ^ (64 - L)) false d1 V (hTab.below hV (Nat.le_refl _)) hm (by omega) (by omega) hb.1 hb.2 hd1
    have r3 := r2 (Nt.val z1 * 2 ^ (64 - L) / 2 ^ (63 - pr b)) (gx (Nt.val z1 * 2 ^ (64 - L)) (63 - pr b) false)
    unfold gx at this r3
    rw [r1, r3] at this
    exact this
theorem qf_cancel (P : Int) {Q : Int} (hQ : 0 < Q) (i : Int) : qf (P * Q) Q i = qf P 1 i ∧ qg (P * Q) Q i = qg P 1 i := by
  unfold qf qg
  rw [show P * Q * 2 ^ i.toNat = Q * (P * 2 ^ i.toNat) by rw [Int.mul_comm P Q, Int.mul_assoc], Int.one_mul]
  refine ⟨Int.mul_ediv_mul_of_pos _ _ hQ, ?_⟩
  rw [Int.mul_emod_mul_of_pos _ _ hQ]
  by_cases c : P * 2 ^ i.toNat % 2 ^ (-i).toNat = 0
  · rw [c]; simp
  · rw [decide_eq_true c, decide_eq_true]
    intro q
    rcases Int.mul_eq_zero.1 q with q | q
    · omega
    · exact c q
/-- The quotient of a product by one of its factors. -/
theorem quo_word (b : Bool) (m : Int) (hm : Mode m) {x : Int} (h : Ok b x) (hf : sz b x < inf b) (hz : sz b x ≠ 0) {n1 : Bool} {z1 : List Int} {e1 : Int} (N : DN n1 z1 e1 (wv b x)) {n2 : Bool} {z2 : List Int} {e2 : Int} (g2 : DG n2 z2 e2) (hz2 : 0 < z2.length) (x2 : -1100 ≤ e2 ∧ e2 ≤ 1100)
    {n : Bool} {z : List Int} {ex : Int} (g : DG n z ex) (hzz : 0 < z.length) (hn : n = (n1 != n2)) (hv : Nt.val z = Nt.val z1 * Nt.val z2) (he : ex = e1 + e2) (a0 a2 : Option Addr) (c0 c2 : Nat) (W : World) (l : Lie W a0 z) (l2 : Lie W a2 z2) (hTab : Tab W) :
    Calls Tryz.prog 22 #[.int .u8 (fm b), .int .u8 m, dV n a0 z.length c0 ex, dV n2 a2 z2.length c2 e2] W fun e w' => e = .returned (.tuple #[.int .u64 x, .int .u8 0, .int .i64 0]) ∧ Below W.heap.size W w' := by
  obtain ⟨k0, l1, b1, x1, x3, _⟩ := word_num b h hf hz N
  have p1 := N.dg.pos l1
  have p2 := g2.pos hz2
  obtain ⟨L, hL⟩ := bitLen_ex (Int.le_of_lt p1)
  have hL1 := bl_le hL b1
  obtain ⟨_, r1, r2⟩ := rd_word b m h hf hz N hL
  have hnn : (n != n2) = n1 := by rw [hn]; cases n1 <;> cases n2 <;> rfl
  have hi : BitLen (qf (Nt.val z) (Nt.val z2) (64 - L)) 64 := by
    rw [hv, (qf_cancel (Nt.val z1) p2 _).1]
    exact qf1_bits p1 hL _ (by omega)
  have := pQuo b m hm n n2 a0 a2 c0 c2 z z2 ex e2 (L + e1) W l l2 g g2 hTab hzz hz2 hi (by omega) (by omega) (by omega) rfl rfl rfl rfl
  rw [hnn, hv, (qf_cancel (Nt.val z1) p2 _).1, (qf_cancel (Nt.val z1) p2 _).2, show ex - e2 + 1 - ulp b (L + e1) = e1 + 1 - ulp b (L + e1) by omega, r1, r2] at this
  exact this
end Go.Proofs.YtdnghibkagcbcaaGreatDoor

namespace Go.Proofs.YtdnghibkagcbcaaGreatDoor
open Go.RowKit Go.Wd Go.Box
set_option linter.unusedVariables false
set_option maxRecDepth 3000
set_option maxHeartbeats 8000000 in
theorem rs_open (m x y : Int) (f code : Int) (ho : Opn f m code) (hc : (code == 0) = false) (w : World) (hT : Tab w) :
    Calls Tryz.prog 10 #[.int .u8 f, .int .u8 m, .int .u64 x, .int .u64 y] w fun e w' => e = .returned (.bool true) ∧ Below w.heap.size w w' := by
  have hc2 : (code != 0) = true := by simp only [bne, hc, Bool.not_false]
  have BX := Bx.nil w
  go_enter Tryz.func10, Tryz.ntmps10
  go_wp2_with fail
  refine (lOpens_bad f m code _ ho hc _).mono ?_
  rintro e v1 ⟨rfl, hk⟩
  replace BX := BX.keep hk
  clear hk
  go_wp2_with fail
  refine (lKnown4 _ (hT.below BX.bel (Nat.le_refl _))).mono ?_
  rintro e v2 ⟨rfl, hk⟩
  replace BX := BX.keep hk
  clear hk
  go_wp2
  go_ret
  exact ⟨by first | rfl | simp, BX.bel⟩
set_option maxHeartbeats 8000000 in
theorem rs_gv (m x y : Int) (b : Bool) (hm : Mode m) (cc : Int) (hcc : (cc == 0) = false) (hg : GE (fm b) x cc) (hx1 : x < 18446744073709551616) (w : World) (hT : Tab w) :
    Calls Tryz.prog 10 #[.int .u8 (fm b), .int .u8 m, .int .u64 x, .int .u64 y] w fun e w' => e = .returned (.bool true) ∧ Below w.heap.size w w' := by
  have hc2 : (cc != 0) = true := by simp only [bne, hcc, Bool.not_false]
  have BX := Bx.nil w
  go_enter Tryz.func10, Tryz.ntmps10
  go_wp2_with fail
  refine (lOpens_nil b m hm _).mono ?_
  rintro e v3 ⟨rfl, hk⟩
  replace BX := BX.keep hk
  clear hk
  go_wp2_with fail
  refine (rGood_err (fm b) x cc hg hx1 _).mono ?_
  rintro e v4 ⟨rfl, hk⟩
  replace BX := BX.keep hk
  clear hk
  go_wp2_with fail
  refine (lKnown4 _ (hT.below BX.bel (Nat.le_refl _))).mono ?_
  rintro e v5 ⟨rfl, hk⟩
  replace BX := BX.keep hk
  clear hk
  go_wp2
  go_ret
  exact ⟨by first | rfl | simp, BX.bel⟩
set_option maxHeartbeats 8000000 in
theorem rs_gw (m x y : Int) (b : Bool) (hm : Mode m) (hx : Ok b x) (cc : Int) (hcc : (cc == 0) = false) (hg : GE (fm b) y cc) (hy1 : y < 18446744073709551616) (w : World) (hT : Tab w) :
    Calls Tryz.prog 10 #[.int .u8 (fm b), .int .u8 m, .int .u64 x, .int .u64 y] w fun e w' => e = .returned (.bool true) ∧ Below w.heap.size w w' := by
  have hc2 : (cc != 0) = true := by simp only [bne, hcc, Bool.not_false]
  have BX := Bx.nil w
  go_enter Tryz.func10, Tryz.ntmps10
  go_wp2_with fail
  refine (lOpens_nil b m hm _).mono ?_
  rintro e v6 ⟨rfl, hk⟩
  replace BX := BX.keep hk
  clear hk
  go_wp2_with fail
  refine (rGood b x hx _).mono ?_
  rintro e v7 ⟨rfl, hk⟩
  replace BX := BX.keep hk
  clear hk
  go_wp2_with fail
  refine (rGood_err (fm b) y cc hg hy1 _).mono ?_
  rintro e v8 ⟨rfl, hk⟩
  replace BX := BX.keep hk
  clear hk
  go_wp2_with fail
  refine (lKnown4 _ (hT.below BX.bel (Nat.le_refl _))).mono ?_
  rintro e v9 ⟨rfl, hk⟩
  replace BX := BX.keep hk
  clear hk
  go_wp2
  go_ret
  exact ⟨by first | rfl | simp, BX.bel⟩
set_option maxHeartbeats 8000000 in
theorem rs_fv (m x y : Int) (b : Bool) (hm : Mode m) (hx : Ok b x) (hy : Ok b y) (hf : inf b ≤ sz b x) (w : World) (hT : Tab w) :
    Calls Tryz.prog 10 #[.int .u8 (fm b), .int .u8 m, .int .u64 x, .int .u64 y] w fun e w' => e = .returned (.bool true) ∧ Below w.heap.size w w' := by
  have BX := Bx.nil w
  go_enter Tryz.func10, Tryz.ntmps10
  go_wp2_with fail
  refine (lOpens_nil b m hm _).mono ?_
  rintro e v10 ⟨rfl, hk⟩
  replace BX := BX.keep hk
  clear hk
  go_wp2_with fail
  refine (rGood b x hx _).mono ?_
  rintro e v11 ⟨rfl, hk⟩
  replace BX := BX.keep hk
  clear hk
  go_wp2_with fail
  refine (rGood b y hy _).mono ?_
  rintro e v12 ⟨rfl, hk⟩
  replace BX := BX.keep hk
  clear hk
  go_wp2_with fail
  refine (rFinite_no b x hx hf _).mono ?_
  rintro e v13 ⟨rfl, hk⟩
  replace BX := BX.keep hk
  clear hk
  go_wp2_with fail
  refine (lKnown4 _ (hT.below BX.bel (Nat.le_refl _))).mono ?_
  rintro e v14 ⟨rfl, hk⟩
  replace BX := BX.keep hk
  clear hk
  go_wp2
  go_ret
  exact ⟨by first | rfl | simp, BX.bel⟩
set_option maxHeartbeats 8000000 in
theorem rs_fw (m x y : Int) (b : Bool) (hm : Mode m) (hx : Ok b x) (hy : Ok b y) (hfx : sz b x < inf b) (hf : inf b ≤ sz b y) (w : World) (hT : Tab w) :
    Calls Tryz.prog 10 #[.int .u8 (fm b), .int .u8 m, .int .u64 x, .int .u64 y] w fun e w' => e = .returned (.bool true) ∧ Below w.heap.size w w' := by
  have BX := Bx.nil w
  go_enter Tryz.func10, Tryz.ntmps10
  go_wp2_with fail
  refine (lOpens_nil b m hm _).mono ?_
  rintro e v15 ⟨rfl, hk⟩
  replace BX := BX.keep hk
  clear hk
  go_wp2_with fail
  refine (rGood b x hx _).mono ?_
  rintro e v16 ⟨rfl, hk⟩
  replace BX := BX.keep hk
  clear hk
  go_wp2_with fail
  refine (rGood b y hy _).mono ?_
  rintro e v17 ⟨rfl, hk⟩
  replace BX := BX.keep hk
  clear hk
  go_wp2_with fail
  refine (rFinite b x hx hfx _).mono ?_
  rintro e v18 ⟨rfl, hk⟩
  replace BX := BX.keep hk
  clear hk
  go_wp2_with fail
  refine (rFinite_no b y hy hf _).mono ?_
  rintro e v19 ⟨rfl, hk⟩
  replace BX := BX.keep hk
  clear hk
  go_wp2_with fail
  refine (lKnown4 _ (hT.below BX.bel (Nat.le_refl _))).mono ?_
  rintro e v20 ⟨rfl, hk⟩
  replace BX := BX.keep hk
  clear hk
  go_wp2
  go_ret
  exact ⟨by first | rfl | simp, BX.bel⟩
end Go.Proofs.YtdnghibkagcbcaaGreatDoor

namespace Go.Proofs.YtdnghibkagcbcaaGreatDoor
open Go.RowKit Go.Wd Go.Box
set_option linter.unusedVariables false
set_option maxRecDepth 3000
set_option maxHeartbeats 8000000 in
theorem rs_zero (m x y : Int) (R : Int) (b : Bool) (hm : Mode m) (hx : Ok b x) (hy : Ok b y) (hfx : sz b x < inf b) (hfy : sz b y < inf b) (KRt : ∀ n1 z1 e1 n z ex a c W, DN n1 z1 e1 (wv b x) → Fm (wv b x * wv b x) (-(2 * (KK : Int))) n z ex → Lie W a z → Tab W → Calls Tryz.prog 25 #[.int .u8 (fm b), .int .u8 m, dV n a (List.length z) c ex] W fun e w' => e = .returned (.tuple #[.int .u64 R, .int .u8 0, .int .i64 0]) ∧ Below W.heap.size W w') (KQ : ∀ n1 z1 e1 n z ex a c n2 z2 e2 a2 c2 W, DN n1 z1 e1 (wv b x) → Fm (wv b x * wv b y) (-(2 * (KK : Int))) n z ex → Lie W a z → DN n2 z2 e2 (wv b y) → Lie W a2 z2 → Tab W → Calls Tryz.prog 22 #[.int .u8 (fm b), .int .u8 m, dV n a (List.length z) c ex, dV n2 a2 (List.length z2) c2 e2] W fun e w' => e = .returned (.tuple #[.int .u64 0, .int .u8 0, .int .i64 11]) ∧ Below W.heap.size W w') (KS : ∀ n2 z2 e2 a2 c2 W, DN n2 z2 e2 (wv b y) → Calls Tryz.prog 23 #[dV n2 a2 (List.length z2) c2 e2] W fun e w' => e = .returned (.int .i64 0) ∧ Below W.heap.size W w') (hR : x.tmod (sg b) = R) (w : World) (hT : Tab w) :
    Calls Tryz.prog 10 #[.int .u8 (fm b), .int .u8 m, .int .u64 x, .int .u64 y] w fun e w' => e = .returned (.bool true) ∧ Below w.heap.size w w' := by
  have HRt := fun n1 z1 e1 n z ex a c W h0 h1 h2 h3 => Hide.mk (KRt n1 z1 e1 n z ex a c W h0 h1 h2 h3)
  have HQ := fun n1 z1 e1 n z ex a c n2 z2 e2 a2 c2 W h0 h1 h2 h3 h4 h5 => Hide.mk (KQ n1 z1 e1 n z ex a c n2 z2 e2 a2 c2 W h0 h1 h2 h3 h4 h5)
  have HS := fun n2 z2 e2 a2 c2 W h => Hide.mk (KS n2 z2 e2 a2 c2 W h)
  have HR := Hide.mk hR
  clear KRt KQ KS hR
  have hsg : 0 < sg b := sg_pos b
  have hsg0 : (sg b == 0) = false := beq_eq_false_iff_ne.2 (by omega)
  have hRR : (R != x.tmod (sg b)) = false := by rw [HR.out]; simp
  clear HR
  have BX := Bx.nil w
  go_enter Tryz.func10, Tryz.ntmps10
  go_wp2_with fail
  refine (lOpens_nil b m hm _).mono ?_
  rintro e v21 ⟨rfl, hk⟩
  replace BX := BX.keep hk
  clear hk
  go_wp2_with fail
  refine (rGood b x hx _).mono ?_
  rintro e v22 ⟨rfl, hk⟩
  replace BX := BX.keep hk
  clear hk
  go_wp2_with fail
  refine (rGood b y hy _).mono ?_
  rintro e v23 ⟨rfl, hk⟩
  replace BX := BX.keep hk
  clear hk
  go_wp2_with fail
  refine (rFinite b x hx hfx _).mono ?_
  rintro e v24 ⟨rfl, hk⟩
  replace BX := BX.keep hk
  clear hk
  go_wp2_with fail
  refine (rFinite b y hy hfy _).mono ?_
  rintro e v25 ⟨rfl, hk⟩
  replace BX := BX.keep hk
  clear hk
  go_wp2_with fail
  refine (rValue b x hx _).mono ?_
  rintro e v26 ⟨na, za, xa, aa, ca, rfl, Na, la, hk⟩
  replace BX := BX.keep hk
  have Ha := Hide.mk Na
  clear hk Na
  go_wp2_with fail
  refine (rValue b y hy _).mono ?_
  rintro e v27 ⟨nb, zb, xb, ab, cb, rfl, Nb, lb, hk⟩
  replace BX := BX.keep hk
  have Hb := Hide.mk Nb
  replace la := la.below hk (Nat.le_refl _)
  clear hk Nb
  go_wp2_with fail
  replace BX := (BX.push (DO na aa za.length ca xa)).push (DO nb ab zb.length cb xb)
  replace la := (la.below (below_alloc _ (DO na aa za.length ca xa)) (Nat.le_refl _)).below (below_alloc _ (DO nb ab zb.length cb xb)) (Nat.le_refl _)
  replace lb := (lb.below (below_alloc _ (DO na aa za.length ca xa)) (Nat.le_refl _)).below (below_alloc _ (DO nb ab zb.length cb xb)) (Nat.le_refl _)
  rw [show (v27.alloc (DO na aa za.length ca xa)).heap.size = v27.heap.size + 1 by simp] at BX
  generalize v27.heap.size + 1 = gB at *
  generalize v27.heap.size = gA at *
  generalize (v27.alloc (DO na aa za.length ca xa)).alloc (DO nb ab zb.length cb xb) = W1 at *
  obtain ⟨⟨q0, q1, q2⟩, _⟩ := cells3 BX gA _ _ _ _ (show (gA, DO na aa za.length ca xa) ∈ _ by simp)
  obtain ⟨⟨s0, s1, s2⟩, _⟩ := cells3 BX gB _ _ _ _ (show (gB, DO nb ab zb.length cb xb) ∈ _ by simp)
  refine (mulD na na aa aa ca ca za za xa xa _ la la Ha.out.dg Ha.out.dg).mono ?_
  rintro e v28 ⟨np, zp, xp, ap, cp, rfl, Fp, lp, hk⟩
  simp only [Ha.out.val] at Fp
  have Hp := Hide.mk Fp
  replace BX := BX.keep hk
  replace la := la.below hk (Nat.le_refl _)
  replace lb := lb.below hk (Nat.le_refl _)
  clear hk Fp q0 q1 q2 s0 s1 s2
  obtain ⟨⟨q0, q1, q2⟩, _⟩ := cells3 BX gA _ _ _ _ (show (gA, DO na aa za.length ca xa) ∈ _ by simp)
  obtain ⟨⟨s0, s1, s2⟩, _⟩ := cells3 BX gB _ _ _ _ (show (gB, DO nb ab zb.length cb xb) ∈ _ by simp)
  go_wp2_with fail
  refine ((HRt _ _ _ _ _ _ _ _ _ Ha.out Hp.out lp (hT.below BX.bel (Nat.le_refl _))).out).mono ?_
  rintro e v29 ⟨rfl, hk⟩
  replace BX := BX.keep hk
  replace la := la.below hk (Nat.le_refl _)
  replace lb := lb.below hk (Nat.le_refl _)
  clear hk lp Hp q0 q1 q2 s0 s1 s2
  obtain ⟨⟨q0, q1, q2⟩, _⟩ := cells3 BX gA _ _ _ _ (show (gA, DO na aa za.length ca xa) ∈ _ by simp)
  obtain ⟨⟨s0, s1, s2⟩, _⟩ := cells3 BX gB _ _ _ _ (show (gB, DO nb ab zb.length cb xb) ∈ _ by simp)
  go_wp2_with fail
  refine (rSign b _).mono ?_
  rintro e v30 ⟨rfl, hk⟩
  replace BX := BX.keep hk
  replace la := la.below hk (Nat.le_refl _)
  replace lb := lb.below hk (Nat.le_refl _)
  clear hk  q0 q1 q2 s0 s1 s2
  obtain ⟨⟨q0, q1, q2⟩, _⟩ := cells3 BX gA _ _ _ _ (show (gA, DO na aa za.length ca xa) ∈ _ by simp)
  obtain ⟨⟨s0, s1, s2⟩, _⟩ := cells3 BX gB _ _ _ _ (show (gB, DO nb ab zb.length cb xb) ∈ _ by simp)
  go_wp2_with fail
  clear q0 q1 q2 s0 s1 s2
  have HI := (BX.sub (L' := [(gB, DO nb ab zb.length cb xb), (gA, DO na aa za.length ca xa)]) (by simp)).drew
  have hdw := (Below.refl v30.heap.size v30).drew
  replace la := la.below hdw (Nat.le_refl _)
  replace lb := lb.below hdw (Nat.le_refl _)
  clear BX hdw
  have sh := fun W (hW : Bx w [(gB, DO nb ab zb.length cb xb), (gA, DO na aa za.length ca xa)] W) => And.intro (cells3 hW gB _ _ _ _ (.head _)).1 (cells3 hW gA _ _ _ _ (.tail _ (.head _))).1
  refine Drawn.enter (Bx w [(gB, DO nb ab zb.length cb xb), (gA, DO na aa za.length ca xa)]) (by kernel_rfl) ?_
  refine Drawn.tk (i := 0) (v := ?v0) rfl (fun W hW => ?_) HI ?_
  rotate_left
  · have ⟨⟨s0, s1, s2⟩, q0, q1, q2⟩ := sh W hW
    go_simp <;> exact rfl
  refine Drawn.tk (i := 1) (v := ?v1) rfl (fun W hW => ?_) HI ?_
  rotate_left
  · have ⟨⟨s0, s1, s2⟩, q0, q1, q2⟩ := sh W hW
    go_simp <;> exact rfl
  refine Drawn.tk (i := 2) (v := ?v2) rfl (fun W hW => ?_) HI ?_
  rotate_left
  · have ⟨⟨s0, s1, s2⟩, q0, q1, q2⟩ := sh W hW
    go_simp <;> exact rfl
  refine Drawn.tk (i := 3) (v := ?v3) rfl (fun W hW => ?_) HI ?_
  rotate_left
  · have ⟨⟨s0, s1, s2⟩, q0, q1, q2⟩ := sh W hW
    go_simp <;> exact rfl
  refine Drawn.tk (i := 5) (v := ?v4) rfl (fun W hW => ?_) HI ?_
  rotate_left
  · have ⟨⟨s0, s1, s2⟩, q0, q1, q2⟩ := sh W hW
    go_simp <;> exact rfl
  refine Drawn.one (j := 4) (by kernel_rfl) rfl (fun K hK => ?_)
  go_simp
  refine (mulD na nb aa ab ca cb za zb xa xb _ la lb Ha.out.dg Hb.out.dg).mono ?_
  rintro e wn ⟨nq, zq, xq, aq, cq, rfl, Fq, lq, hn⟩
  simp only [Ha.out.val, Hb.out.val] at Fq
  have Hq := Hide.mk Fq
  refine hK _ _ (HI.keep hn) ?_
  clear hK K Fq
  replace HI := HI.keep hn
  replace lb := lb.below hn (Nat.le_refl _)
  clear hn la
  refine Drawn.one (j := 6) (by kernel_rfl) rfl (fun K hK => ?_)
  go_simp
  refine ((HQ _ _ _ _ _ _ _ _ _ _ _ _ _ _ Ha.out Hq.out lq Hb.out lb (hT.below HI.bel (Nat.le_refl _))).out).mono ?_
  rintro e wm ⟨rfl, hn⟩
  refine hK _ _ (HI.keep hn) ?_
  clear hK K
  replace HI := HI.keep hn
  clear hn lb lq Hq
  refine Drawn.tk (i := 7) (v := ?v5) rfl (fun W hW => ?_) HI ?_
  rotate_left
  · have ⟨⟨s0, s1, s2⟩, q0, q1, q2⟩ := sh W hW
    go_simp <;> exact rfl
  refine Drawn.tk (i := 8) (v := ?v6) rfl (fun W hW => ?_) HI ?_
  rotate_left
  · have ⟨⟨s0, s1, s2⟩, q0, q1, q2⟩ := sh W hW
    go_simp <;> exact rfl
  refine Drawn.tk (i := 9) (v := ?v7) rfl (fun W hW => ?_) HI ?_
  rotate_left
  · have ⟨⟨s0, s1, s2⟩, q0, q1, q2⟩ := sh W hW
    go_simp <;> exact rfl
  refine Drawn.tk (i := 10) (v := ?v8) rfl (fun W hW => ?_) HI ?_
  rotate_left
  · have ⟨⟨s0, s1, s2⟩, q0, q1, q2⟩ := sh W hW
    go_simp <;> exact rfl
  refine Drawn.tk (i := 11) (v := ?v9) rfl (fun W hW => ?_) HI ?_
  rotate_left
  · have ⟨⟨s0, s1, s2⟩, q0, q1, q2⟩ := sh W hW
    go_simp <;> exact rfl
  refine Drawn.tk (i := 12) (v := ?v10) rfl (fun W hW => ?_) HI ?_
  rotate_left
  · have ⟨⟨s0, s1, s2⟩, q0, q1, q2⟩ := sh W hW
    go_simp <;> exact rfl
  refine Drawn.tk (i := 13) (v := ?v11) rfl (fun W hW => ?_) HI ?_
  rotate_left
  · have ⟨⟨s0, s1, s2⟩, q0, q1, q2⟩ := sh W hW
    go_simp <;> exact rfl
  refine Drawn.done (by kernel_rfl) ?_
  try go_simp
  have BX := HI
  clear HI sh
  obtain ⟨⟨q0, q1, q2⟩, _⟩ := cells3 BX gA _ _ _ _ (show (gA, DO na aa za.length ca xa) ∈ _ by simp)
  obtain ⟨⟨s0, s1, s2⟩, _⟩ := cells3 BX gB _ _ _ _ (show (gB, DO nb ab zb.length cb xb) ∈ _ by simp)
  go_wp2_with fail
  refine ((HS _ _ _ _ _ _ Hb.out).out).mono ?_
  rintro e v31 ⟨rfl, hk⟩
  replace BX := BX.keep hk
  clear hk q0 q1 q2 s0 s1 s2
  obtain ⟨⟨q0, q1, q2⟩, _⟩ := cells3 BX gA _ _ _ _ (show (gA, DO na aa za.length ca xa) ∈ _ by simp)
  obtain ⟨⟨s0, s1, s2⟩, _⟩ := cells3 BX gB _ _ _ _ (show (gB, DO nb ab zb.length cb xb) ∈ _ by simp)
  go_wp2_with fail
  refine (lRefused 11 _).mono ?_
  rintro e v32 ⟨rfl, hk⟩
  replace BX := BX.keep hk
  clear hk q0 q1 q2 s0 s1 s2
  obtain ⟨⟨q0, q1, q2⟩, _⟩ := cells3 BX gA _ _ _ _ (show (gA, DO na aa za.length ca xa) ∈ _ by simp)
  obtain ⟨⟨s0, s1, s2⟩, _⟩ := cells3 BX gB _ _ _ _ (show (gB, DO nb ab zb.length cb xb) ∈ _ by simp)
  go_wp2_with fail
  refine (lKnown4 _ (hT.below BX.bel (Nat.le_refl _))).mono ?_
  rintro e v33 ⟨rfl, hk⟩
  replace BX := BX.keep hk
  clear hk q0 q1 q2 s0 s1 s2
  obtain ⟨⟨q0, q1, q2⟩, _⟩ := cells3 BX gA _ _ _ _ (show (gA, DO na aa za.length ca xa) ∈ _ by simp)
  obtain ⟨⟨s0, s1, s2⟩, _⟩ := cells3 BX gB _ _ _ _ (show (gB, DO nb ab zb.length cb xb) ∈ _ by simp)
  go_wp2
  go_ret
  exact ⟨by first | rfl | simp, BX.bel⟩
set_option maxHeartbeats 8000000 in
theorem rs_ns (m x y : Int) (R V s : Int) (hs : (s == 0) = false) (b : Bool) (hm : Mode m) (hx : Ok b x) (hy : Ok b y) (hfx : sz b x < inf b) (hfy : sz b y < inf b) (KRt : ∀ n1 z1 e1 n z ex a c W, DN n1 z1 e1 (wv b x) → Fm (wv b x * wv b x) (-(2 * (KK : Int))) n z ex → Lie W a z → Tab W → Calls Tryz.prog 25 #[.int .u8 (fm b), .int .u8 m, dV n a (List.length z) c ex] W fun e w' => e = .returned (.tuple #[.int .u64 R, .int .u8 0, .int .i64 0]) ∧ Below W.heap.size W w') (KQ : ∀ n1 z1 e1 n z ex a c n2 z2 e2 a2 c2 W, DN n1 z1 e1 (wv b x) → Fm (wv b x * wv b y) (-(2 * (KK : Int))) n z ex → Lie W a z → DN n2 z2 e2 (wv b y) → Lie W a2 z2 → Tab W → Calls Tryz.prog 22 #[.int .u8 (fm b), .int .u8 m, dV n a (List.length z) c ex, dV n2 a2 (List.length z2) c2 e2] W fun e w' => e = .returned (.tuple #[.int .u64 V, .int .u8 0, .int .i64 0]) ∧ Below W.heap.size W w') (KS : ∀ n2 z2 e2 a2 c2 W, DN n2 z2 e2 (wv b y) → Calls Tryz.prog 23 #[dV n2 a2 (List.length z2) c2 e2] W fun e w' => e = .returned (.int .i64 s) ∧ Below W.heap.size W w') (hR : x.tmod (sg b) = R) (hvs : (x == sg b) = true) (hV : (V == 0) = true) (w : World) (hT : Tab w) :
    Calls Tryz.prog 10 #[.int .u8 (fm b), .int .u8 m, .int .u64 x, .int .u64 y] w fun e w' => e = .returned (.bool true) ∧ Below w.heap.size w w' := by
  have HRt := fun n1 z1 e1 n z ex a c W h0 h1 h2 h3 => Hide.mk (KRt n1 z1 e1 n z ex a c W h0 h1 h2 h3)
  have HQ := fun n1 z1 e1 n z ex a c n2 z2 e2 a2 c2 W h0 h1 h2 h3 h4 h5 => Hide.mk (KQ n1 z1 e1 n z ex a c n2 z2 e2 a2 c2 W h0 h1 h2 h3 h4 h5)
  have HS := fun n2 z2 e2 a2 c2 W h => Hide.mk (KS n2 z2 e2 a2 c2 W h)
  have HR := Hide.mk hR
  clear KRt KQ KS hR
  have hsg : 0 < sg b := sg_pos b
  have hsg0 : (sg b == 0) = false := beq_eq_false_iff_ne.2 (by omega)
  have hRR : (R != x.tmod (sg b)) = false := by rw [HR.out]; simp
  clear HR
  have BX := Bx.nil w
  go_enter Tryz.func10, Tryz.ntmps10
  go_wp2_with fail
  refine (lOpens_nil b m hm _).mono ?_
  rintro e v34 ⟨rfl, hk⟩
  replace BX := BX.keep hk
  clear hk
  go_wp2_with fail
  refine (rGood b x hx _).mono ?_
  rintro e v35 ⟨rfl, hk⟩
  replace BX := BX.keep hk
  clear hk
  go_wp2_with fail
  refine (rGood b y hy _).mono ?_
  rintro e v36 ⟨rfl, hk⟩
  replace BX := BX.keep hk
  clear hk
  go_wp2_with fail
  refine (rFinite b x hx hfx _).mono ?_
  rintro e v37 ⟨rfl, hk⟩
  replace BX := BX.keep hk
  clear hk
  go_wp2_with fail
  refine (rFinite b y hy hfy _).mono ?_
  rintro e v38 ⟨rfl, hk⟩
  replace BX := BX.keep hk
  clear hk
  go_wp2_with fail
  refine (rValue b x hx _).mono ?_
  rintro e v39 ⟨na, za, xa, aa, ca, rfl, Na, la, hk⟩
  replace BX := BX.keep hk
  have Ha := Hide.mk Na
  clear hk Na
  go_wp2_with fail
  refine (rValue b y hy _).mono ?_
  rintro e v40 ⟨nb, zb, xb, ab, cb, rfl, Nb, lb, hk⟩
  replace BX := BX.keep hk
  have Hb := Hide.mk Nb
  replace la := la.below hk (Nat.le_refl _)
  clear hk Nb
  go_wp2_with fail
  replace BX := (BX.push (DO na aa za.length ca xa)).push (DO nb ab zb.length cb xb)
  replace la := (la.below (below_alloc _ (DO na aa za.length ca xa)) (Nat.le_refl _)).below (below_alloc _ (DO nb ab zb.length cb xb)) (Nat.le_refl _)
  replace lb := (lb.below (below_alloc _ (DO na aa za.length ca xa)) (Nat.le_refl _)).below (below_alloc _ (DO nb ab zb.length cb xb)) (Nat.le_refl _)
  rw [show (v40.alloc (DO na aa za.length ca xa)).heap.size = v40.heap.size + 1 by simp] at BX
  generalize v40.heap.size + 1 = gB at *
  generalize v40.heap.size = gA at *
  generalize (v40.alloc (DO na aa za.length ca xa)).alloc (DO nb ab zb.length cb xb) = W1 at *
  obtain ⟨⟨q0, q1, q2⟩, _⟩ := cells3 BX gA _ _ _ _ (show (gA, DO na aa za.length ca xa) ∈ _ by simp)
  obtain ⟨⟨s0, s1, s2⟩, _⟩ := cells3 BX gB _ _ _ _ (show (gB, DO nb ab zb.length cb xb) ∈ _ by simp)
  refine (mulD na na aa aa ca ca za za xa xa _ la la Ha.out.dg Ha.out.dg).mono ?_
  rintro e v41 ⟨np, zp, xp, ap, cp, rfl, Fp, lp, hk⟩
  simp only [Ha.out.val] at Fp
  have Hp := Hide.mk Fp
  replace BX := BX.keep hk
  replace la := la.below hk (Nat.le_refl _)
  replace lb := lb.below hk (Nat.le_refl _)
  clear hk Fp q0 q1 q2 s0 s1 s2
  obtain ⟨⟨q0, q1, q2⟩, _⟩ := cells3 BX gA _ _ _ _ (show (gA, DO na aa za.length ca xa) ∈ _ by simp)
  obtain ⟨⟨s0, s1, s2⟩, _⟩ := cells3 BX gB _ _ _ _ (show (gB, DO nb ab zb.length cb xb) ∈ _ by simp)
  go_wp2_with fail
  refine ((HRt _ _ _ _ _ _ _ _ _ Ha.out Hp.out lp (hT.below BX.bel (Nat.le_refl _))).out).mono ?_
  rintro e v42 ⟨rfl, hk⟩
  replace BX := BX.keep hk
  replace la := la.below hk (Nat.le_refl _)
  replace lb := lb.below hk (Nat.le_refl _)
  clear hk lp Hp q0 q1 q2 s0 s1 s2
  obtain ⟨⟨q0, q1, q2⟩, _⟩ := cells3 BX gA _ _ _ _ (show (gA, DO na aa za.length ca xa) ∈ _ by simp)
  obtain ⟨⟨s0, s1, s2⟩, _⟩ := cells3 BX gB _ _ _ _ (show (gB, DO nb ab zb.length cb xb) ∈ _ by simp)
  go_wp2_with fail
  refine (rSign b _).mono ?_
  rintro e v43 ⟨rfl, hk⟩
  replace BX := BX.keep hk
  replace la := la.below hk (Nat.le_refl _)
  replace lb := lb.below hk (Nat.le_refl _)
  clear hk  q0 q1 q2 s0 s1 s2
  obtain ⟨⟨q0, q1, q2⟩, _⟩ := cells3 BX gA _ _ _ _ (show (gA, DO na aa za.length ca xa) ∈ _ by simp)
  obtain ⟨⟨s0, s1, s2⟩, _⟩ := cells3 BX gB _ _ _ _ (show (gB, DO nb ab zb.length cb xb) ∈ _ by simp)
  go_wp2_with fail
  clear q0 q1 q2 s0 s1 s2
  have HI := (BX.sub (L' := [(gB, DO nb ab zb.length cb xb), (gA, DO na aa za.length ca xa)]) (by simp)).drew
  have hdw := (Below.refl v43.heap.size v43).drew
  replace la := la.below hdw (Nat.le_refl _)
  replace lb := lb.below hdw (Nat.le_refl _)
  clear BX hdw
  have sh := fun W (hW : Bx w [(gB, DO nb ab zb.length cb xb), (gA, DO na aa za.length ca xa)] W) => And.intro (cells3 hW gB _ _ _ _ (.head _)).1 (cells3 hW gA _ _ _ _ (.tail _ (.head _))).1
  refine Drawn.enter (Bx w [(gB, DO nb ab zb.length cb xb), (gA, DO na aa za.length ca xa)]) (by kernel_rfl) ?_
  refine Drawn.tk (i := 0) (v := ?v12) rfl (fun W hW => ?_) HI ?_
  rotate_left
  · have ⟨⟨s0, s1, s2⟩, q0, q1, q2⟩ := sh W hW
    go_simp <;> exact rfl
  refine Drawn.tk (i := 1) (v := ?v13) rfl (fun W hW => ?_) HI ?_
  rotate_left
  · have ⟨⟨s0, s1, s2⟩, q0, q1, q2⟩ := sh W hW
    go_simp <;> exact rfl
  refine Drawn.tk (i := 2) (v := ?v14) rfl (fun W hW => ?_) HI ?_
  rotate_left
  · have ⟨⟨s0, s1, s2⟩, q0, q1, q2⟩ := sh W hW
    go_simp <;> exact rfl
  refine Drawn.tk (i := 3) (v := ?v15) rfl (fun W hW => ?_) HI ?_
  rotate_left
  · have ⟨⟨s0, s1, s2⟩, q0, q1, q2⟩ := sh W hW
    go_simp <;> exact rfl
  refine Drawn.tk (i := 5) (v := ?v16) rfl (fun W hW => ?_) HI ?_
  rotate_left
  · have ⟨⟨s0, s1, s2⟩, q0, q1, q2⟩ := sh W hW
    go_simp <;> exact rfl
  refine Drawn.one (j := 4) (by kernel_rfl) rfl (fun K hK => ?_)
  go_simp
  refine (mulD na nb aa ab ca cb za zb xa xb _ la lb Ha.out.dg Hb.out.dg).mono ?_
  rintro e wn ⟨nq, zq, xq, aq, cq, rfl, Fq, lq, hn⟩
  simp only [Ha.out.val, Hb.out.val] at Fq
  have Hq := Hide.mk Fq
  refine hK _ _ (HI.keep hn) ?_
  clear hK K Fq
  replace HI := HI.keep hn
  replace lb := lb.below hn (Nat.le_refl _)
  clear hn la
  refine Drawn.one (j := 6) (by kernel_rfl) rfl (fun K hK => ?_)
  go_simp
  refine ((HQ _ _ _ _ _ _ _ _ _ _ _ _ _ _ Ha.out Hq.out lq Hb.out lb (hT.below HI.bel (Nat.le_refl _))).out).mono ?_
  rintro e wm ⟨rfl, hn⟩
  refine hK _ _ (HI.keep hn) ?_
  clear hK K
  replace HI := HI.keep hn
  clear hn lb lq Hq
  refine Drawn.tk (i := 7) (v := ?v17) rfl (fun W hW => ?_) HI ?_
  rotate_left
  · have ⟨⟨s0, s1, s2⟩, q0, q1, q2⟩ := sh W hW
    go_simp <;> exact rfl
  refine Drawn.tk (i := 8) (v := ?v18) rfl (fun W hW => ?_) HI ?_
  rotate_left
  · have ⟨⟨s0, s1, s2⟩, q0, q1, q2⟩ := sh W hW
    go_simp <;> exact rfl
  refine Drawn.tk (i := 9) (v := ?v19) rfl (fun W hW => ?_) HI ?_
  rotate_left
  · have ⟨⟨s0, s1, s2⟩, q0, q1, q2⟩ := sh W hW
    go_simp <;> exact rfl
  refine Drawn.tk (i := 10) (v := ?v20) rfl (fun W hW => ?_) HI ?_
  rotate_left
  · have ⟨⟨s0, s1, s2⟩, q0, q1, q2⟩ := sh W hW
    go_simp <;> exact rfl
  refine Drawn.tk (i := 11) (v := ?v21) rfl (fun W hW => ?_) HI ?_
  rotate_left
  · have ⟨⟨s0, s1, s2⟩, q0, q1, q2⟩ := sh W hW
    go_simp <;> exact rfl
  refine Drawn.tk (i := 12) (v := ?v22) rfl (fun W hW => ?_) HI ?_
  rotate_left
  · have ⟨⟨s0, s1, s2⟩, q0, q1, q2⟩ := sh W hW
    go_simp <;> exact rfl
  refine Drawn.tk (i := 13) (v := ?v23) rfl (fun W hW => ?_) HI ?_
  rotate_left
  · have ⟨⟨s0, s1, s2⟩, q0, q1, q2⟩ := sh W hW
    go_simp <;> exact rfl
  refine Drawn.done (by kernel_rfl) ?_
  try go_simp
  have BX := HI
  clear HI sh
  obtain ⟨⟨q0, q1, q2⟩, _⟩ := cells3 BX gA _ _ _ _ (show (gA, DO na aa za.length ca xa) ∈ _ by simp)
  obtain ⟨⟨s0, s1, s2⟩, _⟩ := cells3 BX gB _ _ _ _ (show (gB, DO nb ab zb.length cb xb) ∈ _ by simp)
  go_wp2_with fail
  refine ((HS _ _ _ _ _ _ Hb.out).out).mono ?_
  rintro e v44 ⟨rfl, hk⟩
  replace BX := BX.keep hk
  clear hk q0 q1 q2 s0 s1 s2
  obtain ⟨⟨q0, q1, q2⟩, _⟩ := cells3 BX gA _ _ _ _ (show (gA, DO na aa za.length ca xa) ∈ _ by simp)
  obtain ⟨⟨s0, s1, s2⟩, _⟩ := cells3 BX gB _ _ _ _ (show (gB, DO nb ab zb.length cb xb) ∈ _ by simp)
  go_wp2_with fail
  refine (rSign b _).mono ?_
  rintro e v45 ⟨rfl, hk⟩
  replace BX := BX.keep hk
  clear hk q0 q1 q2 s0 s1 s2
  obtain ⟨⟨q0, q1, q2⟩, _⟩ := cells3 BX gA _ _ _ _ (show (gA, DO na aa za.length ca xa) ∈ _ by simp)
  obtain ⟨⟨s0, s1, s2⟩, _⟩ := cells3 BX gB _ _ _ _ (show (gB, DO nb ab zb.length cb xb) ∈ _ by simp)
  go_wp2_with fail
  refine (lKnown4 _ (hT.below BX.bel (Nat.le_refl _))).mono ?_
  rintro e v46 ⟨rfl, hk⟩
  replace BX := BX.keep hk
  clear hk q0 q1 q2 s0 s1 s2
  obtain ⟨⟨q0, q1, q2⟩, _⟩ := cells3 BX gA _ _ _ _ (show (gA, DO na aa za.length ca xa) ∈ _ by simp)
  obtain ⟨⟨s0, s1, s2⟩, _⟩ := cells3 BX gB _ _ _ _ (show (gB, DO nb ab zb.length cb xb) ∈ _ by simp)
  go_wp2
  go_ret
  exact ⟨by first | rfl | simp, BX.bel⟩
set_option maxHeartbeats 8000000 in
theorem rs_nn (m x y : Int) (R V s : Int) (hs : (s == 0) = false) (b : Bool) (hm : Mode m) (hx : Ok b x) (hy : Ok b y) (hfx : sz b x < inf b) (hfy : sz b y < inf b) (KRt : ∀ n1 z1 e1 n z ex a c W, DN n1 z1 e1 (wv b x) → Fm (wv b x * wv b x) (-(2 * (KK : Int))) n z ex → Lie W a z → Tab W → Calls Tryz.prog 25 #[.int .u8 (fm b), .int .u8 m, dV n a (List.length z) c ex] W fun e w' => e = .returned (.tuple #[.int .u64 R, .int .u8 0, .int .i64 0]) ∧ Below W.heap.size W w') (KQ : ∀ n1 z1 e1 n z ex a c n2 z2 e2 a2 c2 W, DN n1 z1 e1 (wv b x) → Fm (wv b x * wv b y) (-(2 * (KK : Int))) n z ex → Lie W a z → DN n2 z2 e2 (wv b y) → Lie W a2 z2 → Tab W → Calls Tryz.prog 22 #[.int .u8 (fm b), .int .u8 m, dV n a (List.length z) c ex, dV n2 a2 (List.length z2) c2 e2] W fun e w' => e = .returned (.tuple #[.int .u64 V, .int .u8 0, .int .i64 0]) ∧ Below W.heap.size W w') (KS : ∀ n2 z2 e2 a2 c2 W, DN n2 z2 e2 (wv b y) → Calls Tryz.prog 23 #[dV n2 a2 (List.length z2) c2 e2] W fun e w' => e = .returned (.int .i64 s) ∧ Below W.heap.size W w') (hR : x.tmod (sg b) = R) (hvs : (x == sg b) = false) (hV : (V == x) = true) (w : World) (hT : Tab w) :
    Calls Tryz.prog 10 #[.int .u8 (fm b), .int .u8 m, .int .u64 x, .int .u64 y] w fun e w' => e = .returned (.bool true) ∧ Below w.heap.size w w' := by
  have HRt := fun n1 z1 e1 n z ex a c W h0 h1 h2 h3 => Hide.mk (KRt n1 z1 e1 n z ex a c W h0 h1 h2 h3)
  have HQ := fun n1 z1 e1 n z ex a c n2 z2 e2 a2 c2 W h0 h1 h2 h3 h4 h5 => Hide.mk (KQ n1 z1 e1 n z ex a c n2 z2 e2 a2 c2 W h0 h1 h2 h3 h4 h5)
  have HS := fun n2 z2 e2 a2 c2 W h => Hide.mk (KS n2 z2 e2 a2 c2 W h)
  have HR := Hide.mk hR
  clear KRt KQ KS hR
  have hsg : 0 < sg b := sg_pos b
  have hsg0 : (sg b == 0) = false := beq_eq_false_iff_ne.2 (by omega)
  have hRR : (R != x.tmod (sg b)) = false := by rw [HR.out]; simp
  clear HR
  have BX := Bx.nil w
  go_enter Tryz.func10, Tryz.ntmps10
  go_wp2_with fail
  refine (lOpens_nil b m hm _).mono ?_
  rintro e v47 ⟨rfl, hk⟩
  replace BX := BX.keep hk
  clear hk
  go_wp2_with fail
  refine (rGood b x hx _).mono ?_
  rintro e v48 ⟨rfl, hk⟩
  replace BX := BX.keep hk
  clear hk
  go_wp2_with fail
  refine (rGood b y hy _).mono ?_
  rintro e v49 ⟨rfl, hk⟩
  replace BX := BX.keep hk
  clear hk
  go_wp2_with fail
  refine (rFinite b x hx hfx _).mono ?_
  rintro e v50 ⟨rfl, hk⟩
  replace BX := BX.keep hk
  clear hk
  go_wp2_with fail
  refine (rFinite b y hy hfy _).mono ?_
  rintro e v51 ⟨rfl, hk⟩
  replace BX := BX.keep hk
  clear hk
  go_wp2_with fail
  refine (rValue b x hx _).mono ?_
  rintro e v52 ⟨na, za, xa, aa, ca, rfl, Na, la, hk⟩
  replace BX := BX.keep hk
  have Ha := Hide.mk Na
  clear hk Na
  go_wp2_with fail
  refine (rValue b y hy _).mono ?_
  rintro e v53 ⟨nb, zb, xb, ab, cb, rfl, Nb, lb, hk⟩
  replace BX := BX.keep hk
  have Hb := Hide.mk Nb
  replace la := la.below hk (Nat.le_refl _)
  clear hk Nb
  go_wp2_with fail
  replace BX := (BX.push (DO na aa za.length ca xa)).push (DO nb ab zb.length cb xb)
  replace la := (la.below (below_alloc _ (DO na aa za.length ca xa)) (Nat.le_refl _)).below (below_alloc _ (DO nb ab zb.length cb xb)) (Nat.le_refl _)
  replace lb := (lb.below (below_alloc _ (DO na aa za.length ca xa)) (Nat.le_refl _)).below (below_alloc _ (DO nb ab zb.length cb xb)) (Nat.le_refl _)
  rw [show (v53.alloc (DO na aa za.length ca xa)).heap.size = v53.heap.size + 1 by simp] at BX
  generalize v53.heap.size + 1 = gB at *
  generalize v53.heap.size = gA at *
  generalize (v53.alloc (DO na aa za.length ca xa)).alloc (DO nb ab zb.length cb xb) = W1 at *
  obtain ⟨⟨q0, q1, q2⟩, _⟩ := cells3 BX gA _ _ _ _ (show (gA, DO na aa za.length ca xa) ∈ _ by simp)
  obtain ⟨⟨s0, s1, s2⟩, _⟩ := cells3 BX gB _ _ _ _ (show (gB, DO nb ab zb.length cb xb) ∈ _ by simp)
  refine (mulD na na aa aa ca ca za za xa xa _ la la Ha.out.dg Ha.out.dg).mono ?_
  rintro e v54 ⟨np, zp, xp, ap, cp, rfl, Fp, lp, hk⟩
  simp only [Ha.out.val] at Fp
  have Hp := Hide.mk Fp
  replace BX := BX.keep hk
  replace la := la.below hk (Nat.le_refl _)
  replace lb := lb.below hk (Nat.le_refl _)
  clear hk Fp q0 q1 q2 s0 s1 s2
  obtain ⟨⟨q0, q1, q2⟩, _⟩ := cells3 BX gA _ _ _ _ (show (gA, DO na aa za.length ca xa) ∈ _ by simp)
  obtain ⟨⟨s0, s1, s2⟩, _⟩ := cells3 BX gB _ _ _ _ (show (gB, DO nb ab zb.length cb xb) ∈ _ by simp)
  go_wp2_with fail
  refine ((HRt _ _ _ _ _ _ _ _ _ Ha.out Hp.out lp (hT.below BX.bel (Nat.le_refl _))).out).mono ?_
  rintro e v55 ⟨rfl, hk⟩
  replace BX := BX.keep hk
  replace la := la.below hk (Nat.le_refl _)
  replace lb := lb.below hk (Nat.le_refl _)
  clear hk lp Hp q0 q1 q2 s0 s1 s2
  obtain ⟨⟨q0, q1, q2⟩, _⟩ := cells3 BX gA _ _ _ _ (show (gA, DO na aa za.length ca xa) ∈ _ by simp)
  obtain ⟨⟨s0, s1, s2⟩, _⟩ := cells3 BX gB _ _ _ _ (show (gB, DO nb ab zb.length cb xb) ∈ _ by simp)
  go_wp2_with fail
  refine (rSign b _).mono ?_
  rintro e v56 ⟨rfl, hk⟩
  replace BX := BX.keep hk
  replace la := la.below hk (Nat.le_refl _)
  replace lb := lb.below hk (Nat.le_refl _)
  clear hk  q0 q1 q2 s0 s1 s2
  obtain ⟨⟨q0, q1, q2⟩, _⟩ := cells3 BX gA _ _ _ _ (show (gA, DO na aa za.length ca xa) ∈ _ by simp)
  obtain ⟨⟨s0, s1, s2⟩, _⟩ := cells3 BX gB _ _ _ _ (show (gB, DO nb ab zb.length cb xb) ∈ _ by simp)
  go_wp2_with fail
  clear q0 q1 q2 s0 s1 s2
  have HI := (BX.sub (L' := [(gB, DO nb ab zb.length cb xb), (gA, DO na aa za.length ca xa)]) (by simp)).drew
  have hdw := (Below.refl v56.heap.size v56).drew
  replace la := la.below hdw (Nat.le_refl _)
  replace lb := lb.below hdw (Nat.le_refl _)
  clear BX hdw
  have sh := fun W (hW : Bx w [(gB, DO nb ab zb.length cb xb), (gA, DO na aa za.length ca xa)] W) => And.intro (cells3 hW gB _ _ _ _ (.head _)).1 (cells3 hW gA _ _ _ _ (.tail _ (.head _))).1
  refine Drawn.enter (Bx w [(gB, DO nb ab zb.length cb xb), (gA, DO na aa za.length ca xa)]) (by kernel_rfl) ?_
  refine Drawn.tk (i := 0) (v := ?v24) rfl (fun W hW => ?_) HI ?_
  rotate_left
  · have ⟨⟨s0, s1, s2⟩, q0, q1, q2⟩ := sh W hW
    go_simp <;> exact rfl
  refine Drawn.tk (i := 1) (v := ?v25) rfl (fun W hW => ?_) HI ?_
  rotate_left
  · have ⟨⟨s0, s1, s2⟩, q0, q1, q2⟩ := sh W hW
    go_simp <;> exact rfl
  refine Drawn.tk (i := 2) (v := ?v26) rfl (fun W hW => ?_) HI ?_
  rotate_left
  · have ⟨⟨s0, s1, s2⟩, q0, q1, q2⟩ := sh W hW
    go_simp <;> exact rfl
  refine Drawn.tk (i := 3) (v := ?v27) rfl (fun W hW => ?_) HI ?_
  rotate_left
  · have ⟨⟨s0, s1, s2⟩, q0, q1, q2⟩ := sh W hW
    go_simp <;> exact rfl
  refine Drawn.tk (i := 5) (v := ?v28) rfl (fun W hW => ?_) HI ?_
  rotate_left
  · have ⟨⟨s0, s1, s2⟩, q0, q1, q2⟩ := sh W hW
    go_simp <;> exact rfl
  refine Drawn.one (j := 4) (by kernel_rfl) rfl (fun K hK => ?_)
  go_simp
  refine (mulD na nb aa ab ca cb za zb xa xb _ la lb Ha.out.dg Hb.out.dg).mono ?_
  rintro e wn ⟨nq, zq, xq, aq, cq, rfl, Fq, lq, hn⟩
  simp only [Ha.out.val, Hb.out.val] at Fq
  have Hq := Hide.mk Fq
  refine hK _ _ (HI.keep hn) ?_
  clear hK K Fq
  replace HI := HI.keep hn
  replace lb := lb.below hn (Nat.le_refl _)
  clear hn la
  refine Drawn.one (j := 6) (by kernel_rfl) rfl (fun K hK => ?_)
  go_simp
  refine ((HQ _ _ _ _ _ _ _ _ _ _ _ _ _ _ Ha.out Hq.out lq Hb.out lb (hT.below HI.bel (Nat.le_refl _))).out).mono ?_
  rintro e wm ⟨rfl, hn⟩
  refine hK _ _ (HI.keep hn) ?_
  clear hK K
  replace HI := HI.keep hn
  clear hn lb lq Hq
  refine Drawn.tk (i := 7) (v := ?v29) rfl (fun W hW => ?_) HI ?_
  rotate_left
  · have ⟨⟨s0, s1, s2⟩, q0, q1, q2⟩ := sh W hW
    go_simp <;> exact rfl
  refine Drawn.tk (i := 8) (v := ?v30) rfl (fun W hW => ?_) HI ?_
  rotate_left
  · have ⟨⟨s0, s1, s2⟩, q0, q1, q2⟩ := sh W hW
    go_simp <;> exact rfl
  refine Drawn.tk (i := 9) (v := ?v31) rfl (fun W hW => ?_) HI ?_
  rotate_left
  · have ⟨⟨s0, s1, s2⟩, q0, q1, q2⟩ := sh W hW
    go_simp <;> exact rfl
  refine Drawn.tk (i := 10) (v := ?v32) rfl (fun W hW => ?_) HI ?_
  rotate_left
  · have ⟨⟨s0, s1, s2⟩, q0, q1, q2⟩ := sh W hW
    go_simp <;> exact rfl
  refine Drawn.tk (i := 11) (v := ?v33) rfl (fun W hW => ?_) HI ?_
  rotate_left
  · have ⟨⟨s0, s1, s2⟩, q0, q1, q2⟩ := sh W hW
    go_simp <;> exact rfl
  refine Drawn.tk (i := 12) (v := ?v34) rfl (fun W hW => ?_) HI ?_
  rotate_left
  · have ⟨⟨s0, s1, s2⟩, q0, q1, q2⟩ := sh W hW
    go_simp <;> exact rfl
  refine Drawn.tk (i := 13) (v := ?v35) rfl (fun W hW => ?_) HI ?_
  rotate_left
  · have ⟨⟨s0, s1, s2⟩, q0, q1, q2⟩ := sh W hW
    go_simp <;> exact rfl
  refine Drawn.done (by kernel_rfl) ?_
  try go_simp
  have BX := HI
  clear HI sh
  obtain ⟨⟨q0, q1, q2⟩, _⟩ := cells3 BX gA _ _ _ _ (show (gA, DO na aa za.length ca xa) ∈ _ by simp)
  obtain ⟨⟨s0, s1, s2⟩, _⟩ := cells3 BX gB _ _ _ _ (show (gB, DO nb ab zb.length cb xb) ∈ _ by simp)
  go_wp2_with fail
  refine ((HS _ _ _ _ _ _ Hb.out).out).mono ?_
  rintro e v57 ⟨rfl, hk⟩
  replace BX := BX.keep hk
  clear hk q0 q1 q2 s0 s1 s2
  obtain ⟨⟨q0, q1, q2⟩, _⟩ := cells3 BX gA _ _ _ _ (show (gA, DO na aa za.length ca xa) ∈ _ by simp)
  obtain ⟨⟨s0, s1, s2⟩, _⟩ := cells3 BX gB _ _ _ _ (show (gB, DO nb ab zb.length cb xb) ∈ _ by simp)
  go_wp2_with fail
  refine (rSign b _).mono ?_
  rintro e v58 ⟨rfl, hk⟩
  replace BX := BX.keep hk
  clear hk q0 q1 q2 s0 s1 s2
  obtain ⟨⟨q0, q1, q2⟩, _⟩ := cells3 BX gA _ _ _ _ (show (gA, DO na aa za.length ca xa) ∈ _ by simp)
  obtain ⟨⟨s0, s1, s2⟩, _⟩ := cells3 BX gB _ _ _ _ (show (gB, DO nb ab zb.length cb xb) ∈ _ by simp)
  go_wp2_with fail
  refine (lKnown4 _ (hT.below BX.bel (Nat.le_refl _))).mono ?_
  rintro e v59 ⟨rfl, hk⟩
  replace BX := BX.keep hk
  clear hk q0 q1 q2 s0 s1 s2
  obtain ⟨⟨q0, q1, q2⟩, _⟩ := cells3 BX gA _ _ _ _ (show (gA, DO na aa za.length ca xa) ∈ _ by simp)
  obtain ⟨⟨s0, s1, s2⟩, _⟩ := cells3 BX gB _ _ _ _ (show (gB, DO nb ab zb.length cb xb) ∈ _ by simp)
  go_wp2
  go_ret
  exact ⟨by first | rfl | simp, BX.bel⟩
end Go.Proofs.YtdnghibkagcbcaaGreatDoor

namespace Go.Proofs.YtdnghibkagcbcaaGreatDoor
open Go.RowKit Go.Wd Go.Box
set_option linter.unusedVariables false
set_option maxRecDepth 3000
theorem quo_way (b : Bool) (m : Int) (hm : Mode m) {n1 n2 : Bool} {z1 z2 : List Int} {e1 e2 : Int} (g1 : DG n1 z1 e1) (g2 : DG n2 z2 e2) {a1 a2 : Option Addr} (c1 c2 : Nat) {W : World} (l1 : Lie W a1 z1) (l2 : Lie W a2 z2) :
    ∀ g V, Below W.heap.size W V → At3 V g 0 n1 a1 z1.length c1 e1 → At3 V g 3 n2 a2 z2.length c2 e2 → Calls Tryz.prog 43 #[.int .u8 (fm b), .int .u8 m, .slice (some ⟨g, 0, none⟩) 2 2] V fun e w' => e = .returned (.tuple #[wyV b m, .int .i64 0]) ∧ Below V.heap.size V w' := fun g V hV k1 k2 => by
  have := wWayFor2 b m hm g n1 a1 c1 z1 e1 n2 a2 c2 z2 e2 V (g1.lie (l1.below hV (Nat.le_refl _))) (g2.lie (l2.below hV (Nat.le_refl _))) true true g1.may g2.may k1 k2
  exact this
theorem wv_zero (b : Bool) {x : Int} (h : sz b x = 0) : wv b x = 0 := by
  rw [wv_vz, h, vz_zero]; cases ng b x <;> rfl
theorem wv_ne (b : Bool) {x : Int} (h : sz b x ≠ 0) : wv b x ≠ 0 := by
  have h0 := (sz_bd b x).1
  have h1 := vz_strict b (s := 0) (t := sz b x) (Int.le_refl 0) (by omega)
  rw [vz_zero] at h1
  rw [wv_vz]
  cases ng b x
  · rw [sv_f]; omega
  · rw [sv_t]; omega
/-- RoundSquares, whatever it is called with. -/
theorem rs_any (f m x y : Int) (w : World) (hT : Tab w) (hx0 : 0 ≤ x) (hx1 : x < 18446744073709551616) (hy0 : 0 ≤ y) (hy1 : y < 18446744073709551616) :
    Calls Tryz.prog 10 #[.int .u8 f, .int .u8 m, .int .u64 x, .int .u64 y] w fun e w' => e = .returned (.bool true) ∧ Below w.heap.size w w' := by
  rcases fm_or_bad f with ⟨b, rfl⟩ | hf
  · by_cases hm : Mode m
    · by_cases hx : Ok b x
      · by_cases hy : Ok b y
        · by_cases hfx : sz b x < inf b
          · by_cases hfy : sz b y < inf b
            · have hsp := sg_pos b
              have hR : x.tmod (sg b) = sz b x := by
                rw [Int.tmod_eq_emod_of_nonneg hx0]; rfl
              have KRt : ∀ n1 z1 e1 n z ex a c W, DN n1 z1 e1 (wv b x) → Fm (wv b x * wv b x) (-(2 * (KK : Int))) n z ex → Lie W a z → Tab W → Calls Tryz.prog 25 #[.int .u8 (fm b), .int .u8 m, dV n a (List.length z) c ex] W fun e w' => e = .returned (.tuple #[.int .u64 (sz b x), .int .u8 0, .int .i64 0]) ∧ Below W.heap.size W w' := by
                intro n1 z1 e1 n z ex a c W N F l hTW
                by_cases q : sz b x = 0
                · rw [wv_zero b q, Int.zero_mul] at F
                  obtain ⟨rfl, rfl, rfl⟩ := F.zero
                  rw [q]
                  exact wRoot_zero b m false a c ([] : List Int).length 0 W (fun g V hV h3 => wWayFor1 b m hm g false a c [] 0 V (zeroDG.lie (.inl rfl)) true rfl h3) (fun V _ => dsign49 false a c [] 0 0 V (.inl rfl) ⟨zeroDG, zero_dv _ _⟩ 0 rfl)
                · obtain ⟨g, gz, gn, gv, ge, _⟩ := prod_num b hx hfx q hx hfx q N N F
                  have : n = false := by rw [gn]; cases n1 <;> rfl
                  subst this
                  exact root_word b m hm hx hfx q N g gz gv ge a c W l hTW
              by_cases qy : sz b y = 0
              · refine rs_zero m x y (sz b x) b hm hx hy hfx hfy KRt ?_ ?_ hR w hT
                · intro n1 z1 e1 n z ex a c n2 z2 e2 a2 c2 W N F l N2 l2 hTW
                  rw [wv_zero b qy, Int.mul_zero] at F
                  obtain ⟨rfl, rfl, rfl⟩ := F.zero
                  rw [wv_zero b qy] at N2
                  have hz2 : z2.length ≤ 0 := by
                    by_cases q : 0 < z2.length
                    · exact absurd rfl (N2.low q).2
                    · omega
                  obtain ⟨rfl, rfl, rfl, _⟩ := N2.zero hz2
                  exact wQuo_none b m false a c ([] : List Int).length 0 false a2 c2 ([] : List Int).length 0 W (quo_way b m hm zeroDG zeroDG c c2 l l2) (fun V hV => dsign49 false a2 c2 [] 0 0 V (.inl rfl) ⟨zeroDG, zero_dv _ _⟩ 0 rfl)
                · intro n2 z2 e2 a2 c2 W N2
                  exact rSignD n2 a2 c2 z2 e2 N2 0 (by rw [wv_zero b qy]; rfl) W
              · obtain ⟨s, hs, hs0⟩ : ∃ s, sgn (wv b y) 0 = s ∧ (s == 0) = false := by
                  have := wv_ne b qy
                  refine ⟨_, rfl, beq_eq_false_iff_ne.2 ?_⟩
                  unfold sgn
                  split <;> (try split) <;> omega
                have KS : ∀ n2 z2 e2 a2 c2 W, DN n2 z2 e2 (wv b y) → Calls Tryz.prog 23 #[dV n2 a2 (List.length z2) c2 e2] W fun e w' => e = .returned (.int .i64 s) ∧ Below W.heap.size W w' := fun n2 z2 e2 a2 c2 W N2 => rSignD n2 a2 c2 z2 e2 N2 s hs W
                have KQ : ∀ n1 z1 e1 n z ex a c n2 z2 e2 a2 c2 W, DN n1 z1 e1 (wv b x) → Fm (wv b x * wv b y) (-(2 * (KK : Int))) n z ex → Lie W a z → DN n2 z2 e2 (wv b y) → Lie W a2 z2 → Tab W → Calls Tryz.prog 22 #[.int .u8 (fm b), .int .u8 m, dV n a (List.length z) c ex, dV n2 a2 (List.length z2) c2 e2] W fun e w' => e = .returned (.tuple #[.int .u64 (if sz b x = 0 then 0 else x), .int .u8 0, .int .i64 0]) ∧ Below W.heap.size W w' := by
                  intro n1 z1 e1 n z ex a c n2 z2 e2 a2 c2 W N F l N2 l2 hTW
                  obtain ⟨_, k2, _, k4, k5, _⟩ := word_num b hy hfy qy N2
                  by_cases q : sz b x = 0
                  · rw [if_pos q]
                    rw [wv_zero b q, Int.zero_mul] at F
                    obtain ⟨rfl, rfl, rfl⟩ := F.zero
                    exact wQuo_zero b m false a c ([] : List Int).length 0 n2 a2 c2 z2.length e2 s W hs0 (quo_way b m hm zeroDG N2.dg c c2 l l2) (fun V hV => dsign49 n2 a2 c2 z2 e2 _ V (l2.below hV (Nat.le_refl _)) N2 s hs) (fun V hV => dsign49 false a c [] 0 0 V (.inl rfl) ⟨zeroDG, zero_dv _ _⟩ 0 rfl)
                  · rw [if_neg q]
                    obtain ⟨g, gz, gn, gv, ge, _⟩ := prod_num b hx hfx q hy hfy qy N N2 F
                    exact quo_word b m hm hx hfx q N N2.dg k2 ⟨by omega, by omega⟩ g gz gn gv ge a a2 c c2 W l l2 hTW
                by_cases qs : x = sg b
                · have q0 : sz b x = 0 := by rw [qs]; unfold sz; exact Int.emod_self
                  exact rs_ns m x y (sz b x) _ s hs0 b hm hx hy hfx hfy KRt KQ KS hR (by simpa using qs) (by rw [if_pos q0]; rfl) w hT
                · refine rs_nn m x y (sz b x) _ s hs0 b hm hx hy hfx hfy KRt KQ KS hR (by simpa using qs) ?_ w hT
                  by_cases q0 : sz b x = 0
                  · rw [if_pos q0]
                    have h2 := hx.2
                    have : x = 0 := by
                      by_cases c : sg b ≤ x
                      · have := sz_neg hx c; omega
                      · have := sz_pos hx c; omega
                    rw [this]; rfl
                  · rw [if_neg q0]; simp
            · exact rs_fw m x y b hm hx hy hfx (by omega) w hT
          · exact rs_fv m x y b hm hx hy (by omega) w hT
        · exact rs_gw m x y b hm hx 6 rfl (.inr ⟨b, rfl, by unfold Ok at hy; omega, rfl⟩) hy1 w hT
      · exact rs_gv m x y b hm 6 rfl (.inr ⟨b, rfl, by unfold Ok at hx; omega, rfl⟩) hx1 w hT
    · exact rs_open m x y (fm b) 5 (.inr ⟨b, rfl, .inl ⟨hm, rfl⟩⟩) rfl w hT
  · exact rs_open m x y f 4 (.inl ⟨hf, rfl⟩) rfl w hT
end Go.Proofs.YtdnghibkagcbcaaGreatDoor
