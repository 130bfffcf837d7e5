import Derived.Test.YteejaghimppcgaaDoorM9
namespace Go.Proofs.YteejaghimppcgaaDoor
open Go.RowKit
set_option linter.unusedVariables false
set_option maxRecDepth 3000
theorem shiftU_no (a : Option Addr) (ca : Nat) (za : List Int) (w : World) {x : Int} (ha : Lie w a za) (ga : Good za x) (M : Int) (n : Nat) (hM : M = (n : Int)) (hn : M ≤ 9223372036854775807) (hf : 4294967296 ^ 4096 ≤ x * 2 ^ n) :
    Calls Tryd.prog 94 #[.slice a za.length ca, .int .i64 M] w fun e w' => e = .returned (.tuple #[.slice none 0 0, .bool false, .int .i64 3]) ∧ w = w' := by
  have hz : 0 < za.length := by
    by_cases c : 0 < za.length
    · exact c
    · have h0 := (ga.nil (by omega)).2
      rw [h0, Int.zero_mul] at hf
      have := Nt.pw_pos 4096
      omega
  obtain ⟨B, hB⟩ := bits_ex (ga.pos hz)
  refine shift_long a ca za w ha ga.can.1 ga.may hz (BL := B) (by rw [ga.val]; exact hB) M ?_ hn
  have h1 := (hB.up n).lt
  rw [pw32] at hf
  have := p2lt (i := 131072) (j := B + n) (by omega)
  omega
theorem add_long (a b : Option Addr) (ca cb : Nat) (za zb : List Int) (w : World) {x y : Int} (ha : Lie w a za) (hb : Lie w b zb) (ga : Good za x) (gb : Good zb y) (hf : 4294967296 ^ 4096 ≤ x + y) :
    Calls Tryd.prog 61 #[.slice a za.length ca, .slice b zb.length cb] w fun e w' => e = .returned (.tuple #[.slice none 0 0, .int .i64 3]) ∧ Below w.heap.size w w' := by
  refine (add20 a b ca cb za zb w ha hb ga.can.1 gb.can.1 ga.may gb.may).mono ?_
  rintro e w' ⟨zs, h1, h2, h3, h4⟩
  rw [ga.val, gb.val] at h2
  rcases h4 with ⟨h5, _⟩ | ⟨_, h5⟩
  · have := (Nt.can_len h1 4096).2 h5
    omega
  · exact ⟨h5, h3⟩
theorem DV.long {w w' : World} {s E : Int} (hb : Below w.heap.size w w') (ho : (s.natAbs : Int) % 2 = 1) (hl : 4294967296 ^ 4096 ≤ (s.natAbs : Int)) : DV w w' s E false none 0 0 0 3 := by
  refine ⟨hb, .inr ⟨fun c => by subst c; simp at ho, 0, odd_low ho, .inr (.inl ⟨by rw [Int.pow_zero, Int.ediv_one]; exact hl, rfl, rfl, rfl, rfl, rfl, rfl⟩)⟩⟩
/-- The sum, in units of the lower one's exponent. -/
theorem step_val {n1 n2 : Bool} {x y g : Int} {k : Nat} (hg : g = x * 2 ^ k) : sv n1 x * 2 ^ (k + 1) + sv n2 y = 2 * sv n1 g + sv n2 y := by
  rw [p2succ]
  have e : sv n1 x * (2 * 2 ^ k) = 2 * (sv n1 x * 2 ^ k) := by generalize (2 : Int) ^ k = P; grind
  rw [e]
  cases n1 <;> simp only [sv_t, sv_f, hg, Int.neg_mul]
theorem step_same {n1 n2 : Bool} {y g h : Int} (hy : y % 2 = 1) (hh : h = y / 2) (hq : (n1 == n2) = true) : 2 * sv n1 g + sv n2 y = sv n1 (2 * (g + h) + 1) := by
  have : n1 = n2 := by simpa using hq
  subst this
  cases n1 <;> simp only [sv_t, sv_f] <;> omega
theorem step_gt {n1 n2 : Bool} {y g h : Int} (hy : y % 2 = 1) (hh : h = y / 2) (hq : (n1 == n2) = false) : 2 * sv n1 g + sv n2 y = sv n1 (2 * (g - h - 1) + 1) := by
  cases n1 <;> cases n2 <;> simp only [sv_t, sv_f] <;> first | (simp at hq; done) | omega
theorem step_le {n1 n2 : Bool} {y g h : Int} (hy : y % 2 = 1) (hh : h = y / 2) (hq : (n1 == n2) = false) : 2 * sv n1 g + sv n2 y = sv n2 (2 * (h - g) + 1) := by
  cases n1 <;> cases n2 <;> simp only [sv_t, sv_f] <;> first | (simp at hq; done) | omega
theorem step_glong {n1 n2 : Bool} {y g h : Int} (hy : y % 2 = 1) (hh : h = y / 2) (hb : y < 4294967296 ^ 4096) (hy0 : 0 ≤ y) (hg : 4294967296 ^ 4096 ≤ g) : ((2 * sv n1 g + sv n2 y).natAbs : Int) % 2 = 1 ∧ 4294967296 ^ 4096 ≤ ((2 * sv n1 g + sv n2 y).natAbs : Int) := by
  generalize (4294967296 : Int) ^ 4096 = P at *
  cases n1 <;> cases n2 <;> simp only [sv_t, sv_f] <;> omega
theorem sv_odd_abs {ng : Bool} {y : Int} (h : 0 ≤ y) : ((sv ng (2 * y + 1)).natAbs : Int) = 2 * y + 1 := sv_abs ng (by omega)

theorem below_trans2 {w3 w6 w : World} {B : Nat} (h : Below B w3 w6) (k : Below B w6 w) : Below B w3 w := h.trans k
theorem sgn_gt2 {x y : Int} (h : y < x) : sgn x y = 1 := by unfold sgn; rw [if_neg (by omega), if_pos h]
theorem even_fit {y : Int} (h : y * 2 ^ 1 < 4294967296 ^ 4096) : y * 2 ^ 1 + 1 < 4294967296 ^ 4096 := by
  have e : (4294967296 : Int) ^ 4096 = 4294967296 ^ 4095 * 4294967296 := Nt.pw_succ 4095
  rw [e] at h ⊢
  generalize (4294967296 : Int) ^ 4095 = P at *
  omega
set_option maxHeartbeats 4000000 in
theorem step_glong_w (n1 n2 : Bool) (a1 a2 : Option Addr) (c1 c2 : Nat) (z1 z2 : List Int) (e1 e2 : Int) (k : Nat) (w : World) (h1 : Lie w a1 z1) (h2 : Lie w a2 z2) (g1 : Good z1 (Nt.val z1)) (g2 : Good z2 (Nt.val z2)) (o2 : Nt.val z2 % 2 = 1) (x1 : -16777216 ≤ e2) (x2 : e1 ≤ 16777216) (x3 : e1 - e2 - 1 = (k : Int)) (hT : Tab w) (hg : 4294967296 ^ 4096 ≤ (Nt.val z1 * 2 ^ k)) :
    Calls Tryd.prog 122 #[dV n1 a1 z1.length c1 e1, dV n2 a2 z2.length c2 e2] w fun e w' => DRes w w' (sv n1 (Nt.val z1) * 2 ^ (k + 1) + sv n2 (Nt.val z2)) e2 e := by
  rw [step_val (n1 := n1) (n2 := n2) (y := Nt.val z2) (rfl : (Nt.val z1 * 2 ^ k) = (Nt.val z1 * 2 ^ k))]
  obtain ⟨d1, d2, d3, hs3⟩ := dcell3 w #[.bool n1, .slice a1 z1.length c1, .int .i64 e1] #[.bool n2, .slice a2 z2.length c2, .int .i64 e2] #[.bool false, .slice none 0 0, .int .i64 0] rfl rfl rfl
  have hb3 := below3 w (.cells #[.bool n1, .slice a1 z1.length c1, .int .i64 e1] 36) (.cells #[.bool n2, .slice a2 z2.length c2, .int .i64 e2] 36) (.cells #[.bool false, .slice none 0 0, .int .i64 0] 36)
  have HG := Hide.mk hg
  have HO := Hide.mk o2
  have HK := Hide.mk x3
  have x4 : e1 - e2 - 1 ≤ 33554432 := by omega
  have x5 : 0 ≤ e1 - e2 - 1 := by omega
  clear hg o2 x3
  go_enter Tryd.func122, Tryd.ntmps122
  go_wp2_with fail
  generalize hw3 : ((w.alloc (.cells #[.bool n1, .slice a1 z1.length c1, .int .i64 e1] 36)).alloc (.cells #[.bool n2, .slice a2 z2.length c2, .int .i64 e2] 36)).alloc (.cells #[.bool false, .slice none 0 0, .int .i64 0] 36) = w3 at *
  clear hw3
  have HI : Below (w.heap.size + 2) w3 w3 := Below.refl _ _
  have L : Live w3 [(a1, z1), (a2, z2)] := ⟨by simp [h1.below hb3 (Nat.le_refl _), h2.below hb3 (Nat.le_refl _)]⟩
  have HT := Hide.mk (hT.below hb3 (Nat.le_refl _))
  have HB : Below w.heap.size w w3 := hb3
  have HD : DCell w3 (w.heap.size + 1 + 1) #[.bool false, .slice none 0 0, .int .i64 0] := d3
  have hsz : w.heap.size + 1 + 1 < w3.heap.size := by omega
  clear h1 h2 hT hb3 d3
  refine (shiftU_no a1 c1 z1 _ (L.all (a1, z1) (by simp)) g1 (e1 - e2 - 1) k HK.out (by omega) HG.out).mono ?_
  rintro e w' ⟨rfl, rfl⟩
  have f0 := HD.c0
  have f1 := HD.c1
  have f2 := HD.c2
  have r0 := HD.fr 0
  have r1 := HD.fr 1
  have r2 := HD.fr 2
  go_wp2
  refine bodyPost_ret (results_D2 rfl _ _ (w.heap.size + 1 + 1) _ rfl (((HD.set 0 _).set 1 _).set 2 _)) rfl ?_
  exact ⟨false, none, 0, 0, 0, 3, rfl, DV.long (((HB.setCell (p := ⟨w.heap.size + 1 + 1, 0, none⟩) (by show w.heap.size ≤ w.heap.size + 1 + 1; omega) _).setCell (p := ⟨w.heap.size + 1 + 1, 1, none⟩) (by show w.heap.size ≤ w.heap.size + 1 + 1; omega) _).setCell (p := ⟨w.heap.size + 1 + 1, 2, none⟩) (by show w.heap.size ≤ w.heap.size + 1 + 1; omega) _) (step_glong HO.out rfl g2.lt.2 g2.nonneg HG.out).1 (step_glong HO.out rfl g2.lt.2 g2.nonneg HG.out).2⟩
set_option maxHeartbeats 4000000 in
theorem step_along_w (n1 n2 : Bool) (a1 a2 : Option Addr) (c1 c2 : Nat) (z1 z2 : List Int) (e1 e2 : Int) (k : Nat) (w : World) (h1 : Lie w a1 z1) (h2 : Lie w a2 z2) (g1 : Good z1 (Nt.val z1)) (g2 : Good z2 (Nt.val z2)) (o2 : Nt.val z2 % 2 = 1) (x1 : -16777216 ≤ e2) (x2 : e1 ≤ 16777216) (x3 : e1 - e2 - 1 = (k : Int)) (hT : Tab w) (hg : (Nt.val z1 * 2 ^ k) < 4294967296 ^ 4096) (hq : (n1 == n2) = true) (ha : 4294967296 ^ 4096 ≤ (Nt.val z1 * 2 ^ k) + (Nt.val z2 / 2)) :
    Calls Tryd.prog 122 #[dV n1 a1 z1.length c1 e1, dV n2 a2 z2.length c2 e2] w fun e w' => DRes w w' (sv n1 (Nt.val z1) * 2 ^ (k + 1) + sv n2 (Nt.val z2)) e2 e := by
  rw [step_val (n1 := n1) (n2 := n2) (y := Nt.val z2) (rfl : (Nt.val z1 * 2 ^ k) = (Nt.val z1 * 2 ^ k))]
  obtain ⟨d1, d2, d3, hs3⟩ := dcell3 w #[.bool n1, .slice a1 z1.length c1, .int .i64 e1] #[.bool n2, .slice a2 z2.length c2, .int .i64 e2] #[.bool false, .slice none 0 0, .int .i64 0] rfl rfl rfl
  have hb3 := below3 w (.cells #[.bool n1, .slice a1 z1.length c1, .int .i64 e1] 36) (.cells #[.bool n2, .slice a2 z2.length c2, .int .i64 e2] 36) (.cells #[.bool false, .slice none 0 0, .int .i64 0] 36)
  have HG := Hide.mk hg
  have HO := Hide.mk o2
  have HK := Hide.mk x3
  have x4 : e1 - e2 - 1 ≤ 33554432 := by omega
  have x5 : 0 ≤ e1 - e2 - 1 := by omega
  clear hg o2 x3
  have HQ := Hide.mk hq
  have HA := Hide.mk ha
  clear ha
  go_enter Tryd.func122, Tryd.ntmps122
  go_wp2_with fail
  generalize hw3 : ((w.alloc (.cells #[.bool n1, .slice a1 z1.length c1, .int .i64 e1] 36)).alloc (.cells #[.bool n2, .slice a2 z2.length c2, .int .i64 e2] 36)).alloc (.cells #[.bool false, .slice none 0 0, .int .i64 0] 36) = w3 at *
  clear hw3
  have HI : Below (w.heap.size + 2) w3 w3 := Below.refl _ _
  have L : Live w3 [(a1, z1), (a2, z2)] := ⟨by simp [h1.below hb3 (Nat.le_refl _), h2.below hb3 (Nat.le_refl _)]⟩
  have HT := Hide.mk (hT.below hb3 (Nat.le_refl _))
  have HB : Below w.heap.size w w3 := hb3
  have HD : DCell w3 (w.heap.size + 1 + 1) #[.bool false, .slice none 0 0, .int .i64 0] := d3
  have hsz : w.heap.size + 1 + 1 < w3.heap.size := by omega
  clear h1 h2 hT hb3 d3
  refine (shiftUi a1 c1 z1 _ (L.all (a1, z1) (by simp)) g1 (e1 - e2 - 1) k HK.out HG.out).mono ?_
  rintro e w4 ⟨zg, ag, cg, rfl, h4, _⟩
  have G4 := h4.good
  have HI4 := below_step HI hsz h4.bel
  replace HI := HI4
  replace L := L.push h4.lie h4.bel
  replace HT := Hide.mk (HT.out.below h4.bel (Nat.le_refl _))
  replace HB := below_then HB h4.bel
  replace HD := HD.below h4.bel hsz
  replace hsz := Nat.lt_of_lt_of_le hsz h4.bel.size
  clear h4 HI4
  have q10 := below_cell2 HI (by simp) d1.c0
  have q12 := below_cell2 HI (by simp) d1.c2
  have q20 := below_cell2 HI (by simp) d2.c0
  have q21 := below_cell2 HI (by simp) d2.c1
  have q22 := below_cell2 HI (by simp) d2.c2
  go_wp2_with fail
  refine (shiftedD a2 c2 z2 _ (L.all (a2, z2) (by simp)) g2 (-1) 1 rfl (by decide) HT.out).mono ?_
  rintro e w5 ⟨zh, ah, ch, rfl, h5, _⟩
  clear q10 q12 q20 q21 q22
  have G5 := h5.good
  have HI5 := below_step HI hsz h5.bel
  replace HI := HI5
  replace L := L.push h5.lie h5.bel
  replace HT := Hide.mk (HT.out.below h5.bel (Nat.le_refl _))
  replace HB := below_then HB h5.bel
  replace HD := HD.below h5.bel hsz
  replace hsz := Nat.lt_of_lt_of_le hsz h5.bel.size
  clear h5 HI5
  have Gh : Good zh (Nt.val z2 / 2) := G5
  clear G5
  have q10 := below_cell2 HI (by simp) d1.c0
  have q12 := below_cell2 HI (by simp) d1.c2
  have q20 := below_cell2 HI (by simp) d2.c0
  have q21 := below_cell2 HI (by simp) d2.c1
  have q22 := below_cell2 HI (by simp) d2.c2
  go_wp2_with fail
  refine (add_long ag ah cg ch zg zh _ (L.all (ag, zg) (by simp)) (L.all (ah, zh) (by simp)) G4 Gh HA.out).mono ?_
  rintro e w6 ⟨rfl, h6⟩
  clear q10 q12 q20 q21 q22
  have HI6 := below_step HI hsz h6
  replace HI := HI6
  replace L := L.keep h6
  replace HT := Hide.mk (HT.out.below h6 (Nat.le_refl _))
  replace HB := below_then HB h6
  replace HD := HD.below h6 hsz
  replace hsz := Nat.lt_of_lt_of_le hsz h6.size
  clear h6 HI6
  have f0 := HD.c0
  have f1 := HD.c1
  have f2 := HD.c2
  have r0 := HD.fr 0
  have r1 := HD.fr 1
  have r2 := HD.fr 2
  go_wp2
  refine bodyPost_ret (results_D2 rfl _ _ (w.heap.size + 1 + 1) _ rfl (((HD.set 0 _).set 1 _).set 2 _)) rfl ?_
  exact ⟨false, none, 0, 0, 0, 3, rfl, step_same HO.out rfl HQ.out ▸ DV.long (((HB.setCell (p := ⟨w.heap.size + 1 + 1, 0, none⟩) (by show w.heap.size ≤ w.heap.size + 1 + 1; omega) _).setCell (p := ⟨w.heap.size + 1 + 1, 1, none⟩) (by show w.heap.size ≤ w.heap.size + 1 + 1; omega) _).setCell (p := ⟨w.heap.size + 1 + 1, 2, none⟩) (by show w.heap.size ≤ w.heap.size + 1 + 1; omega) _) (by rw [sv_odd_abs (by have := G4.nonneg; have := Gh.nonneg; omega)]; omega) (by rw [sv_odd_abs (by have := G4.nonneg; have := Gh.nonneg; omega)]; have := HA.out; have := Nt.pw_pos 4096; omega)⟩
set_option maxHeartbeats 4000000 in
theorem step_same_long_w (n1 n2 : Bool) (a1 a2 : Option Addr) (c1 c2 : Nat) (z1 z2 : List Int) (e1 e2 : Int) (k : Nat) (w : World) (h1 : Lie w a1 z1) (h2 : Lie w a2 z2) (g1 : Good z1 (Nt.val z1)) (g2 : Good z2 (Nt.val z2)) (o2 : Nt.val z2 % 2 = 1) (x1 : -16777216 ≤ e2) (x2 : e1 ≤ 16777216) (x3 : e1 - e2 - 1 = (k : Int)) (hT : Tab w) (hg : (Nt.val z1 * 2 ^ k) < 4294967296 ^ 4096) (hq : (n1 == n2) = true) (ha : (Nt.val z1 * 2 ^ k) + (Nt.val z2 / 2) < 4294967296 ^ 4096) (ht : 4294967296 ^ 4096 ≤ ((Nt.val z1 * 2 ^ k) + (Nt.val z2 / 2)) * 2 ^ 1) :
    Calls Tryd.prog 122 #[dV n1 a1 z1.length c1 e1, dV n2 a2 z2.length c2 e2] w fun e w' => DRes w w' (sv n1 (Nt.val z1) * 2 ^ (k + 1) + sv n2 (Nt.val z2)) e2 e := by
  rw [step_val (n1 := n1) (n2 := n2) (y := Nt.val z2) (rfl : (Nt.val z1 * 2 ^ k) = (Nt.val z1 * 2 ^ k))]
  obtain ⟨d1, d2, d3, hs3⟩ := dcell3 w #[.bool n1, .slice a1 z1.length c1, .int .i64 e1] #[.bool n2, .slice a2 z2.length c2, .int .i64 e2] #[.bool false, .slice none 0 0, .int .i64 0] rfl rfl rfl
  have hb3 := below3 w (.cells #[.bool n1, .slice a1 z1.length c1, .int .i64 e1] 36) (.cells #[.bool n2, .slice a2 z2.length c2, .int .i64 e2] 36) (.cells #[.bool false, .slice none 0 0, .int .i64 0] 36)
  have HG := Hide.mk hg
  have HO := Hide.mk o2
  have HK := Hide.mk x3
  have x4 : e1 - e2 - 1 ≤ 33554432 := by omega
  have x5 : 0 ≤ e1 - e2 - 1 := by omega
  clear hg o2 x3
  have HQ := Hide.mk hq
  have HA := Hide.mk ha
  clear ha
  have HTT := Hide.mk ht
  clear ht
  go_enter Tryd.func122, Tryd.ntmps122
  go_wp2_with fail
  generalize hw3 : ((w.alloc (.cells #[.bool n1, .slice a1 z1.length c1, .int .i64 e1] 36)).alloc (.cells #[.bool n2, .slice a2 z2.length c2, .int .i64 e2] 36)).alloc (.cells #[.bool false, .slice none 0 0, .int .i64 0] 36) = w3 at *
  clear hw3
  have HI : Below (w.heap.size + 2) w3 w3 := Below.refl _ _
  have L : Live w3 [(a1, z1), (a2, z2)] := ⟨by simp [h1.below hb3 (Nat.le_refl _), h2.below hb3 (Nat.le_refl _)]⟩
  have HT := Hide.mk (hT.below hb3 (Nat.le_refl _))
  have HB : Below w.heap.size w w3 := hb3
  have HD : DCell w3 (w.heap.size + 1 + 1) #[.bool false, .slice none 0 0, .int .i64 0] := d3
  have hsz : w.heap.size + 1 + 1 < w3.heap.size := by omega
  clear h1 h2 hT hb3 d3
  refine (shiftUi a1 c1 z1 _ (L.all (a1, z1) (by simp)) g1 (e1 - e2 - 1) k HK.out HG.out).mono ?_
  rintro e w4 ⟨zg, ag, cg, rfl, h4, _⟩
  have G4 := h4.good
  have HI4 := below_step HI hsz h4.bel
  replace HI := HI4
  replace L := L.push h4.lie h4.bel
  replace HT := Hide.mk (HT.out.below h4.bel (Nat.le_refl _))
  replace HB := below_then HB h4.bel
  replace HD := HD.below h4.bel hsz
  replace hsz := Nat.lt_of_lt_of_le hsz h4.bel.size
  clear h4 HI4
  have q10 := below_cell2 HI (by simp) d1.c0
  have q12 := below_cell2 HI (by simp) d1.c2
  have q20 := below_cell2 HI (by simp) d2.c0
  have q21 := below_cell2 HI (by simp) d2.c1
  have q22 := below_cell2 HI (by simp) d2.c2
  go_wp2_with fail
  refine (shiftedD a2 c2 z2 _ (L.all (a2, z2) (by simp)) g2 (-1) 1 rfl (by decide) HT.out).mono ?_
  rintro e w5 ⟨zh, ah, ch, rfl, h5, _⟩
  clear q10 q12 q20 q21 q22
  have G5 := h5.good
  have HI5 := below_step HI hsz h5.bel
  replace HI := HI5
  replace L := L.push h5.lie h5.bel
  replace HT := Hide.mk (HT.out.below h5.bel (Nat.le_refl _))
  replace HB := below_then HB h5.bel
  replace HD := HD.below h5.bel hsz
  replace hsz := Nat.lt_of_lt_of_le hsz h5.bel.size
  clear h5 HI5
  have Gh : Good zh (Nt.val z2 / 2) := G5
  clear G5
  have q10 := below_cell2 HI (by simp) d1.c0
  have q12 := below_cell2 HI (by simp) d1.c2
  have q20 := below_cell2 HI (by simp) d2.c0
  have q21 := below_cell2 HI (by simp) d2.c1
  have q22 := below_cell2 HI (by simp) d2.c2
  go_wp2_with fail
  refine (add_fit ag ah cg ch zg zh _ (L.all (ag, zg) (by simp)) (L.all (ah, zh) (by simp)) G4 Gh ⟨by have := G4.nonneg; have := Gh.nonneg; omega, HA.out⟩).mono ?_
  rintro e w7 ⟨zy, ay, cy, rfl, h7, _⟩
  clear q10 q12 q20 q21 q22
  have G7 := h7.good
  have HI7 := below_step HI hsz h7.bel
  replace HI := HI7
  replace L := L.push h7.lie h7.bel
  replace HT := Hide.mk (HT.out.below h7.bel (Nat.le_refl _))
  replace HB := below_then HB h7.bel
  replace HD := HD.below h7.bel hsz
  replace hsz := Nat.lt_of_lt_of_le hsz h7.bel.size
  clear h7 HI7
  go_wp2_with fail
  refine (shiftU_no ay cy zy _ (L.all (ay, zy) (by simp)) G7 1 1 rfl (by decide) HTT.out).mono ?_
  rintro e w' ⟨rfl, rfl⟩
  have f0 := HD.c0
  have f1 := HD.c1
  have f2 := HD.c2
  have r0 := HD.fr 0
  have r1 := HD.fr 1
  have r2 := HD.fr 2
  go_wp2
  refine bodyPost_ret (results_D2 rfl _ _ (w.heap.size + 1 + 1) _ rfl (((HD.set 0 _).set 1 _).set 2 _)) rfl ?_
  exact ⟨false, none, 0, 0, 0, 3, rfl, step_same HO.out rfl HQ.out ▸ DV.long (((HB.setCell (p := ⟨w.heap.size + 1 + 1, 0, none⟩) (by show w.heap.size ≤ w.heap.size + 1 + 1; omega) _).setCell (p := ⟨w.heap.size + 1 + 1, 1, none⟩) (by show w.heap.size ≤ w.heap.size + 1 + 1; omega) _).setCell (p := ⟨w.heap.size + 1 + 1, 2, none⟩) (by show w.heap.size ≤ w.heap.size + 1 + 1; omega) _) (by rw [sv_odd_abs G7.nonneg]; omega) (by rw [sv_odd_abs G7.nonneg]; have := HTT.out; omega)⟩
set_option maxHeartbeats 4000000 in
theorem step_same_fits_w (n1 n2 : Bool) (a1 a2 : Option Addr) (c1 c2 : Nat) (z1 z2 : List Int) (e1 e2 : Int) (k : Nat) (w : World) (h1 : Lie w a1 z1) (h2 : Lie w a2 z2) (g1 : Good z1 (Nt.val z1)) (g2 : Good z2 (Nt.val z2)) (o2 : Nt.val z2 % 2 = 1) (x1 : -16777216 ≤ e2) (x2 : e1 ≤ 16777216) (x3 : e1 - e2 - 1 = (k : Int)) (hT : Tab w) (hg : (Nt.val z1 * 2 ^ k) < 4294967296 ^ 4096) (hq : (n1 == n2) = true) (ha : (Nt.val z1 * 2 ^ k) + (Nt.val z2 / 2) < 4294967296 ^ 4096) (ht : ((Nt.val z1 * 2 ^ k) + (Nt.val z2 / 2)) * 2 ^ 1 < 4294967296 ^ 4096) :
    Calls Tryd.prog 122 #[dV n1 a1 z1.length c1 e1, dV n2 a2 z2.length c2 e2] w fun e w' => DRes w w' (sv n1 (Nt.val z1) * 2 ^ (k + 1) + sv n2 (Nt.val z2)) e2 e := by
  rw [step_val (n1 := n1) (n2 := n2) (y := Nt.val z2) (rfl : (Nt.val z1 * 2 ^ k) = (Nt.val z1 * 2 ^ k))]
  obtain ⟨d1, d2, d3, hs3⟩ := dcell3 w #[.bool n1, .slice a1 z1.length c1, .int .i64 e1] #[.bool n2, .slice a2 z2.length c2, .int .i64 e2] #[.bool false, .slice none 0 0, .int .i64 0] rfl rfl rfl
  have hb3 := below3 w (.cells #[.bool n1, .slice a1 z1.length c1, .int .i64 e1] 36) (.cells #[.bool n2, .slice a2 z2.length c2, .int .i64 e2] 36) (.cells #[.bool false, .slice none 0 0, .int .i64 0] 36)
  have HG := Hide.mk hg
  have HO := Hide.mk o2
  have HK := Hide.mk x3
  have x4 : e1 - e2 - 1 ≤ 33554432 := by omega
  have x5 : 0 ≤ e1 - e2 - 1 := by omega
  clear hg o2 x3
  have HQ := Hide.mk hq
  have HA := Hide.mk ha
  clear ha
  have HTT := Hide.mk ht
  clear ht
  go_enter Tryd.func122, Tryd.ntmps122
  go_wp2_with fail
  generalize hw3 : ((w.alloc (.cells #[.bool n1, .slice a1 z1.length c1, .int .i64 e1] 36)).alloc (.cells #[.bool n2, .slice a2 z2.length c2, .int .i64 e2] 36)).alloc (.cells #[.bool false, .slice none 0 0, .int .i64 0] 36) = w3 at *
  clear hw3
  have HI : Below (w.heap.size + 2) w3 w3 := Below.refl _ _
  have L : Live w3 [(a1, z1), (a2, z2)] := ⟨by simp [h1.below hb3 (Nat.le_refl _), h2.below hb3 (Nat.le_refl _)]⟩
  have HT := Hide.mk (hT.below hb3 (Nat.le_refl _))
  have HB : Below w.heap.size w w3 := hb3
  have HD : DCell w3 (w.heap.size + 1 + 1) #[.bool false, .slice none 0 0, .int .i64 0] := d3
  have hsz : w.heap.size + 1 + 1 < w3.heap.size := by omega
  clear h1 h2 hT hb3 d3
  refine (shiftUi a1 c1 z1 _ (L.all (a1, z1) (by simp)) g1 (e1 - e2 - 1) k HK.out HG.out).mono ?_
  rintro e w4 ⟨zg, ag, cg, rfl, h4, _⟩
  have G4 := h4.good
  have HI4 := below_step HI hsz h4.bel
  replace HI := HI4
  replace L := L.push h4.lie h4.bel
  replace HT := Hide.mk (HT.out.below h4.bel (Nat.le_refl _))
  replace HB := below_then HB h4.bel
  replace HD := HD.below h4.bel hsz
  replace hsz := Nat.lt_of_lt_of_le hsz h4.bel.size
  clear h4 HI4
  have q10 := below_cell2 HI (by simp) d1.c0
  have q12 := below_cell2 HI (by simp) d1.c2
  have q20 := below_cell2 HI (by simp) d2.c0
  have q21 := below_cell2 HI (by simp) d2.c1
  have q22 := below_cell2 HI (by simp) d2.c2
  go_wp2_with fail
  refine (shiftedD a2 c2 z2 _ (L.all (a2, z2) (by simp)) g2 (-1) 1 rfl (by decide) HT.out).mono ?_
  rintro e w5 ⟨zh, ah, ch, rfl, h5, _⟩
  clear q10 q12 q20 q21 q22
  have G5 := h5.good
  have HI5 := below_step HI hsz h5.bel
  replace HI := HI5
  replace L := L.push h5.lie h5.bel
  replace HT := Hide.mk (HT.out.below h5.bel (Nat.le_refl _))
  replace HB := below_then HB h5.bel
  replace HD := HD.below h5.bel hsz
  replace hsz := Nat.lt_of_lt_of_le hsz h5.bel.size
  clear h5 HI5
  have Gh : Good zh (Nt.val z2 / 2) := G5
  clear G5
  have q10 := below_cell2 HI (by simp) d1.c0
  have q12 := below_cell2 HI (by simp) d1.c2
  have q20 := below_cell2 HI (by simp) d2.c0
  have q21 := below_cell2 HI (by simp) d2.c1
  have q22 := below_cell2 HI (by simp) d2.c2
  go_wp2_with fail
  refine (add_fit ag ah cg ch zg zh _ (L.all (ag, zg) (by simp)) (L.all (ah, zh) (by simp)) G4 Gh ⟨by have := G4.nonneg; have := Gh.nonneg; omega, HA.out⟩).mono ?_
  rintro e w7 ⟨zy, ay, cy, rfl, h7, _⟩
  clear q10 q12 q20 q21 q22
  have G7 := h7.good
  have HI7 := below_step HI hsz h7.bel
  replace HI := HI7
  replace L := L.push h7.lie h7.bel
  replace HT := Hide.mk (HT.out.below h7.bel (Nat.le_refl _))
  replace HB := below_then HB h7.bel
  replace HD := HD.below h7.bel hsz
  replace hsz := Nat.lt_of_lt_of_le hsz h7.bel.size
  clear h7 HI7
  go_wp2_with fail
  refine (shiftUi ay cy zy _ (L.all (ay, zy) (by simp)) G7 1 1 rfl HTT.out).mono ?_
  rintro e wa ⟨zt, at1, ct, rfl, ha, _⟩
  have Ga := ha.good
  have HIa := below_step HI hsz ha.bel
  replace HI := HIa
  replace L := L.push ha.lie ha.bel
  replace HT := Hide.mk (HT.out.below ha.bel (Nat.le_refl _))
  replace HB := below_then HB ha.bel
  replace HD := HD.below ha.bel hsz
  replace hsz := Nat.lt_of_lt_of_le hsz ha.bel.size
  clear ha HIa
  have q22 := below_cell2 HI (by simp) d2.c2
  go_wp2_with fail
  have Ba : Below (w.heap.size + 2) wa wa := Below.refl _ _
  replace HI : Below (w.heap.size + 2) wa wa.drew := Ba.drew
  replace L : Live wa.drew _ := L.keep (Below.refl _ _).drew
  replace HT : Hide (Tab wa.drew) := ⟨HT.out.below (Below.refl _ _).drew (Nat.le_refl _)⟩
  replace HB : Below w.heap.size w wa.drew := HB.drew
  replace HD : DCell wa.drew _ _ := HD
  replace hsz : w.heap.size + 1 + 1 < wa.drew.heap.size := hsz
  refine Drawn.enter (fun W => Below (w.heap.size + 2) wa W) (by kernel_rfl) ?_
  refine Drawn.take (i := 0) (v := .bool n1) rfl (by kernel_rfl) (by kernel_rfl) (by kernel_rfl) (fun _ _ _ h => h) rfl (fun W hW => ?_) HI ?_
  · skip
    go_simp
  refine Drawn.take (i := 1) (v := .slice at1 zt.length ct) rfl (by kernel_rfl) (by kernel_rfl) (by kernel_rfl) (fun _ _ _ h => h) rfl (fun W hW => ?_) HI ?_
  · skip
    go_simp
  refine Drawn.take (i := 4) (v := .pointer (some ⟨w.heap.size + 1, 2, none⟩)) rfl (by kernel_rfl) (by kernel_rfl) (by kernel_rfl) (fun _ _ _ h => h) rfl (fun W hW => ?_) HI ?_
  · skip
    go_simp
  refine Drawn.take (i := 5) (v := .int .i64 e2) rfl (by kernel_rfl) (by kernel_rfl) (by kernel_rfl) (fun _ _ _ h => h) rfl (fun W hW => ?_) HI ?_
  · have hc := below_cell2 hW (by simp) q22
    go_simp
  refine Drawn.one (j := 2) (by kernel_rfl) rfl (fun K hK => ?_)
  go_simp
  refine (of16 1 (by decide) (by decide) _).mono ?_
  rintro e wb ⟨zb, ab, cb, rfl, hb, _⟩
  have Gb := hb.good
  have HIb := below_step HI hsz hb.bel
  replace HI := HIb
  replace L := L.push hb.lie hb.bel
  replace HT := Hide.mk (HT.out.below hb.bel (Nat.le_refl _))
  replace HB := below_then HB hb.bel
  replace HD := HD.below hb.bel hsz
  replace hsz := Nat.lt_of_lt_of_le hsz hb.bel.size
  clear hb HIb
  refine hK _ _ HI ?_
  clear hK K
  refine Drawn.one (j := 3) (by kernel_rfl) rfl (fun K hK => ?_)
  go_simp
  refine (plus110 at1 ab ct cb zt zb _ (L.all (at1, zt) (by simp)) (L.all (ab, zb) (by simp)) Ga Gb (even_fit HTT.out)).mono ?_
  rintro e wc ⟨zc, ac, cc, rfl, hc, _⟩
  have Gc := hc.good
  have HIc := below_step HI hsz hc.bel
  replace HI := HIc
  replace L := L.push hc.lie hc.bel
  replace HT := Hide.mk (HT.out.below hc.bel (Nat.le_refl _))
  replace HB := below_then HB hc.bel
  replace HD := HD.below hc.bel hsz
  replace hsz := Nat.lt_of_lt_of_le hsz hc.bel.size
  clear hc HIc
  refine hK _ _ HI ?_
  clear hK K
  refine Drawn.one (j := 6) (by kernel_rfl) rfl (fun K hK => ?_)
  go_simp
  refine (formedR n1 ac cc zc e2 _ (L.all (ac, zc) (by simp)) Gc HT.out (by omega) (by omega)).mono ?_
  rintro e we ⟨ng, aa, n, c, xx, code, rfl, hv⟩
  have HV := Hide.mk hv
  have HB9 := HB
  have hsz9 := hsz
  have h9 := hv.bel
  clear hv
  have HI9 := below_step HI hsz h9
  replace HI := HI9
  replace HD := HD.below h9 hsz
  clear HI9
  refine hK _ _ HI ?_
  clear hK K
  refine Drawn.take (i := 7) (v := dV ng aa n c xx) rfl (by kernel_rfl) (by kernel_rfl) (by kernel_rfl) (fun _ _ _ h => h) rfl (fun W hW => ?_) HI ?_
  · skip
    go_simp
  refine Drawn.take (i := 8) (v := .int .i64 code) rfl (by kernel_rfl) (by kernel_rfl) (by kernel_rfl) (fun _ _ _ h => h) rfl (fun W hW => ?_) HI ?_
  · skip
    go_simp
  have f0 := HD.c0
  have f1 := HD.c1
  have f2 := HD.c2
  have r0 := HD.fr 0
  have r1 := HD.fr 1
  have r2 := HD.fr 2
  refine Drawn.one (j := 9) (by kernel_rfl) rfl (fun K hK => ?_)
  go_simp
  have HIs := ((HI.setCell (p := ⟨w.heap.size + 1 + 1, 0, none⟩) (Nat.le_refl _) (.bool ng)).setCell (p := ⟨w.heap.size + 1 + 1, 1, none⟩) (Nat.le_refl _) (.slice aa n c)).setCell (p := ⟨w.heap.size + 1 + 1, 2, none⟩) (Nat.le_refl _) (.int .i64 xx)
  refine hK _ _ HIs ?_
  clear hK K
  refine Drawn.take (i := 10) (v := .int .i64 code) rfl (by kernel_rfl) (by kernel_rfl) (by kernel_rfl) (fun _ _ _ h => h) rfl (fun W hW => ?_) HIs ?_
  · skip
    go_simp
  refine Drawn.done (by kernel_rfl) ?_
  go_wp2
  refine bodyPost_ret (results_D2 rfl _ _ (w.heap.size + 1 + 1) _ rfl (((HD.set 0 _).set 1 _).set 2 _)) rfl ?_
  refine ⟨ng, aa, n, c, xx, code, rfl, ?_⟩
  rw [step_same HO.out rfl HQ.out, show 2 * ((Nt.val z1 * 2 ^ k) + (Nt.val z2 / 2)) + 1 = ((Nt.val z1 * 2 ^ k) + (Nt.val z2 / 2)) * 2 ^ 1 + 1 by omega]
  exact HV.out.back HB9 (by omega) hsz9 _ _ _
set_option maxHeartbeats 4000000 in
theorem step_gt_long_w (n1 n2 : Bool) (a1 a2 : Option Addr) (c1 c2 : Nat) (z1 z2 : List Int) (e1 e2 : Int) (k : Nat) (w : World) (h1 : Lie w a1 z1) (h2 : Lie w a2 z2) (g1 : Good z1 (Nt.val z1)) (g2 : Good z2 (Nt.val z2)) (o2 : Nt.val z2 % 2 = 1) (x1 : -16777216 ≤ e2) (x2 : e1 ≤ 16777216) (x3 : e1 - e2 - 1 = (k : Int)) (hT : Tab w) (hg : (Nt.val z1 * 2 ^ k) < 4294967296 ^ 4096) (hq : (n1 == n2) = false) (ha : (Nt.val z2 / 2) < (Nt.val z1 * 2 ^ k)) (ht : 4294967296 ^ 4096 ≤ ((Nt.val z1 * 2 ^ k) - (Nt.val z2 / 2) - 1) * 2 ^ 1) :
    Calls Tryd.prog 122 #[dV n1 a1 z1.length c1 e1, dV n2 a2 z2.length c2 e2] w fun e w' => DRes w w' (sv n1 (Nt.val z1) * 2 ^ (k + 1) + sv n2 (Nt.val z2)) e2 e := by
  rw [step_val (n1 := n1) (n2 := n2) (y := Nt.val z2) (rfl : (Nt.val z1 * 2 ^ k) = (Nt.val z1 * 2 ^ k))]
  obtain ⟨d1, d2, d3, hs3⟩ := dcell3 w #[.bool n1, .slice a1 z1.length c1, .int .i64 e1] #[.bool n2, .slice a2 z2.length c2, .int .i64 e2] #[.bool false, .slice none 0 0, .int .i64 0] rfl rfl rfl
  have hb3 := below3 w (.cells #[.bool n1, .slice a1 z1.length c1, .int .i64 e1] 36) (.cells #[.bool n2, .slice a2 z2.length c2, .int .i64 e2] 36) (.cells #[.bool false, .slice none 0 0, .int .i64 0] 36)
  have HG := Hide.mk hg
  have HO := Hide.mk o2
  have HK := Hide.mk x3
  have x4 : e1 - e2 - 1 ≤ 33554432 := by omega
  have x5 : 0 ≤ e1 - e2 - 1 := by omega
  clear hg o2 x3
  have HQ := Hide.mk hq
  have HA := Hide.mk ha
  clear ha
  have HTT := Hide.mk ht
  clear ht
  go_enter Tryd.func122, Tryd.ntmps122
  go_wp2_with fail
  generalize hw3 : ((w.alloc (.cells #[.bool n1, .slice a1 z1.length c1, .int .i64 e1] 36)).alloc (.cells #[.bool n2, .slice a2 z2.length c2, .int .i64 e2] 36)).alloc (.cells #[.bool false, .slice none 0 0, .int .i64 0] 36) = w3 at *
  clear hw3
  have HI : Below (w.heap.size + 2) w3 w3 := Below.refl _ _
  have L : Live w3 [(a1, z1), (a2, z2)] := ⟨by simp [h1.below hb3 (Nat.le_refl _), h2.below hb3 (Nat.le_refl _)]⟩
  have HT := Hide.mk (hT.below hb3 (Nat.le_refl _))
  have HB : Below w.heap.size w w3 := hb3
  have HD : DCell w3 (w.heap.size + 1 + 1) #[.bool false, .slice none 0 0, .int .i64 0] := d3
  have hsz : w.heap.size + 1 + 1 < w3.heap.size := by omega
  clear h1 h2 hT hb3 d3
  refine (shiftUi a1 c1 z1 _ (L.all (a1, z1) (by simp)) g1 (e1 - e2 - 1) k HK.out HG.out).mono ?_
  rintro e w4 ⟨zg, ag, cg, rfl, h4, _⟩
  have G4 := h4.good
  have HI4 := below_step HI hsz h4.bel
  replace HI := HI4
  replace L := L.push h4.lie h4.bel
  replace HT := Hide.mk (HT.out.below h4.bel (Nat.le_refl _))
  replace HB := below_then HB h4.bel
  replace HD := HD.below h4.bel hsz
  replace hsz := Nat.lt_of_lt_of_le hsz h4.bel.size
  clear h4 HI4
  have q10 := below_cell2 HI (by simp) d1.c0
  have q12 := below_cell2 HI (by simp) d1.c2
  have q20 := below_cell2 HI (by simp) d2.c0
  have q21 := below_cell2 HI (by simp) d2.c1
  have q22 := below_cell2 HI (by simp) d2.c2
  go_wp2_with fail
  refine (shiftedD a2 c2 z2 _ (L.all (a2, z2) (by simp)) g2 (-1) 1 rfl (by decide) HT.out).mono ?_
  rintro e w5 ⟨zh, ah, ch, rfl, h5, _⟩
  clear q10 q12 q20 q21 q22
  have G5 := h5.good
  have HI5 := below_step HI hsz h5.bel
  replace HI := HI5
  replace L := L.push h5.lie h5.bel
  replace HT := Hide.mk (HT.out.below h5.bel (Nat.le_refl _))
  replace HB := below_then HB h5.bel
  replace HD := HD.below h5.bel hsz
  replace hsz := Nat.lt_of_lt_of_le hsz h5.bel.size
  clear h5 HI5
  have Gh : Good zh (Nt.val z2 / 2) := G5
  clear G5
  have q10 := below_cell2 HI (by simp) d1.c0
  have q12 := below_cell2 HI (by simp) d1.c2
  have q20 := below_cell2 HI (by simp) d2.c0
  have q21 := below_cell2 HI (by simp) d2.c1
  have q22 := below_cell2 HI (by simp) d2.c2
  go_wp2_with fail
  refine (cmpM126 ag ah cg ch zg zh _ (L.all (ag, zg) (by simp)) (L.all (ah, zh) (by simp)) G4 Gh 1 (sgn_gt2 HA.out)).mono ?_
  rintro e w6 ⟨rfl, h6⟩
  clear q10 q12 q20 q21 q22
  have HI6 := below_step HI hsz h6
  replace HI := HI6
  replace L := L.keep h6
  replace HT := Hide.mk (HT.out.below h6 (Nat.le_refl _))
  replace HB := below_then HB h6
  replace HD := HD.below h6 hsz
  replace hsz := Nat.lt_of_lt_of_le hsz h6.size
  clear h6 HI6
  have q10 := below_cell2 HI (by simp) d1.c0
  have q12 := below_cell2 HI (by simp) d1.c2
  have q20 := below_cell2 HI (by simp) d2.c0
  have q21 := below_cell2 HI (by simp) d2.c1
  have q22 := below_cell2 HI (by simp) d2.c2
  go_wp2_with fail
  refine (less132 ag ah cg ch zg zh _ (L.all (ag, zg) (by simp)) (L.all (ah, zh) (by simp)) G4 Gh (Int.le_of_lt HA.out)).mono ?_
  rintro e w7 ⟨z7, a7, c7, rfl, h7, _⟩
  clear q10 q12 q20 q21 q22
  have G7 := h7.good
  have HI7 := below_step HI hsz h7.bel
  replace HI := HI7
  replace L := L.push h7.lie h7.bel
  replace HT := Hide.mk (HT.out.below h7.bel (Nat.le_refl _))
  replace HB := below_then HB h7.bel
  replace HD := HD.below h7.bel hsz
  replace hsz := Nat.lt_of_lt_of_le hsz h7.bel.size
  clear h7 HI7
  go_wp2_with fail
  refine (of16 1 (by decide) (by decide) _).mono ?_
  rintro e w8 ⟨z8, a8, c8, rfl, h8, _⟩
  have G8 := h8.good
  have HI8 := below_step HI hsz h8.bel
  replace HI := HI8
  replace L := L.push h8.lie h8.bel
  replace HT := Hide.mk (HT.out.below h8.bel (Nat.le_refl _))
  replace HB := below_then HB h8.bel
  replace HD := HD.below h8.bel hsz
  replace hsz := Nat.lt_of_lt_of_le hsz h8.bel.size
  clear h8 HI8
  go_wp2_with fail
  refine (less132 a7 a8 c7 c8 z7 z8 _ (L.all (a7, z7) (by simp)) (L.all (a8, z8) (by simp)) G7 G8 (by have := HA.out; omega)).mono ?_
  rintro e w9 ⟨zy, ay, cy, rfl, h9, _⟩
  have G9 := h9.good
  have HI9 := below_step HI hsz h9.bel
  replace HI := HI9
  replace L := L.push h9.lie h9.bel
  replace HT := Hide.mk (HT.out.below h9.bel (Nat.le_refl _))
  replace HB := below_then HB h9.bel
  replace HD := HD.below h9.bel hsz
  replace hsz := Nat.lt_of_lt_of_le hsz h9.bel.size
  clear h9 HI9
  go_wp2_with fail
  refine (shiftU_no ay cy zy _ (L.all (ay, zy) (by simp)) G9 1 1 rfl (by decide) HTT.out).mono ?_
  rintro e w' ⟨rfl, rfl⟩
  have f0 := HD.c0
  have f1 := HD.c1
  have f2 := HD.c2
  have r0 := HD.fr 0
  have r1 := HD.fr 1
  have r2 := HD.fr 2
  go_wp2
  refine bodyPost_ret (results_D2 rfl _ _ (w.heap.size + 1 + 1) _ rfl (((HD.set 0 _).set 1 _).set 2 _)) rfl ?_
  exact ⟨false, none, 0, 0, 0, 3, rfl, step_gt HO.out rfl HQ.out ▸ DV.long (((HB.setCell (p := ⟨w.heap.size + 1 + 1, 0, none⟩) (by show w.heap.size ≤ w.heap.size + 1 + 1; omega) _).setCell (p := ⟨w.heap.size + 1 + 1, 1, none⟩) (by show w.heap.size ≤ w.heap.size + 1 + 1; omega) _).setCell (p := ⟨w.heap.size + 1 + 1, 2, none⟩) (by show w.heap.size ≤ w.heap.size + 1 + 1; omega) _) (by rw [sv_odd_abs G9.nonneg]; omega) (by rw [sv_odd_abs G9.nonneg]; have := HTT.out; omega)⟩
set_option maxHeartbeats 4000000 in
theorem step_gt_fits_w (n1 n2 : Bool) (a1 a2 : Option Addr) (c1 c2 : Nat) (z1 z2 : List Int) (e1 e2 : Int) (k : Nat) (w : World) (h1 : Lie w a1 z1) (h2 : Lie w a2 z2) (g1 : Good z1 (Nt.val z1)) (g2 : Good z2 (Nt.val z2)) (o2 : Nt.val z2 % 2 = 1) (x1 : -16777216 ≤ e2) (x2 : e1 ≤ 16777216) (x3 : e1 - e2 - 1 = (k : Int)) (hT : Tab w) (hg : (Nt.val z1 * 2 ^ k) < 4294967296 ^ 4096) (hq : (n1 == n2) = false) (ha : (Nt.val z2 / 2) < (Nt.val z1 * 2 ^ k)) (ht : ((Nt.val z1 * 2 ^ k) - (Nt.val z2 / 2) - 1) * 2 ^ 1 < 4294967296 ^ 4096) :
    Calls Tryd.prog 122 #[dV n1 a1 z1.length c1 e1, dV n2 a2 z2.length c2 e2] w fun e w' => DRes w w' (sv n1 (Nt.val z1) * 2 ^ (k + 1) + sv n2 (Nt.val z2)) e2 e := by
  rw [step_val (n1 := n1) (n2 := n2) (y := Nt.val z2) (rfl : (Nt.val z1 * 2 ^ k) = (Nt.val z1 * 2 ^ k))]
  obtain ⟨d1, d2, d3, hs3⟩ := dcell3 w #[.bool n1, .slice a1 z1.length c1, .int .i64 e1] #[.bool n2, .slice a2 z2.length c2, .int .i64 e2] #[.bool false, .slice none 0 0, .int .i64 0] rfl rfl rfl
  have hb3 := below3 w (.cells #[.bool n1, .slice a1 z1.length c1, .int .i64 e1] 36) (.cells #[.bool n2, .slice a2 z2.length c2, .int .i64 e2] 36) (.cells #[.bool false, .slice none 0 0, .int .i64 0] 36)
  have HG := Hide.mk hg
  have HO := Hide.mk o2
  have HK := Hide.mk x3
  have x4 : e1 - e2 - 1 ≤ 33554432 := by omega
  have x5 : 0 ≤ e1 - e2 - 1 := by omega
  clear hg o2 x3
  have HQ := Hide.mk hq
  have HA := Hide.mk ha
  clear ha
  have HTT := Hide.mk ht
  clear ht
  go_enter Tryd.func122, Tryd.ntmps122
  go_wp2_with fail
  generalize hw3 : ((w.alloc (.cells #[.bool n1, .slice a1 z1.length c1, .int .i64 e1] 36)).alloc (.cells #[.bool n2, .slice a2 z2.length c2, .int .i64 e2] 36)).alloc (.cells #[.bool false, .slice none 0 0, .int .i64 0] 36) = w3 at *
  clear hw3
  have HI : Below (w.heap.size + 2) w3 w3 := Below.refl _ _
  have L : Live w3 [(a1, z1), (a2, z2)] := ⟨by simp [h1.below hb3 (Nat.le_refl _), h2.below hb3 (Nat.le_refl _)]⟩
  have HT := Hide.mk (hT.below hb3 (Nat.le_refl _))
  have HB : Below w.heap.size w w3 := hb3
  have HD : DCell w3 (w.heap.size + 1 + 1) #[.bool false, .slice none 0 0, .int .i64 0] := d3
  have hsz : w.heap.size + 1 + 1 < w3.heap.size := by omega
  clear h1 h2 hT hb3 d3
  refine (shiftUi a1 c1 z1 _ (L.all (a1, z1) (by simp)) g1 (e1 - e2 - 1) k HK.out HG.out).mono ?_
  rintro e w4 ⟨zg, ag, cg, rfl, h4, _⟩
  have G4 := h4.good
  have HI4 := below_step HI hsz h4.bel
  replace HI := HI4
  replace L := L.push h4.lie h4.bel
  replace HT := Hide.mk (HT.out.below h4.bel (Nat.le_refl _))
  replace HB := below_then HB h4.bel
  replace HD := HD.below h4.bel hsz
  replace hsz := Nat.lt_of_lt_of_le hsz h4.bel.size
  clear h4 HI4
  have q10 := below_cell2 HI (by simp) d1.c0
  have q12 := below_cell2 HI (by simp) d1.c2
  have q20 := below_cell2 HI (by simp) d2.c0
  have q21 := below_cell2 HI (by simp) d2.c1
  have q22 := below_cell2 HI (by simp) d2.c2
  go_wp2_with fail
  refine (shiftedD a2 c2 z2 _ (L.all (a2, z2) (by simp)) g2 (-1) 1 rfl (by decide) HT.out).mono ?_
  rintro e w5 ⟨zh, ah, ch, rfl, h5, _⟩
  clear q10 q12 q20 q21 q22
  have G5 := h5.good
  have HI5 := below_step HI hsz h5.bel
  replace HI := HI5
  replace L := L.push h5.lie h5.bel
  replace HT := Hide.mk (HT.out.below h5.bel (Nat.le_refl _))
  replace HB := below_then HB h5.bel
  replace HD := HD.below h5.bel hsz
  replace hsz := Nat.lt_of_lt_of_le hsz h5.bel.size
  clear h5 HI5
  have Gh : Good zh (Nt.val z2 / 2) := G5
  clear G5
  have q10 := below_cell2 HI (by simp) d1.c0
  have q12 := below_cell2 HI (by simp) d1.c2
  have q20 := below_cell2 HI (by simp) d2.c0
  have q21 := below_cell2 HI (by simp) d2.c1
  have q22 := below_cell2 HI (by simp) d2.c2
  go_wp2_with fail
  refine (cmpM126 ag ah cg ch zg zh _ (L.all (ag, zg) (by simp)) (L.all (ah, zh) (by simp)) G4 Gh 1 (sgn_gt2 HA.out)).mono ?_
  rintro e w6 ⟨rfl, h6⟩
  clear q10 q12 q20 q21 q22
  have HI6 := below_step HI hsz h6
  replace HI := HI6
  replace L := L.keep h6
  replace HT := Hide.mk (HT.out.below h6 (Nat.le_refl _))
  replace HB := below_then HB h6
  replace HD := HD.below h6 hsz
  replace hsz := Nat.lt_of_lt_of_le hsz h6.size
  clear h6 HI6
  have q10 := below_cell2 HI (by simp) d1.c0
  have q12 := below_cell2 HI (by simp) d1.c2
  have q20 := below_cell2 HI (by simp) d2.c0
  have q21 := below_cell2 HI (by simp) d2.c1
  have q22 := below_cell2 HI (by simp) d2.c2
  go_wp2_with fail
  refine (less132 ag ah cg ch zg zh _ (L.all (ag, zg) (by simp)) (L.all (ah, zh) (by simp)) G4 Gh (Int.le_of_lt HA.out)).mono ?_
  rintro e w7 ⟨z7, a7, c7, rfl, h7, _⟩
  clear q10 q12 q20 q21 q22
  have G7 := h7.good
  have HI7 := below_step HI hsz h7.bel
  replace HI := HI7
  replace L := L.push h7.lie h7.bel
  replace HT := Hide.mk (HT.out.below h7.bel (Nat.le_refl _))
  replace HB := below_then HB h7.bel
  replace HD := HD.below h7.bel hsz
  replace hsz := Nat.lt_of_lt_of_le hsz h7.bel.size
  clear h7 HI7
  go_wp2_with fail
  refine (of16 1 (by decide) (by decide) _).mono ?_
  rintro e w8 ⟨z8, a8, c8, rfl, h8, _⟩
  have G8 := h8.good
  have HI8 := below_step HI hsz h8.bel
  replace HI := HI8
  replace L := L.push h8.lie h8.bel
  replace HT := Hide.mk (HT.out.below h8.bel (Nat.le_refl _))
  replace HB := below_then HB h8.bel
  replace HD := HD.below h8.bel hsz
  replace hsz := Nat.lt_of_lt_of_le hsz h8.bel.size
  clear h8 HI8
  go_wp2_with fail
  refine (less132 a7 a8 c7 c8 z7 z8 _ (L.all (a7, z7) (by simp)) (L.all (a8, z8) (by simp)) G7 G8 (by have := HA.out; omega)).mono ?_
  rintro e w9 ⟨zy, ay, cy, rfl, h9, _⟩
  have G9 := h9.good
  have HI9 := below_step HI hsz h9.bel
  replace HI := HI9
  replace L := L.push h9.lie h9.bel
  replace HT := Hide.mk (HT.out.below h9.bel (Nat.le_refl _))
  replace HB := below_then HB h9.bel
  replace HD := HD.below h9.bel hsz
  replace hsz := Nat.lt_of_lt_of_le hsz h9.bel.size
  clear h9 HI9
  go_wp2_with fail
  refine (shiftUi ay cy zy _ (L.all (ay, zy) (by simp)) G9 1 1 rfl HTT.out).mono ?_
  rintro e wa ⟨zt, at1, ct, rfl, ha, _⟩
  have Ga := ha.good
  have HIa := below_step HI hsz ha.bel
  replace HI := HIa
  replace L := L.push ha.lie ha.bel
  replace HT := Hide.mk (HT.out.below ha.bel (Nat.le_refl _))
  replace HB := below_then HB ha.bel
  replace HD := HD.below ha.bel hsz
  replace hsz := Nat.lt_of_lt_of_le hsz ha.bel.size
  clear ha HIa
  have q22 := below_cell2 HI (by simp) d2.c2
  go_wp2_with fail
  have Ba : Below (w.heap.size + 2) wa wa := Below.refl _ _
  replace HI : Below (w.heap.size + 2) wa wa.drew := Ba.drew
  replace L : Live wa.drew _ := L.keep (Below.refl _ _).drew
  replace HT : Hide (Tab wa.drew) := ⟨HT.out.below (Below.refl _ _).drew (Nat.le_refl _)⟩
  replace HB : Below w.heap.size w wa.drew := HB.drew
  replace HD : DCell wa.drew _ _ := HD
  replace hsz : w.heap.size + 1 + 1 < wa.drew.heap.size := hsz
  refine Drawn.enter (fun W => Below (w.heap.size + 2) wa W) (by kernel_rfl) ?_
  refine Drawn.take (i := 0) (v := .bool n1) rfl (by kernel_rfl) (by kernel_rfl) (by kernel_rfl) (fun _ _ _ h => h) rfl (fun W hW => ?_) HI ?_
  · skip
    go_simp
  refine Drawn.take (i := 1) (v := .slice at1 zt.length ct) rfl (by kernel_rfl) (by kernel_rfl) (by kernel_rfl) (fun _ _ _ h => h) rfl (fun W hW => ?_) HI ?_
  · skip
    go_simp
  refine Drawn.take (i := 4) (v := .pointer (some ⟨w.heap.size + 1, 2, none⟩)) rfl (by kernel_rfl) (by kernel_rfl) (by kernel_rfl) (fun _ _ _ h => h) rfl (fun W hW => ?_) HI ?_
  · skip
    go_simp
  refine Drawn.take (i := 5) (v := .int .i64 e2) rfl (by kernel_rfl) (by kernel_rfl) (by kernel_rfl) (fun _ _ _ h => h) rfl (fun W hW => ?_) HI ?_
  · have hc := below_cell2 hW (by simp) q22
    go_simp
  refine Drawn.one (j := 2) (by kernel_rfl) rfl (fun K hK => ?_)
  go_simp
  refine (of16 1 (by decide) (by decide) _).mono ?_
  rintro e wb ⟨zb, ab, cb, rfl, hb, _⟩
  have Gb := hb.good
  have HIb := below_step HI hsz hb.bel
  replace HI := HIb
  replace L := L.push hb.lie hb.bel
  replace HT := Hide.mk (HT.out.below hb.bel (Nat.le_refl _))
  replace HB := below_then HB hb.bel
  replace HD := HD.below hb.bel hsz
  replace hsz := Nat.lt_of_lt_of_le hsz hb.bel.size
  clear hb HIb
  refine hK _ _ HI ?_
  clear hK K
  refine Drawn.one (j := 3) (by kernel_rfl) rfl (fun K hK => ?_)
  go_simp
  refine (plus110 at1 ab ct cb zt zb _ (L.all (at1, zt) (by simp)) (L.all (ab, zb) (by simp)) Ga Gb (even_fit HTT.out)).mono ?_
  rintro e wc ⟨zc, ac, cc, rfl, hc, _⟩
  have Gc := hc.good
  have HIc := below_step HI hsz hc.bel
  replace HI := HIc
  replace L := L.push hc.lie hc.bel
  replace HT := Hide.mk (HT.out.below hc.bel (Nat.le_refl _))
  replace HB := below_then HB hc.bel
  replace HD := HD.below hc.bel hsz
  replace hsz := Nat.lt_of_lt_of_le hsz hc.bel.size
  clear hc HIc
  refine hK _ _ HI ?_
  clear hK K
  refine Drawn.one (j := 6) (by kernel_rfl) rfl (fun K hK => ?_)
  go_simp
  refine (formedR n1 ac cc zc e2 _ (L.all (ac, zc) (by simp)) Gc HT.out (by omega) (by omega)).mono ?_
  rintro e we ⟨ng, aa, n, c, xx, code, rfl, hv⟩
  have HV := Hide.mk hv
  have HB9 := HB
  have hsz9 := hsz
  have h9 := hv.bel
  clear hv
  have HI9 := below_step HI hsz h9
  replace HI := HI9
  replace HD := HD.below h9 hsz
  clear HI9
  refine hK _ _ HI ?_
  clear hK K
  refine Drawn.take (i := 7) (v := dV ng aa n c xx) rfl (by kernel_rfl) (by kernel_rfl) (by kernel_rfl) (fun _ _ _ h => h) rfl (fun W hW => ?_) HI ?_
  · skip
    go_simp
  refine Drawn.take (i := 8) (v := .int .i64 code) rfl (by kernel_rfl) (by kernel_rfl) (by kernel_rfl) (fun _ _ _ h => h) rfl (fun W hW => ?_) HI ?_
  · skip
    go_simp
  have f0 := HD.c0
  have f1 := HD.c1
  have f2 := HD.c2
  have r0 := HD.fr 0
  have r1 := HD.fr 1
  have r2 := HD.fr 2
  refine Drawn.one (j := 9) (by kernel_rfl) rfl (fun K hK => ?_)
  go_simp
  have HIs := ((HI.setCell (p := ⟨w.heap.size + 1 + 1, 0, none⟩) (Nat.le_refl _) (.bool ng)).setCell (p := ⟨w.heap.size + 1 + 1, 1, none⟩) (Nat.le_refl _) (.slice aa n c)).setCell (p := ⟨w.heap.size + 1 + 1, 2, none⟩) (Nat.le_refl _) (.int .i64 xx)
  refine hK _ _ HIs ?_
  clear hK K
  refine Drawn.take (i := 10) (v := .int .i64 code) rfl (by kernel_rfl) (by kernel_rfl) (by kernel_rfl) (fun _ _ _ h => h) rfl (fun W hW => ?_) HIs ?_
  · skip
    go_simp
  refine Drawn.done (by kernel_rfl) ?_
  go_wp2
  refine bodyPost_ret (results_D2 rfl _ _ (w.heap.size + 1 + 1) _ rfl (((HD.set 0 _).set 1 _).set 2 _)) rfl ?_
  refine ⟨ng, aa, n, c, xx, code, rfl, ?_⟩
  rw [step_gt HO.out rfl HQ.out, show 2 * ((Nt.val z1 * 2 ^ k) - (Nt.val z2 / 2) - 1) + 1 = ((Nt.val z1 * 2 ^ k) - (Nt.val z2 / 2) - 1) * 2 ^ 1 + 1 by omega]
  exact HV.out.back HB9 (by omega) hsz9 _ _ _
set_option maxHeartbeats 4000000 in
theorem step_le_long_w (n1 n2 : Bool) (a1 a2 : Option Addr) (c1 c2 : Nat) (z1 z2 : List Int) (e1 e2 : Int) (k : Nat) (w : World) (h1 : Lie w a1 z1) (h2 : Lie w a2 z2) (g1 : Good z1 (Nt.val z1)) (g2 : Good z2 (Nt.val z2)) (o2 : Nt.val z2 % 2 = 1) (x1 : -16777216 ≤ e2) (x2 : e1 ≤ 16777216) (x3 : e1 - e2 - 1 = (k : Int)) (hT : Tab w) (hg : (Nt.val z1 * 2 ^ k) < 4294967296 ^ 4096) (hq : (n1 == n2) = false) (ha : (Nt.val z1 * 2 ^ k) ≤ (Nt.val z2 / 2)) (ht : 4294967296 ^ 4096 ≤ ((Nt.val z2 / 2) - (Nt.val z1 * 2 ^ k)) * 2 ^ 1) :
    Calls Tryd.prog 122 #[dV n1 a1 z1.length c1 e1, dV n2 a2 z2.length c2 e2] w fun e w' => DRes w w' (sv n1 (Nt.val z1) * 2 ^ (k + 1) + sv n2 (Nt.val z2)) e2 e := by
  rw [step_val (n1 := n1) (n2 := n2) (y := Nt.val z2) (rfl : (Nt.val z1 * 2 ^ k) = (Nt.val z1 * 2 ^ k))]
  obtain ⟨d1, d2, d3, hs3⟩ := dcell3 w #[.bool n1, .slice a1 z1.length c1, .int .i64 e1] #[.bool n2, .slice a2 z2.length c2, .int .i64 e2] #[.bool false, .slice none 0 0, .int .i64 0] rfl rfl rfl
  have hb3 := below3 w (.cells #[.bool n1, .slice a1 z1.length c1, .int .i64 e1] 36) (.cells #[.bool n2, .slice a2 z2.length c2, .int .i64 e2] 36) (.cells #[.bool false, .slice none 0 0, .int .i64 0] 36)
  have HG := Hide.mk hg
  have HO := Hide.mk o2
  have HK := Hide.mk x3
  have x4 : e1 - e2 - 1 ≤ 33554432 := by omega
  have x5 : 0 ≤ e1 - e2 - 1 := by omega
  clear hg o2 x3
  have HQ := Hide.mk hq
  have HA := Hide.mk ha
  clear ha
  have HTT := Hide.mk ht
  clear ht
  go_enter Tryd.func122, Tryd.ntmps122
  go_wp2_with fail
  generalize hw3 : ((w.alloc (.cells #[.bool n1, .slice a1 z1.length c1, .int .i64 e1] 36)).alloc (.cells #[.bool n2, .slice a2 z2.length c2, .int .i64 e2] 36)).alloc (.cells #[.bool false, .slice none 0 0, .int .i64 0] 36) = w3 at *
  clear hw3
  have HI : Below (w.heap.size + 2) w3 w3 := Below.refl _ _
  have L : Live w3 [(a1, z1), (a2, z2)] := ⟨by simp [h1.below hb3 (Nat.le_refl _), h2.below hb3 (Nat.le_refl _)]⟩
  have HT := Hide.mk (hT.below hb3 (Nat.le_refl _))
  have HB : Below w.heap.size w w3 := hb3
  have HD : DCell w3 (w.heap.size + 1 + 1) #[.bool false, .slice none 0 0, .int .i64 0] := d3
  have hsz : w.heap.size + 1 + 1 < w3.heap.size := by omega
  clear h1 h2 hT hb3 d3
  refine (shiftUi a1 c1 z1 _ (L.all (a1, z1) (by simp)) g1 (e1 - e2 - 1) k HK.out HG.out).mono ?_
  rintro e w4 ⟨zg, ag, cg, rfl, h4, _⟩
  have G4 := h4.good
  have HI4 := below_step HI hsz h4.bel
  replace HI := HI4
  replace L := L.push h4.lie h4.bel
  replace HT := Hide.mk (HT.out.below h4.bel (Nat.le_refl _))
  replace HB := below_then HB h4.bel
  replace HD := HD.below h4.bel hsz
  replace hsz := Nat.lt_of_lt_of_le hsz h4.bel.size
  clear h4 HI4
  have q10 := below_cell2 HI (by simp) d1.c0
  have q12 := below_cell2 HI (by simp) d1.c2
  have q20 := below_cell2 HI (by simp) d2.c0
  have q21 := below_cell2 HI (by simp) d2.c1
  have q22 := below_cell2 HI (by simp) d2.c2
  go_wp2_with fail
  refine (shiftedD a2 c2 z2 _ (L.all (a2, z2) (by simp)) g2 (-1) 1 rfl (by decide) HT.out).mono ?_
  rintro e w5 ⟨zh, ah, ch, rfl, h5, _⟩
  clear q10 q12 q20 q21 q22
  have G5 := h5.good
  have HI5 := below_step HI hsz h5.bel
  replace HI := HI5
  replace L := L.push h5.lie h5.bel
  replace HT := Hide.mk (HT.out.below h5.bel (Nat.le_refl _))
  replace HB := below_then HB h5.bel
  replace HD := HD.below h5.bel hsz
  replace hsz := Nat.lt_of_lt_of_le hsz h5.bel.size
  clear h5 HI5
  have Gh : Good zh (Nt.val z2 / 2) := G5
  clear G5
  have q10 := below_cell2 HI (by simp) d1.c0
  have q12 := below_cell2 HI (by simp) d1.c2
  have q20 := below_cell2 HI (by simp) d2.c0
  have q21 := below_cell2 HI (by simp) d2.c1
  have q22 := below_cell2 HI (by simp) d2.c2
  go_wp2_with fail
  refine (cmpM126 ag ah cg ch zg zh _ (L.all (ag, zg) (by simp)) (L.all (ah, zh) (by simp)) G4 Gh _ rfl).mono ?_
  rintro e w6 ⟨rfl, h6⟩
  clear q10 q12 q20 q21 q22
  have HI6 := below_step HI hsz h6
  replace HI := HI6
  replace L := L.keep h6
  replace HT := Hide.mk (HT.out.below h6 (Nat.le_refl _))
  replace HB := below_then HB h6
  replace HD := HD.below h6 hsz
  replace hsz := Nat.lt_of_lt_of_le hsz h6.size
  clear h6 HI6
  have q10 := below_cell2 HI (by simp) d1.c0
  have q12 := below_cell2 HI (by simp) d1.c2
  have q20 := below_cell2 HI (by simp) d2.c0
  have q21 := below_cell2 HI (by simp) d2.c1
  have q22 := below_cell2 HI (by simp) d2.c2
  have hsg : sgn (Nt.val z1 * 2 ^ k) (Nt.val z2 / 2) ≤ 0 := by have := HA.out; unfold sgn; split; omega; rw [if_neg (by omega)]; omega
  have hsb := sgn_bd (Nt.val z1 * 2 ^ k) (Nt.val z2 / 2)
  generalize sgn (Nt.val z1 * 2 ^ k) (Nt.val z2 / 2) = sg at *
  go_wp2_with fail
  have B6 : Below (w.heap.size + 2) w6 w6 := Below.refl _ _
  have HX := HI
  replace HI : Below (w.heap.size + 2) w6 w6.drew := B6.drew
  replace L : Live w6.drew _ := L.keep (Below.refl _ _).drew
  replace HT : Hide (Tab w6.drew) := ⟨HT.out.below (Below.refl _ _).drew (Nat.le_refl _)⟩
  replace HB : Below w.heap.size w w6.drew := HB.drew
  replace HD : DCell w6.drew _ _ := HD
  replace hsz : w.heap.size + 1 + 1 < w6.drew.heap.size := hsz
  refine Drawn.enter (fun W => Below (w.heap.size + 2) w6 W) (by kernel_rfl) ?_
  refine Drawn.take (i := 0) (v := .pointer (some ⟨w.heap.size + 1, 0, none⟩)) rfl (by kernel_rfl) (by kernel_rfl) (by kernel_rfl) (fun _ _ _ h => h) rfl (fun W hW => ?_) HI ?_
  · skip
    go_simp
  refine Drawn.take (i := 1) (v := .bool n2) rfl (by kernel_rfl) (by kernel_rfl) (by kernel_rfl) (fun _ _ _ h => h) rfl (fun W hW => ?_) HI ?_
  · have hc := below_cell2 hW (by simp) q20
    go_simp
  refine Drawn.take (i := 2) (v := .slice ah zh.length ch) rfl (by kernel_rfl) (by kernel_rfl) (by kernel_rfl) (fun _ _ _ h => h) rfl (fun W hW => ?_) HI ?_
  · skip
    go_simp
  refine Drawn.take (i := 3) (v := .slice ag zg.length cg) rfl (by kernel_rfl) (by kernel_rfl) (by kernel_rfl) (fun _ _ _ h => h) rfl (fun W hW => ?_) HI ?_
  · skip
    go_simp
  refine Drawn.one (j := 4) (by kernel_rfl) rfl (fun K hK => ?_)
  go_simp
  refine (less132 ah ag ch cg zh zg _ (L.all (ah, zh) (by simp)) (L.all (ag, zg) (by simp)) Gh G4 HA.out).mono ?_
  rintro e w9 ⟨zy, ay, cy, rfl, h9, _⟩
  have G9 := h9.good
  have HI9 := below_step HI hsz h9.bel
  replace HI := HI9
  replace L := L.push h9.lie h9.bel
  replace HT := Hide.mk (HT.out.below h9.bel (Nat.le_refl _))
  replace HB := below_then HB h9.bel
  replace HD := HD.below h9.bel hsz
  replace hsz := Nat.lt_of_lt_of_le hsz h9.bel.size
  clear h9 HI9
  refine hK _ _ HI ?_
  clear hK K
  refine Drawn.take (i := 5) (v := .bool n2) rfl (by kernel_rfl) (by kernel_rfl) (by kernel_rfl) (fun _ _ _ h => h) rfl (fun W hW => ?_) HI ?_
  · skip
    go_simp
  refine Drawn.take (i := 6) (v := .slice ay zy.length cy) rfl (by kernel_rfl) (by kernel_rfl) (by kernel_rfl) (fun _ _ _ h => h) rfl (fun W hW => ?_) HI ?_
  · skip
    go_simp
  refine Drawn.done (by kernel_rfl) ?_
  replace HI := below_trans2 HX HI
  clear HX q10 q12 q20 q21 q22
  go_wp2_with fail
  refine (shiftU_no ay cy zy _ (L.all (ay, zy) (by simp)) G9 1 1 rfl (by decide) HTT.out).mono ?_
  rintro e w' ⟨rfl, rfl⟩
  have f0 := HD.c0
  have f1 := HD.c1
  have f2 := HD.c2
  have r0 := HD.fr 0
  have r1 := HD.fr 1
  have r2 := HD.fr 2
  go_wp2
  refine bodyPost_ret (results_D2 rfl _ _ (w.heap.size + 1 + 1) _ rfl (((HD.set 0 _).set 1 _).set 2 _)) rfl ?_
  exact ⟨false, none, 0, 0, 0, 3, rfl, step_le HO.out rfl HQ.out ▸ DV.long (((HB.setCell (p := ⟨w.heap.size + 1 + 1, 0, none⟩) (by show w.heap.size ≤ w.heap.size + 1 + 1; omega) _).setCell (p := ⟨w.heap.size + 1 + 1, 1, none⟩) (by show w.heap.size ≤ w.heap.size + 1 + 1; omega) _).setCell (p := ⟨w.heap.size + 1 + 1, 2, none⟩) (by show w.heap.size ≤ w.heap.size + 1 + 1; omega) _) (by rw [sv_odd_abs G9.nonneg]; omega) (by rw [sv_odd_abs G9.nonneg]; have := HTT.out; omega)⟩
set_option maxHeartbeats 4000000 in
theorem step_le_fits_w (n1 n2 : Bool) (a1 a2 : Option Addr) (c1 c2 : Nat) (z1 z2 : List Int) (e1 e2 : Int) (k : Nat) (w : World) (h1 : Lie w a1 z1) (h2 : Lie w a2 z2) (g1 : Good z1 (Nt.val z1)) (g2 : Good z2 (Nt.val z2)) (o2 : Nt.val z2 % 2 = 1) (x1 : -16777216 ≤ e2) (x2 : e1 ≤ 16777216) (x3 : e1 - e2 - 1 = (k : Int)) (hT : Tab w) (hg : (Nt.val z1 * 2 ^ k) < 4294967296 ^ 4096) (hq : (n1 == n2) = false) (ha : (Nt.val z1 * 2 ^ k) ≤ (Nt.val z2 / 2)) (ht : ((Nt.val z2 / 2) - (Nt.val z1 * 2 ^ k)) * 2 ^ 1 < 4294967296 ^ 4096) :
    Calls Tryd.prog 122 #[dV n1 a1 z1.length c1 e1, dV n2 a2 z2.length c2 e2] w fun e w' => DRes w w' (sv n1 (Nt.val z1) * 2 ^ (k + 1) + sv n2 (Nt.val z2)) e2 e := by
  rw [step_val (n1 := n1) (n2 := n2) (y := Nt.val z2) (rfl : (Nt.val z1 * 2 ^ k) = (Nt.val z1 * 2 ^ k))]
  obtain ⟨d1, d2, d3, hs3⟩ := dcell3 w #[.bool n1, .slice a1 z1.length c1, .int .i64 e1] #[.bool n2, .slice a2 z2.length c2, .int .i64 e2] #[.bool false, .slice none 0 0, .int .i64 0] rfl rfl rfl
  have hb3 := below3 w (.cells #[.bool n1, .slice a1 z1.length c1, .int .i64 e1] 36) (.cells #[.bool n2, .slice a2 z2.length c2, .int .i64 e2] 36) (.cells #[.bool false, .slice none 0 0, .int .i64 0] 36)
  have HG := Hide.mk hg
  have HO := Hide.mk o2
  have HK := Hide.mk x3
  have x4 : e1 - e2 - 1 ≤ 33554432 := by omega
  have x5 : 0 ≤ e1 - e2 - 1 := by omega
  clear hg o2 x3
  have HQ := Hide.mk hq
  have HA := Hide.mk ha
  clear ha
  have HTT := Hide.mk ht
  clear ht
  go_enter Tryd.func122, Tryd.ntmps122
  go_wp2_with fail
  generalize hw3 : ((w.alloc (.cells #[.bool n1, .slice a1 z1.length c1, .int .i64 e1] 36)).alloc (.cells #[.bool n2, .slice a2 z2.length c2, .int .i64 e2] 36)).alloc (.cells #[.bool false, .slice none 0 0, .int .i64 0] 36) = w3 at *
  clear hw3
  have HI : Below (w.heap.size + 2) w3 w3 := Below.refl _ _
  have L : Live w3 [(a1, z1), (a2, z2)] := ⟨by simp [h1.below hb3 (Nat.le_refl _), h2.below hb3 (Nat.le_refl _)]⟩
  have HT := Hide.mk (hT.below hb3 (Nat.le_refl _))
  have HB : Below w.heap.size w w3 := hb3
  have HD : DCell w3 (w.heap.size + 1 + 1) #[.bool false, .slice none 0 0, .int .i64 0] := d3
  have hsz : w.heap.size + 1 + 1 < w3.heap.size := by omega
  clear h1 h2 hT hb3 d3
  refine (shiftUi a1 c1 z1 _ (L.all (a1, z1) (by simp)) g1 (e1 - e2 - 1) k HK.out HG.out).mono ?_
  rintro e w4 ⟨zg, ag, cg, rfl, h4, _⟩
  have G4 := h4.good
  have HI4 := below_step HI hsz h4.bel
  replace HI := HI4
  replace L := L.push h4.lie h4.bel
  replace HT := Hide.mk (HT.out.below h4.bel (Nat.le_refl _))
  replace HB := below_then HB h4.bel
  replace HD := HD.below h4.bel hsz
  replace hsz := Nat.lt_of_lt_of_le hsz h4.bel.size
  clear h4 HI4
  have q10 := below_cell2 HI (by simp) d1.c0
  have q12 := below_cell2 HI (by simp) d1.c2
  have q20 := below_cell2 HI (by simp) d2.c0
  have q21 := below_cell2 HI (by simp) d2.c1
  have q22 := below_cell2 HI (by simp) d2.c2
  go_wp2_with fail
  refine (shiftedD a2 c2 z2 _ (L.all (a2, z2) (by simp)) g2 (-1) 1 rfl (by decide) HT.out).mono ?_
  rintro e w5 ⟨zh, ah, ch, rfl, h5, _⟩
  clear q10 q12 q20 q21 q22
  have G5 := h5.good
  have HI5 := below_step HI hsz h5.bel
  replace HI := HI5
  replace L := L.push h5.lie h5.bel
  replace HT := Hide.mk (HT.out.below h5.bel (Nat.le_refl _))
  replace HB := below_then HB h5.bel
  replace HD := HD.below h5.bel hsz
  replace hsz := Nat.lt_of_lt_of_le hsz h5.bel.size
  clear h5 HI5
  have Gh : Good zh (Nt.val z2 / 2) := G5
  clear G5
  have q10 := below_cell2 HI (by simp) d1.c0
  have q12 := below_cell2 HI (by simp) d1.c2
  have q20 := below_cell2 HI (by simp) d2.c0
  have q21 := below_cell2 HI (by simp) d2.c1
  have q22 := below_cell2 HI (by simp) d2.c2
  go_wp2_with fail
  refine (cmpM126 ag ah cg ch zg zh _ (L.all (ag, zg) (by simp)) (L.all (ah, zh) (by simp)) G4 Gh _ rfl).mono ?_
  rintro e w6 ⟨rfl, h6⟩
  clear q10 q12 q20 q21 q22
  have HI6 := below_step HI hsz h6
  replace HI := HI6
  replace L := L.keep h6
  replace HT := Hide.mk (HT.out.below h6 (Nat.le_refl _))
  replace HB := below_then HB h6
  replace HD := HD.below h6 hsz
  replace hsz := Nat.lt_of_lt_of_le hsz h6.size
  clear h6 HI6
  have q10 := below_cell2 HI (by simp) d1.c0
  have q12 := below_cell2 HI (by simp) d1.c2
  have q20 := below_cell2 HI (by simp) d2.c0
  have q21 := below_cell2 HI (by simp) d2.c1
  have q22 := below_cell2 HI (by simp) d2.c2
  have hsg : sgn (Nt.val z1 * 2 ^ k) (Nt.val z2 / 2) ≤ 0 := by have := HA.out; unfold sgn; split; omega; rw [if_neg (by omega)]; omega
  have hsb := sgn_bd (Nt.val z1 * 2 ^ k) (Nt.val z2 / 2)
  generalize sgn (Nt.val z1 * 2 ^ k) (Nt.val z2 / 2) = sg at *
  go_wp2_with fail
  have B6 : Below (w.heap.size + 2) w6 w6 := Below.refl _ _
  have HX := HI
  replace HI : Below (w.heap.size + 2) w6 w6.drew := B6.drew
  replace L : Live w6.drew _ := L.keep (Below.refl _ _).drew
  replace HT : Hide (Tab w6.drew) := ⟨HT.out.below (Below.refl _ _).drew (Nat.le_refl _)⟩
  replace HB : Below w.heap.size w w6.drew := HB.drew
  replace HD : DCell w6.drew _ _ := HD
  replace hsz : w.heap.size + 1 + 1 < w6.drew.heap.size := hsz
  refine Drawn.enter (fun W => Below (w.heap.size + 2) w6 W) (by kernel_rfl) ?_
  refine Drawn.take (i := 0) (v := .pointer (some ⟨w.heap.size + 1, 0, none⟩)) rfl (by kernel_rfl) (by kernel_rfl) (by kernel_rfl) (fun _ _ _ h => h) rfl (fun W hW => ?_) HI ?_
  · skip
    go_simp
  refine Drawn.take (i := 1) (v := .bool n2) rfl (by kernel_rfl) (by kernel_rfl) (by kernel_rfl) (fun _ _ _ h => h) rfl (fun W hW => ?_) HI ?_
  · have hc := below_cell2 hW (by simp) q20
    go_simp
  refine Drawn.take (i := 2) (v := .slice ah zh.length ch) rfl (by kernel_rfl) (by kernel_rfl) (by kernel_rfl) (fun _ _ _ h => h) rfl (fun W hW => ?_) HI ?_
  · skip
    go_simp
  refine Drawn.take (i := 3) (v := .slice ag zg.length cg) rfl (by kernel_rfl) (by kernel_rfl) (by kernel_rfl) (fun _ _ _ h => h) rfl (fun W hW => ?_) HI ?_
  · skip
    go_simp
  refine Drawn.one (j := 4) (by kernel_rfl) rfl (fun K hK => ?_)
  go_simp
  refine (less132 ah ag ch cg zh zg _ (L.all (ah, zh) (by simp)) (L.all (ag, zg) (by simp)) Gh G4 HA.out).mono ?_
  rintro e w9 ⟨zy, ay, cy, rfl, h9, _⟩
  have G9 := h9.good
  have HI9 := below_step HI hsz h9.bel
  replace HI := HI9
  replace L := L.push h9.lie h9.bel
  replace HT := Hide.mk (HT.out.below h9.bel (Nat.le_refl _))
  replace HB := below_then HB h9.bel
  replace HD := HD.below h9.bel hsz
  replace hsz := Nat.lt_of_lt_of_le hsz h9.bel.size
  clear h9 HI9
  refine hK _ _ HI ?_
  clear hK K
  refine Drawn.take (i := 5) (v := .bool n2) rfl (by kernel_rfl) (by kernel_rfl) (by kernel_rfl) (fun _ _ _ h => h) rfl (fun W hW => ?_) HI ?_
  · skip
    go_simp
  refine Drawn.take (i := 6) (v := .slice ay zy.length cy) rfl (by kernel_rfl) (by kernel_rfl) (by kernel_rfl) (fun _ _ _ h => h) rfl (fun W hW => ?_) HI ?_
  · skip
    go_simp
  refine Drawn.done (by kernel_rfl) ?_
  replace HI := below_trans2 HX HI
  clear HX q10 q12 q20 q21 q22
  go_wp2_with fail
  refine (shiftUi ay cy zy _ (L.all (ay, zy) (by simp)) G9 1 1 rfl HTT.out).mono ?_
  rintro e wa ⟨zt, at1, ct, rfl, ha, _⟩
  have Ga := ha.good
  have HIa := below_step HI hsz ha.bel
  replace HI := HIa
  replace L := L.push ha.lie ha.bel
  replace HT := Hide.mk (HT.out.below ha.bel (Nat.le_refl _))
  replace HB := below_then HB ha.bel
  replace HD := HD.below ha.bel hsz
  replace hsz := Nat.lt_of_lt_of_le hsz ha.bel.size
  clear ha HIa
  have q22 := below_cell2 HI (by simp) d2.c2
  go_wp2_with fail
  have Ba : Below (w.heap.size + 2) wa wa := Below.refl _ _
  replace HI : Below (w.heap.size + 2) wa wa.drew := Ba.drew
  replace L : Live wa.drew _ := L.keep (Below.refl _ _).drew
  replace HT : Hide (Tab wa.drew) := ⟨HT.out.below (Below.refl _ _).drew (Nat.le_refl _)⟩
  replace HB : Below w.heap.size w wa.drew := HB.drew
  replace HD : DCell wa.drew _ _ := HD
  replace hsz : w.heap.size + 1 + 1 < wa.drew.heap.size := hsz
  refine Drawn.enter (fun W => Below (w.heap.size + 2) wa W) (by kernel_rfl) ?_
  refine Drawn.take (i := 0) (v := .bool n2) rfl (by kernel_rfl) (by kernel_rfl) (by kernel_rfl) (fun _ _ _ h => h) rfl (fun W hW => ?_) HI ?_
  · skip
    go_simp
  refine Drawn.take (i := 1) (v := .slice at1 zt.length ct) rfl (by kernel_rfl) (by kernel_rfl) (by kernel_rfl) (fun _ _ _ h => h) rfl (fun W hW => ?_) HI ?_
  · skip
    go_simp
  refine Drawn.take (i := 4) (v := .pointer (some ⟨w.heap.size + 1, 2, none⟩)) rfl (by kernel_rfl) (by kernel_rfl) (by kernel_rfl) (fun _ _ _ h => h) rfl (fun W hW => ?_) HI ?_
  · skip
    go_simp
  refine Drawn.take (i := 5) (v := .int .i64 e2) rfl (by kernel_rfl) (by kernel_rfl) (by kernel_rfl) (fun _ _ _ h => h) rfl (fun W hW => ?_) HI ?_
  · have hc := below_cell2 hW (by simp) q22
    go_simp
  refine Drawn.one (j := 2) (by kernel_rfl) rfl (fun K hK => ?_)
  go_simp
  refine (of16 1 (by decide) (by decide) _).mono ?_
  rintro e wb ⟨zb, ab, cb, rfl, hb, _⟩
  have Gb := hb.good
  have HIb := below_step HI hsz hb.bel
  replace HI := HIb
  replace L := L.push hb.lie hb.bel
  replace HT := Hide.mk (HT.out.below hb.bel (Nat.le_refl _))
  replace HB := below_then HB hb.bel
  replace HD := HD.below hb.bel hsz
  replace hsz := Nat.lt_of_lt_of_le hsz hb.bel.size
  clear hb HIb
  refine hK _ _ HI ?_
  clear hK K
  refine Drawn.one (j := 3) (by kernel_rfl) rfl (fun K hK => ?_)
  go_simp
  refine (plus110 at1 ab ct cb zt zb _ (L.all (at1, zt) (by simp)) (L.all (ab, zb) (by simp)) Ga Gb (even_fit HTT.out)).mono ?_
  rintro e wc ⟨zc, ac, cc, rfl, hc, _⟩
  have Gc := hc.good
  have HIc := below_step HI hsz hc.bel
  replace HI := HIc
  replace L := L.push hc.lie hc.bel
  replace HT := Hide.mk (HT.out.below hc.bel (Nat.le_refl _))
  replace HB := below_then HB hc.bel
  replace HD := HD.below hc.bel hsz
  replace hsz := Nat.lt_of_lt_of_le hsz hc.bel.size
  clear hc HIc
  refine hK _ _ HI ?_
  clear hK K
  refine Drawn.one (j := 6) (by kernel_rfl) rfl (fun K hK => ?_)
  go_simp
  refine (formedR n2 ac cc zc e2 _ (L.all (ac, zc) (by simp)) Gc HT.out (by omega) (by omega)).mono ?_
  rintro e we ⟨ng, aa, n, c, xx, code, rfl, hv⟩
  have HV := Hide.mk hv
  have HB9 := HB
  have hsz9 := hsz
  have h9 := hv.bel
  clear hv
  have HI9 := below_step HI hsz h9
  replace HI := HI9
  replace HD := HD.below h9 hsz
  clear HI9
  refine hK _ _ HI ?_
  clear hK K
  refine Drawn.take (i := 7) (v := dV ng aa n c xx) rfl (by kernel_rfl) (by kernel_rfl) (by kernel_rfl) (fun _ _ _ h => h) rfl (fun W hW => ?_) HI ?_
  · skip
    go_simp
  refine Drawn.take (i := 8) (v := .int .i64 code) rfl (by kernel_rfl) (by kernel_rfl) (by kernel_rfl) (fun _ _ _ h => h) rfl (fun W hW => ?_) HI ?_
  · skip
    go_simp
  have f0 := HD.c0
  have f1 := HD.c1
  have f2 := HD.c2
  have r0 := HD.fr 0
  have r1 := HD.fr 1
  have r2 := HD.fr 2
  refine Drawn.one (j := 9) (by kernel_rfl) rfl (fun K hK => ?_)
  go_simp
  have HIs := ((HI.setCell (p := ⟨w.heap.size + 1 + 1, 0, none⟩) (Nat.le_refl _) (.bool ng)).setCell (p := ⟨w.heap.size + 1 + 1, 1, none⟩) (Nat.le_refl _) (.slice aa n c)).setCell (p := ⟨w.heap.size + 1 + 1, 2, none⟩) (Nat.le_refl _) (.int .i64 xx)
  refine hK _ _ HIs ?_
  clear hK K
  refine Drawn.take (i := 10) (v := .int .i64 code) rfl (by kernel_rfl) (by kernel_rfl) (by kernel_rfl) (fun _ _ _ h => h) rfl (fun W hW => ?_) HIs ?_
  · skip
    go_simp
  refine Drawn.done (by kernel_rfl) ?_
  go_wp2
  refine bodyPost_ret (results_D2 rfl _ _ (w.heap.size + 1 + 1) _ rfl (((HD.set 0 _).set 1 _).set 2 _)) rfl ?_
  refine ⟨ng, aa, n, c, xx, code, rfl, ?_⟩
  rw [step_le HO.out rfl HQ.out, show 2 * ((Nt.val z2 / 2) - (Nt.val z1 * 2 ^ k)) + 1 = ((Nt.val z2 / 2) - (Nt.val z1 * 2 ^ k)) * 2 ^ 1 + 1 by omega]
  exact HV.out.back HB9 (by omega) hsz9 _ _ _
theorem step128 (n1 n2 : Bool) (a1 a2 : Option Addr) (c1 c2 : Nat) (z1 z2 : List Int) (e1 e2 : Int) (k : Nat) (w : World) (h1 : Lie w a1 z1) (h2 : Lie w a2 z2) (g1 : Good z1 (Nt.val z1)) (g2 : Good z2 (Nt.val z2)) (o2 : Nt.val z2 % 2 = 1) (x1 : -16777216 ≤ e2) (x2 : e1 ≤ 16777216) (x3 : e1 - e2 - 1 = (k : Int)) (hT : Tab w) :
    Calls Tryd.prog 122 #[dV n1 a1 z1.length c1 e1, dV n2 a2 z2.length c2 e2] w fun e w' => DRes w w' (sv n1 (Nt.val z1) * 2 ^ (k + 1) + sv n2 (Nt.val z2)) e2 e := by
  by_cases hg : Nt.val z1 * 2 ^ k < 4294967296 ^ 4096
  · cases hq : (n1 == n2)
    · by_cases ha : Nt.val z2 / 2 < Nt.val z1 * 2 ^ k
      · by_cases ht : (Nt.val z1 * 2 ^ k - Nt.val z2 / 2 - 1) * 2 ^ 1 < 4294967296 ^ 4096
        · exact step_gt_fits_w n1 n2 a1 a2 c1 c2 z1 z2 e1 e2 k w h1 h2 g1 g2 o2 x1 x2 x3 hT hg hq ha ht
        · exact step_gt_long_w n1 n2 a1 a2 c1 c2 z1 z2 e1 e2 k w h1 h2 g1 g2 o2 x1 x2 x3 hT hg hq ha (by omega)
      · by_cases ht : (Nt.val z2 / 2 - Nt.val z1 * 2 ^ k) * 2 ^ 1 < 4294967296 ^ 4096
        · exact step_le_fits_w n1 n2 a1 a2 c1 c2 z1 z2 e1 e2 k w h1 h2 g1 g2 o2 x1 x2 x3 hT hg hq (by omega) ht
        · exact step_le_long_w n1 n2 a1 a2 c1 c2 z1 z2 e1 e2 k w h1 h2 g1 g2 o2 x1 x2 x3 hT hg hq (by omega) (by omega)
    · by_cases ha : Nt.val z1 * 2 ^ k + Nt.val z2 / 2 < 4294967296 ^ 4096
      · by_cases ht : (Nt.val z1 * 2 ^ k + Nt.val z2 / 2) * 2 ^ 1 < 4294967296 ^ 4096
        · exact step_same_fits_w n1 n2 a1 a2 c1 c2 z1 z2 e1 e2 k w h1 h2 g1 g2 o2 x1 x2 x3 hT hg hq ha ht
        · exact step_same_long_w n1 n2 a1 a2 c1 c2 z1 z2 e1 e2 k w h1 h2 g1 g2 o2 x1 x2 x3 hT hg hq ha (by omega)
      · exact step_along_w n1 n2 a1 a2 c1 c2 z1 z2 e1 e2 k w h1 h2 g1 g2 o2 x1 x2 x3 hT hg hq (by omega)
  · exact step_glong_w n1 n2 a1 a2 c1 c2 z1 z2 e1 e2 k w h1 h2 g1 g2 o2 x1 x2 x3 hT (by omega)
end Go.Proofs.YteejaghimppcgaaDoor
