import Derived.Test.YtdnghibkagcbcaaGreatDoorRoundQuotientsPart21
import Derived.Test.YtdnghibkagcbcaaGreatDoorRoundQuotientsPart14
set_option maxHeartbeats 4000000
namespace Go.Proofs.YtdnghibkagcbcaaGreatDoor
open Go.RowKit Go.Wd Go.Box
set_option linter.unusedVariables false
set_option maxRecDepth 3000
theorem rd_tiny (b : Bool) (m : Int) (n : Bool) (a : Option Addr) (c : Nat) (z : List Int) (ex s0 T u uf tu tuf W0 OV : Int) (w : World) (l : Lie w a z) (hT1 : -60000000 ≤ T) (hT2 : T ≤ 60000000) (htu1 : -100000000 ≤ tu) (htu2 : tu ≤ 100000000) (htf1 : -100000000 ≤ tuf) (htf2 : tuf ≤ 100000000) (hs0 : (s0 == 0) = false)
    (KS : ∀ W, Calls Tryz.prog 23 #[dV n a z.length c ex] W fun e' w' => e' = .returned (.int .i64 s0) ∧ Below W.heap.size W w')
    (KT : ∀ W, Lie W a z → Calls Tryz.prog 55 #[dV n a z.length c ex] W fun e' w' => e' = .returned (.int .i64 T) ∧ Below W.heap.size W w')
    (KY : ∀ W, Lie W a z → Calls Tryz.prog 57 #[.int .u8 m, dV n a z.length c ex, .int .i64 (ulp b T)] W fun e' w' => RF W w' (sv n u) (ulp b T) e')
    (KU : ∀ ny zy xy ay cy W, Fm (sv n u) (ulp b T) ny zy xy → Lie W ay zy → Calls Tryz.prog 55 #[dV ny ay (List.length zy) cy xy] W fun e' w' => e' = .returned (.int .i64 tu) ∧ Below W.heap.size W w')
    (ho : ¬ hi b < tu) (V0 : Int)
    (KF : ∀ ny zy xy ay cy W, Fm (sv n u) (ulp b T) ny zy xy → Lie W ay zy → Calls Tryz.prog 59 #[.int .u8 (fm b), dV false ay (List.length zy) cy xy] W fun e' w' => e' = .returned (.tuple #[.int .u64 V0, .bool true]) ∧ Below W.heap.size W w')
    (KG : ∀ W, Calls Tryz.prog 31 #[.int .u8 (fm b), .int .u64 V0, .bool n] W fun e' w' => e' = .returned (.int .u64 W0) ∧ Below W.heap.size W w')
    (KE : ∀ ny zy xy ay cy W, Fm (sv n u) (ulp b T) ny zy xy → Lie W ay zy → Lie W a z → Calls Tryz.prog 21 #[dV n a z.length c ex, dV ny ay (List.length zy) cy xy] W fun e' w' => e' = .returned (.bool false) ∧ Below W.heap.size W w')
    (hq : decide (tuf < lo b + (pr b : Nat)) = true)
    (KZ : ∀ W, Lie W a z → Calls Tryz.prog 57 #[.int .u8 m, dV n a z.length c ex, .int .i64 (T - (pr b : Nat))] W fun e' w' => RF W w' (sv n uf) (T - (pr b : Nat)) e')
    (KV : ∀ ny zy xy ay cy W, Fm (sv n uf) (T - (pr b : Nat)) ny zy xy → Lie W ay zy → Calls Tryz.prog 55 #[dV ny ay (List.length zy) cy xy] W fun e' w' => e' = .returned (.int .i64 tuf) ∧ Below W.heap.size W w') :
    Calls Tryz.prog 19 #[.int .u8 (fm b), .int .u8 m, dV n a z.length c ex] w fun e' w' => e' = .returned (.tuple #[.int .u64 W0, .int .u8 24]) ∧ Below w.heap.size w w' := by
  have HS := fun W => Hide.mk (KS W)
  have HT := fun W l => Hide.mk (KT W l)
  have HY := fun W l => Hide.mk (KY W l)
  have HU := fun ny zy xy ay cy W f l => Hide.mk (KU ny zy xy ay cy W f l)
  have HF := fun ny zy xy ay cy W f l => Hide.mk (KF ny zy xy ay cy W f l)
  have HG := fun W => Hide.mk (KG W)
  have HEq := fun ny zy xy ay cy W f l1 l2 => Hide.mk (KE ny zy xy ay cy W f l1 l2)
  have HZ := fun W l => Hide.mk (KZ W l)
  have HV := fun ny zy xy ay cy W f l => Hide.mk (KV ny zy xy ay cy W f l)
  clear KS KT KY KU KF KG KE KZ KV
  have HAb := fun (ny : Bool) (ay : Option Addr) (cy ky : Nat) (xy : Int) W => Hide.mk (rAbsD ny ay cy ky xy W)
  have hpb := pr_bd b
  have hlo := lo_bd b
  have hp1 : 24 ≤ ((pr b : Nat) : Int) := by omega
  have hp2 : ((pr b : Nat) : Int) ≤ 53 := by omega
  have hub := ulp_ge b T
  have hu1 : -70000000 ≤ ulp b T := by omega
  have hu2 : ulp b T ≤ 70000000 := by omega
  have HFr : ∀ W, Hide (Calls Tryz.prog 54 #[.int .u8 (fm b)] W fun e' w' => e' = .returned (.int .i64 ((pr b : Nat) - 1)) ∧ Below W.heap.size W w') := fun W => ⟨by
    have := rFrac b W
    rw [show fc b = ((pr b : Nat) : Int) - 1 by have := fc_pr b; omega] at this
    exact this⟩
  have HWi : ∀ W, Hide (Calls Tryz.prog 58 #[.int .u8 (fm b)] W fun e' w' => e' = .returned (.int .i64 (hi b)) ∧ Below W.heap.size W w') := fun W => ⟨by
    have := rWide b W
    rw [hi_wd] at this
    exact this⟩
  have HLo := fun W => Hide.mk (rLow b W)
  have B1 := (Bx.nil w).push (DO n a z.length c ex)
  by_cases hc : T - ((pr b : Nat) : Int) < lo b
  · have HE : Hide (lo b = ulp b T) := ⟨by unfold ulp; omega⟩
    obtain ⟨⟨s0c, s1, s2⟩, _⟩ := cells3 B1 w.heap.size _ _ _ _ (.head _)
    go_enter Tryz.func19, Tryz.ntmps19
    go_wp2_with fail
    refine (HS _).out.mono ?_
    rintro e' w2 ⟨rfl, h2⟩
    have B2 := B1.keep h2
    clear h2 B1 s0c s1 s2 HS
    go_wp2_with fail
    refine (HFr _).out.mono ?_
    rintro e' w3 ⟨rfl, h3⟩
    have B3 := B2.keep h3
    clear h3 B2 HFr
    obtain ⟨⟨s0c, s1, s2⟩, _⟩ := cells3 B3 w.heap.size _ _ _ _ (.head _)
    go_wp2_with fail
    refine (HT _ (l.below B3.bel (Nat.le_refl _))).out.mono ?_
    rintro e' w4 ⟨rfl, h4⟩
    have B4 := B3.keep h4
    clear h4 B3 s0c s1 s2 HT
    go_wp2_with fail
    refine (HLo _).out.mono ?_
    rintro e' w5 ⟨rfl, h5⟩
    have B5 := B4.keep h5
    clear h5 B4
    go_wp2_with fail
    refine (HLo _).out.mono ?_
    rintro e' w6 ⟨rfl, h6⟩
    have B6 := B5.keep h6
    clear h6 B5
    obtain ⟨⟨s0c, s1, s2⟩, _⟩ := cells3 B6 w.heap.size _ _ _ _ (.head _)
    go_wp2_with fail
    rw [HE.out]
    refine (HY _ (l.below B6.bel (Nat.le_refl _))).out.mono ?_
    rintro e' w7 ⟨ny, zy, xy, ay, cy, rfl, fy, ly, h7⟩
    have B7 := (B6.keep h7).push (DO ny ay zy.length cy xy)
    have hlt : w.heap.size < w7.heap.size := (B6.keep h7).lt (.head _)
    replace ly := ly.below (below_alloc w7 (DO ny ay zy.length cy xy)) (Nat.le_refl _)
    have FY := Hide.mk fy
    clear h7 B6 s0c s1 s2 HY fy
    obtain ⟨⟨y0, y1, y2⟩, _⟩ := cells3 B7 w7.heap.size _ _ _ _ (.head _)
    go_wp2_with fail
    refine (HU _ _ _ _ _ _ FY.out ly).out.mono ?_
    rintro e' w8 ⟨rfl, h8⟩
    have B8 := B7.keep h8
    replace ly := ly.below h8 (Nat.le_refl _)
    clear h8 B7 y0 y1 y2 HU
    generalize w7.heap.size = gy at *
    go_wp2_with fail
    refine (HWi _).out.mono ?_
    rintro e' w9 ⟨rfl, h9⟩
    have B9 := B8.keep h9
    replace ly := ly.below h9 (Nat.le_refl _)
    clear h9 B8 HWi
    obtain ⟨⟨s0c, s1, s2⟩, _⟩ := cells3 B9 w.heap.size _ _ _ _ (.tail _ (.head _))
    obtain ⟨⟨y0, y1, y2⟩, _⟩ := cells3 B9 gy _ _ _ _ (.head _)
    go_wp2_with fail
    refine (HAb _ _ _ _ _ _).out.mono ?_
    rintro e' w10 ⟨rfl, hh⟩
    have B10 := B9.keep hh
    replace ly := ly.below hh (Nat.le_refl _)
    clear hh B9 s0c s1 s2 y0 y1 y2
    obtain ⟨⟨s0c, s1, s2⟩, _⟩ := cells3 B10 w.heap.size _ _ _ _ (.tail _ (.head _))
    obtain ⟨⟨y0, y1, y2⟩, _⟩ := cells3 B10 gy _ _ _ _ (.head _)
    go_wp2_with fail
    refine (HF _ _ _ _ _ _ FY.out ly).out.mono ?_
    rintro e' w11 ⟨rfl, hh⟩
    have B11 := B10.keep hh
    replace ly := ly.below hh (Nat.le_refl _)
    clear hh B10 s0c s1 s2 y0 y1 y2
    obtain ⟨⟨s0c, s1, s2⟩, _⟩ := cells3 B11 w.heap.size _ _ _ _ (.tail _ (.head _))
    obtain ⟨⟨y0, y1, y2⟩, _⟩ := cells3 B11 gy _ _ _ _ (.head _)
    go_wp2_with fail
    refine (HG _).out.mono ?_
    rintro e' w12 ⟨rfl, hh⟩
    have B12 := B11.keep hh
    replace ly := ly.below hh (Nat.le_refl _)
    clear hh B11 s0c s1 s2 y0 y1 y2
    obtain ⟨⟨s0c, s1, s2⟩, _⟩ := cells3 B12 w.heap.size _ _ _ _ (.tail _ (.head _))
    obtain ⟨⟨y0, y1, y2⟩, _⟩ := cells3 B12 gy _ _ _ _ (.head _)
    go_wp2_with fail
    refine (HEq _ _ _ _ _ _ FY.out ly (l.below B12.bel (Nat.le_refl _))).out.mono ?_
    rintro e' w13 ⟨rfl, hh⟩
    have B13 := B12.keep hh
    replace ly := ly.below hh (Nat.le_refl _)
    clear hh B12 s0c s1 s2 y0 y1 y2
    obtain ⟨⟨s0c, s1, s2⟩, _⟩ := cells3 B13 w.heap.size _ _ _ _ (.tail _ (.head _))
    obtain ⟨⟨y0, y1, y2⟩, _⟩ := cells3 B13 gy _ _ _ _ (.head _)
    clear y0 y1 y2
    go_wp2_with fail
    refine (HZ _ (l.below B13.bel (Nat.le_refl _))).out.mono ?_
    rintro e' w14 ⟨nt, zt, xt, at', ct, rfl, ft, lt, h14⟩
    have B14 := B13.keep h14
    clear h14 B13 s0c s1 s2
    go_wp2_with fail
    refine (HV _ _ _ _ _ _ ft lt).out.mono ?_
    rintro e' w15 ⟨rfl, h15⟩
    have B15 := B14.keep h15
    clear h15 B14
    go_wp2_with fail
    refine (HLo _).out.mono ?_
    rintro e' w16 ⟨rfl, h16⟩
    have B16 := B15.keep h16
    clear h16 B15
    have hq2 : tuf < lo b + ((pr b : Nat) : Int) := by simpa using hq
    clear hq
    go_wp2
    go_ret2
    exact ⟨rfl, B16.bel⟩
  · have HE : Hide (T - ((pr b : Nat) : Int) = ulp b T) := ⟨by unfold ulp; omega⟩
    simp only [HE.out] at HZ HV
    obtain ⟨⟨s0c, s1, s2⟩, _⟩ := cells3 B1 w.heap.size _ _ _ _ (.head _)
    go_enter Tryz.func19, Tryz.ntmps19
    go_wp2_with fail
    refine (HS _).out.mono ?_
    rintro e' w2 ⟨rfl, h2⟩
    have B2 := B1.keep h2
    clear h2 B1 s0c s1 s2 HS
    go_wp2_with fail
    refine (HFr _).out.mono ?_
    rintro e' w3 ⟨rfl, h3⟩
    have B3 := B2.keep h3
    clear h3 B2 HFr
    obtain ⟨⟨s0c, s1, s2⟩, _⟩ := cells3 B3 w.heap.size _ _ _ _ (.head _)
    go_wp2_with fail
    refine (HT _ (l.below B3.bel (Nat.le_refl _))).out.mono ?_
    rintro e' w4 ⟨rfl, h4⟩
    have B4 := B3.keep h4
    clear h4 B3 s0c s1 s2 HT
    go_wp2_with fail
    refine (HLo _).out.mono ?_
    rintro e' w5 ⟨rfl, h5⟩
    have B5 := B4.keep h5
    clear h5 B4
    have B6 := B5
    clear B5
    obtain ⟨⟨s0c, s1, s2⟩, _⟩ := cells3 B6 w.heap.size _ _ _ _ (.head _)
    go_wp2_with fail
    rw [HE.out]
    refine (HY _ (l.below B6.bel (Nat.le_refl _))).out.mono ?_
    rintro e' w7 ⟨ny, zy, xy, ay, cy, rfl, fy, ly, h7⟩
    have B7 := (B6.keep h7).push (DO ny ay zy.length cy xy)
    have hlt : w.heap.size < w7.heap.size := (B6.keep h7).lt (.head _)
    replace ly := ly.below (below_alloc w7 (DO ny ay zy.length cy xy)) (Nat.le_refl _)
    have FY := Hide.mk fy
    clear h7 B6 s0c s1 s2 HY fy
    obtain ⟨⟨y0, y1, y2⟩, _⟩ := cells3 B7 w7.heap.size _ _ _ _ (.head _)
    go_wp2_with fail
    refine (HU _ _ _ _ _ _ FY.out ly).out.mono ?_
    rintro e' w8 ⟨rfl, h8⟩
    have B8 := B7.keep h8
    replace ly := ly.below h8 (Nat.le_refl _)
    clear h8 B7 y0 y1 y2 HU
    generalize w7.heap.size = gy at *
    go_wp2_with fail
    refine (HWi _).out.mono ?_
    rintro e' w9 ⟨rfl, h9⟩
    have B9 := B8.keep h9
    replace ly := ly.below h9 (Nat.le_refl _)
    clear h9 B8 HWi
    obtain ⟨⟨s0c, s1, s2⟩, _⟩ := cells3 B9 w.heap.size _ _ _ _ (.tail _ (.head _))
    obtain ⟨⟨y0, y1, y2⟩, _⟩ := cells3 B9 gy _ _ _ _ (.head _)
    go_wp2_with fail
    refine (HAb _ _ _ _ _ _).out.mono ?_
    rintro e' w10 ⟨rfl, hh⟩
    have B10 := B9.keep hh
    replace ly := ly.below hh (Nat.le_refl _)
    clear hh B9 s0c s1 s2 y0 y1 y2
    obtain ⟨⟨s0c, s1, s2⟩, _⟩ := cells3 B10 w.heap.size _ _ _ _ (.tail _ (.head _))
    obtain ⟨⟨y0, y1, y2⟩, _⟩ := cells3 B10 gy _ _ _ _ (.head _)
    go_wp2_with fail
    refine (HF _ _ _ _ _ _ FY.out ly).out.mono ?_
    rintro e' w11 ⟨rfl, hh⟩
    have B11 := B10.keep hh
    replace ly := ly.below hh (Nat.le_refl _)
    clear hh B10 s0c s1 s2 y0 y1 y2
    obtain ⟨⟨s0c, s1, s2⟩, _⟩ := cells3 B11 w.heap.size _ _ _ _ (.tail _ (.head _))
    obtain ⟨⟨y0, y1, y2⟩, _⟩ := cells3 B11 gy _ _ _ _ (.head _)
    go_wp2_with fail
    refine (HG _).out.mono ?_
    rintro e' w12 ⟨rfl, hh⟩
    have B12 := B11.keep hh
    replace ly := ly.below hh (Nat.le_refl _)
    clear hh B11 s0c s1 s2 y0 y1 y2
    obtain ⟨⟨s0c, s1, s2⟩, _⟩ := cells3 B12 w.heap.size _ _ _ _ (.tail _ (.head _))
    obtain ⟨⟨y0, y1, y2⟩, _⟩ := cells3 B12 gy _ _ _ _ (.head _)
    go_wp2_with fail
    refine (HEq _ _ _ _ _ _ FY.out ly (l.below B12.bel (Nat.le_refl _))).out.mono ?_
    rintro e' w13 ⟨rfl, hh⟩
    have B13 := B12.keep hh
    replace ly := ly.below hh (Nat.le_refl _)
    clear hh B12 s0c s1 s2 y0 y1 y2
    obtain ⟨⟨s0c, s1, s2⟩, _⟩ := cells3 B13 w.heap.size _ _ _ _ (.tail _ (.head _))
    obtain ⟨⟨y0, y1, y2⟩, _⟩ := cells3 B13 gy _ _ _ _ (.head _)
    clear y0 y1 y2
    go_wp2_with fail
    refine (HZ _ (l.below B13.bel (Nat.le_refl _))).out.mono ?_
    rintro e' w14 ⟨nt, zt, xt, at', ct, rfl, ft, lt, h14⟩
    have B14 := B13.keep h14
    clear h14 B13 s0c s1 s2
    go_wp2_with fail
    refine (HV _ _ _ _ _ _ ft lt).out.mono ?_
    rintro e' w15 ⟨rfl, h15⟩
    have B15 := B14.keep h15
    clear h15 B14
    go_wp2_with fail
    refine (HLo _).out.mono ?_
    rintro e' w16 ⟨rfl, h16⟩
    have B16 := B15.keep h16
    clear h16 B15
    have hq2 : tuf < lo b + ((pr b : Nat) : Int) := by simpa using hq
    clear hq
    go_wp2
    go_ret2
    exact ⟨rfl, B16.bel⟩

theorem rd_inex (b : Bool) (m : Int) (n : Bool) (a : Option Addr) (c : Nat) (z : List Int) (ex s0 T u uf tu tuf W0 OV : Int) (w : World) (l : Lie w a z) (hT1 : -60000000 ≤ T) (hT2 : T ≤ 60000000) (htu1 : -100000000 ≤ tu) (htu2 : tu ≤ 100000000) (htf1 : -100000000 ≤ tuf) (htf2 : tuf ≤ 100000000) (hs0 : (s0 == 0) = false)
    (KS : ∀ W, Calls Tryz.prog 23 #[dV n a z.length c ex] W fun e' w' => e' = .returned (.int .i64 s0) ∧ Below W.heap.size W w')
    (KT : ∀ W, Lie W a z → Calls Tryz.prog 55 #[dV n a z.length c ex] W fun e' w' => e' = .returned (.int .i64 T) ∧ Below W.heap.size W w')
    (KY : ∀ W, Lie W a z → Calls Tryz.prog 57 #[.int .u8 m, dV n a z.length c ex, .int .i64 (ulp b T)] W fun e' w' => RF W w' (sv n u) (ulp b T) e')
    (KU : ∀ ny zy xy ay cy W, Fm (sv n u) (ulp b T) ny zy xy → Lie W ay zy → Calls Tryz.prog 55 #[dV ny ay (List.length zy) cy xy] W fun e' w' => e' = .returned (.int .i64 tu) ∧ Below W.heap.size W w')
    (ho : ¬ hi b < tu) (V0 : Int)
    (KF : ∀ ny zy xy ay cy W, Fm (sv n u) (ulp b T) ny zy xy → Lie W ay zy → Calls Tryz.prog 59 #[.int .u8 (fm b), dV false ay (List.length zy) cy xy] W fun e' w' => e' = .returned (.tuple #[.int .u64 V0, .bool true]) ∧ Below W.heap.size W w')
    (KG : ∀ W, Calls Tryz.prog 31 #[.int .u8 (fm b), .int .u64 V0, .bool n] W fun e' w' => e' = .returned (.int .u64 W0) ∧ Below W.heap.size W w')
    (KE : ∀ ny zy xy ay cy W, Fm (sv n u) (ulp b T) ny zy xy → Lie W ay zy → Lie W a z → Calls Tryz.prog 21 #[dV n a z.length c ex, dV ny ay (List.length zy) cy xy] W fun e' w' => e' = .returned (.bool false) ∧ Below W.heap.size W w')
    (hq : decide (tuf < lo b + (pr b : Nat)) = false)
    (KZ : ∀ W, Lie W a z → Calls Tryz.prog 57 #[.int .u8 m, dV n a z.length c ex, .int .i64 (T - (pr b : Nat))] W fun e' w' => RF W w' (sv n uf) (T - (pr b : Nat)) e')
    (KV : ∀ ny zy xy ay cy W, Fm (sv n uf) (T - (pr b : Nat)) ny zy xy → Lie W ay zy → Calls Tryz.prog 55 #[dV ny ay (List.length zy) cy xy] W fun e' w' => e' = .returned (.int .i64 tuf) ∧ Below W.heap.size W w') :
    Calls Tryz.prog 19 #[.int .u8 (fm b), .int .u8 m, dV n a z.length c ex] w fun e' w' => e' = .returned (.tuple #[.int .u64 W0, .int .u8 16]) ∧ Below w.heap.size w w' := by
  have HS := fun W => Hide.mk (KS W)
  have HT := fun W l => Hide.mk (KT W l)
  have HY := fun W l => Hide.mk (KY W l)
  have HU := fun ny zy xy ay cy W f l => Hide.mk (KU ny zy xy ay cy W f l)
  have HF := fun ny zy xy ay cy W f l => Hide.mk (KF ny zy xy ay cy W f l)
  have HG := fun W => Hide.mk (KG W)
  have HEq := fun ny zy xy ay cy W f l1 l2 => Hide.mk (KE ny zy xy ay cy W f l1 l2)
  have HZ := fun W l => Hide.mk (KZ W l)
  have HV := fun ny zy xy ay cy W f l => Hide.mk (KV ny zy xy ay cy W f l)
  clear KS KT KY KU KF KG KE KZ KV
  have HAb := fun (ny : Bool) (ay : Option Addr) (cy ky : Nat) (xy : Int) W => Hide.mk (rAbsD ny ay cy ky xy W)
  have hpb := pr_bd b
  have hlo := lo_bd b
  have hp1 : 24 ≤ ((pr b : Nat) : Int) := by omega
  have hp2 : ((pr b : Nat) : Int) ≤ 53 := by omega
  have hub := ulp_ge b T
  have hu1 : -70000000 ≤ ulp b T := by omega
  have hu2 : ulp b T ≤ 70000000 := by omega
  have HFr : ∀ W, Hide (Calls Tryz.prog 54 #[.int .u8 (fm b)] W fun e' w' => e' = .returned (.int .i64 ((pr b : Nat) - 1)) ∧ Below W.heap.size W w') := fun W => ⟨by
    have := rFrac b W
    rw [show fc b = ((pr b : Nat) : Int) - 1 by have := fc_pr b; omega] at this
    exact this⟩
  have HWi : ∀ W, Hide (Calls Tryz.prog 58 #[.int .u8 (fm b)] W fun e' w' => e' = .returned (.int .i64 (hi b)) ∧ Below W.heap.size W w') := fun W => ⟨by
    have := rWide b W
    rw [hi_wd] at this
    exact this⟩
  have HLo := fun W => Hide.mk (rLow b W)
  have B1 := (Bx.nil w).push (DO n a z.length c ex)
  by_cases hc : T - ((pr b : Nat) : Int) < lo b
  · have HE : Hide (lo b = ulp b T) := ⟨by unfold ulp; omega⟩
    obtain ⟨⟨s0c, s1, s2⟩, _⟩ := cells3 B1 w.heap.size _ _ _ _ (.head _)
    go_enter Tryz.func19, Tryz.ntmps19
    go_wp2_with fail
    refine (HS _).out.mono ?_
    rintro e' w2 ⟨rfl, h2⟩
    have B2 := B1.keep h2
    clear h2 B1 s0c s1 s2 HS
    go_wp2_with fail
    refine (HFr _).out.mono ?_
    rintro e' w3 ⟨rfl, h3⟩
    have B3 := B2.keep h3
    clear h3 B2 HFr
    obtain ⟨⟨s0c, s1, s2⟩, _⟩ := cells3 B3 w.heap.size _ _ _ _ (.head _)
    go_wp2_with fail
    refine (HT _ (l.below B3.bel (Nat.le_refl _))).out.mono ?_
    rintro e' w4 ⟨rfl, h4⟩
    have B4 := B3.keep h4
    clear h4 B3 s0c s1 s2 HT
    go_wp2_with fail
    refine (HLo _).out.mono ?_
    rintro e' w5 ⟨rfl, h5⟩
    have B5 := B4.keep h5
    clear h5 B4
    go_wp2_with fail
    refine (HLo _).out.mono ?_
    rintro e' w6 ⟨rfl, h6⟩
    have B6 := B5.keep h6
    clear h6 B5
    obtain ⟨⟨s0c, s1, s2⟩, _⟩ := cells3 B6 w.heap.size _ _ _ _ (.head _)
    go_wp2_with fail
    rw [HE.out]
    refine (HY _ (l.below B6.bel (Nat.le_refl _))).out.mono ?_
    rintro e' w7 ⟨ny, zy, xy, ay, cy, rfl, fy, ly, h7⟩
    have B7 := (B6.keep h7).push (DO ny ay zy.length cy xy)
    have hlt : w.heap.size < w7.heap.size := (B6.keep h7).lt (.head _)
    replace ly := ly.below (below_alloc w7 (DO ny ay zy.length cy xy)) (Nat.le_refl _)
    have FY := Hide.mk fy
    clear h7 B6 s0c s1 s2 HY fy
    obtain ⟨⟨y0, y1, y2⟩, _⟩ := cells3 B7 w7.heap.size _ _ _ _ (.head _)
    go_wp2_with fail
    refine (HU _ _ _ _ _ _ FY.out ly).out.mono ?_
    rintro e' w8 ⟨rfl, h8⟩
    have B8 := B7.keep h8
    replace ly := ly.below h8 (Nat.le_refl _)
    clear h8 B7 y0 y1 y2 HU
    generalize w7.heap.size = gy at *
    go_wp2_with fail
    refine (HWi _).out.mono ?_
    rintro e' w9 ⟨rfl, h9⟩
    have B9 := B8.keep h9
    replace ly := ly.below h9 (Nat.le_refl _)
    clear h9 B8 HWi
    obtain ⟨⟨s0c, s1, s2⟩, _⟩ := cells3 B9 w.heap.size _ _ _ _ (.tail _ (.head _))
    obtain ⟨⟨y0, y1, y2⟩, _⟩ := cells3 B9 gy _ _ _ _ (.head _)
    go_wp2_with fail
    refine (HAb _ _ _ _ _ _).out.mono ?_
    rintro e' w10 ⟨rfl, hh⟩
    have B10 := B9.keep hh
    replace ly := ly.below hh (Nat.le_refl _)
    clear hh B9 s0c s1 s2 y0 y1 y2
    obtain ⟨⟨s0c, s1, s2⟩, _⟩ := cells3 B10 w.heap.size _ _ _ _ (.tail _ (.head _))
    obtain ⟨⟨y0, y1, y2⟩, _⟩ := cells3 B10 gy _ _ _ _ (.head _)
    go_wp2_with fail
    refine (HF _ _ _ _ _ _ FY.out ly).out.mono ?_
    rintro e' w11 ⟨rfl, hh⟩
    have B11 := B10.keep hh
    replace ly := ly.below hh (Nat.le_refl _)
    clear hh B10 s0c s1 s2 y0 y1 y2
    obtain ⟨⟨s0c, s1, s2⟩, _⟩ := cells3 B11 w.heap.size _ _ _ _ (.tail _ (.head _))
    obtain ⟨⟨y0, y1, y2⟩, _⟩ := cells3 B11 gy _ _ _ _ (.head _)
    go_wp2_with fail
    refine (HG _).out.mono ?_
    rintro e' w12 ⟨rfl, hh⟩
    have B12 := B11.keep hh
    replace ly := ly.below hh (Nat.le_refl _)
    clear hh B11 s0c s1 s2 y0 y1 y2
    obtain ⟨⟨s0c, s1, s2⟩, _⟩ := cells3 B12 w.heap.size _ _ _ _ (.tail _ (.head _))
    obtain ⟨⟨y0, y1, y2⟩, _⟩ := cells3 B12 gy _ _ _ _ (.head _)
    go_wp2_with fail
    refine (HEq _ _ _ _ _ _ FY.out ly (l.below B12.bel (Nat.le_refl _))).out.mono ?_
    rintro e' w13 ⟨rfl, hh⟩
    have B13 := B12.keep hh
    replace ly := ly.below hh (Nat.le_refl _)
    clear hh B12 s0c s1 s2 y0 y1 y2
    obtain ⟨⟨s0c, s1, s2⟩, _⟩ := cells3 B13 w.heap.size _ _ _ _ (.tail _ (.head _))
    obtain ⟨⟨y0, y1, y2⟩, _⟩ := cells3 B13 gy _ _ _ _ (.head _)
    clear y0 y1 y2
    go_wp2_with fail
    refine (HZ _ (l.below B13.bel (Nat.le_refl _))).out.mono ?_
    rintro e' w14 ⟨nt, zt, xt, at', ct, rfl, ft, lt, h14⟩
    have B14 := B13.keep h14
    clear h14 B13 s0c s1 s2
    go_wp2_with fail
    refine (HV _ _ _ _ _ _ ft lt).out.mono ?_
    rintro e' w15 ⟨rfl, h15⟩
    have B15 := B14.keep h15
    clear h15 B14
    go_wp2_with fail
    refine (HLo _).out.mono ?_
    rintro e' w16 ⟨rfl, h16⟩
    have B16 := B15.keep h16
    clear h16 B15
    have hq2 : ¬ tuf < lo b + ((pr b : Nat) : Int) := by simpa using hq
    clear hq
    go_wp2
    go_ret2
    exact ⟨rfl, B16.bel⟩
  · have HE : Hide (T - ((pr b : Nat) : Int) = ulp b T) := ⟨by unfold ulp; omega⟩
    simp only [HE.out] at HZ HV
    obtain ⟨⟨s0c, s1, s2⟩, _⟩ := cells3 B1 w.heap.size _ _ _ _ (.head _)
    go_enter Tryz.func19, Tryz.ntmps19
    go_wp2_with fail
    refine (HS _).out.mono ?_
    rintro e' w2 ⟨rfl, h2⟩
    have B2 := B1.keep h2
    clear h2 B1 s0c s1 s2 HS
    go_wp2_with fail
    refine (HFr _).out.mono ?_
    rintro e' w3 ⟨rfl, h3⟩
    have B3 := B2.keep h3
    clear h3 B2 HFr
    obtain ⟨⟨s0c, s1, s2⟩, _⟩ := cells3 B3 w.heap.size _ _ _ _ (.head _)
    go_wp2_with fail
    refine (HT _ (l.below B3.bel (Nat.le_refl _))).out.mono ?_
    rintro e' w4 ⟨rfl, h4⟩
    have B4 := B3.keep h4
    clear h4 B3 s0c s1 s2 HT
    go_wp2_with fail
    refine (HLo _).out.mono ?_
    rintro e' w5 ⟨rfl, h5⟩
    have B5 := B4.keep h5
    clear h5 B4
    have B6 := B5
    clear B5
    obtain ⟨⟨s0c, s1, s2⟩, _⟩ := cells3 B6 w.heap.size _ _ _ _ (.head _)
    go_wp2_with fail
    rw [HE.out]
    refine (HY _ (l.below B6.bel (Nat.le_refl _))).out.mono ?_
    rintro e' w7 ⟨ny, zy, xy, ay, cy, rfl, fy, ly, h7⟩
    have B7 := (B6.keep h7).push (DO ny ay zy.length cy xy)
    have hlt : w.heap.size < w7.heap.size := (B6.keep h7).lt (.head _)
    replace ly := ly.below (below_alloc w7 (DO ny ay zy.length cy xy)) (Nat.le_refl _)
    have FY := Hide.mk fy
    clear h7 B6 s0c s1 s2 HY fy
    obtain ⟨⟨y0, y1, y2⟩, _⟩ := cells3 B7 w7.heap.size _ _ _ _ (.head _)
    go_wp2_with fail
    refine (HU _ _ _ _ _ _ FY.out ly).out.mono ?_
    rintro e' w8 ⟨rfl, h8⟩
    have B8 := B7.keep h8
    replace ly := ly.below h8 (Nat.le_refl _)
    clear h8 B7 y0 y1 y2 HU
    generalize w7.heap.size = gy at *
    go_wp2_with fail
    refine (HWi _).out.mono ?_
    rintro e' w9 ⟨rfl, h9⟩
    have B9 := B8.keep h9
    replace ly := ly.below h9 (Nat.le_refl _)
    clear h9 B8 HWi
    obtain ⟨⟨s0c, s1, s2⟩, _⟩ := cells3 B9 w.heap.size _ _ _ _ (.tail _ (.head _))
    obtain ⟨⟨y0, y1, y2⟩, _⟩ := cells3 B9 gy _ _ _ _ (.head _)
    go_wp2_with fail
    refine (HAb _ _ _ _ _ _).out.mono ?_
    rintro e' w10 ⟨rfl, hh⟩
    have B10 := B9.keep hh
    replace ly := ly.below hh (Nat.le_refl _)
    clear hh B9 s0c s1 s2 y0 y1 y2
    obtain ⟨⟨s0c, s1, s2⟩, _⟩ := cells3 B10 w.heap.size _ _ _ _ (.tail _ (.head _))
    obtain ⟨⟨y0, y1, y2⟩, _⟩ := cells3 B10 gy _ _ _ _ (.head _)
    go_wp2_with fail
    refine (HF _ _ _ _ _ _ FY.out ly).out.mono ?_
    rintro e' w11 ⟨rfl, hh⟩
    have B11 := B10.keep hh
    replace ly := ly.below hh (Nat.le_refl _)
    clear hh B10 s0c s1 s2 y0 y1 y2
    obtain ⟨⟨s0c, s1, s2⟩, _⟩ := cells3 B11 w.heap.size _ _ _ _ (.tail _ (.head _))
    obtain ⟨⟨y0, y1, y2⟩, _⟩ := cells3 B11 gy _ _ _ _ (.head _)
    go_wp2_with fail
    refine (HG _).out.mono ?_
    rintro e' w12 ⟨rfl, hh⟩
    have B12 := B11.keep hh
    replace ly := ly.below hh (Nat.le_refl _)
    clear hh B11 s0c s1 s2 y0 y1 y2
    obtain ⟨⟨s0c, s1, s2⟩, _⟩ := cells3 B12 w.heap.size _ _ _ _ (.tail _ (.head _))
    obtain ⟨⟨y0, y1, y2⟩, _⟩ := cells3 B12 gy _ _ _ _ (.head _)
    go_wp2_with fail
    refine (HEq _ _ _ _ _ _ FY.out ly (l.below B12.bel (Nat.le_refl _))).out.mono ?_
    rintro e' w13 ⟨rfl, hh⟩
    have B13 := B12.keep hh
    replace ly := ly.below hh (Nat.le_refl _)
    clear hh B12 s0c s1 s2 y0 y1 y2
    obtain ⟨⟨s0c, s1, s2⟩, _⟩ := cells3 B13 w.heap.size _ _ _ _ (.tail _ (.head _))
    obtain ⟨⟨y0, y1, y2⟩, _⟩ := cells3 B13 gy _ _ _ _ (.head _)
    clear y0 y1 y2
    go_wp2_with fail
    refine (HZ _ (l.below B13.bel (Nat.le_refl _))).out.mono ?_
    rintro e' w14 ⟨nt, zt, xt, at', ct, rfl, ft, lt, h14⟩
    have B14 := B13.keep h14
    clear h14 B13 s0c s1 s2
    go_wp2_with fail
    refine (HV _ _ _ _ _ _ ft lt).out.mono ?_
    rintro e' w15 ⟨rfl, h15⟩
    have B15 := B14.keep h15
    clear h15 B14
    go_wp2_with fail
    refine (HLo _).out.mono ?_
    rintro e' w16 ⟨rfl, h16⟩
    have B16 := B15.keep h16
    clear h16 B15
    have hq2 : ¬ tuf < lo b + ((pr b : Nat) : Int) := by simpa using hq
    clear hq
    go_wp2
    go_ret2
    exact ⟨rfl, B16.bel⟩

theorem half_of {X ex e E : Int} {k j : Nat} (hX : 0 < X) (hE : E + k = e) (hj : E + j = ex) (h0 : k = 0 ∨ j = 0) : HalfAt (X * 2 ^ j) (2 ^ k) (qf X 1 (ex + 1 - e)) (qg X 1 (ex + 1 - e)) := by
  refine ⟨p2pos k, Int.mul_pos hX (p2pos j), ?_⟩
  unfold qf qg
  rw [Int.one_mul]
  by_cases c : k = 0
  · subst c
    rw [show (ex + 1 - e).toNat = j + 1 by omega, show (-(ex + 1 - e)).toNat = 0 by omega, Int.pow_zero, Int.ediv_one, Int.emod_one, Int.pow_succ]
    refine ⟨0, ?_, by omega, by omega, by simp⟩
    generalize (2 : Int) ^ j = P
    grind
  · obtain rfl : j = 0 := by omega
    obtain ⟨k, rfl⟩ : ∃ i, k = i + 1 := ⟨k - 1, by omega⟩
    rw [show (ex + 1 - e).toNat = 0 by omega, show (-(ex + 1 - e)).toNat = k by omega, Int.pow_zero, Int.mul_one]
    have h1 := Int.mul_ediv_add_emod X (2 ^ k)
    have hp := p2pos k
    have h2 := Int.emod_nonneg X (show (2 : Int) ^ k ≠ 0 by omega)
    have h3 := Int.emod_lt_of_pos X hp
    rw [Int.pow_succ]
    generalize X % 2 ^ k = r at *
    generalize X / 2 ^ k = q at *
    generalize (2 : Int) ^ k = P at *
    refine ⟨2 * r, by rw [← h1]; grind, by omega, by omega, ?_⟩
    by_cases z : r = 0
    · subst z; simp
    · rw [decide_eq_true z, decide_eq_true (show 2 * r ≠ 0 by omega)]
theorem qf1_bits {X : Int} {B k : Nat} (hX : 0 < X) (hB : BitLen X B) (i : Int) (hk : (k : Int) = B + i) : BitLen (qf X 1 i) k := by
  unfold qf
  rw [Int.one_mul]
  have h1 := (hB.up hX i.toNat).down (-i).toNat
  rw [show B + i.toNat - (-i).toNat = k by omega] at h1
  exact h1
theorem fitsH (b : Bool) (T : Int) {h : Int} (h0 : 0 ≤ h) (h1 : h < 2 ^ (pr b + 1)) (h2 : ulp b T ≠ lo b → 2 ^ pr b ≤ h) (m : Int) (n g : Bool) :
    0 ≤ tk m n h g ∧ tk m n h g ≤ 2 ^ pr b ∧ (ulp b T ≠ lo b → 2 ^ (pr b - 1) ≤ tk m n h g) := by
  have hp := pr_bd b
  have h4 := tk_bd m n h g
  have h5 := halfu_lt h1
  refine ⟨by omega, by omega, fun c => ?_⟩
  have h6 := h2 c
  rw [show pr b = pr b - 1 + 1 by omega] at h6
  have := halfu_ge h6
  omega
theorem word_bd (b : Bool) {u unit : Int} {L : Nat} (hL : BitLen u L) (h0 : 0 ≤ u) (h1 : u ≤ 2 ^ pr b) (h2 : unit ≠ lo b → 2 ^ (pr b - 1) ≤ u) (h3 : lo b ≤ unit) (h4 : (L : Int) + unit ≤ hi b) :
    0 ≤ (unit - lo b) * fr b + u ∧ (unit - lo b) * fr b + u < sg b := by
  by_cases e : unit = lo b
  · subst e
    rw [Int.sub_self, Int.zero_mul, Int.zero_add]
    refine ⟨h0, ?_⟩
    cases b <;> simp only [pr, sg] at * <;> omega
  · have hl := bl_ge hL (h2 e)
    have hp := pr_bd b
    have hu : unit - lo b ≤ hi b - pr b - lo b := by omega
    have hd : 0 ≤ unit - lo b := by omega
    generalize unit - lo b = d at *
    cases b <;> simp only [pr, sg, fr, hi, lo] at * <;> omega
theorem zero_taken {ny : Bool} {zy : List Int} {xy E : Int} {n : Bool} {u : Int} (h : u = 0) (F : Fm (sv n u) E ny zy xy) : ny = false ∧ zy = [] ∧ xy = 0 := by
  subst h
  rw [show sv n 0 = 0 by cases n <;> rfl] at F
  exact F.zero
theorem rRound (b : Bool) (m : Int) (hm : Mode m) (n : Bool) (a : Option Addr) (c : Nat) (z : List Int) (ex T : Int) (w : World) (l : Lie w a z) (hcz : Nt.Can z) (hodd0 : Nt.val z % 2 = 1) (hx1 : -39980000 ≤ ex) (hx2 : ex ≤ 39980000) (hz : 0 < z.length) {B : Nat} (hB : BitLen (Nt.val z) B) (hB2 : B ≤ 9700) (hT : T = B + ex) {H I : Int} {G J : Bool} (hH : H = qf (Nt.val z) 1 (ex + 1 - ulp b T)) (hG : G = qg (Nt.val z) 1 (ex + 1 - ulp b T)) (hI : I = qf (Nt.val z) 1 (ex + 1 - (T - pr b))) (hJ : J = qg (Nt.val z) 1 (ex + 1 - (T - pr b))) :
    Calls Tryz.prog 19 #[.int .u8 (fm b), .int .u8 m, dV n a z.length c ex] w fun e' w' => e' = .returned (.tuple #[.int .u64 (rdW b m n T H G), .int .u8 (rdX b m n T H G I J)]) ∧ Below w.heap.size w w' := by
  have hp : 0 < Nt.val z := by
    have := can_ge hcz hz
    have := Nt.pw_pos (z.length - 1)
    omega
  have hlz : z.length ≤ 400 := by
    refine (Nt.can_len hcz 400).1 ?_
    rw [show (4294967296 : Int) = 2 ^ 32 from rfl, ← Int.pow_mul]
    rcases hB with ⟨h, _⟩ | ⟨_, h⟩
    · omega
    · exact Int.lt_of_lt_of_le h.lt (p2le (by omega))
  have hpb := pr_bd b
  have hlo := lo_bd b
  have hub := ulp_ge b T
  have hi1 : 128 ≤ hi b ∧ hi b ≤ 1024 := by cases b <;> simp [hi]
  have hB0 : 0 < B := by
    rcases hB with ⟨h, _⟩ | ⟨_, h⟩
    · omega
    · refine Nat.pos_of_ne_zero fun z => ?_
      have := h.lt
      rw [z, Int.pow_zero] at this
      omega
  have hXB : Nt.val z < 2 ^ B := by
    rcases hB with ⟨h, _⟩ | ⟨_, h⟩
    · omega
    · exact h.lt
  have tkn : ∀ e : Int, (e = ulp b T ∨ e = T - pr b) → ∃ (E : Int) (k : Nat), E + k = e ∧ Fm (sv n (Nt.val z * 2 ^ (ex - E).toNat)) E n z ex ∧ HalfAt (Nt.val z * 2 ^ (ex - E).toNat) (2 ^ k) (qf (Nt.val z) 1 (ex + 1 - e)) (qg (Nt.val z) 1 (ex + 1 - e)) ∧ -42000000 ≤ E ∧ E ≤ 42000000 ∧ 0 ≤ qf (Nt.val z) 1 (ex + 1 - e) ∧ qf (Nt.val z) 1 (ex + 1 - e) < 2 ^ (pr b + 1) ∧ (e = T - pr b → 2 ^ pr b ≤ qf (Nt.val z) 1 (ex + 1 - e)) ∧ ∀ W, Lie W a z → Calls Tryz.prog 57 #[.int .u8 m, dV n a z.length c ex, .int .i64 e] W fun e' w' => RF W w' (sv n (tk m n (qf (Nt.val z) 1 (ex + 1 - e)) (qg (Nt.val z) 1 (ex + 1 - e)))) e e' := by
    intro e he
    have he1 : T - pr b ≤ e := by rcases he with h | h <;> omega
    have he2 : e = lo b ∨ e = T - pr b := by rcases he with h | h <;> omega
    obtain ⟨E, hE⟩ : ∃ E, E = min ex e := ⟨_, rfl⟩
    obtain ⟨k, hk⟩ : ∃ k : Nat, E + k = e := ⟨(e - E).toNat, by omega⟩
    obtain ⟨j, hj⟩ : ∃ j : Nat, E + j = ex := ⟨(ex - E).toNat, by omega⟩
    have hjj : (ex - E).toNat = j := by omega
    have hF : Fm (sv n (Nt.val z * 2 ^ j)) E n z ex := by
      have h0 : Fm (sv n (Nt.val z)) ex n z ex := by
        refine .inr ⟨fun c => by rw [sv_zero] at c; omega, 0, by rw [sv_abs _ (by omega)]; exact odd_low hodd0, (sv_neg n hp).symm, by omega, hcz, by rw [sv_abs _ (by omega)]; simp⟩
      have := h0
      rw [← hj] at this
      have := this.scale
      rw [sv_mulP, hj] at this
      exact this
    have hH := half_of (X := Nt.val z) (ex := ex) (e := e) (E := E) (k := k) (j := j) hp hk hj (by omega)
    have q0 : 0 ≤ qf (Nt.val z) 1 (ex + 1 - e) := by
      unfold qf
      exact Int.ediv_nonneg (Int.mul_nonneg (by omega) (Int.le_of_lt (p2pos _))) (by rw [Int.one_mul]; exact Int.le_of_lt (p2pos _))
    have q1 : qf (Nt.val z) 1 (ex + 1 - e) < 2 ^ (pr b + 1) := by
      by_cases q : 0 ≤ (B : Int) + (ex + 1 - e)
      · obtain ⟨v, hv⟩ : ∃ v : Nat, (v : Int) = B + (ex + 1 - e) := ⟨((B : Int) + (ex + 1 - e)).toNat, by omega⟩
        rcases qf1_bits hp hB _ hv with ⟨h, _⟩ | ⟨_, h⟩
        · rw [h]; exact p2pos _
        · exact Int.lt_of_lt_of_le h.lt (p2le (by omega))
      · have : qf (Nt.val z) 1 (ex + 1 - e) = 0 := by
          unfold qf
          rw [Int.one_mul, show (ex + 1 - e).toNat = 0 by omega, Int.pow_zero, Int.mul_one]
          exact Int.ediv_eq_zero_of_lt (by omega) (Int.lt_of_lt_of_le hXB (p2le (by omega)))
        rw [this]; exact p2pos _
    have q2 : e = T - pr b → 2 ^ pr b ≤ qf (Nt.val z) 1 (ex + 1 - e) := by
      intro q
      rcases qf1_bits (k := pr b + 1) hp hB (ex + 1 - e) (by omega) with ⟨_, h⟩ | ⟨_, h⟩
      · omega
      · have := h.le
        rw [Int.pow_succ] at this
        omega
    refine ⟨E, k, hk, by rw [hjj]; exact hF, by rw [hjj]; exact hH, by omega, by omega, q0, q1, q2, fun W hW => ?_⟩
    refine rTaken m hm n a c z ex e W hW hk hcz (by omega) (by omega) (by omega) (by omega) hF hH (M := max (B + j) k) ?_ (by omega) (by omega) (by omega) (by omega) (Int.lt_of_lt_of_le q1 (p2le (by omega))) (by omega) (by omega)
    have h9 : Nt.val z * 2 ^ j < 2 ^ B * 2 ^ j := Int.mul_lt_mul_of_pos_right hXB (p2pos j)
    rw [← Int.pow_add] at h9
    exact Int.lt_of_lt_of_le h9 (p2le (by omega))
  obtain ⟨E1, k1, hk1, F1, H1, lE1, uE1, q0, q1, q2, KY⟩ := tkn (ulp b T) (.inl rfl)
  obtain ⟨E2, k2, hk2, F2, H2, lE2, uE2, i0, i1, i2, KZ⟩ := tkn (T - pr b) (.inr rfl)
  clear tkn
  rw [← hH, ← hG] at H1 KY
  rw [← hH] at q0 q1 q2
  rw [← hI, ← hJ] at H2 KZ
  rw [← hI] at i0 i1 i2
  have q3 : ulp b T ≠ lo b → 2 ^ pr b ≤ H := fun q => q2 (by omega)
  obtain ⟨t1, t2, t3⟩ := fitsH b T q0 q1 q3 m n G
  obtain ⟨v1, v2, _⟩ := fitsH b T i0 i1 (fun _ => i2 rfl) m n J
  have v3 : 2 ^ (pr b - 1) ≤ tk m n I J := by
    have h6 := i2 rfl
    rw [show pr b = pr b - 1 + 1 by omega] at h6
    have := halfu_ge h6
    have := tk_bd m n I J
    omega
  have pp := p2pos (pr b - 1)
  have p53 := p2le hpb.2
  unfold rdW rdX
  have hsame : decide (sv n (Nt.val z * 2 ^ (ex - E1).toNat) = sv n (tk m n H G) * 2 ^ k1) = decide (plc H G = 0) := by
    obtain ⟨d1, d2, _⟩ := H1.flr_bd n
    by_cases hpl : plc H G = 0
    · have et : sv n (tk m n H G) = flr n H G := by
        unfold tk flr
        rw [if_pos hpl, if_pos hpl]
        cases n <;> simp [sv_t, sv_f]
      rw [decide_eq_true hpl, et]
      exact decide_eq_true (d1.1 hpl).symm
    · rw [decide_eq_false hpl]
      refine decide_eq_false fun q => ?_
      have := taken_is m n H G hm hpl
      rw [this] at q
      have d := d2 hpl
      have pk := p2pos k1
      rw [Int.add_mul] at q
      split at q
      · rw [Int.one_mul] at q; omega
      · rw [Int.zero_mul] at q; omega
  generalize hu : tk m n H G = u at *
  generalize huf : tk m n I J = uf at *
  obtain ⟨L, hL⟩ := bitLen_ex t1
  obtain ⟨Lf, hLf⟩ := bitLen_ex v1
  have hL2 := bl_le hL (show u < 2 ^ 54 by omega)
  have hLf2 := bl_le hLf (show uf < 2 ^ 54 by omega)
  have ko := bl_lt_iff hL (hi b - ulp b T) (by
    by_cases c : ulp b T = lo b
    · exact .inl (by omega)
    · exact .inr (by have := t3 c; omega))
  have kf := bl_lt_iff hLf (lo b + pr b - 1 - (T - pr b)) (.inr (by omega))
  have KS : ∀ W, Calls Tryz.prog 23 #[dV n a z.length c ex] W fun e' w' => e' = .returned (.int .i64 (if n then -1 else 1)) ∧ Below W.heap.size W w' := fun W => by
    cases n
    · exact rSgnAny false a c z.length ex 1 (.inr (.inl ⟨hz, rfl, rfl⟩)) W
    · exact rSgnAny true a c z.length ex (-1) (.inr (.inr ⟨hz, rfl, rfl⟩)) W
  have hs1 : ((if n then (-1 : Int) else 1) == 0) = false := by cases n <;> rfl
  have KT : ∀ W, Lie W a z → Calls Tryz.prog 55 #[dV n a z.length c ex] W fun e' w' => e' = .returned (.int .i64 T) ∧ Below W.heap.size W w' := fun W hW => by
    have := rTopX n a c z ex W hW hcz hz (by omega) (by omega) (by omega) hB
    rw [show ex + (B : Int) = T by omega] at this
    exact this
  have top : ∀ (e : Int) (v : Int) (M : Nat), 0 ≤ v → BitLen v M → M ≤ 54 → -42000000 ≤ e → e ≤ 42000000 → ∀ ny zy xy ay cy W, Fm (sv n v) e ny zy xy → Lie W ay zy → Calls Tryz.prog 55 #[dV ny ay (List.length zy) cy xy] W fun e' w' => e' = .returned (.int .i64 (if v = 0 then 0 else e + M)) ∧ Below W.heap.size W w' := by
    intro e v M hv hM hM2 h1 h2 ny zy xy ay cy W f ly
    by_cases c0 : v = 0
    · obtain ⟨rfl, rfl, rfl⟩ := zero_taken c0 f
      rw [if_pos c0]
      exact rTopZ false ay cy 0 W
    · rw [if_neg c0]
      exact rTopF ny ay cy zy xy W ly f (fun q => c0 (by have := natAbs_sv n hv; rw [q] at this; simpa using this.symm)) (by rw [natAbs_sv n hv]; exact hM) (by omega) (by omega) (by omega)
  have KU := top (ulp b T) u L t1 hL (by omega) (by omega) (by omega)
  have KV := top (T - pr b) uf Lf v1 hLf (by omega) (by omega) (by omega)
  rw [if_neg (show ¬ uf = 0 by omega)] at KV
  have ho : (hi b < (if u = 0 then 0 else ulp b T + L)) = (2 ^ (hi b - ulp b T).toNat ≤ u) := by
    by_cases c0 : u = 0
    · rw [if_pos c0]
      have := p2pos (hi b - ulp b T).toNat
      exact propext ⟨fun _ => by omega, fun _ => by omega⟩
    · rw [if_neg c0]
      exact propext ⟨fun q => ko.1 (by omega), fun q => by have := ko.2 q; omega⟩
  have htu : -100000000 ≤ (if u = 0 then 0 else ulp b T + (L : Int)) ∧ (if u = 0 then 0 else ulp b T + (L : Int)) ≤ 100000000 := by split <;> omega
  by_cases c1 : 2 ^ (hi b - ulp b T).toNat ≤ u
  · rw [if_pos c1, if_pos c1]
    exact rd_over b m n a c z ex _ T u uf _ 0 0 _ w l (by omega) (by omega) htu.1 htu.2 (by omega) (by omega) hs1 KS KT KY KU (by rw [ho]; exact c1) (fun W => rOverP b m n hm W)
  · rw [if_neg c1, if_neg c1]
    have hLu : (L : Int) + ulp b T ≤ hi b ∨ u = 0 := by
      by_cases c0 : u = 0
      · exact .inr c0
      · exact .inl (by have := mt ko.1 c1; omega)
    have hLu2 : (L : Int) + ulp b T ≤ hi b := by
      rcases hLu with h | h
      · exact h
      · have e1 : ulp b T = lo b := Classical.byContradiction fun q => by have := t3 q; omega
        rw [e1]; omega
    obtain ⟨w1, w2⟩ := word_bd b hL t1 t2 t3 hub.2.1 hLu2
    have KF : ∀ ny zy xy ay cy W, Fm (sv n u) (ulp b T) ny zy xy → Lie W ay zy → Calls Tryz.prog 59 #[.int .u8 (fm b), dV false ay (List.length zy) cy xy] W fun e' w' => e' = .returned (.tuple #[.int .u64 ((ulp b T - lo b) * fr b + u), .bool true]) ∧ Below W.heap.size W w' := by
      intro ny zy xy ay cy W f ly
      by_cases c0 : u = 0
      · obtain ⟨rfl, rfl, rfl⟩ := zero_taken c0 f
        have e1 : ulp b T = lo b := Classical.byContradiction fun q => by have := t3 q; omega
        rw [c0, e1, Int.sub_self, Int.zero_mul, Int.zero_add]
        exact rOf_zero b ay cy W
      · have hne : sv n u ≠ 0 := fun q => c0 (by have := natAbs_sv n t1; rw [q] at this; simpa using this.symm)
        have hLa : BitLen ((sv n u).natAbs : Int) L := by rw [natAbs_sv n t1]; exact hL
        obtain ⟨t, rfl, ht, hc, hzy, hny, hv, hd, hlen⟩ := f.data hne hLa
        have hval : u = Nt.val zy * 2 ^ t := by
          have h8 := natAbs_sv n t1
          rw [← hv, natAbs_sv ny (Int.mul_nonneg (Nt.val_bd hc.1).1 (Int.le_of_lt (p2pos t)))] at h8
          exact h8.symm
        have hodd : Nt.val zy % 2 = 1 := by
          rcases f with ⟨q, _⟩ | ⟨_, t', ht', _, hx', _, hv'⟩
          · exact absurd q hne
          · rw [hv']; exact ht'.one
        have gy : DG false zy (ulp b T + t) := ⟨hc, by omega, .inr ⟨hzy, hodd, by omega, by omega⟩⟩
        have e1 : ((L - t : Nat) : Int) + (ulp b T + t) = L + ulp b T := by omega
        have hlt : hi b - pr b - lo b + 1 < tp b ∧ 1 < tp b := by cases b <;> decide
        have hun := ulp_ge b (L + ulp b T)
        have hus := unit_same b hL (by omega) t2 t3 hub.2.1
        obtain ⟨k, hk⟩ : ∃ k : Nat, (k : Int) = ulp b T + t - ulp b ((L - t : Nat) + (ulp b T + t)) := ⟨(ulp b T + t - ulp b ((L - t : Nat) + (ulp b T + t))).toNat, by
          rw [e1]
          rcases hus with ⟨e, _⟩ | ⟨e, eu⟩
          · omega
          · have : 1 ≤ t := by
              refine Classical.byContradiction fun c => ?_
              rw [show t = 0 by omega, Int.pow_zero, Int.mul_one] at hval
              rw [← hval, eu, show pr b = pr b - 1 + 1 by omega, Int.pow_succ] at hodd
              omega
            omega⟩
        have := rOf_ok b false ay cy zy (ulp b T + t) W ly gy hzy hd (by omega) (by rw [uu_ulp, e1]; omega) (by rw [uu_ulp]; omega) k (by rw [uu_ulp]; exact hk)
        rw [uu_ulp, word_same b hL (by omega) t2 t3 hub.2.1 hval rfl e1 hk] at this
        exact this
    have KG : ∀ W, Calls Tryz.prog 31 #[.int .u8 (fm b), .int .u64 ((ulp b T - lo b) * fr b + u), .bool n] W fun e' w' => e' = .returned (.int .u64 (sd b ((ulp b T - lo b) * fr b + u) n)) ∧ Below W.heap.size W w' := fun W => by
      have := rSignedP b ((ulp b T - lo b) * fr b + u) n ⟨w1, by omega⟩ W
      rw [show sz b ((ulp b T - lo b) * fr b + u) = (ulp b T - lo b) * fr b + u from Int.emod_eq_of_lt w1 w2] at this
      exact this
    have KE : ∀ q, decide (plc H G = 0) = q → ∀ ny zy xy ay cy W, Fm (sv n u) (ulp b T) ny zy xy → Lie W ay zy → Lie W a z → Calls Tryz.prog 21 #[dV n a z.length c ex, dV ny ay (List.length zy) cy xy] W fun e' w' => e' = .returned (.bool q) ∧ Below W.heap.size W w' := by
      intro q hq ny zy xy ay cy W f ly lx
      have f2 := f
      rw [← hk1] at f2
      have hl : zy.length ≤ 1000000 := by
        have := fm_len32 f (N := 55) ⟨by cases n <;> simp only [sv_t, sv_f] <;> omega, by cases n <;> simp only [sv_t, sv_f] <;> omega⟩
        omega
      exact sameF n ny a ay c cy z zy ex xy W lx ly F1 f2.scale (by omega) (by omega) q (by rw [hsame]; exact hq)
    by_cases c2 : plc H G = 0
    · rw [if_pos c2]
      exact rd_same b m n a c z ex _ T u uf _ 0 _ 0 w l (by omega) (by omega) htu.1 htu.2 (by omega) (by omega) hs1 KS KT KY KU (by rw [ho]; exact c1) _ KF KG (KE true (decide_eq_true c2))
    · rw [if_neg c2]
      by_cases c3 : uf < 2 ^ (lo b + pr b - 1 - (T - pr b)).toNat
      · rw [if_pos c3]
        exact rd_tiny b m n a c z ex _ T u uf _ _ _ 0 w l (by omega) (by omega) htu.1 htu.2 (by omega) (by omega) hs1 KS KT KY KU (by rw [ho]; exact c1) _ KF KG (KE false (decide_eq_false c2)) (decide_eq_true (by have := mt kf.1 (by omega); omega)) KZ KV
      · rw [if_neg c3]
        exact rd_inex b m n a c z ex _ T u uf _ _ _ 0 w l (by omega) (by omega) htu.1 htu.2 (by omega) (by omega) hs1 KS KT KY KU (by rw [ho]; exact c1) _ KF KG (KE false (decide_eq_false c2)) (decide_eq_false (by have := kf.2 (by omega); omega)) KZ KV

theorem lent4 (ng : Bool) (a : Option Addr) (ca : Nat) (za : List Int) (ex : Int) (w : World) (ha : Lie w a za) (hl : za.length ≤ 1000000) (hnil : a = none → ca = 0) :
    Calls Tryz.prog 13 #[dV ng a za.length ca ex] w fun e w' => ∃ a' c, e = .returned (dV ng a' za.length c ex) ∧ Lie w' a' za ∧ Below w.heap.size w w' ∧ Own w.heap.size w' (.slice a' za.length c) za := by
  obtain ⟨i0, hi, hz0, hz1, hz2⟩ := info_parts Tryz.info49
  obtain ⟨d1, d2, hs2⟩ := dcell2 w #[.bool ng, .slice a za.length ca, .int .i64 ex] #[.bool false, .slice none 0 0, .int .i64 0] rfl rfl
  have hb2 := below2 w (.cells #[.bool ng, .slice a za.length ca, .int .i64 ex] 26) (.cells #[.bool false, .slice none 0 0, .int .i64 0] 26)
  have hown := Hide.mk (own_none ((w.alloc (.cells #[.bool ng, .slice a za.length ca, .int .i64 ex] 26)).alloc (.cells #[.bool false, .slice none 0 0, .int .i64 0] 26)) (w.heap.size + 1 + 1) hs2)
  have hb3 := below_alloc ((w.alloc (.cells #[.bool ng, .slice a za.length ca, .int .i64 ex] 26)).alloc (.cells #[.bool false, .slice none 0 0, .int .i64 0] 26)) (.cells #[] 108)
  have e1 := Hide.mk (d1.below hb3 (by omega))
  have e2 := Hide.mk (d2.below hb3 (by omega))
  have hb4 := Hide.mk (below_then hb2 hb3)
  have hsz : Hide (w.heap.size + 1 + 1 ≤ (((w.alloc (.cells #[.bool ng, .slice a za.length ca, .int .i64 ex] 26)).alloc (.cells #[.bool false, .slice none 0 0, .int .i64 0] 26)).alloc (.cells #[] 108)).heap.size) := ⟨by have := hb3.size; omega⟩
  clear d1 d2 hb2 hb3
  cases a with
  | none =>
    have h0 := hnil rfl
    subst h0
    have hz : za = [] := by
      rcases ha with h | ⟨b, o, h, _⟩
      · exact h
      · cases h
    subst hz
    clear hs2
    go_enter Tryz.func13, Tryz.ntmps13
    go_wp2_with (at_builtin; refine wpList_append_own_none rfl (.tmp 3) (.tmp 5) 24 rfl (w.heap.size + 1 + 1) 108 i0 1 Tryz.underlying24 hi _ 0 [] rfl hown.out rfl ?_)
    obtain ⟨_, dd, hs⟩ := dcell2 w #[.bool ng, .slice (some ⟨w.heap.size + 1 + 1, 0, none⟩) 0 0, .int .i64 ex] #[.bool ng, .slice (some ⟨w.heap.size + 1 + 1, 0, none⟩) 0 0, .int .i64 ex] rfl rfl
    refine bodyPost_ret (results_D1 rfl _ _ (w.heap.size + 1) _ rfl (dd.below (below_alloc _ _) (by omega))) rfl ?_
    exact ⟨some ⟨w.heap.size + 1 + 1, 0, none⟩, 0, rfl, .inl rfl, below3 _ _ _ _, (own_none _ _ hs).mono (by omega)⟩
  | some ad =>
    have hs : Hide (∀ j v, (za.map (Value.int .u32))[j]? = some v → (((w.alloc (.cells #[.bool ng, .slice (some ad) za.length ca, .int .i64 ex] 26)).alloc (.cells #[.bool false, .slice none 0 0, .int .i64 0] 26)).alloc (.cells #[] 108)).cell? (ad.add j) = some v) := ⟨by
      by_cases h0 : 0 < za.length
      · obtain ⟨ad', e, h⟩ := (ha.below hb4.out (Nat.le_refl _)).src h0
        cases e
        exact h
      · have : za = [] := List.length_eq_zero_iff.1 (by omega)
        subst this
        intro j v h
        simp at h⟩
    have h1 := Hide.mk (oneCell_ints za)
    have hmm : Hide (0 + za.length ≤ maxLen) := ⟨by unfold maxLen; omega⟩
    clear ha hnil hs2
    go_enter Tryz.func13, Tryz.ntmps13
    go_wp2_with (at_builtin; refine wpList_append_own _ rfl (.tmp 3) (.tmp 5) 24 rfl (w.heap.size + 1 + 1) 108 i0 (.int .u32 0) 1 4 Tryz.underlying24 hi hz0 hz1 hz2 rfl (by decide) _ 0 [] rfl hown.out ad za.length ca (za.map (Value.int .u32)) rfl (by simp) hs.out h1.out hmm.out (by omega) (by simp) ?_; intro v' w1 hown' hgrow _; have hown2 : Own (w.heap.size + 1 + 1) w1 v' za := (by unfold Own; simpa using hown'); have hbb := own_grown hown.out hgrow (Below.refl (w.heap.size + 1 + 1) _) hsz.out; have HO := Hide.mk hown2; obtain ⟨a', c, rfl, _, _, _⟩ := hown2.lie; clear hown' hgrow; have g1 := e1.out.below hbb (by omega); have g2 := e2.out.below hbb (by omega); have f10 := g1.c0; have f11 := g1.c1; have f12 := g1.c2; have r10 := g1.fr 0; have r11 := g1.fr 1; have r12 := g1.fr 2; have f20 := g2.c0; have f21 := g2.c1; have f22 := g2.c2; have r20 := g2.fr 0; have r21 := g2.fr 1; have r22 := g2.fr 2; have HG := Hide.mk g2; have HBB := Hide.mk (hb4.out.trans (hbb.mono (by omega))); clear g1 g2 hbb hown2)
    refine bodyPost_ret (results_D1 rfl _ _ (w.heap.size + 1) _ rfl ((((HG.out.off (by omega) _).set 0 _).set 1 _).set 2 _)) rfl ?_
    obtain ⟨k1, k2, k3⟩ := lent_end (W := w) (g0 := w.heap.size) (g1 := w.heap.size + 1) HBB.out (Nat.le_refl _) (by omega) (B := w.heap.size + 1 + 1) (by omega) (by omega) HO.out (by omega) (.slice a' za.length c) (.bool ng) (.slice a' za.length c) (.int .i64 ex)
    exact ⟨a', c, rfl, k1, k2, k3⟩
theorem lLong4 (n : Bool) (a : Option Addr) (k c : Nat) (ex : Int) (w : World) (q : Bool) (hq : decide ((300 : Int) < (k : Int)) = q) :
    Calls Tryz.prog 11 #[dV n a k c ex] w fun e w' => e = .returned (.bool q) ∧ Below w.heap.size w w' := by
  have B1 := (Bx.nil w).push (DO n a k c ex)
  obtain ⟨⟨s0, s1, s2⟩, _⟩ := cells3 B1 w.heap.size _ _ _ _ (.head _)
  have HQ := Hide.mk hq
  clear hq
  go_enter Tryz.func11, Tryz.ntmps11
  go_wp2
  go_ret
  exact ⟨by first | rfl | simpa using HQ.out, B1.bel⟩
theorem rIs4 (m : Int) (q : Bool) (hm : Mode m ∧ q = true ∨ ¬ Mode m ∧ q = false) (w : World) :
    Calls Tryz.prog 51 #[.int .u8 m] w fun e w' => e = .returned (.bool q) ∧ Below w.heap.size w w' := by
  have h : (1 ≤ m ∧ m ≤ 5) ∧ q = true ∨ (¬ 1 ≤ m ∧ q = false) ∨ ((1 ≤ m ∧ ¬ m ≤ 5) ∧ q = false) := by
    unfold Mode at hm
    rcases hm with ⟨h, rfl⟩ | ⟨h, rfl⟩
    · exact .inl ⟨by omega, rfl⟩
    · by_cases c : 1 ≤ m
      · exact .inr (.inr ⟨⟨c, by omega⟩, rfl⟩)
      · exact .inr (.inl ⟨c, rfl⟩)
  clear hm
  rcases h with ⟨⟨h1, h2⟩, rfl⟩ | ⟨h1, rfl⟩ | ⟨⟨h1, h2⟩, rfl⟩
  · go_enter Tryz.func51, Tryz.ntmps51
    go_wp2
    go_ret
    exact ⟨by first | rfl | simp, Below.refl _ _⟩
  · go_enter Tryz.func51, Tryz.ntmps51
    go_wp2
    go_ret
    exact ⟨by first | rfl | simp, Below.refl _ _⟩
  · go_enter Tryz.func51, Tryz.ntmps51
    go_wp2
    go_ret
    exact ⟨by first | rfl | simp, Below.refl _ _⟩
def Opn (f m code : Int) : Prop := (Bad f ∧ code = 4) ∨ ∃ b, f = fm b ∧ ((¬ Mode m ∧ code = 5) ∨ (Mode m ∧ code = 0))
theorem lOpens_bad (f m code : Int) (sl : Value) (h : Opn f m code) (hc : (code == 0) = false) (w : World) :
    Calls Tryz.prog 16 #[.int .u8 f, .int .u8 m, sl] w fun e w' => e = .returned (.int .i64 code) ∧ Below w.heap.size w w' := by
  rcases h with ⟨hf, rfl⟩ | ⟨b, rfl, ⟨hm, rfl⟩ | ⟨hm, rfl⟩⟩
  · have H1 := fun W => Hide.mk (rIs_bad f hf W)
    go_enter Tryz.func16, Tryz.ntmps16
    go_wp2_with fail
    refine (H1 _).out.mono ?_
    rintro e w2 ⟨rfl, h2⟩
    go_wp2
    go_ret
    exact ⟨rfl, h2⟩
  · have H1 := fun W => Hide.mk (rIs b W)
    have H2 := fun W => Hide.mk (rIs4 m false (.inr ⟨hm, rfl⟩) W)
    go_enter Tryz.func16, Tryz.ntmps16
    go_wp2_with fail
    refine (H1 _).out.mono ?_
    rintro e w2 ⟨rfl, h2⟩
    have B2 := (Bx.nil w).keep h2
    go_wp2_with fail
    refine (H2 _).out.mono ?_
    rintro e w3 ⟨rfl, h3⟩
    have B3 := B2.keep h3
    go_wp2
    go_ret
    exact ⟨rfl, B3.bel⟩
  · exact absurd hc (by decide)
theorem lOpens2_no (b : Bool) (m : Int) (hm : Mode m) (g : Nat) (n1 : Bool) (a1 : Option Addr) (c1 : Nat) (z1 : List Int) (e1 : Int) (n2 : Bool) (a2 : Option Addr) (c2 : Nat) (z2 : List Int) (e2 : Int) (w : World) (h1 : DLie w a1 z1) (hq1 : dmayB n1 z1 e1 = false) (hg1 : At3 w g 0 n1 a1 z1.length c1 e1) :
    Calls Tryz.prog 16 #[.int .u8 (fm b), .int .u8 m, .slice (some ⟨g, 0, none⟩) 2 2] w fun e w' => e = .returned (.int .i64 2) ∧ Below w.heap.size w w' := by
  have H1 := fun W => Hide.mk (rIs b W)
  have H2 := fun W => Hide.mk (rIs4 m true (.inl ⟨hm, rfl⟩) W)
  have M1 := fun W (hW : Below w.heap.size w W) => Hide.mk (drefmay37 n1 a1 c1 z1 e1 W (h1.below hW) false hq1)
  have G1 := Hide.mk hg1
  clear h1 hq1 hg1
  go_enter Tryz.func16, Tryz.ntmps16
  go_wp2_with fail
  refine (H1 _).out.mono ?_
  rintro e w2 ⟨rfl, h2⟩
  have B2 := (Bx.nil w).keep h2
  go_wp2_with fail
  refine (H2 _).out.mono ?_
  rintro e w3 ⟨rfl, h3⟩
  have B3 := B2.keep h3
  clear h2 h3 B2 H1 H2
  obtain ⟨k0, k1, k2⟩ := G1.out.below B3.bel
  go_wp2
  refine wp_loop_rounds 4 ?_
  rw [rounds_succ]
  go_wp2_with fail
  refine (M1 _ B3.bel).out.mono ?_
  rintro e w4 ⟨rfl, hh⟩
  have B4 := B3.keep hh
  clear hh k0 k1 k2 B3
  go_wp2
  go_ret
  exact ⟨rfl, B4.bel⟩
theorem lOpens2_no2 (b : Bool) (m : Int) (hm : Mode m) (g : Nat) (n1 : Bool) (a1 : Option Addr) (c1 : Nat) (z1 : List Int) (e1 : Int) (n2 : Bool) (a2 : Option Addr) (c2 : Nat) (z2 : List Int) (e2 : Int) (w : World) (h1 : DLie w a1 z1) (hq1 : dmayB n1 z1 e1 = true) (hg1 : At3 w g 0 n1 a1 z1.length c1 e1) (h2 : DLie w a2 z2) (hq2 : dmayB n2 z2 e2 = false) (hg2 : At3 w g 3 n2 a2 z2.length c2 e2) :
    Calls Tryz.prog 16 #[.int .u8 (fm b), .int .u8 m, .slice (some ⟨g, 0, none⟩) 2 2] w fun e w' => e = .returned (.int .i64 2) ∧ Below w.heap.size w w' := by
  have H1 := fun W => Hide.mk (rIs b W)
  have H2 := fun W => Hide.mk (rIs4 m true (.inl ⟨hm, rfl⟩) W)
  have M1 := fun W (hW : Below w.heap.size w W) => Hide.mk (drefmay37 n1 a1 c1 z1 e1 W (h1.below hW) true hq1)
  have G1 := Hide.mk hg1
  clear h1 hq1 hg1
  have M2 := fun W (hW : Below w.heap.size w W) => Hide.mk (drefmay37 n2 a2 c2 z2 e2 W (h2.below hW) false hq2)
  have G2 := Hide.mk hg2
  clear h2 hq2 hg2
  go_enter Tryz.func16, Tryz.ntmps16
  go_wp2_with fail
  refine (H1 _).out.mono ?_
  rintro e w2 ⟨rfl, h2⟩
  have B2 := (Bx.nil w).keep h2
  go_wp2_with fail
  refine (H2 _).out.mono ?_
  rintro e w3 ⟨rfl, h3⟩
  have B3 := B2.keep h3
  clear h2 h3 B2 H1 H2
  obtain ⟨k0, k1, k2⟩ := G1.out.below B3.bel
  go_wp2
  refine wp_loop_rounds 4 ?_
  rw [rounds_succ]
  go_wp2_with fail
  refine (M1 _ B3.bel).out.mono ?_
  rintro e w4 ⟨rfl, hh⟩
  have B4 := B3.keep hh
  clear hh k0 k1 k2 B3
  obtain ⟨k0, k1, k2⟩ := G2.out.below B4.bel
  go_wp2_with fail
  rw [rounds_succ]
  go_wp2_with fail
  refine (M2 _ B4.bel).out.mono ?_
  rintro e w5 ⟨rfl, hh⟩
  have B5 := B4.keep hh
  clear hh k0 k1 k2 B4
  go_wp2
  go_ret
  exact ⟨rfl, B5.bel⟩
theorem lOpens2 (b : Bool) (m : Int) (hm : Mode m) (g : Nat) (n1 : Bool) (a1 : Option Addr) (c1 : Nat) (z1 : List Int) (e1 : Int) (n2 : Bool) (a2 : Option Addr) (c2 : Nat) (z2 : List Int) (e2 : Int) (w : World) (h1 : DLie w a1 z1) (hq1 : dmayB n1 z1 e1 = true) (hg1 : At3 w g 0 n1 a1 z1.length c1 e1) (h2 : DLie w a2 z2) (hq2 : dmayB n2 z2 e2 = true) (hg2 : At3 w g 3 n2 a2 z2.length c2 e2) :
    Calls Tryz.prog 16 #[.int .u8 (fm b), .int .u8 m, .slice (some ⟨g, 0, none⟩) 2 2] w fun e w' => e = .returned (.int .i64 0) ∧ Below w.heap.size w w' := by
  have H1 := fun W => Hide.mk (rIs b W)
  have H2 := fun W => Hide.mk (rIs4 m true (.inl ⟨hm, rfl⟩) W)
  have M1 := fun W (hW : Below w.heap.size w W) => Hide.mk (drefmay37 n1 a1 c1 z1 e1 W (h1.below hW) true hq1)
  have G1 := Hide.mk hg1
  clear h1 hq1 hg1
  have M2 := fun W (hW : Below w.heap.size w W) => Hide.mk (drefmay37 n2 a2 c2 z2 e2 W (h2.below hW) true hq2)
  have G2 := Hide.mk hg2
  clear h2 hq2 hg2
  go_enter Tryz.func16, Tryz.ntmps16
  go_wp2_with fail
  refine (H1 _).out.mono ?_
  rintro e w2 ⟨rfl, h2⟩
  have B2 := (Bx.nil w).keep h2
  go_wp2_with fail
  refine (H2 _).out.mono ?_
  rintro e w3 ⟨rfl, h3⟩
  have B3 := B2.keep h3
  clear h2 h3 B2 H1 H2
  obtain ⟨k0, k1, k2⟩ := G1.out.below B3.bel
  go_wp2
  refine wp_loop_rounds 4 ?_
  rw [rounds_succ]
  go_wp2_with fail
  refine (M1 _ B3.bel).out.mono ?_
  rintro e w4 ⟨rfl, hh⟩
  have B4 := B3.keep hh
  clear hh k0 k1 k2 B3
  obtain ⟨k0, k1, k2⟩ := G2.out.below B4.bel
  go_wp2_with fail
  rw [rounds_succ]
  go_wp2_with fail
  refine (M2 _ B4.bel).out.mono ?_
  rintro e w5 ⟨rfl, hh⟩
  have B5 := B4.keep hh
  clear hh k0 k1 k2 B4
  go_wp2_with fail
  rw [rounds_succ]
  go_wp2
  go_ret
  exact ⟨rfl, B5.bel⟩
theorem lRefused (code : Int) (w : World) :
    Calls Tryz.prog 18 #[.int .u64 0, .int .u8 0, .int .i64 code, .int .i64 code] w fun e w' => e = .returned (.bool true) ∧ Below w.heap.size w w' := by
  have h2 : (code == code) = true := by simp
  go_enter Tryz.func18, Tryz.ntmps18
  go_wp2
  go_ret
  exact ⟨rfl, Below.refl _ _⟩
theorem lTold (W X : Int) (w : World) :
    Calls Tryz.prog 20 #[.int .u64 W, .int .u8 X, .int .i64 0, .int .u64 W, .int .u8 X] w fun e w' => e = .returned (.bool true) ∧ Below w.heap.size w w' := by
  have h1 : (W == W) = true := by simp
  have h2 : (X == X) = true := by simp
  go_enter Tryz.func20, Tryz.ntmps20
  go_wp2
  go_ret
  exact ⟨rfl, Below.refl _ _⟩

theorem pRound (b : Bool) (m : Int) (hm : Mode m) (n : Bool) (a : Option Addr) (c : Nat) (z : List Int) (ex T : Int) (w : World) (l : Lie w a z) (g : DG n z ex) (hz : 0 < z.length) (hTab : Tab w) {B : Nat} (hB : BitLen (Nt.val z) B) (hB2 : B ≤ 131072) (hT : T = B + ex) {H I : Int} {G J : Bool} (hH : H = qf (Nt.val z) 1 (ex + 1 - ulp b T)) (hG : G = qg (Nt.val z) 1 (ex + 1 - ulp b T)) (hI : I = qf (Nt.val z) 1 (ex + 1 - (T - pr b))) (hJ : J = qg (Nt.val z) 1 (ex + 1 - (T - pr b))) :
    Calls Tryz.prog 14 #[.int .u8 (fm b), .int .u8 m, dV n a z.length c ex] w fun e w' => e = .returned (.tuple #[.int .u64 (rdW b m n T H G), .int .u8 (rdX b m n T H G I J), .int .i64 0]) ∧ Below w.heap.size w w' := by
  have hx := g.ex_bd
  have hp := g.pos hz
  have hpb := pr_bd b
  have hub := ulp_ge b T
  have u := g.lie l
  obtain ⟨s, hs, hs2⟩ := sgn_dv g hz
  have hi64 : BitLen (qf (Nt.val z) 1 (64 - B)) 64 := qf1_bits hp hB _ (by omega)
  have hb : 9223372036854775808 ≤ qf (Nt.val z) 1 (64 - B) ∧ qf (Nt.val z) 1 (64 - B) < 18446744073709551616 := by
    rcases hi64 with ⟨_, h⟩ | ⟨_, h⟩
    · omega
    · have a := h.lt
      have b := h.le
      omega
  obtain ⟨d, hd⟩ : ∃ d : Nat, ulp b T - T + 63 = (d : Int) := ⟨(ulp b T - T + 63).toNat, by omega⟩
  have e1 : qf (Nt.val z) 1 (64 - B) / 2 ^ d = H ∧ gx (qf (Nt.val z) 1 (64 - B)) d (qg (Nt.val z) 1 (64 - B)) = G := by
    have a1 := qf_down (Nt.val z) 1 (by omega) (64 - B) d
    have a2 := qg_down (Nt.val z) 1 (by omega) (64 - B) d
    rw [show 64 - (B : Int) - d = ex + 1 - ulp b T by omega] at a1 a2
    exact ⟨by rw [hH, a1], by rw [hG, a2]; rfl⟩
  have e2 : qf (Nt.val z) 1 (64 - B) / 2 ^ (63 - pr b) = I ∧ gx (qf (Nt.val z) 1 (64 - B)) (63 - pr b) (qg (Nt.val z) 1 (64 - B)) = J := by
    have a1 := qf_down (Nt.val z) 1 (by omega) (64 - B) (63 - pr b)
    have a2 := qg_down (Nt.val z) 1 (by omega) (64 - B) (63 - pr b)
    rw [show 64 - (B : Int) - (63 - pr b : Nat) = ex + 1 - (T - pr b) by omega] at a1 a2
    exact ⟨by rw [hI, a1], by rw [hJ, a2]; rfl⟩
  refine wRound_good b m n a c z.length ex s n T (qf (Nt.val z) 1 (64 - B)) _ _ (qg (Nt.val z) 1 (64 - B)) w hs2 ?_ ?_ ?_ ?_
  · intro g0 W hW h3
    have := wWayFor1 b m hm g0 n a c z ex W (u.below hW) true g.may h3
    exact this
  · intro W hW
    exact dsign49 n a c z ex _ W (l.below hW (Nat.le_refl _)) ⟨g, rfl⟩ s hs
  · intro W hW
    have := wSeenNumber n a c z ex W (l.below hW (Nat.le_refl _)) g hz (hTab.below hW (Nat.le_refl _)) hB hB2
    rw [← hT] at this
    exact this
  · intro W hW
    have := wRounded b m n T (qf (Nt.val z) 1 (64 - B)) (qg (Nt.val z) 1 (64 - B)) d W (hTab.below hW (Nat.le_refl _)) hm (by omega) (by omega) hb.1 hb.2 hd
    rw [e1.1, e1.2, e2.1, e2.2] at this
    exact this
theorem rRound_zero (f m : Int) (n : Bool) (a : Option Addr) (c k : Nat) (ex : Int) (w : World)
    (HS : ∀ W, Calls Tryz.prog 23 #[dV n a k c ex] W fun e w' => e = .returned (.int .i64 0) ∧ Below W.heap.size W w') :
    Calls Tryz.prog 19 #[.int .u8 f, .int .u8 m, dV n a k c ex] w fun e w' => e = .returned (.tuple #[.int .u64 0, .int .u8 0]) ∧ Below w.heap.size w w' := by
  have H := fun W => Hide.mk (HS W)
  clear HS
  have B1 := (Bx.nil w).push (DO n a k c ex)
  obtain ⟨⟨s0, s1, s2⟩, _⟩ := cells3 B1 w.heap.size _ _ _ _ (.head _)
  go_enter Tryz.func19, Tryz.ntmps19
  go_wp2_with fail
  refine (H _).out.mono ?_
  rintro e w2 ⟨rfl, h2⟩
  have B2 := B1.keep h2
  go_wp2
  go_ret2
  exact ⟨rfl, B2.bel⟩
theorem rIntP (v : Int) (h0 : 0 < v) (h1 : v < 9223372036854775808) (w : World) :
    Calls Tryz.prog 42 #[.int .i64 v] w fun e w' => RF w w' v 0 e := by
  have B1 := (Bx.nil w).push (DO false none 0 0 0)
  have hc : IntKind.u64.wrap v = v := by rw [IntKind.wrap_u64]; omega
  have hn : ¬ v < 0 := by omega
  have HO := fun W => Hide.mk (of17 v (by omega) (by omega) W)
  go_enter Tryz.func42, Tryz.ntmps42
  go_wp2_with fail
  try rw [hc]
  refine (HO _).out.mono ?_
  rintro e w2 ⟨zs, a, c, rfl, N2, _⟩
  have B2 := (B1.keep N2.bel)
  have HFm := Hide.mk (formX false a c zs 0 w2 N2.lie N2.can (by have := N2.len; omega) (by omega) (by omega))
  rw [N2.val, sv_f] at HFm
  clear N2 HO B1
  go_wp2_with fail
  refine HFm.out.mono ?_
  rintro e w3 ⟨n3, z3, x3, a3, c3, rfl, F3, l3, h3⟩
  have B3 := B2.keep h3
  have H3 := Hide.mk F3
  clear F3 h3 B2 HFm
  obtain ⟨⟨t0, t1, t2⟩, r0, r1, r2⟩ := cells3 B3 w.heap.size _ _ _ _ (.head _)
  go_wp2
  have Bf := B3.fill3 (Nat.le_refl _) (by simp) (.bool n3) (.slice a3 z3.length c3) (.int .i64 x3)
  refine bodyPost_ret (results_D1 rfl _ _ w.heap.size _ rfl ⟨Bf.head, rfl⟩) rfl ?_
  exact ⟨n3, z3, x3, a3, c3, rfl, H3.out, lie_set3P (g := w.heap.size) B3.head _ _ _ l3, Bf.bel⟩

theorem pQuo (b : Bool) (m : Int) (hm : Mode m) (n1 n2 : Bool) (a1 a2 : Option Addr) (c1 c2 : Nat) (z1 z2 : List Int) (e1 e2 T : Int) (w : World) (l1 : Lie w a1 z1) (l2 : Lie w a2 z2) (g1 : DG n1 z1 e1) (g2 : DG n2 z2 e2) (hTab : Tab w) (hz1 : 0 < z1.length) (hz2 : 0 < z2.length) {i : Int} (hi : BitLen (qf (Nt.val z1) (Nt.val z2) i) 64) (hi1 : -1000000 ≤ i) (hi2 : i ≤ 1000000) (hT : T = 64 - i + (e1 - e2)) {H I : Int} {G J : Bool} (hH : H = qf (Nt.val z1) (Nt.val z2) (e1 - e2 + 1 - ulp b T)) (hG : G = qg (Nt.val z1) (Nt.val z2) (e1 - e2 + 1 - ulp b T)) (hI : I = qf (Nt.val z1) (Nt.val z2) (e1 - e2 + 1 - (T - pr b))) (hJ : J = qg (Nt.val z1) (Nt.val z2) (e1 - e2 + 1 - (T - pr b))) :
    Calls Tryz.prog 22 #[.int .u8 (fm b), .int .u8 m, dV n1 a1 z1.length c1 e1, dV n2 a2 z2.length c2 e2] w fun e w' => e = .returned (.tuple #[.int .u64 (rdW b m (n1 != n2) T H G), .int .u8 (rdX b m (n1 != n2) T H G I J), .int .i64 0]) ∧ Below w.heap.size w w' := by
  have x1 := g1.ex_bd
  have x2 := g2.ex_bd
  have p1 := g1.pos hz1
  have p2 := g2.pos hz2
  have hpb := pr_bd b
  have hub := ulp_ge b T
  have hlo := lo_bd b
  obtain ⟨s1, hs1, hs12⟩ := sgn_dv g1 hz1
  obtain ⟨s2, hs2, hs22⟩ := sgn_dv g2 hz2
  have u1 := g1.lie l1
  have u2 := g2.lie l2
  have hb : 9223372036854775808 ≤ qf (Nt.val z1) (Nt.val z2) i ∧ qf (Nt.val z1) (Nt.val z2) i < 18446744073709551616 := by
    rcases hi with ⟨_, h⟩ | ⟨_, h⟩
    · omega
    · have a := h.lt
      have b := h.le
      omega
  obtain ⟨d, hd⟩ : ∃ d : Nat, ulp b T - T + 63 = (d : Int) := ⟨(ulp b T - T + 63).toNat, by omega⟩
  have k1 : qf (Nt.val z1) (Nt.val z2) i / 2 ^ d = H ∧ gx (qf (Nt.val z1) (Nt.val z2) i) d (qg (Nt.val z1) (Nt.val z2) i) = G := by
    have a1 := qf_down (Nt.val z1) (Nt.val z2) p2 i d
    have a2 := qg_down (Nt.val z1) (Nt.val z2) p2 i d
    rw [show i - (d : Int) = e1 - e2 + 1 - ulp b T by omega] at a1 a2
    exact ⟨by rw [hH, a1], by rw [hG, a2]; rfl⟩
  have k2 : qf (Nt.val z1) (Nt.val z2) i / 2 ^ (63 - pr b) = I ∧ gx (qf (Nt.val z1) (Nt.val z2) i) (63 - pr b) (qg (Nt.val z1) (Nt.val z2) i) = J := by
    have a1 := qf_down (Nt.val z1) (Nt.val z2) p2 i (63 - pr b)
    have a2 := qg_down (Nt.val z1) (Nt.val z2) p2 i (63 - pr b)
    rw [show i - ((63 - pr b : Nat) : Int) = e1 - e2 + 1 - (T - pr b) by omega] at a1 a2
    exact ⟨by rw [hI, a1], by rw [hJ, a2]; rfl⟩
  refine wQuo_good b m n1 a1 c1 z1.length e1 n2 a2 c2 z2.length e2 s1 s2 (n1 != n2) T (qf (Nt.val z1) (Nt.val z2) i) _ _ (qg (Nt.val z1) (Nt.val z2) i) w hs12 hs22 ?_ ?_ ?_ ?_ ?_
  · intro g0 W hW h3 h4
    have := wWayFor2 b m hm g0 n1 a1 c1 z1 e1 n2 a2 c2 z2 e2 W (u1.below hW) (u2.below hW) true true g1.may g2.may h3 h4
    exact this
  · intro W hW
    exact dsign49 n2 a2 c2 z2 e2 _ W (l2.below hW (Nat.le_refl _)) ⟨g2, rfl⟩ s2 hs2
  · intro W hW
    exact dsign49 n1 a1 c1 z1 e1 _ W (l1.below hW (Nat.le_refl _)) ⟨g1, rfl⟩ s1 hs1
  · intro W hW
    have := wSeenQuo n1 n2 a1 a2 c1 c2 z1 z2 e1 e2 W (l1.below hW (Nat.le_refl _)) (l2.below hW (Nat.le_refl _)) g1 g2 (hTab.below hW (Nat.le_refl _)) hz1 hz2 hi hi1 hi2
    rw [← hT] at this
    exact this
  · intro W hW
    have := wRounded b m (n1 != n2) T (qf (Nt.val z1) (Nt.val z2) i) (qg (Nt.val z1) (Nt.val z2) i) d W (hTab.below hW (Nat.le_refl _)) hm (by omega) (by omega) hb.1 hb.2 hd
    rw [k1.1, k1.2, k2.1, k2.2] at this
    exact this
theorem fm_oddP {v : Int} {n : Bool} {z : List Int} {x : Int} (F : Fm v 0 n z x) (h0 : 0 < v) (h1 : v % 2 = 1) (h2 : v < 18446744073709551616) : n = false ∧ x = 0 ∧ Nt.val z = v ∧ 0 < z.length ∧ DG false z 0 := by
  rcases F with ⟨rfl, _⟩ | ⟨_, t, ht, hn, hx, hc, hv⟩
  · omega
  · have ha : (v.natAbs : Int) = v := by omega
    rw [ha] at ht hv
    have t0 : t = 0 := ht.unique (odd_low h1)
    subst t0
    rw [Int.pow_zero, Int.ediv_one] at hv
    have hz : 0 < z.length := by
      cases z with
      | nil => rw [Nt.val_nil] at hv; omega
      | cons d q => simp
    have hl : z.length ≤ 2 := by
      refine (Nt.can_len hc 2).1 ?_
      rw [hv, show (4294967296 : Int) ^ 2 = 18446744073709551616 by decide]
      exact h2
    refine ⟨by rw [hn]; exact decide_eq_false (by omega), by omega, hv, hz, ⟨hc, by omega, .inr ⟨hz, by omega, by omega, by omega⟩⟩⟩
theorem lKnown4 (w : World) (hTab : Tab w) :
    Calls Tryz.prog 12 #[] w fun e w' => e = .returned (.bool true) ∧ Below w.heap.size w w' := by
  have H1 := fun W => Hide.mk (rIntP 1 (by decide) (by decide) W)
  have H3 := fun W => Hide.mk (rIntP 3 (by decide) (by decide) W)
  have H5 := fun W => Hide.mk (rIntP 16777217 (by decide) (by decide) W)
  go_enter Tryz.func12, Tryz.ntmps12
  go_wp2_with fail
  refine (H1 _).out.mono ?_
  rintro e w2 ⟨n1, z1, x1, a1, c1, rfl, F1, l1, h1⟩
  have B1 := (Bx.nil w).keep h1
  obtain ⟨rfl, rfl, v1, hz1, g1⟩ := fm_oddP F1 (by decide) (by decide) (by decide)
  clear F1 h1
  go_wp2_with fail
  refine (H3 _).out.mono ?_
  rintro e w3 ⟨n3, z3, x3, a3, c3, rfl, F3, l3, h3⟩
  have B3 := B1.keep h3
  replace l1 := l1.below h3 (Nat.le_refl _)
  obtain ⟨rfl, rfl, v3, hz3, g3⟩ := fm_oddP F3 (by decide) (by decide) (by decide)
  clear F3 h3 B1 H1 H3
  have HQ := Hide.mk (pQuo false 1 (.inl rfl) false false a1 a3 c1 c3 z1 z3 0 0 (-1) w3 l1 l3 g1 g3 (hTab.below B3.bel (Nat.le_refl _)) hz1 hz3 (i := 65) (by rw [v1, v3]; exact .inr ⟨by decide, ⟨by decide, by decide⟩⟩) (by decide) (by decide) (by decide) rfl rfl rfl rfl)
  rw [v1, v3, show rdW false 1 (false != false) (-1) (qf 1 3 (0 - 0 + 1 - ulp false (-1))) (qg 1 3 (0 - 0 + 1 - ulp false (-1))) = 1051372203 by decide, show rdX false 1 (false != false) (-1) (qf 1 3 (0 - 0 + 1 - ulp false (-1))) (qg 1 3 (0 - 0 + 1 - ulp false (-1))) (qf 1 3 (0 - 0 + 1 - (-1 - (pr false : Nat)))) (qg 1 3 (0 - 0 + 1 - (-1 - (pr false : Nat)))) = 16 by decide, show fm false = 1 from rfl] at HQ
  clear l1 l3 g1 g3 hz1 hz3 v1 v3
  go_wp2_with fail
  refine HQ.out.mono ?_
  rintro e w4 ⟨rfl, h4⟩
  have B4 := B3.keep h4
  clear h4 B3 HQ
  go_wp2_with fail
  refine (H5 _).out.mono ?_
  rintro e w5 ⟨n5, z5, x5, a5, c5, rfl, F5, l5, h5⟩
  have B5 := B4.keep h5
  obtain ⟨rfl, rfl, v5, hz5, g5⟩ := fm_oddP F5 (by decide) (by decide) (by decide)
  clear F5 h5 B4 H5
  have HR := Hide.mk (pRound false 2 (.inr (.inl rfl)) false a5 c5 z5 0 25 w5 l5 g5 hz5 (hTab.below B5.bel (Nat.le_refl _)) (B := 25) (by rw [v5]; exact .inr ⟨by decide, ⟨by decide, by decide⟩⟩) (by decide) (by decide) rfl rfl rfl rfl)
  rw [v5, show rdW false 2 false 25 (qf 16777217 1 (0 + 1 - ulp false 25)) (qg 16777217 1 (0 + 1 - ulp false 25)) = 1266679809 by decide, show rdX false 2 false 25 (qf 16777217 1 (0 + 1 - ulp false 25)) (qg 16777217 1 (0 + 1 - ulp false 25)) (qf 16777217 1 (0 + 1 - (25 - (pr false : Nat)))) (qg 16777217 1 (0 + 1 - (25 - (pr false : Nat)))) = 16 by decide, show fm false = 1 from rfl] at HR
  clear l5 g5 hz5 v5
  go_wp2_with fail
  refine HR.out.mono ?_
  rintro e w6 ⟨rfl, h6⟩
  have B6 := B5.keep h6
  clear h6 B5 HR
  go_wp2
  go_ret
  exact ⟨rfl, B6.bel⟩

theorem way_bad {f m code : Int} (h : Opn f m code) (hc : (code == 0) = false) (W : World) :
    Calls Tryz.prog 48 #[.int .u8 f, .int .u8 m] W fun e w' => e = .returned (.tuple #[noW, .int .i64 code]) ∧ Below W.heap.size W w' := by
  rcases h with ⟨hf, rfl⟩ | ⟨b, rfl, ⟨hm, rfl⟩ | ⟨hm, rfl⟩⟩
  · exact wWayOf_bad f m hf W
  · exact wWayOf_mode b m hm W
  · exact absurd hc (by decide)
theorem sameP (n : Bool) (a1 a2 : Option Addr) (c1 c2 : Nat) (z : List Int) (ex : Int) (w : World) (u1 : DLie w a1 z) (u2 : DLie w a2 z) :
    Calls Tryz.prog 21 #[dV n a1 z.length c1 ex, dV n a2 z.length c2 ex] w fun e w' => e = .returned (.bool true) ∧ Below w.heap.size w w' :=
  dsame40 n n a1 a2 c1 c2 z z ex ex w u1 u2 true (decide_eq_true ⟨rfl, rfl, rfl⟩)
end Go.Proofs.YtdnghibkagcbcaaGreatDoor
