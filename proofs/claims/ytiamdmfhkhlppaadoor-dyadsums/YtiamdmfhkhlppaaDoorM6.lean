import Derived.Test.YtiamdmfhkhlppaaDoorM5
namespace Go.Proofs.YtiamdmfhkhlppaaDoor
open Go.RowKit
set_option linter.unusedVariables false
set_option maxRecDepth 3000
/-- Memory of the call's own, which may be written. -/
def Wr (B : Nat) (w : World) (v : Value) : Prop := v = .slice none 0 0 ∨ ∃ g n cap cur, v = .slice (some ⟨g, 0, none⟩) n cap ∧ B ≤ g ∧ w.heap[g]? = some (.cells cur 70 (0, 0)) ∧ n ≤ cur.size ∧ n ≤ 1000000
theorem Own.wr {B : Nat} {w : World} {v : Value} {zs : List Int} (h : Own B w v zs) (hl : zs.length ≤ 1000000) : Wr B w v := by
  rcases h.blk with ⟨h, _⟩ | ⟨g, cap, cur, hv, hB, hg, hn⟩
  · exact .inl h
  · exact .inr ⟨g, zs.length, cap, cur, hv, hB, hg, hn, hl⟩
theorem Wr.below {B B' : Nat} {w w' : World} {v : Value} (h : Wr B w v) (hb : Below B' w w') (hB : w.heap.size ≤ B') : Wr B w' v := by
  rcases h with h | ⟨g, n, cap, cur, hv, h1, hg, r⟩
  · exact .inl h
  · exact .inr ⟨g, n, cap, cur, hv, h1, (hb.block g (by have := (Array.getElem?_eq_some_iff.1 hg).1; omega)).trans hg, r⟩

theorem refUp_two (a : Option Addr) (ca : Nat) (za : List Int) (w : World) (ha : Lie w a za) (ra : Nt.Rng za) (hm : za.length ≤ 100000) :
    Calls Tryd.prog 82 #[.slice a za.length ca, .int .i64 2] w fun e w' => Made w w' (4 * Nt.val za) e := by
  have := refUp_any a ca za w 2 (by decide) ha ra hm
  rw [show Nt.val za * 2 ^ 2 = 4 * Nt.val za by omega] at this
  exact this
/-- r is the whole root of x, s what is left. -/
structure RtInv (x r s : Int) : Prop where
  r0 : 0 ≤ r
  s0 : 0 ≤ s
  eq : x = r * r + s
  le : s ≤ 2 * r
theorem RtInv.no {x y r s b : Int} (h : RtInv x r s) (hy : y = 4 * x + b) (hb : 0 ≤ b) (hb3 : b ≤ 3) (hc : 4 * s + b < 4 * r + 1) : RtInv y (2 * r) (4 * s + b) := by
  obtain ⟨h1, h2, h3, h4⟩ := h
  refine ⟨by omega, by omega, ?_, by omega⟩
  have e : 2 * r * (2 * r) = 4 * (r * r) := by grind
  rw [e]; omega
theorem RtInv.yes {x y r s b : Int} (h : RtInv x r s) (hy : y = 4 * x + b) (hb : 0 ≤ b) (hb3 : b ≤ 3) (hc : 4 * r + 1 ≤ 4 * s + b) : RtInv y (2 * r + 1) (4 * s + b - (4 * r + 1)) := by
  obtain ⟨h1, h2, h3, h4⟩ := h
  refine ⟨by omega, by omega, ?_, by omega⟩
  have e : (2 * r + 1) * (2 * r + 1) = 4 * (r * r) + 4 * r + 1 := by grind
  rw [e]; omega
theorem two_bits (x : Int) (m : Nat) : x / 2 ^ (2 * m) = 4 * (x / 2 ^ (2 * (m + 1))) + (2 * (x / 2 ^ (2 * m + 1) % 2) + x / 2 ^ (2 * m) % 2) := by
  have h1 := bits_next x (2 * m)
  have h2 := bits_next x (2 * m + 1)
  rw [show 2 * m + 1 + 1 = 2 * (m + 1) by omega] at h2
  omega
theorem RtInv.small {x r s M : Int} (h : RtInv x r s) (hx : x < M) : r < M ∧ s < M := by
  obtain ⟨h1, h2, h3, h4⟩ := h
  have h5 : 0 ≤ r * r := Int.mul_nonneg h1 h1
  refine ⟨?_, by omega⟩
  by_cases c : r = 0
  · subst c; omega
  · have : r * 1 ≤ r * r := Int.mul_le_mul_of_nonneg_left (by omega) h1
    omega

theorem bit_succ {a : Option Addr} {n c i : Nat} {w : World} {R : Ending → World → Prop} (h : Hide (Calls Tryd.prog 134 #[.slice a n c, .int .i64 ((i + 1 : Nat) : Int)] w R)) : Hide (Calls Tryd.prog 134 #[.slice a n c, .int .i64 ((i : Int) + 1)] w R) := ⟨by
  have := h.out
  rw [show ((i + 1 : Nat) : Int) = (i : Int) + 1 by omega] at this
  exact this⟩
set_option maxHeartbeats 8000000 in
set_option maxRecDepth 100000 in
theorem refRoot31 (a : Option Addr) (ca : Nat) (za : List Int) (w : World) (ha : Lie w a za) (qa : Nt.Can za) (hz : 0 < za.length) (hm : za.length ≤ 5000) :
    Calls Tryd.prog 96 #[.slice a za.length ca] w fun e w' => ∃ zr ar cr s, e = .returned (.tuple #[.slice ar zr.length cr, .bool (decide (s = 0))]) ∧ Lie w' ar zr ∧ Nt.Can zr ∧ RtInv (Nt.val za) (Nt.val zr) s ∧ Below w.heap.size w w' := by
  have C1 := Hide.mk (refLen45 a ca za w ha qa hz (by omega))
  have C4 := fun W (h : Below w.heap.size w W) i hi => Hide.mk (refBit48 a ca za W i (ha.below h (Nat.le_refl _)) qa.1 (by omega) hi)
  have VA := Hide.mk (Nt.val_bd qa.1)
  clear ha qa
  go_enter Tryd.func96, Tryd.ntmps96
  go_wp2_with fail
  refine C1.out.mono ?_
  rintro e w' ⟨rfl, BL, rfl, hB, hB1, hB2⟩
  obtain ⟨J, hJ⟩ : ∃ J : Nat, 2 * J = BL ∨ 2 * J = BL + 1 := ⟨(BL + 1) / 2, by omega⟩
  have hJ0 : Hide (Nt.val za / 2 ^ (2 * J) = 0) := ⟨by
    have h1 := hB.lt
    have h2 := p2mono (show BL ≤ 2 * J by omega)
    exact Int.ediv_eq_zero_of_lt VA.out.1 (by omega)⟩
  have hJb : J ≤ 100000 := by omega
  clear hB C1
  rcases hJ with hJ | hJ
  · have HJ := Hide.mk hJ
    have hodd : ((BL : Int) % 2 == 1) = false := beq_eq_false_iff_ne.2 (by omega)
    clear hJ
    go_wp2
    go_loopw [4, 5, 7] (fun rv sv iv wr => ∃ (j : Nat) (zr zs : List Int) (ar as1 : Option Addr) (cr cs : Nat), j ≤ J ∧ iv = .int .i64 (2 * (j : Int) - 2) ∧ rv = .slice ar zr.length cr ∧ sv = .slice as1 zs.length cs ∧ Hide (Lie wr ar zr) ∧ Hide (Lie wr as1 zs) ∧ Hide (Nt.Can zr) ∧ Hide (Nt.Can zs) ∧ Hide (RtInv (Nt.val za / 2 ^ (2 * j)) (Nt.val zr) (Nt.val zs)) ∧ Below w.heap.size w wr) (fun _ _ iv _ => (intOf iv + 2).toNat)
    case atStart => exact ⟨J, [], [], none, none, 0, 0, Nat.le_refl _, by have := HJ.out; go_num, rfl, rfl, ⟨.inl rfl⟩, ⟨.inl rfl⟩, ⟨Nt.can_nil⟩, ⟨Nt.can_nil⟩, ⟨by rw [hJ0.out, Nt.val_nil]; exact ⟨by decide, by decide, by decide, by decide⟩⟩, Below.refl _ _⟩
    case round =>
      obtain ⟨j, zr, zs, ar, as1, cr, cs, hj, rfl, rfl, rfl, HLR, HLS, KR, KS, HI, hbel⟩ := hrel
      clear hJ0
      have hsm := HI.out.small (M := 4294967296 ^ za.length) (by
        have h1 := VA.out
        have h2 : Nt.val za / 2 ^ (2 * j) ≤ Nt.val za := Int.ediv_le_self _ h1.1
        omega)
      have hlr : zr.length ≤ za.length := (Nt.can_len KR.out _).1 hsm.1
      have hls : zs.length ≤ za.length := (Nt.can_len KS.out _).1 hsm.2
      clear hsm
      cases j with
      | succ m =>
        have hpi : 2 * ((m + 1 : Nat) : Int) - 2 = ((2 * m : Nat) : Int) := by omega
        rw [hpi]
        have C5 := Hide.mk (refUp_two as1 cs zs wr HLS.out KS.out.1 (by omega))
        obtain ⟨i, hi⟩ : ∃ i : Nat, i = 2 * m := ⟨_, rfl⟩
        have HII := Hide.mk hi
        rw [← hi]
        have hib : i ≤ 400000 := by omega
        have hii : (i : Int) + 1 = ((i + 1 : Nat) : Int) := by omega
        have L : Live wr [(ar, zr), (as1, zs)] := ⟨by simp [HLR.out, HLS.out]⟩
        clear hpi hi HLR HLS hii
        go_wp2_with fail
        refine C5.out.mono ?_
        rintro e w1 ⟨z1, a1, c1, rfl, o1, k1, v1, hb1⟩
        replace L := L.push (ownLie o1) hb1
        have hbw1 := below_then hbel hb1
        have hb0 : 0 ≤ Nt.val za / 2 ^ (i + 1) % 2 ∧ Nt.val za / 2 ^ (i + 1) % 2 ≤ 1 := by omega
        have hb1' : 0 ≤ Nt.val za / 2 ^ i % 2 ∧ Nt.val za / 2 ^ i % 2 ≤ 1 := by omega
        have C6 := bit_succ (C4 w1 hbw1 (i + 1) (by omega))
        have C7 := C4 w1 hbw1 i (by omega)
        have K1 := Hide.mk (And.intro k1 v1)
        have hl1 : z1.length ≤ za.length + 1 := by
          refine (Nt.can_len k1 _).1 ?_
          have := (Nt.can_len KS.out za.length).2 hls
          rw [v1, Nt.pw_succ]
          have := Nt.pw_pos za.length
          omega
        have TB := Hide.mk (two_bits (Nt.val za) m)
        rw [← HII.out] at TB
        clear C5 o1 k1 v1 hb1
        generalize Nt.val za / 2 ^ (i + 1) % 2 = t1 at *
        generalize Nt.val za / 2 ^ i % 2 = t0 at *
        go_wp2_with fail
        refine C6.out.mono ?_
        rintro e w' ⟨rfl, rfl⟩
        go_wp2_with fail
        refine C7.out.mono ?_
        rintro e w' ⟨rfl, rfl⟩
        go_wp2_with fail
        refine (of17 (2 * t1 + t0) (by omega) (by omega) w1).mono ?_
        rintro e w2 ⟨z2, a2, c2, rfl, n2, _⟩
        replace L := L.push n2.lie n2.bel
        have hbw2 := below_then hbw1 n2.bel
        have hl2 : z2.length ≤ 4096 := n2.len
        have K2 := Hide.mk (And.intro n2.can n2.val)
        clear n2 C6 C7 hbw1
        go_wp2_with fail
        refine (refAdd23 a1 a2 c1 c2 z1 z2 w2 (L.all (a1, z1) (by simp)) (L.all (a2, z2) (by simp)) K1.out.1.1 K2.out.1.1 (by omega) (by omega)).mono ?_
        rintro e w3 ⟨z3, a3, c3, rfl, o3, k3, v3, hb3⟩
        replace L := L.push (ownLie o3) hb3
        have hbw3 := below_then hbw2 hb3
        have K3 : Hide (Nt.Can z3 ∧ Nt.val z3 = 4 * Nt.val zs + (2 * t1 + t0)) := ⟨k3, by rw [v3, K1.out.2, K2.out.2]⟩
        have hl3 : z3.length ≤ za.length + 1 := by
          refine (Nt.can_len k3 _).1 ?_
          have := (Nt.can_len KS.out za.length).2 hls
          rw [K3.out.2, Nt.pw_succ]
          have := Nt.pw_pos za.length
          omega
        clear o3 k3 v3 hb3 hbw2 K1 K2 hl1 hl2
        go_wp2_with fail
        refine (refUp_two ar cr zr w3 (L.all (ar, zr) (by simp)) KR.out.1 (by omega)).mono ?_
        rintro e w4 ⟨z4, a4, c4, rfl, o4, k4, v4, hb4⟩
        replace L := L.push (ownLie o4) hb4
        have hbw4 := below_then hbw3 hb4
        have hl4 : z4.length ≤ za.length + 1 := by
          refine (Nt.can_len k4 _).1 ?_
          have := (Nt.can_len KR.out za.length).2 hlr
          rw [v4, Nt.pw_succ]
          have := Nt.pw_pos za.length
          omega
        have C8 := Hide.mk (refAdd23 a4 (some ⟨w4.heap.size, 0, none⟩) c4 1 z4 [1] _ ((ownLie o4).below (below_alloc w4 (.cells #[.int .u32 1] 70)) (Nat.le_refl _)) (lie_new w4 [1]) k4.1 (Nt.rng_mem (by simp)) (by omega) (by simp))
        rw [v4, val_one] at C8
        replace L := L.keep (below_alloc w4 (.cells #[.int .u32 1] 70))
        have hbw4a := below_then hbw4 (below_alloc w4 (.cells #[.int .u32 1] 70))
        clear o4 k4 v4 hb4 hbw3 hbw4
        go_wp2_with fail
        refine C8.out.mono ?_
        rintro e w5 ⟨z5, a5, c5, rfl, o5, k5, v5, hb5⟩
        replace L := L.push (ownLie o5) hb5
        have hbw5 := below_then hbw4a hb5
        have K5 := Hide.mk (And.intro k5 v5)
        have hl5 : z5.length ≤ za.length + 1 := by
          refine (Nt.can_len k5 _).1 ?_
          have := (Nt.can_len KR.out za.length).2 hlr
          rw [v5, Nt.pw_succ]
          have := Nt.pw_pos za.length
          omega
        clear o5 k5 v5 hb5 hbw4a C8 hl4
        go_wp2_with fail
        refine (refUp_one ar cr zr w5 (L.all (ar, zr) (by simp)) KR.out.1 (by omega)).mono ?_
        rintro e w6 ⟨z6, a6, c6, rfl, o6, k6, v6, hb6⟩
        replace L := L.push (ownLie o6) hb6
        have hbw6 := below_then hbw5 hb6
        have K6 := Hide.mk (And.intro k6 v6)
        have hl6 : z6.length ≤ za.length + 1 := by
          refine (Nt.can_len k6 _).1 ?_
          have := (Nt.can_len KR.out za.length).2 hlr
          rw [v6, Nt.pw_succ]
          have := Nt.pw_pos za.length
          omega
        have C9 := Hide.mk (refCmp22 a3 a5 c3 c5 z3 z5 w6 (L.all (a3, z3) (by simp)) (L.all (a5, z5) (by simp)) K3.out.1 K5.out.1 (by unfold maxLen; omega))
        clear o6 k6 v6 hb6 hbw5
        by_cases hge : Nt.val z5 ≤ Nt.val z3
        · have hsg : 0 ≤ sgn (Nt.val z3) (Nt.val z5) := by unfold sgn; split <;> (try split) <;> omega
          have HY : Hide (RtInv (Nt.val za / 2 ^ i) (2 * Nt.val zr + 1) (4 * Nt.val zs + (2 * t1 + t0) - (4 * Nt.val zr + 1))) := ⟨HI.out.yes TB.out (by omega) (by omega) (by have h1 := K3.out.2; have h2 := K5.out.2; omega)⟩
          have HGE := Hide.mk hge
          clear HI TB hge
          generalize sgn (Nt.val z3) (Nt.val z5) = sg at *
          go_wp2_with fail
          refine C9.out.mono ?_
          rintro e w7 ⟨rfl, hb7⟩
          replace L := L.keep hb7
          have hbw7 := below_then hbw6 hb7
          clear hb7 C9 hbw6
          go_wp2_with fail
          refine (refSub24 a3 a5 c3 c5 z3 z5 w7 (L.all (a3, z3) (by simp)) (L.all (a5, z5) (by simp)) K3.out.1.1 K5.out.1.1 (by omega) ((Nt.can_len K5.out.1 _).1 (by have := (Nt.val_bd K3.out.1.1).2; have := HGE.out; omega)) HGE.out).mono ?_
          rintro e w8 ⟨z8, a8, c8, rfl, o8, k8, v8, hb8⟩
          replace L := L.push (ownLie o8) hb8
          have hbw8 := below_then hbw7 hb8
          have K8 : Hide (Nt.Can z8 ∧ Nt.val z8 = 4 * Nt.val zs + (2 * t1 + t0) - (4 * Nt.val zr + 1)) := ⟨k8, by rw [v8, K3.out.2, K5.out.2]⟩
          have C10 := Hide.mk (refAdd23 a6 (some ⟨w8.heap.size, 0, none⟩) c6 1 z6 [1] _ ((L.all (a6, z6) (by simp)).below (below_alloc w8 (.cells #[.int .u32 1] 70)) (Nat.le_refl _)) (lie_new w8 [1]) K6.out.1.1 (Nt.rng_mem (by simp)) (by omega) (by simp))
          replace L := L.keep (below_alloc w8 (.cells #[.int .u32 1] 70))
          have hbw8a := below_then hbw8 (below_alloc w8 (.cells #[.int .u32 1] 70))
          clear o8 k8 v8 hb8 hbw7 hbw8
          go_wp2_with fail
          refine C10.out.mono ?_
          rintro e w9 ⟨z9, a9, c9, rfl, o9, k9, v9, hb9⟩
          replace L := L.push (ownLie o9) hb9
          have hbw9 := below_then hbw8a hb9
          have K9 : Hide (Nt.Can z9 ∧ Nt.val z9 = 2 * Nt.val zr + 1) := ⟨k9, by rw [v9, K6.out.2, val_one]⟩
          have FIN : Hide (RtInv (Nt.val za / 2 ^ (2 * m)) (Nt.val z9) (Nt.val z8)) := ⟨by rw [K9.out.2, K8.out.2, ← HII.out]; exact HY.out⟩
          have F1 := Hide.mk (L.all (a9, z9) (by simp))
          have F2 := Hide.mk (L.all (a8, z8) (by simp))
          clear o9 k9 v9 hb9 hbw8a C10 L
          go_wp2
          go_roundw
          case rel => exact ⟨m, z9, z8, a9, a8, c9, c8, by omega, by have := HII.out; go_num, rfl, rfl, F1, F2, ⟨K9.out.1⟩, ⟨K8.out.1⟩, FIN, hbw9⟩
          case measure => simp [intOf]; try omega
        · have hlt2 : sgn (Nt.val z3) (Nt.val z5) = -1 := sgn_lt (by omega)
          rw [hlt2] at C9
          have FIN : Hide (RtInv (Nt.val za / 2 ^ (2 * m)) (Nt.val z6) (Nt.val z3)) := ⟨by rw [K6.out.2, K3.out.2, ← HII.out]; exact HI.out.no TB.out (by omega) (by omega) (by have h1 := K3.out.2; have h2 := K5.out.2; omega)⟩
          clear HI TB hge hlt2
          go_wp2_with fail
          refine C9.out.mono ?_
          rintro e w7 ⟨rfl, hb7⟩
          replace L := L.keep hb7
          have hbw7 := below_then hbw6 hb7
          have F1 := Hide.mk (L.all (a6, z6) (by simp))
          have F2 := Hide.mk (L.all (a3, z3) (by simp))
          clear hb7 C9 hbw6 L
          go_wp2
          go_roundw
          case rel => exact ⟨m, z6, z3, a6, a3, c6, c3, by omega, by have := HII.out; go_num, rfl, rfl, F1, F2, ⟨K6.out.1⟩, ⟨K3.out.1⟩, FIN, hbw7⟩
          case measure => simp [intOf]; try omega
      | zero =>
        have HF : Hide (RtInv (Nt.val za) (Nt.val zr) (Nt.val zs)) := ⟨by have := HI.out; rw [Nat.mul_zero, Int.pow_zero, Int.ediv_one] at this; exact this⟩
        have HZ : Hide (((zs.length : Int) == 0) = decide (Nt.val zs = 0)) := ⟨by
          by_cases c : zs.length = 0
          · have : zs = [] := List.length_eq_zero_iff.1 c
            subst this
            rfl
          · have h1 := can_ge KS.out (by omega)
            have h2 := Nt.pw_pos (zs.length - 1)
            rw [beq_eq_false_iff_ne.2 (by omega), decide_eq_false (by omega)]⟩
        clear HI
        go_wp2
        go_ret2
        exact ⟨zr, ar, cr, Nt.val zs, by rw [← HZ.out]; first | rfl | simp, HLR.out, KR.out, HF.out, hbel⟩
  · have HJ := Hide.mk hJ
    have hodd : ((BL : Int) % 2 == 1) = true := beq_iff_eq.2 (by omega)
    clear hJ
    go_wp2
    go_loopw [4, 5, 7] (fun rv sv iv wr => ∃ (j : Nat) (zr zs : List Int) (ar as1 : Option Addr) (cr cs : Nat), j ≤ J ∧ iv = .int .i64 (2 * (j : Int) - 2) ∧ rv = .slice ar zr.length cr ∧ sv = .slice as1 zs.length cs ∧ Hide (Lie wr ar zr) ∧ Hide (Lie wr as1 zs) ∧ Hide (Nt.Can zr) ∧ Hide (Nt.Can zs) ∧ Hide (RtInv (Nt.val za / 2 ^ (2 * j)) (Nt.val zr) (Nt.val zs)) ∧ Below w.heap.size w wr) (fun _ _ iv _ => (intOf iv + 2).toNat)
    case atStart => exact ⟨J, [], [], none, none, 0, 0, Nat.le_refl _, by have := HJ.out; go_num, rfl, rfl, ⟨.inl rfl⟩, ⟨.inl rfl⟩, ⟨Nt.can_nil⟩, ⟨Nt.can_nil⟩, ⟨by rw [hJ0.out, Nt.val_nil]; exact ⟨by decide, by decide, by decide, by decide⟩⟩, Below.refl _ _⟩
    case round =>
      obtain ⟨j, zr, zs, ar, as1, cr, cs, hj, rfl, rfl, rfl, HLR, HLS, KR, KS, HI, hbel⟩ := hrel
      clear hJ0
      have hsm := HI.out.small (M := 4294967296 ^ za.length) (by
        have h1 := VA.out
        have h2 : Nt.val za / 2 ^ (2 * j) ≤ Nt.val za := Int.ediv_le_self _ h1.1
        omega)
      have hlr : zr.length ≤ za.length := (Nt.can_len KR.out _).1 hsm.1
      have hls : zs.length ≤ za.length := (Nt.can_len KS.out _).1 hsm.2
      clear hsm
      cases j with
      | succ m =>
        have hpi : 2 * ((m + 1 : Nat) : Int) - 2 = ((2 * m : Nat) : Int) := by omega
        rw [hpi]
        have C5 := Hide.mk (refUp_two as1 cs zs wr HLS.out KS.out.1 (by omega))
        obtain ⟨i, hi⟩ : ∃ i : Nat, i = 2 * m := ⟨_, rfl⟩
        have HII := Hide.mk hi
        rw [← hi]
        have hib : i ≤ 400000 := by omega
        have hii : (i : Int) + 1 = ((i + 1 : Nat) : Int) := by omega
        have L : Live wr [(ar, zr), (as1, zs)] := ⟨by simp [HLR.out, HLS.out]⟩
        clear hpi hi HLR HLS hii
        go_wp2_with fail
        refine C5.out.mono ?_
        rintro e w1 ⟨z1, a1, c1, rfl, o1, k1, v1, hb1⟩
        replace L := L.push (ownLie o1) hb1
        have hbw1 := below_then hbel hb1
        have hb0 : 0 ≤ Nt.val za / 2 ^ (i + 1) % 2 ∧ Nt.val za / 2 ^ (i + 1) % 2 ≤ 1 := by omega
        have hb1' : 0 ≤ Nt.val za / 2 ^ i % 2 ∧ Nt.val za / 2 ^ i % 2 ≤ 1 := by omega
        have C6 := bit_succ (C4 w1 hbw1 (i + 1) (by omega))
        have C7 := C4 w1 hbw1 i (by omega)
        have K1 := Hide.mk (And.intro k1 v1)
        have hl1 : z1.length ≤ za.length + 1 := by
          refine (Nt.can_len k1 _).1 ?_
          have := (Nt.can_len KS.out za.length).2 hls
          rw [v1, Nt.pw_succ]
          have := Nt.pw_pos za.length
          omega
        have TB := Hide.mk (two_bits (Nt.val za) m)
        rw [← HII.out] at TB
        clear C5 o1 k1 v1 hb1
        generalize Nt.val za / 2 ^ (i + 1) % 2 = t1 at *
        generalize Nt.val za / 2 ^ i % 2 = t0 at *
        go_wp2_with fail
        refine C6.out.mono ?_
        rintro e w' ⟨rfl, rfl⟩
        go_wp2_with fail
        refine C7.out.mono ?_
        rintro e w' ⟨rfl, rfl⟩
        go_wp2_with fail
        refine (of17 (2 * t1 + t0) (by omega) (by omega) w1).mono ?_
        rintro e w2 ⟨z2, a2, c2, rfl, n2, _⟩
        replace L := L.push n2.lie n2.bel
        have hbw2 := below_then hbw1 n2.bel
        have hl2 : z2.length ≤ 4096 := n2.len
        have K2 := Hide.mk (And.intro n2.can n2.val)
        clear n2 C6 C7 hbw1
        go_wp2_with fail
        refine (refAdd23 a1 a2 c1 c2 z1 z2 w2 (L.all (a1, z1) (by simp)) (L.all (a2, z2) (by simp)) K1.out.1.1 K2.out.1.1 (by omega) (by omega)).mono ?_
        rintro e w3 ⟨z3, a3, c3, rfl, o3, k3, v3, hb3⟩
        replace L := L.push (ownLie o3) hb3
        have hbw3 := below_then hbw2 hb3
        have K3 : Hide (Nt.Can z3 ∧ Nt.val z3 = 4 * Nt.val zs + (2 * t1 + t0)) := ⟨k3, by rw [v3, K1.out.2, K2.out.2]⟩
        have hl3 : z3.length ≤ za.length + 1 := by
          refine (Nt.can_len k3 _).1 ?_
          have := (Nt.can_len KS.out za.length).2 hls
          rw [K3.out.2, Nt.pw_succ]
          have := Nt.pw_pos za.length
          omega
        clear o3 k3 v3 hb3 hbw2 K1 K2 hl1 hl2
        go_wp2_with fail
        refine (refUp_two ar cr zr w3 (L.all (ar, zr) (by simp)) KR.out.1 (by omega)).mono ?_
        rintro e w4 ⟨z4, a4, c4, rfl, o4, k4, v4, hb4⟩
        replace L := L.push (ownLie o4) hb4
        have hbw4 := below_then hbw3 hb4
        have hl4 : z4.length ≤ za.length + 1 := by
          refine (Nt.can_len k4 _).1 ?_
          have := (Nt.can_len KR.out za.length).2 hlr
          rw [v4, Nt.pw_succ]
          have := Nt.pw_pos za.length
          omega
        have C8 := Hide.mk (refAdd23 a4 (some ⟨w4.heap.size, 0, none⟩) c4 1 z4 [1] _ ((ownLie o4).below (below_alloc w4 (.cells #[.int .u32 1] 70)) (Nat.le_refl _)) (lie_new w4 [1]) k4.1 (Nt.rng_mem (by simp)) (by omega) (by simp))
        rw [v4, val_one] at C8
        replace L := L.keep (below_alloc w4 (.cells #[.int .u32 1] 70))
        have hbw4a := below_then hbw4 (below_alloc w4 (.cells #[.int .u32 1] 70))
        clear o4 k4 v4 hb4 hbw3 hbw4
        go_wp2_with fail
        refine C8.out.mono ?_
        rintro e w5 ⟨z5, a5, c5, rfl, o5, k5, v5, hb5⟩
        replace L := L.push (ownLie o5) hb5
        have hbw5 := below_then hbw4a hb5
        have K5 := Hide.mk (And.intro k5 v5)
        have hl5 : z5.length ≤ za.length + 1 := by
          refine (Nt.can_len k5 _).1 ?_
          have := (Nt.can_len KR.out za.length).2 hlr
          rw [v5, Nt.pw_succ]
          have := Nt.pw_pos za.length
          omega
        clear o5 k5 v5 hb5 hbw4a C8 hl4
        go_wp2_with fail
        refine (refUp_one ar cr zr w5 (L.all (ar, zr) (by simp)) KR.out.1 (by omega)).mono ?_
        rintro e w6 ⟨z6, a6, c6, rfl, o6, k6, v6, hb6⟩
        replace L := L.push (ownLie o6) hb6
        have hbw6 := below_then hbw5 hb6
        have K6 := Hide.mk (And.intro k6 v6)
        have hl6 : z6.length ≤ za.length + 1 := by
          refine (Nt.can_len k6 _).1 ?_
          have := (Nt.can_len KR.out za.length).2 hlr
          rw [v6, Nt.pw_succ]
          have := Nt.pw_pos za.length
          omega
        have C9 := Hide.mk (refCmp22 a3 a5 c3 c5 z3 z5 w6 (L.all (a3, z3) (by simp)) (L.all (a5, z5) (by simp)) K3.out.1 K5.out.1 (by unfold maxLen; omega))
        clear o6 k6 v6 hb6 hbw5
        by_cases hge : Nt.val z5 ≤ Nt.val z3
        · have hsg : 0 ≤ sgn (Nt.val z3) (Nt.val z5) := by unfold sgn; split <;> (try split) <;> omega
          have HY : Hide (RtInv (Nt.val za / 2 ^ i) (2 * Nt.val zr + 1) (4 * Nt.val zs + (2 * t1 + t0) - (4 * Nt.val zr + 1))) := ⟨HI.out.yes TB.out (by omega) (by omega) (by have h1 := K3.out.2; have h2 := K5.out.2; omega)⟩
          have HGE := Hide.mk hge
          clear HI TB hge
          generalize sgn (Nt.val z3) (Nt.val z5) = sg at *
          go_wp2_with fail
          refine C9.out.mono ?_
          rintro e w7 ⟨rfl, hb7⟩
          replace L := L.keep hb7
          have hbw7 := below_then hbw6 hb7
          clear hb7 C9 hbw6
          go_wp2_with fail
          refine (refSub24 a3 a5 c3 c5 z3 z5 w7 (L.all (a3, z3) (by simp)) (L.all (a5, z5) (by simp)) K3.out.1.1 K5.out.1.1 (by omega) ((Nt.can_len K5.out.1 _).1 (by have := (Nt.val_bd K3.out.1.1).2; have := HGE.out; omega)) HGE.out).mono ?_
          rintro e w8 ⟨z8, a8, c8, rfl, o8, k8, v8, hb8⟩
          replace L := L.push (ownLie o8) hb8
          have hbw8 := below_then hbw7 hb8
          have K8 : Hide (Nt.Can z8 ∧ Nt.val z8 = 4 * Nt.val zs + (2 * t1 + t0) - (4 * Nt.val zr + 1)) := ⟨k8, by rw [v8, K3.out.2, K5.out.2]⟩
          have C10 := Hide.mk (refAdd23 a6 (some ⟨w8.heap.size, 0, none⟩) c6 1 z6 [1] _ ((L.all (a6, z6) (by simp)).below (below_alloc w8 (.cells #[.int .u32 1] 70)) (Nat.le_refl _)) (lie_new w8 [1]) K6.out.1.1 (Nt.rng_mem (by simp)) (by omega) (by simp))
          replace L := L.keep (below_alloc w8 (.cells #[.int .u32 1] 70))
          have hbw8a := below_then hbw8 (below_alloc w8 (.cells #[.int .u32 1] 70))
          clear o8 k8 v8 hb8 hbw7 hbw8
          go_wp2_with fail
          refine C10.out.mono ?_
          rintro e w9 ⟨z9, a9, c9, rfl, o9, k9, v9, hb9⟩
          replace L := L.push (ownLie o9) hb9
          have hbw9 := below_then hbw8a hb9
          have K9 : Hide (Nt.Can z9 ∧ Nt.val z9 = 2 * Nt.val zr + 1) := ⟨k9, by rw [v9, K6.out.2, val_one]⟩
          have FIN : Hide (RtInv (Nt.val za / 2 ^ (2 * m)) (Nt.val z9) (Nt.val z8)) := ⟨by rw [K9.out.2, K8.out.2, ← HII.out]; exact HY.out⟩
          have F1 := Hide.mk (L.all (a9, z9) (by simp))
          have F2 := Hide.mk (L.all (a8, z8) (by simp))
          clear o9 k9 v9 hb9 hbw8a C10 L
          go_wp2
          go_roundw
          case rel => exact ⟨m, z9, z8, a9, a8, c9, c8, by omega, by have := HII.out; go_num, rfl, rfl, F1, F2, ⟨K9.out.1⟩, ⟨K8.out.1⟩, FIN, hbw9⟩
          case measure => simp [intOf]; try omega
        · have hlt2 : sgn (Nt.val z3) (Nt.val z5) = -1 := sgn_lt (by omega)
          rw [hlt2] at C9
          have FIN : Hide (RtInv (Nt.val za / 2 ^ (2 * m)) (Nt.val z6) (Nt.val z3)) := ⟨by rw [K6.out.2, K3.out.2, ← HII.out]; exact HI.out.no TB.out (by omega) (by omega) (by have h1 := K3.out.2; have h2 := K5.out.2; omega)⟩
          clear HI TB hge hlt2
          go_wp2_with fail
          refine C9.out.mono ?_
          rintro e w7 ⟨rfl, hb7⟩
          replace L := L.keep hb7
          have hbw7 := below_then hbw6 hb7
          have F1 := Hide.mk (L.all (a6, z6) (by simp))
          have F2 := Hide.mk (L.all (a3, z3) (by simp))
          clear hb7 C9 hbw6 L
          go_wp2
          go_roundw
          case rel => exact ⟨m, z6, z3, a6, a3, c6, c3, by omega, by have := HII.out; go_num, rfl, rfl, F1, F2, ⟨K6.out.1⟩, ⟨K3.out.1⟩, FIN, hbw7⟩
          case measure => simp [intOf]; try omega
      | zero =>
        have HF : Hide (RtInv (Nt.val za) (Nt.val zr) (Nt.val zs)) := ⟨by have := HI.out; rw [Nat.mul_zero, Int.pow_zero, Int.ediv_one] at this; exact this⟩
        have HZ : Hide (((zs.length : Int) == 0) = decide (Nt.val zs = 0)) := ⟨by
          by_cases c : zs.length = 0
          · have : zs = [] := List.length_eq_zero_iff.1 c
            subst this
            rfl
          · have h1 := can_ge KS.out (by omega)
            have h2 := Nt.pw_pos (zs.length - 1)
            rw [beq_eq_false_iff_ne.2 (by omega), decide_eq_false (by omega)]⟩
        clear HI
        go_wp2
        go_ret2
        exact ⟨zr, ar, cr, Nt.val zs, by rw [← HZ.out]; first | rfl | simp, HLR.out, KR.out, HF.out, hbel⟩

theorem bp_pos {b : Int} (h : 2 ≤ b) (n : Nat) : 0 < b ^ n := Int.pow_pos (by omega)
theorem bp_mono {b : Int} (h : 2 ≤ b) {i j : Nat} (hij : i ≤ j) : b ^ i ≤ b ^ j := by
  obtain ⟨k, rfl⟩ := Nat.exists_eq_add_of_le hij
  clear hij
  induction k with
  | zero => simp
  | succ k ih =>
    rw [← Nat.add_assoc, Int.pow_succ]
    have p := bp_pos h (i + k)
    have : b ^ (i + k) * 1 ≤ b ^ (i + k) * b := Int.mul_le_mul_of_nonneg_left (by omega) (by omega)
    omega
theorem bp_sq (b : Int) (e : Nat) : b ^ e * b ^ e = b ^ (2 * e) := by rw [← Int.pow_add, Nat.two_mul]
/-- What a power answers: its digits, or that they are too many. -/
def PowEnd (w w' : World) (x M : Int) (e : Ending) : Prop :=
  (x < M ∧ ∃ zs a c, e = .returned (.tuple #[.slice a zs.length c, .int .i64 0]) ∧ Lie w' a zs ∧ Good zs x ∧ Below w.heap.size w w') ∨
  (M ≤ x ∧ e = .returned (.tuple #[.slice none 0 0, .int .i64 3]) ∧ Below w.heap.size w w')
theorem lt_of {x M : Int} (hM : Hide (4294967296 ^ 4096 = M)) (h0 : 0 ≤ x) (h : x < M) : Lt 4096 x := ⟨h0, by rw [hM.out]; exact h⟩
theorem mul_fitM (a b : Option Addr) (ca cb : Nat) (za zb : List Int) (w : World) {x y M : Int} (hM : Hide (4294967296 ^ 4096 = M)) (ha : Lie w a za) (hb : Lie w b zb) (ga : Good za x) (gb : Good zb y) (h0 : 0 ≤ x * y) (hf : x * y < M) :
    Calls Tryd.prog 78 #[.slice a za.length ca, .slice b zb.length cb] w fun e w' => ∃ zs a' c, e = .returned (.tuple #[.slice a' zs.length c, .int .i64 0]) ∧ Lie w' a' zs ∧ Good zs (x * y) ∧ Below w.heap.size w w' := by
  refine (mul_fit a b ca cb za zb w ha hb ga gb (lt_of hM h0 hf)).mono ?_
  rintro e w' ⟨zs, a', c, rfl, hn, _⟩
  exact ⟨zs, a', c, rfl, hn.lie, hn.good, hn.bel⟩
theorem mul_longM (a b : Option Addr) (ca cb : Nat) (za zb : List Int) (w : World) {x y M : Int} (hM : Hide (4294967296 ^ 4096 = M)) (ha : Lie w a za) (hb : Lie w b zb) (ga : Good za x) (gb : Good zb y) (hf : M ≤ x * y) :
    Calls Tryd.prog 78 #[.slice a za.length ca, .slice b zb.length cb] w fun e w' => e = .returned (.tuple #[.slice none 0 0, .int .i64 3]) ∧ Below w.heap.size w w' :=
  mul_long a b ca cb za zb w ha hb ga gb (by rw [hM.out]; exact hf)
theorem pow_counts {n S k j : Nat} (hj : S = k + 1 + j) : n / 2 ^ j = 2 * (n / 2 ^ (S - k)) + n / 2 ^ j % 2 ∧ n / 2 ^ j ≤ n := by
  have e : n / 2 ^ (S - k) = n / 2 ^ j / 2 := by
    rw [show S - k = j + 1 by omega, Nat.pow_succ, Nat.div_div_eq_div_mul]
  rw [e]
  exact ⟨by omega, Nat.div_le_self _ _⟩
theorem i64_one (n : Int) : bits .and .i64 n 1 = n % 2 := by
  have h1 : (BitVec.ofInt 64 1).toNat = 2 ^ 1 - 1 := by decide
  have key : (BitVec.ofInt 64 n &&& BitVec.ofInt 64 1).toNat = (n % ((2 ^ 64 : Nat) : Int)).toNat % 2 ^ 1 := by
    rw [BitVec.toNat_and, BitVec.toNat_ofInt, h1, Nat.and_two_pow_sub_one_eq_mod]
  show IntKind.i64.wrap ((BitVec.ofInt 64 n &&& BitVec.ofInt 64 1).toNat : Nat) = n % 2
  rw [key, IntKind.wrap_i64]
  omega


theorem pow_base_mono {x y : Int} (h0 : 0 ≤ x) (h : x ≤ y) (n : Nat) : x ^ n ≤ y ^ n ∧ 0 ≤ x ^ n := by
  induction n with
  | zero => simp
  | succ n ih =>
    rw [Int.pow_succ, Int.pow_succ]
    exact ⟨Int.mul_le_mul ih.1 h h0 (by omega), Int.mul_nonneg ih.2 h0⟩
theorem big_eq : (2 : Int) ^ 131072 = 4294967296 ^ 4096 := by
  rw [show 131072 = 32 * 4096 by decide, Int.pow_mul, show (2 : Int) ^ 32 = 4294967296 by decide]
theorem fit_lo {b : Int} {L n : Nat} (hb : Bits b (L + 1)) (h : 131072 ≤ L * n) : (4294967296 : Int) ^ 4096 ≤ b ^ n := by
  rw [← big_eq]
  have h1 := p2mono h
  rw [Int.pow_mul] at h1
  have h2 : (2 : Int) ^ L ≤ b := by have := hb.le; rw [Int.pow_succ] at this; omega
  have h3 := (pow_base_mono (Int.le_of_lt (p2pos L)) h2 n).1
  exact Int.le_trans h1 h3
theorem fit_hi {b : Int} {L n : Nat} (h2 : 2 ≤ b) (hb : Bits b (L + 1)) (hL : 1 ≤ L) (h : L * n ≤ 131072) : ∀ i, i ≤ n → b ^ i < 4294967296 ^ 8193 := by
  intro i hi
  have h3 := bp_mono h2 hi
  have h4 := (pow_base_mono (show 0 ≤ b by omega) (Int.le_of_lt hb.lt) n).1
  rw [← Int.pow_mul] at h4
  have h5 : (L + 1) * n ≤ 32 * 8192 := by
    have : 1 * n ≤ L * n := Nat.mul_le_mul_right n hL
    rw [Nat.add_mul]; omega
  have h6 := p2mono h5
  have e8 : (2 : Int) ^ (32 * 8192) = 4294967296 ^ 8192 := by rw [Int.pow_mul, show (2 : Int) ^ 32 = 4294967296 by decide]
  rw [e8] at h6
  clear e8
  have h7 := Nt.pw_succ 8192
  have h8 := Nt.pw_pos 8192
  generalize (4294967296 : Int) ^ 8192 = P at *
  rw [show 8193 = 8192 + 1 by decide, h7]
  omega

/-- What is told of a slice of integers that came in: it is nil; or it leads to a row of cap cells, the numbers zs (the first len are its elements), each fitting its kind. -/
def IsRow (k : IntKind) (w : World) (a : Option Addr) (len cap : Nat) (zs : List Int) : Prop :=
  (a = none ∧ len = 0 ∧ cap = 0 ∧ zs = []) ∨
  ∃ x, a = some x ∧ len ≤ cap ∧ cap ≤ maxLen ∧ zs.length = cap ∧ (∀ i, i < zs.length → w.cell? (x.add i) = some (.int k (zs.getD i 0))) ∧ ∀ n ∈ zs, (Lit.int k n).wf = true

theorem wf_u32 {n : Int} (h : (Lit.int .u32 n).wf = true) : 0 ≤ n ∧ n < 4294967296 := by
  have e : ∀ n, (Lit.int .u32 n).wf = (decide (IntKind.u32.min ≤ n) && decide (n ≤ IntKind.u32.max)) := fun _ => rfl
  rw [e] at h
  have e1 : IntKind.u32.min = 0 := rfl
  have e2 : IntKind.u32.max = 4294967295 := rfl
  rw [e1, e2] at h
  simp at h
  omega

theorem row_lie {w : World} {a : Option Addr} {len cap : Nat} {zs : List Int} (h : IsRow .u32 w a len cap zs) : ∃ ys, ys.length = len ∧ Lie w a ys ∧ Nt.Rng ys ∧ len ≤ maxLen := by
  rcases h with ⟨rfl, rfl, rfl, rfl⟩ | ⟨x, rfl, hl, hm, hz, hc, hw⟩
  · exact ⟨[], rfl, .inl rfl, Nt.rng_nil, Nat.zero_le _⟩
  · have hr : Nt.Rng zs := Nt.rng_mem (fun z hz => wf_u32 (hw z hz))
    refine ⟨zs.take len, by simp; omega, ?_, Nt.rng_take hr len, by omega⟩
    by_cases h0 : len = 0
    · subst h0
      exact .inl (by simp)
    · obtain ⟨b, o, sp⟩ := x
      have hc0 := hc 0 (by omega)
      have hsp : sp = none := by simpa [Addr.add] using World.cell?_spot hc0
      subst hsp
      refine .inr ⟨b, o, rfl, fun i hi => ?_⟩
      have hi' : i < len := by simp at hi; omega
      have := hc i (by omega)
      have ea : (⟨b, o, none⟩ : Addr).add i = ⟨b, o + i, none⟩ := by unfold Addr.add; split <;> simp_all
      rw [ea] at this
      rw [this, Nt.getD_take hi']
theorem row_lie2 {w : World} {a : Option Addr} {len cap : Nat} {zs : List Int} (h : IsRow .u32 w a len cap zs) : ∃ ys, ys.length = len ∧ Lie w a ys ∧ Nt.Rng ys ∧ len ≤ maxLen ∧ (a = none → cap = 0) := by
  have hn : a = none → cap = 0 := by
    intro e
    rcases h with ⟨_, _, h, _⟩ | ⟨x, h, _⟩
    · exact h
    · rw [h] at e; cases e
  obtain ⟨ys, h1, h2, h3, h4⟩ := row_lie h
  exact ⟨ys, h1, h2, h3, h4, hn⟩
theorem wf_u64 {n : Int} (h : (Lit.int .u64 n).wf = true) : 0 ≤ n ∧ n < 18446744073709551616 := by
  have e : ∀ n, (Lit.int .u64 n).wf = (decide (IntKind.u64.min ≤ n) && decide (n ≤ IntKind.u64.max)) := fun _ => rfl
  rw [e] at h
  have e1 : IntKind.u64.min = 0 := rfl
  have e2 : IntKind.u64.max = 18446744073709551615 := rfl
  rw [e1, e2] at h
  simp at h
  omega
theorem wf_i64 {n : Int} (h : (Lit.int .i64 n).wf = true) : -9223372036854775808 ≤ n ∧ n ≤ 9223372036854775807 := by
  have e : ∀ n, (Lit.int .i64 n).wf = (decide (IntKind.i64.min ≤ n) && decide (n ≤ IntKind.i64.max)) := fun _ => rfl
  rw [e] at h
  have e1 : IntKind.i64.min = -9223372036854775808 := rfl
  have e2 : IntKind.i64.max = 9223372036854775807 := rfl
  rw [e1, e2] at h
  simp at h
  omega
end Go.Proofs.YtiamdmfhkhlppaaDoor
