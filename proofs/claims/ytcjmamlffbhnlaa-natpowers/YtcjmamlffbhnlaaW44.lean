import Derived.Test.YtcjmamlffbhnlaaW43
namespace Go.Proofs.Ytcjmamlffbhnlaa
open Go.RowKit
set_option linter.unusedVariables false
set_option maxHeartbeats 4000000 in
set_option maxRecDepth 100000 in
theorem refPow34 (b : Int) (w : World) (n K : Nat) (h0 : 0 ≤ b) (h1 : b ≤ 4294967295) (hn : n ≤ 1000000) (hK : K ≤ 50000) (hX : ∀ i, i ≤ n → b ^ i < 4294967296 ^ K) :
    Calls Try.prog 34 #[.int .u32 b, .int .i64 n] w fun e w' => ∃ zs a c, e = .returned (.slice a zs.length c) ∧ Lie w' a zs ∧ Nt.Can zs ∧ Nt.val zs = b ^ n ∧ zs.length ≤ K ∧ Below w.heap.size w w' := by
  have HX := Hide.mk hX
  clear hX
  have C1 := fun W => Hide.mk (of17 b h0 (by omega) W)
  have L0 := Hide.mk (lie_new w [1])
  have hbA := below_alloc w (.cells #[.int .u32 1] 49)
  go_enter Try.func34, Try.ntmps34
  go_wp2_with fail
  refine (C1 _).out.mono ?_
  rintro e w1 ⟨z1, a1, c1, rfl, hnum, _⟩
  have HN1 := Hide.mk hnum
  have HL1 := Hide.mk (L0.out.below hnum.bel (Nat.le_refl _))
  have HB1 := Hide.mk (below_then hbA hnum.bel)
  clear hnum C1 hbA
  go_wp2
  go_loopw [1, 5, 6] (fun nv ov sv wr => ∃ (i t m : Nat) (zo zs : List Int) (ao as1 : Option Addr) (co cs : Nat), nv = .int .i64 m ∧ m ≤ n ∧ Hide (i + t * m = n) ∧ ov = .slice ao zo.length co ∧ sv = .slice as1 zs.length cs ∧ Hide (Lie wr ao zo) ∧ Hide (Lie wr as1 zs) ∧ Hide (Nt.Can zo ∧ Nt.val zo = b ^ i) ∧ Hide (Nt.Can zs ∧ Nt.val zs = b ^ t) ∧ Below w.heap.size w wr) (fun nv _ _ _ => (intOf nv).toNat)
  case atStart => exact ⟨0, 1, n, [1], z1, _, a1, _, c1, rfl, Nat.le_refl _, ⟨by omega⟩, rfl, rfl, HL1, ⟨HN1.out.lie⟩, ⟨⟨Nt.rng_mem (by simp), fun _ => by decide⟩, by rw [Int.pow_zero]; exact val_one 1⟩, ⟨HN1.out.can, by rw [Int.pow_succ, Int.pow_zero, Int.one_mul]; exact HN1.out.val⟩, HB1.out⟩
  case round =>
    obtain ⟨i, t, m, zo, zs, ao, as1, co, cs, rfl, hmn, hsum, rfl, rfl, HLO, HLS, KO, KS, hbel⟩ := hrel
    clear HN1 HL1 L0 HB1
    by_cases hm : 0 < m
    · obtain ⟨q, hq⟩ : ∃ q : Nat, q = m / 2 := ⟨_, rfl⟩
      have hqi : (m : Int) / 2 = (q : Int) := by omega
      have hmi : (0 : Int) < (m : Int) := by omega
      have htm : t * 1 ≤ t * m := Nat.mul_le_mul_left t hm
      have hlo : zo.length ≤ K := (Nt.can_len KO.out.1 _).1 (by rw [KO.out.2]; exact HX.out i (by have := hsum.out; omega))
      have hls : zs.length ≤ K := (Nt.can_len KS.out.1 _).1 (by rw [KS.out.2]; exact HX.out t (by have := hsum.out; omega))
      have C3 := fun W (h : Below wr.heap.size wr W) => Hide.mk (refMul_any as1 as1 cs cs zs zs W (HLS.out.below h (Nat.le_refl _)) (HLS.out.below h (Nat.le_refl _)) KS.out.1.1 KS.out.1.1 (by omega) (by omega))
      by_cases hodd : m % 2 = 1
      · have hoi : ((m : Int) % 2 == 1) = true := beq_iff_eq.2 (by omega)
        have C2 := Hide.mk (refMul_any ao as1 co cs zo zs wr HLO.out HLS.out KO.out.1.1 KS.out.1.1 (by omega) (by omega))
        have hm2 : Hide (m = 2 * q + 1) := ⟨by omega⟩
        clear hodd htm hm hq
        go_wp2_with fail
        refine C2.out.mono ?_
        rintro e w2 ⟨z2, a2, c2, rfl, o2, k2, v2, hb2⟩
        have HL2 := Hide.mk (ownLie o2)
        have HS2 := Hide.mk (HLS.out.below hb2 (Nat.le_refl _))
        have K2 : Hide (Nt.Can z2 ∧ Nt.val z2 = b ^ (i + t)) := ⟨k2, by rw [v2, KO.out.2, KS.out.2, Int.pow_add]⟩
        have C4 := C3 w2 hb2
        have hbw2 := below_then hbel hb2
        clear C2 C3 o2 k2 v2 HLO HLS hb2
        by_cases hq0 : 0 < q
        · have hq0i : (0 : Int) < (q : Int) := by omega
          clear hq0
          go_wp2_with fail
          refine C4.out.mono ?_
          rintro e w3 ⟨z3, a3, c3, rfl, o3, k3, v3, hb3⟩
          have HL3 := Hide.mk (ownLie o3)
          have HL2' := Hide.mk (HL2.out.below hb3 (Nat.le_refl _))
          have K3 : Hide (Nt.Can z3 ∧ Nt.val z3 = b ^ (2 * t)) := ⟨k3, by rw [v3, KS.out.2, bp_sq]⟩
          have hbw3 := below_then hbw2 hb3
          clear C4 o3 k3 v3 hb3 HL2
          go_wp2
          go_roundw
          case rel => exact ⟨i + t, 2 * t, q, z2, z3, a2, a3, c2, c3, by go_num, by have := hm2.out; omega, ⟨by have h1 := hsum.out; rw [hm2.out] at h1; rw [← h1, Nat.mul_add, Nat.mul_one, Nat.mul_comm 2 t, Nat.mul_assoc]; omega⟩, rfl, rfl, HL2', HL3, K2, K3, hbw3⟩
          case measure => have := hm2.out; simp [intOf]; omega
        · have hq1 : q = 0 := by omega
          have HS : Hide (i + t + t * q = n) := ⟨by
            have h1 := hsum.out
            rw [hm2.out, hq1] at h1
            rw [hq1]; omega⟩
          have hq0i : (q : Int) ≤ 0 := by omega
          clear C4 hq1 hq0
          go_wp2
          go_roundw
          case rel => exact ⟨i + t, t, q, z2, zs, a2, as1, c2, cs, by go_num, by have := hm2.out; omega, HS, rfl, rfl, HL2, HS2, K2, KS, hbw2⟩
          case measure => have := hm2.out; simp [intOf]; omega
      · have hoi : ((m : Int) % 2 == 1) = false := beq_eq_false_iff_ne.2 (by omega)
        have hm2 : Hide (m = 2 * q) := ⟨by omega⟩
        have hq0i : (0 : Int) < (q : Int) := by omega
        have C4 := C3 wr (Below.refl _ _)
        clear hodd htm hm hq C3
        go_wp2_with fail
        refine C4.out.mono ?_
        rintro e w3 ⟨z3, a3, c3, rfl, o3, k3, v3, hb3⟩
        have HL3 := Hide.mk (ownLie o3)
        have HL2' := Hide.mk (HLO.out.below hb3 (Nat.le_refl _))
        have K3 : Hide (Nt.Can z3 ∧ Nt.val z3 = b ^ (2 * t)) := ⟨k3, by rw [v3, KS.out.2, bp_sq]⟩
        have hbw3 := below_then hbel hb3
        clear C4 o3 k3 v3 hb3 HLO
        go_wp2
        go_roundw
        case rel => exact ⟨i, 2 * t, q, zo, z3, ao, a3, co, c3, by go_num, by have := hm2.out; omega, ⟨by have h1 := hsum.out; rw [hm2.out] at h1; rw [← h1, Nat.mul_comm 2 t, Nat.mul_assoc]⟩, rfl, rfl, HL2', HL3, KO, K3, hbw3⟩
        case measure => have := hm2.out; simp [intOf]; omega
    · have hm0 : m = 0 := by omega
      have hin : Hide (i = n) := ⟨by
        have h1 := hsum.out
        rw [hm0] at h1; omega⟩
      have hmi : (m : Int) ≤ 0 := by omega
      clear hm hm0
      have hlo : zo.length ≤ K := (Nt.can_len KO.out.1 _).1 (by rw [KO.out.2]; exact HX.out i (by have := hin.out; omega))
      go_wp2
      go_ret
      exact ⟨zo, ao, co, rfl, HLO.out, KO.out.1, by rw [KO.out.2, hin.out], hlo, hbel⟩
end Go.Proofs.Ytcjmamlffbhnlaa
