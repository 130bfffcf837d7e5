import Derived.Test.YtcjmamlffbhnlaaW21
namespace Go.Proofs.Ytcjmamlffbhnlaa
open Go.RowKit
set_option linter.unusedVariables false
theorem wrap_u64_mod (n : Int) : IntKind.u64.wrap n = n % 18446744073709551616 := by simp [IntKind.wrap, IntKind.bits, IntKind.signed]
theorem take_colw {u t : Int} (hu : 0 ≤ u) (hu' : u < 4294967296) (ht : 0 ≤ t) (ht' : t ≤ 18446744069414584320) :
    IntKind.u64.wrap (u - t % 4294967296) % 4294967296 - IntKind.u64.wrap (t / 4294967296 + IntKind.u64.wrap (u - t % 4294967296) / 9223372036854775808) * 4294967296 = u - t ∧ 0 ≤ IntKind.u64.wrap (t / 4294967296 + IntKind.u64.wrap (u - t % 4294967296) / 9223372036854775808) ∧ IntKind.u64.wrap (t / 4294967296 + IntKind.u64.wrap (u - t % 4294967296) / 9223372036854775808) ≤ 4294967295 := by
  have h := take_col hu hu' ht ht'
  rw [wrap_u64_mod, wrap_u64_mod]
  omega
/-- The last column. -/
theorem take_top {u c : Int} (hu : 0 ≤ u) (hu' : u < 4294967296) (hc : 0 ≤ c) (hc' : c ≤ 4294967295) :
    IntKind.u64.wrap (u - c) % 4294967296 = u - c + (if IntKind.u64.wrap (u - c) / 9223372036854775808 != 0 then 4294967296 else 0) := by
  rw [wrap_u64_mod]
  by_cases h : u < c
  · have e : (u - c) % 18446744073709551616 / 9223372036854775808 = 1 := by omega
    rw [e]; simp; omega
  · have e : (u - c) % 18446744073709551616 / 9223372036854775808 = 0 := by omega
    rw [e]; simp; omega
theorem TakeInv.done {T0 zv T : List Int} {q c n : Int} {f : Bool} (h : TakeInv T0 zv q T zv.length c) (hl : zv.length < T.length) (hn : n = T.getD zv.length 0 - c + (if f then 4294967296 else 0)) :
    Nt.vp (T.set zv.length n) (zv.length + 1) = Nt.vp T0 (zv.length + 1) - q * Nt.val zv + (if f then 4294967296 ^ (zv.length + 1) else 0) := by
  have he := h.eq
  have hr := h.rest zv.length (Nat.le_refl _)
  have ev : Nt.vp zv zv.length = Nt.val zv := rfl
  rw [ev] at he
  rw [Nt.vp_step, Nt.vp_step, Nt.vp_set (Nat.le_refl _), Nt.getD_set_self hl, Nt.pw_succ, ← hr]
  generalize (4294967296 : Int) ^ zv.length = K at *
  cases f
  · simp only [Bool.false_eq_true, if_false] at hn ⊢
    subst hn
    grind
  · simp only [if_true] at hn ⊢
    subst hn
    grind

set_option maxHeartbeats 2000000 in
theorem take71 (g off cu : Nat) (b : Option Addr) (cb : Nat) (P T0 zv : List Int) (q : Int) (w : World) (hblk0 : Blk w g (P ++ T0)) (hP : P.length = off) (hT : zv.length + 1 ≤ T0.length) (hs : (P ++ T0).length ≤ 1000000) (hb : Lie w b zv)
    (hne : 0 < zv.length → ∀ x, b = some x → x.block ≠ g) (rT : Nt.Rng T0) (rv : Nt.Rng zv) (hq : 0 ≤ q) (hq' : q < 4294967296) :
    Calls Try.prog 71 #[.slice (some ⟨g, off, none⟩) (zv.length + 1) cu, .slice b zv.length cb, .int .u32 q] w fun e w' => ∃ T f, e = .returned (.bool f) ∧ Blk w' g (P ++ T) ∧ T.length = T0.length ∧ Nt.Rng T ∧ Nt.vp T (zv.length + 1) = Nt.vp T0 (zv.length + 1) - q * Nt.val zv + (if f then 4294967296 ^ (zv.length + 1) else 0) ∧ (∀ j, zv.length + 1 ≤ j → T.getD j 0 = T0.getD j 0) ∧ w.grownBy w' (some g) := by
  have RV := Hide.mk rv
  have RT := Hide.mk rT
  have HB := Hide.mk hb
  have HN := Hide.mk hne
  have HK := Hide.mk hblk0
  have HP := Hide.mk hP
  have hls : off + T0.length ≤ 1000000 := by rw [List.length_append, hP] at hs; exact hs
  clear rv rT hb hne hblk0 hP hs
  go_enter Try.func71, Try.ntmps71
  go_wp2
  go_loopw [8, 18] (fun c i wr => ∃ (k : Nat) (T : List Int) (cc : Int), k ≤ zv.length ∧ i = .int .i64 k ∧ c = .int .u64 cc ∧ 0 ≤ cc ∧ cc ≤ 4294967295 ∧ Blk wr g (P ++ T) ∧ TakeInv T0 zv q T k cc ∧ w.grownBy wr (some g)) (fun _ i _ => zv.length - (intOf i).toNat)
  case atStart => exact ⟨0, _, 0, Nat.zero_le _, rfl, rfl, by decide, by decide, HK.out, TakeInv.start RT.out, grown_refl _ _⟩
  case round =>
    obtain ⟨k, T, cc, hk, rfl, rfl, hc0, hc1, hblk, hinv, hgr⟩ := hrel
    have HG := Hide.mk hgr
    have HI := Hide.mk hinv
    have HR := Hide.mk hblk
    clear hgr hblk hinv
    have hlT : Hide (T.length = T0.length) := ⟨HI.out.len⟩
    by_cases hlt : k < zv.length
    · have hkT : k < T.length := by rw [hlT.out]; omega
      have hcs := HR.out.cell (j := off + k) (by rw [List.length_append, HP.out]; omega)
      have hfs := HR.out.frozen (off + k)
      rw [getD_pre HP.out] at hcs
      have hset := fun x => Hide.mk (HR.out.set (off + k) x)
      simp only [set_pre HP.out] at hset
      have hstep := fun x n c' => Hide.mk (fun h1 h2 h3 h4 => HI.out.step (x := x) (n := n) (c' := c') hkT h1 h2 h3 h4)
      have hrs := HI.out.rng k
      have hrb := RV.out k
      obtain ⟨bb, bo, rfl⟩ := lie_some HB.out (by omega)
      have hcb : wr.cell? ⟨bb, bo + k, none⟩ = some (.int .u32 (zv.getD k 0)) :=
        HG.out.cell (lie_cell HB.out rfl hlt) (by have := HN.out (by omega) _ rfl; simpa using this)
      clear HI HR hkT
      generalize T.getD k 0 = y at *
      generalize zv.getD k 0 = x at *
      have hxd := mul_bd hrb.1 hrb.2 hq hq'
      have hand := and64_lo (x * q + cc) (by omega) (by omega)
      have HC := Hide.mk (take_colw (u := y) (t := x * q + cc) hrs.1 hrs.2 (by omega) (by omega))
      go_wp2
      go_roundw
      case rel => exact ⟨k + 1, _, _, hlt, by go_num, rfl, HC.out.2.1, HC.out.2.2, (hset _).out, (hstep x _ _).out rfl (by have := HC.out.1; omega) (by omega) (by omega), grown_trans HG.out (grown_set _ _ _ _)⟩
      case measure => simp [intOf]; omega
    · have hinv2 : Hide (TakeInv T0 zv q T zv.length cc) := ⟨by
        have hkk : k = zv.length := by omega
        rw [← hkk]; exact HI.out⟩
      have hkT : zv.length < T.length := by rw [hlT.out]; omega
      have hcs := HR.out.cell (j := off + zv.length) (by rw [List.length_append, HP.out]; omega)
      have hfs := HR.out.frozen (off + zv.length)
      rw [getD_pre HP.out] at hcs
      have hset := fun x => Hide.mk (HR.out.set (off + zv.length) x)
      simp only [set_pre HP.out] at hset
      have hrs := hinv2.out.rng zv.length
      have hdone := fun n f => Hide.mk (hinv2.out.done (n := n) (f := f) hkT)
      have htop := Hide.mk (take_top hrs.1 hrs.2 hc0 hc1)
      have hrest : Hide (∀ n j, zv.length + 1 ≤ j → (T.set zv.length n).getD j 0 = T0.getD j 0) := ⟨fun n j hj => by rw [Nt.getD_set_ne (by omega)]; exact hinv2.out.rest j (by omega)⟩
      have hrng : Hide (∀ n, 0 ≤ n → n < 4294967296 → Nt.Rng (T.set zv.length n)) := ⟨fun n h0 h1 => Nt.rng_set hinv2.out.rng h0 h1⟩
      clear HI HR hinv2 hkT
      generalize T.getD zv.length 0 = y at *
      go_wp2
      go_ret
      exact ⟨T.set zv.length (IntKind.u64.wrap (y - cc) % 4294967296), IntKind.u64.wrap (y - cc) / 9223372036854775808 != 0, rfl, (hset _).out, by rw [List.length_set]; exact hlT.out, hrng.out _ (by omega) (by omega), (hdone _ _).out htop.out, hrest.out _, grown_trans HG.out (grown_set _ _ _ _)⟩
end Go.Proofs.Ytcjmamlffbhnlaa
