import Derived.Test.YtcjmamlffbhnlaaW22
namespace Go.Proofs.Ytcjmamlffbhnlaa
open Go.RowKit
set_option linter.unusedVariables false
/-- k digits of v are added to T0: T, with carry c. -/
structure GiveInv (T0 zv T : List Int) (k : Nat) (c : Int) : Prop where
  len : T.length = T0.length
  rng : Nt.Rng T
  eq : Nt.vp T k + c * 4294967296 ^ k = Nt.vp T0 k + Nt.vp zv k
  rest : ∀ j, k ≤ j → T.getD j 0 = T0.getD j 0
theorem GiveInv.start {T0 zv : List Int} (h : Nt.Rng T0) : GiveInv T0 zv T0 0 0 := ⟨rfl, h, by simp [Nt.vp], fun _ _ => rfl⟩
theorem GiveInv.step {T0 zv T : List Int} {k : Nat} {c x : Int} (h : GiveInv T0 zv T k c) (hk : k < T.length) (hx : x = zv.getD k 0) :
    GiveInv T0 zv (T.set k ((T.getD k 0 + x + c) % 4294967296)) (k + 1) ((T.getD k 0 + x + c) / 4294967296) := by
  refine ⟨by rw [List.length_set]; exact h.len, Nt.rng_set h.rng (by omega) (by omega), ?_, fun j hj => ?_⟩
  · exact Nt.sum_step hk h.eq (h.rest k (Nat.le_refl _)) hx (by omega)
  · rw [Nt.getD_set_ne (by omega)]; exact h.rest j (by omega)
theorem GiveInv.done {T0 zv T : List Int} {c : Int} (h : GiveInv T0 zv T zv.length c) (hl : zv.length < T.length) :
    Nt.vp (T.set zv.length ((T.getD zv.length 0 + c) % 4294967296)) (zv.length + 1) = Nt.vp T0 (zv.length + 1) + Nt.val zv - (T.getD zv.length 0 + c) / 4294967296 * 4294967296 ^ (zv.length + 1) := by
  have he := h.eq
  have hr := h.rest zv.length (Nat.le_refl _)
  have ev : Nt.vp zv zv.length = Nt.val zv := rfl
  rw [ev] at he
  have hn : (T.getD zv.length 0 + c) % 4294967296 + (T.getD zv.length 0 + c) / 4294967296 * 4294967296 = T.getD zv.length 0 + c := by omega
  rw [Nt.vp_step, Nt.vp_step, Nt.vp_set (Nat.le_refl _), Nt.getD_set_self hl, Nt.pw_succ, ← hr]
  generalize (T.getD zv.length 0 + c) % 4294967296 = n at *
  generalize (T.getD zv.length 0 + c) / 4294967296 = f at *
  generalize (4294967296 : Int) ^ zv.length = K at *
  grind

set_option maxHeartbeats 2000000 in
theorem give72 (g off cu : Nat) (b : Option Addr) (cb : Nat) (P T0 zv : List Int) (w : World) (hblk0 : Blk w g (P ++ T0)) (hP : P.length = off) (hT : zv.length + 1 ≤ T0.length) (hs : (P ++ T0).length ≤ 1000000) (hb : Lie w b zv)
    (hne : 0 < zv.length → ∀ x, b = some x → x.block ≠ g) (rT : Nt.Rng T0) (rv : Nt.Rng zv) :
    Calls Try.prog 72 #[.slice (some ⟨g, off, none⟩) (zv.length + 1) cu, .slice b zv.length cb] w fun e w' => ∃ T f, e = .returned (.tuple #[]) ∧ Blk w' g (P ++ T) ∧ T.length = T0.length ∧ Nt.Rng T ∧ 0 ≤ f ∧ f ≤ 1 ∧ Nt.vp T (zv.length + 1) = Nt.vp T0 (zv.length + 1) + Nt.val zv - f * 4294967296 ^ (zv.length + 1) ∧ (∀ j, zv.length + 1 ≤ j → T.getD j 0 = T0.getD j 0) ∧ w.grownBy w' (some g) := by
  have RV := Hide.mk rv
  have RT := Hide.mk rT
  have HB := Hide.mk hb
  have HN := Hide.mk hne
  have HK := Hide.mk hblk0
  have HP := Hide.mk hP
  have hls : off + T0.length ≤ 1000000 := by rw [List.length_append, hP] at hs; exact hs
  clear rv rT hb hne hblk0 hP hs
  go_enter Try.func72, Try.ntmps72
  go_wp2
  go_loopw [4, 9] (fun c i wr => ∃ (k : Nat) (T : List Int) (cc : Int), k ≤ zv.length ∧ i = .int .i64 k ∧ c = .int .u32 cc ∧ 0 ≤ cc ∧ cc ≤ 1 ∧ Blk wr g (P ++ T) ∧ GiveInv T0 zv T k cc ∧ w.grownBy wr (some g)) (fun _ i _ => zv.length - (intOf i).toNat)
  case atStart => exact ⟨0, _, 0, Nat.zero_le _, rfl, rfl, by decide, by decide, HK.out, GiveInv.start RT.out, grown_refl _ _⟩
  case round =>
    obtain ⟨k, T, cc, hk, rfl, rfl, hc0, hc1, hblk, hinv, hgr⟩ := hrel
    have HG := Hide.mk hgr
    have HI := Hide.mk hinv
    have HR := Hide.mk hblk
    clear hgr hblk hinv
    have hlT : Hide (T.length = T0.length) := ⟨HI.out.len⟩
    by_cases hlt : k < zv.length
    · have hkT : k < T.length := by rw [hlT.out]; omega
      have hcs := HR.out.cell (j := off + k) (by rw [List.length_append, HP.out]; omega)
      have hfs := HR.out.frozen (off + k)
      rw [getD_pre HP.out] at hcs
      have hset := fun x => Hide.mk (HR.out.set (off + k) x)
      simp only [set_pre HP.out] at hset
      have hstep := fun x => Hide.mk (fun h1 => HI.out.step (x := x) hkT h1)
      have hrs := HI.out.rng k
      have hrb := RV.out k
      obtain ⟨bb, bo, rfl⟩ := lie_some HB.out (by omega)
      have hcb : wr.cell? ⟨bb, bo + k, none⟩ = some (.int .u32 (zv.getD k 0)) :=
        HG.out.cell (lie_cell HB.out rfl hlt) (by have := HN.out (by omega) _ rfl; simpa using this)
      clear HI HR hkT
      generalize T.getD k 0 = y at *
      generalize zv.getD k 0 = x at *
      go_wp2_with (go_at_call 53; refine (add32 _ _ _ (by omega) (by omega) (by omega) (by omega) (by omega) (by omega) _).mono ?_; rintro e w' ⟨rfl, rfl⟩)
      go_roundw
      case rel => exact ⟨k + 1, _, _, hlt, by go_num, rfl, by omega, by omega, (hset _).out, (hstep x).out rfl, grown_trans HG.out (grown_set _ _ _ _)⟩
      case measure => simp [intOf]; omega
    · have hinv2 : Hide (GiveInv T0 zv T zv.length cc) := ⟨by
        have hkk : k = zv.length := by omega
        rw [← hkk]; exact HI.out⟩
      have hkT : zv.length < T.length := by rw [hlT.out]; omega
      have hcs := HR.out.cell (j := off + zv.length) (by rw [List.length_append, HP.out]; omega)
      have hfs := HR.out.frozen (off + zv.length)
      rw [getD_pre HP.out] at hcs
      have hset := fun x => Hide.mk (HR.out.set (off + zv.length) x)
      simp only [set_pre HP.out] at hset
      have hrs := hinv2.out.rng zv.length
      have hdone := Hide.mk (hinv2.out.done hkT)
      have hrest : Hide (∀ n j, zv.length + 1 ≤ j → (T.set zv.length n).getD j 0 = T0.getD j 0) := ⟨fun n j hj => by rw [Nt.getD_set_ne (by omega)]; exact hinv2.out.rest j (by omega)⟩
      have hrng : Hide (∀ n, 0 ≤ n → n < 4294967296 → Nt.Rng (T.set zv.length n)) := ⟨fun n h0 h1 => Nt.rng_set hinv2.out.rng h0 h1⟩
      clear HI HR hinv2 hkT
      generalize T.getD zv.length 0 = y at *
      go_wp2
      go_end0
      exact ⟨T.set zv.length ((y + cc) % 4294967296), (y + cc) / 4294967296, rfl, (hset _).out, by rw [List.length_set]; exact hlT.out, hrng.out _ (by omega) (by omega), by omega, by omega, hdone.out, hrest.out _, grown_trans HG.out (grown_set _ _ _ _)⟩
end Go.Proofs.Ytcjmamlffbhnlaa
