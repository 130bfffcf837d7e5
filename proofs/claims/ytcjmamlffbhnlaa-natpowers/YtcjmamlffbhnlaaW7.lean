import Derived.Test.YtcjmamlffbhnlaaW6
namespace Go.Proofs.Ytcjmamlffbhnlaa
open Go.RowKit
set_option linter.unusedVariables false
theorem grown_trans {a b c : World} {row : Option Nat} (h : a.grownBy b row) (k : b.grownBy c row) : a.grownBy c row :=
  ⟨k.os.trans h.os, k.tape.trans h.tape, k.output.trans h.output, Nat.le_trans h.size k.size, fun i hi hr => (k.block i (Nat.lt_of_lt_of_le hi h.size) hr).trans (h.block i hi hr)⟩
theorem grown_refl (w : World) (row : Option Nat) : w.grownBy w row := ⟨rfl, rfl, rfl, Nat.le_refl _, fun _ _ _ => rfl⟩
theorem grown_set (w : World) (g j : Nat) (u : Value) : w.grownBy (w.setCell ⟨g, j, none⟩ u) (some g) :=
  ⟨rfl, rfl, rfl, by simp [World.setCell], fun k _ hne => Below.heap_setCell _ _ _ _ (fun e => hne (by rw [e]))⟩
theorem Lie.grown {w w' : World} {a : Option Addr} {zs : List Int} {g : Nat} (h : Lie w a zs) (hg : w.grownBy w' (some g)) (hne : 0 < zs.length → ∀ x, a = some x → x.block ≠ g) : Lie w' a zs := by
  rcases h with h | ⟨b, o, rfl, hc⟩
  · exact .inl h
  · refine .inr ⟨b, o, rfl, fun i hi => ?_⟩
    exact hg.cell (hc i hi) (by have := hne (by omega) _ rfl; simpa using this)

/-- After k rounds of addTimes: digits s, carry c. -/
structure TimesInv (s0 zb : List Int) (off : Nat) (d : Int) (s : List Int) (k : Nat) (c : Int) : Prop where
  len : s.length = s0.length
  rng : Nt.Rng s
  eq : Nt.vp s (off + k) + c * 4294967296 ^ (off + k) = Nt.vp s0 (off + k) + d * Nt.vp zb k * 4294967296 ^ off
  rest : ∀ j, off + k ≤ j → s.getD j 0 = s0.getD j 0
theorem TimesInv.start {s0 zb : List Int} {off : Nat} {d : Int} (h : Nt.Rng s0) : TimesInv s0 zb off d s0 0 0 := ⟨rfl, h, by simp [Nt.vp], fun _ _ => rfl⟩
theorem mul_bd {x d : Int} (hx : 0 ≤ x) (hx' : x < 4294967296) (hd : 0 ≤ d) (hd' : d < 4294967296) : 0 ≤ x * d ∧ x * d ≤ 18446744065119617025 := by
  have h1 : x * d ≤ 4294967295 * d := Int.mul_le_mul_of_nonneg_right (by omega) hd
  have h2 := Int.mul_nonneg hx hd
  omega
theorem TimesInv.step {s0 zb s : List Int} {off k : Nat} {d c x : Int} (h : TimesInv s0 zb off d s k c) (hk : off + k < s.length) (hx : x = zb.getD k 0) :
    TimesInv s0 zb off d (s.set (off + k) ((x * d + s.getD (off + k) 0 + c) % 4294967296)) (k + 1) ((x * d + s.getD (off + k) 0 + c) / 4294967296) := by
  refine ⟨by rw [List.length_set]; exact h.len, Nt.rng_set h.rng (by omega) (by omega), ?_, fun j hj => ?_⟩
  · have he := h.eq
    have hr := h.rest (off + k) (Nat.le_refl _)
    have hn : (x * d + s.getD (off + k) 0 + c) % 4294967296 + (x * d + s.getD (off + k) 0 + c) / 4294967296 * 4294967296 = x * d + s.getD (off + k) 0 + c := by omega
    rw [← Nat.add_assoc, Nt.vp_step, Nt.vp_step, Nt.vp_step, Nt.vp_set (Nat.le_refl _), Nt.getD_set_self hk, Nt.pw_succ, ← hr, ← hx]
    generalize (x * d + s.getD (off + k) 0 + c) % 4294967296 = n at *
    generalize (x * d + s.getD (off + k) 0 + c) / 4294967296 = c' at *
    rw [Nt.pw_add] at *
    generalize (4294967296 : Int) ^ off = P at *
    generalize (4294967296 : Int) ^ k = K at *
    grind
  · rw [Nt.getD_set_ne (by omega)]; exact h.rest j (by omega)

set_option maxHeartbeats 1000000 in
theorem times55 (g off cp : Nat) (b : Option Addr) (cb : Nat) (s0 zb : List Int) (d : Int) (w : World) (hblk0 : Blk w g s0) (hoff : off + zb.length ≤ s0.length) (hcp : zb.length ≤ cp) (hs : s0.length ≤ 1000000) (hcm : cp ≤ 1000000) (hb : Lie w b zb)
    (hne : 0 < zb.length → ∀ x, b = some x → x.block ≠ g) (rs : Nt.Rng s0) (rb : Nt.Rng zb) (hd : 0 ≤ d) (hd' : d < 4294967296) :
    Calls Try.prog 55 #[.slice (some ⟨g, off, none⟩) zb.length cp, .slice b zb.length cb, .int .u32 d] w fun e w' => ∃ s c, e = .returned (.int .u32 c) ∧ 0 ≤ c ∧ c < 4294967296 ∧ Blk w' g s ∧ TimesInv s0 zb off d s zb.length c ∧ w.grownBy w' (some g) := by
  have RB := Hide.mk rb
  have RS := Hide.mk rs
  have HB := Hide.mk hb
  have HN := Hide.mk hne
  have HK := Hide.mk hblk0
  clear rb rs hb hne hblk0
  go_enter Try.func55, Try.ntmps55
  go_wp2
  go_loopw [7, 17] (fun c i wr => ∃ (k : Nat) (s : List Int) (cc : Int), k ≤ zb.length ∧ i = .int .i64 k ∧ c = .int .u64 cc ∧ 0 ≤ cc ∧ cc < 4294967296 ∧ Blk wr g s ∧ TimesInv s0 zb off d s k cc ∧ w.grownBy wr (some g)) (fun _ i _ => zb.length - (intOf i).toNat)
  case atStart => exact ⟨0, _, 0, Nat.zero_le _, rfl, rfl, by decide, by decide, HK.out, TimesInv.start RS.out, grown_refl _ _⟩
  case round =>
    obtain ⟨k, s, cc, hk, rfl, rfl, hc0, hc1, hblk, hinv, hgr⟩ := hrel
    have HG := Hide.mk hgr
    clear hgr
    by_cases hlt : k < zb.length
    · have hks : off + k < s.length := by rw [hinv.len]; omega
      have hcs := hblk.cell hks
      have hfs := hblk.frozen (off + k)
      have hstep := fun x => Hide.mk (hinv.step (x := x) hks)
      have hset := fun x => Hide.mk (hblk.set (off + k) x)
      have hrs := hinv.rng (off + k)
      have hrb := RB.out k
      clear hinv hblk
      rcases HB.out with rfl | ⟨bb, bo, rfl, hbc⟩
      · simp at hlt
      · have hcb : wr.cell? ⟨bb, bo + k, none⟩ = some (.int .u32 (zb.getD k 0)) :=
          HG.out.cell (hbc k hlt) (by have := HN.out (by omega) _ rfl; simpa using this)
        clear hbc
        generalize s.getD (off + k) 0 = y at *
        generalize zb.getD k 0 = x at *
        have hxd := mul_bd hrb.1 hrb.2 hd hd'
        go_wp2
        go_roundw
        case rel => exact ⟨k + 1, _, _, hlt, by go_num, rfl, by omega, by omega, (hset _).out, (hstep x).out rfl, grown_trans HG.out (grown_set _ _ _ _)⟩
        case measure => simp [intOf]; omega
    · have hinv2 : Hide (TimesInv s0 zb off d s zb.length cc) := ⟨by
        have hkk : k = zb.length := by omega
        rw [← hkk]; exact hinv⟩
      have HK2 := Hide.mk hblk
      clear hinv hblk
      go_wp2
      go_ret
      exact ⟨s, cc, by first | rfl | go_num, hc0, hc1, HK2.out, hinv2.out, HG.out⟩
end Go.Proofs.Ytcjmamlffbhnlaa
