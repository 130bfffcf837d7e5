import Derived.Test.YtdnghibkagcbcaaGreatDoorRoundQuotientsPart22
namespace Go.Proofs.YtdnghibkagcbcaaGreatDoor
open Go.RowKit Go.Wd Go.Box
set_option linter.unusedVariables false
set_option maxRecDepth 3000
def bq (g : Bool) : Int := if g then 1 else 0
theorem rBeyond (n : Bool) (a : Option Addr) (c : Nat) (z : List Int) (x : Int) (w : World) (l : Lie w a z) {q E : Int} (F : Fm (sv n q) E n z x) (hq : BitLen q 60) (g : Bool) (h1 : -36000000 ≤ E) (h2 : E ≤ 36000000) :
    Calls Tryz.prog 63 #[dV n a z.length c x, .bool g] w fun e w' => RF w w' (sv n (4 * q + bq g)) (E - 2) e := by
  have hq0 : 0 < q := by
    rcases hq with ⟨_, h⟩ | ⟨h, _⟩
    · omega
    · exact h
  have hq1 : q < 2 ^ 60 := by
    rcases hq with ⟨h, _⟩ | ⟨_, h⟩
    · omega
    · exact h.lt
  have hE : E = E - 2 + (2 : Nat) := by omega
  have F2 : Fm (sv n (4 * q)) (E - 2) n z x := by
    rw [hE] at F
    have := F.scale
    rw [sv_mulP, show q * 2 ^ 2 = 4 * q by omega] at this
    exact this
  have B1 := ((Bx.nil w).push (DO n a z.length c x)).push (DO false none 0 0 0)
  rw [show (w.alloc (DO n a z.length c x)).heap.size = w.heap.size + 1 by simp] at B1
  obtain ⟨⟨s0, s1, s2⟩, _⟩ := cells3 B1 w.heap.size _ _ _ _ (.tail _ (.head _))
  obtain ⟨⟨t0, t1, t2⟩, r0, r1, r2⟩ := cells3 B1 (w.heap.size + 1) _ _ _ _ (.head _)
  have HF2 := Hide.mk F2
  cases g
  · clear F F2 hE
    go_enter Tryz.func63, Tryz.ntmps63
    go_wp2
    have Bf := ((Bx.nil w).push (DO n a z.length c x)).push (DO n a z.length c x)
    refine bodyPost_ret (results_D1 rfl _ _ (w.heap.size + 1) _ rfl ⟨by simpa using Bf.head, rfl⟩) rfl ?_
    exact ⟨n, z, x, a, c, rfl, by rw [show 4 * q + bq false = 4 * q by simp [bq]]; exact HF2.out, l.below Bf.bel (Nat.le_refl _), Bf.bel⟩
  · have hne : sv n q ≠ 0 := fun h => by have := natAbs_sv n (Int.le_of_lt hq0); rw [h] at this; simp at this; omega
    have HT := fun W (hW : Below w.heap.size w W) => Hide.mk (rTopF n a c z x W (l.below hW (Nat.le_refl _)) F hne (by rw [natAbs_sv n (Int.le_of_lt hq0)]; exact hq) (by omega) (by omega) (by omega))
    have f1 := two_fm (E - 2)
    have rq : Rm (sv n (4 * q)) (E - 2) 64 := ⟨by cases n <;> simp only [sv_t, sv_f] <;> omega, by cases n <;> simp only [sv_t, sv_f] <;> omega⟩
    have r1' : Rm 1 (E - 2) 64 := ⟨by omega, by omega⟩
    have HA := fun W (h : Below w.heap.size w W) a1 c1 (l1 : Lie W a1 [1]) => Hide.mk (addM 64 n false a a1 c c1 z [1] x (E - 2) W (l.below h (Nat.le_refl _)) l1 F2 f1 rq r1' (by omega) (by omega) (by omega))
    have HS := fun W (h : Below w.heap.size w W) a1 c1 (l1 : Lie W a1 [1]) => Hide.mk (subM 64 n false a a1 c c1 z [1] x (E - 2) W (l.below h (Nat.le_refl _)) l1 F2 f1 rq r1' (by omega) (by omega) (by omega))
    have ht : ((60 : Nat) : Int) = 60 := rfl
    rw [ht] at HT
    clear F F2 hE f1 rq r1' hq hne ht
    cases n
    · go_enter Tryz.func63, Tryz.ntmps63
      go_wp2_with fail
      refine (HT _ B1.bel).out.mono ?_
      rintro e w2 ⟨rfl, h2⟩
      have B2 := B1.keep h2
      clear h2 B1 s0 s1 s2 t0 t1 t2 r0 r1 r2
      go_wp2_with fail
      try rw [show E + 60 - 60 - 2 = E - 2 by omega]
      refine (rTwo (E - 2) _).mono ?_
      rintro e w3 ⟨a1, c1, rfl, l1, h3⟩
      have B3 := (B2.keep h3).push (DO false a1 1 c1 (E - 2))
      have hlt : w.heap.size + 1 < w3.heap.size := (B2.keep h3).lt (.head _)
      replace l1 := l1.below (below_alloc w3 (DO false a1 1 c1 (E - 2))) (Nat.le_refl _)
      clear h3 B2
      obtain ⟨⟨s0, s1, s2⟩, _⟩ := cells3 B3 w.heap.size _ _ _ _ (.tail _ (.tail _ (.head _)))
      obtain ⟨⟨u0, u1, u2⟩, _⟩ := cells3 B3 w3.heap.size _ _ _ _ (.head _)
      go_wp2_with fail
      refine (HA _ B3.bel a1 c1 l1).out.mono ?_
      rintro e w4 ⟨n4, z4, x4, a4, c4, rfl, F4, l4, h4⟩
      have B4 := (B3.keep h4).sub (L' := [(w.heap.size + 1, DO false none 0 0 0)]) (by simp)
      have H4 := Hide.mk F4
      clear h4 F4 B3 s0 s1 s2 u0 u1 u2
      obtain ⟨⟨t0, t1, t2⟩, r0, r1, r2⟩ := cells3 B4 (w.heap.size + 1) _ _ _ _ (.head _)
      go_wp2
      have Bf := B4.fill3 (by omega) (by simp) (.bool n4) (.slice a4 z4.length c4) (.int .i64 x4)
      refine bodyPost_ret (results_D1 rfl _ _ (w.heap.size + 1) _ rfl ⟨Bf.head, rfl⟩) rfl ?_
      exact ⟨n4, z4, x4, a4, c4, rfl, by have := H4.out; rw [sv_f] at this ⊢; exact this, lie_set3P (g := w.heap.size + 1) B4.head _ _ _ l4, Bf.bel⟩
    · go_enter Tryz.func63, Tryz.ntmps63
      go_wp2_with fail
      refine (HT _ B1.bel).out.mono ?_
      rintro e w2 ⟨rfl, h2⟩
      have B2 := B1.keep h2
      clear h2 B1 s0 s1 s2 t0 t1 t2 r0 r1 r2
      go_wp2_with fail
      try rw [show E + 60 - 60 - 2 = E - 2 by omega]
      refine (rTwo (E - 2) _).mono ?_
      rintro e w3 ⟨a1, c1, rfl, l1, h3⟩
      have B3 := (B2.keep h3).push (DO false a1 1 c1 (E - 2))
      have hlt : w.heap.size + 1 < w3.heap.size := (B2.keep h3).lt (.head _)
      replace l1 := l1.below (below_alloc w3 (DO false a1 1 c1 (E - 2))) (Nat.le_refl _)
      clear h3 B2
      obtain ⟨⟨s0, s1, s2⟩, _⟩ := cells3 B3 w.heap.size _ _ _ _ (.tail _ (.tail _ (.head _)))
      obtain ⟨⟨u0, u1, u2⟩, _⟩ := cells3 B3 w3.heap.size _ _ _ _ (.head _)
      go_wp2_with fail
      refine (HS _ B3.bel a1 c1 l1).out.mono ?_
      rintro e w4 ⟨n4, z4, x4, a4, c4, rfl, F4, l4, h4⟩
      have B4 := (B3.keep h4).sub (L' := [(w.heap.size + 1, DO false none 0 0 0)]) (by simp)
      have H4 := Hide.mk F4
      clear h4 F4 B3 s0 s1 s2 u0 u1 u2
      obtain ⟨⟨t0, t1, t2⟩, r0, r1, r2⟩ := cells3 B4 (w.heap.size + 1) _ _ _ _ (.head _)
      go_wp2
      have Bf := B4.fill3 (by omega) (by simp) (.bool n4) (.slice a4 z4.length c4) (.int .i64 x4)
      refine bodyPost_ret (results_D1 rfl _ _ (w.heap.size + 1) _ rfl ⟨Bf.head, rfl⟩) rfl ?_
      exact ⟨n4, z4, x4, a4, c4, rfl, by have := H4.out; rw [sv_t] at this ⊢; rw [show -(4 * q + bq true) = -(4 * q) - 1 by simp [bq]; omega]; exact this, lie_set3P (g := w.heap.size + 1) B4.head _ _ _ l4, Bf.bel⟩
end Go.Proofs.YtdnghibkagcbcaaGreatDoor

namespace Go.Proofs.YtdnghibkagcbcaaGreatDoor
open Go.RowKit Go.Wd Go.Box
set_option linter.unusedVariables false
set_option maxRecDepth 3000
theorem qf_shift (x : Int) (t : Nat) (i : Int) : qf (x * 2 ^ t) 1 i = qf x 1 (i + t) ∧ qg (x * 2 ^ t) 1 i = qg x 1 (i + t) := by
  obtain ⟨c, h1, h2⟩ : ∃ c : Nat, t + i.toNat = (i + t).toNat + c ∧ (-i).toNat = (-(i + t)).toNat + c := ⟨t + i.toNat - (i + t).toNat, by omega, by omega⟩
  have hp := p2pos c
  unfold qf qg
  rw [Int.one_mul, Int.one_mul, Int.mul_assoc, ← Int.pow_add, h1, h2, Int.pow_add, Int.pow_add, ← Int.mul_assoc]
  refine ⟨Int.mul_ediv_mul_of_pos_left _ _ hp, ?_⟩
  rw [Int.mul_comm (x * 2 ^ (i + t).toNat), Int.mul_comm (2 ^ (-(i + t)).toNat), Int.mul_emod_mul_of_pos _ _ hp]
  generalize x * 2 ^ (i + t).toNat % 2 ^ (-(i + t)).toNat = u
  by_cases h : u = 0
  · subst h; simp
  · rw [decide_eq_true h, decide_eq_true (Int.mul_ne_zero (by omega) h)]
theorem far_half (q : Int) (d : Nat) (g : Bool) : (4 * q + bq g) / 2 ^ (d + 2) = q / 2 ^ d ∧ decide ((4 * q + bq g) % 2 ^ (d + 2) ≠ 0) = gx q d g := by
  have e : (2 : Int) ^ (d + 2) = 4 * 2 ^ d := by rw [Int.pow_add, Int.mul_comm]; rfl
  have hb : bq g = 0 ∧ g = false ∨ bq g = 1 ∧ g = true := by cases g <;> simp [bq]
  have h1 : (4 * q + bq g) / 4 = q := by omega
  have h2 : (4 * q + bq g) % 4 = bq g := by omega
  rw [e, cut_div (by omega), mod_split (by omega), h1, h2]
  refine ⟨rfl, ?_⟩
  unfold gx
  have hm := Int.emod_nonneg q (show (2 : Int) ^ d ≠ 0 by have := p2pos d; omega)
  generalize q % 2 ^ d = u at *
  rcases hb with ⟨h, rfl⟩ | ⟨h, rfl⟩
  · rw [h, Bool.or_false]
    by_cases c : u = 0
    · subst c; simp
    · rw [decide_eq_true c, decide_eq_true (by omega)]
  · rw [h, Bool.or_true]
    exact decide_eq_true (by omega)
theorem rRoundB (b : Bool) (m : Int) (hm : Mode m) (n n' : Bool) (a : Option Addr) (c : Nat) (z : List Int) (x T : Int) (w : World) (l : Lie w a z) {q E : Int} {g : Bool} (F : Fm (sv n (4 * q + bq g)) (E - 2) n' z x) (hq : BitLen q 60) (h1 : -36000000 ≤ E) (h2 : E ≤ 36000000) (hT : T = 60 + E) (d : Nat) (hd : (d : Int) = ulp b T - 1 - E) :
    Calls Tryz.prog 19 #[.int .u8 (fm b), .int .u8 m, dV n' a z.length c x] w fun e' w' => e' = .returned (.tuple #[.int .u64 (rdW b m n T (q / 2 ^ d) (gx q d g)), .int .u8 (rdX b m n T (q / 2 ^ d) (gx q d g) (q / 2 ^ (59 - pr b)) (gx q (59 - pr b) g))]) ∧ Below w.heap.size w w' := by
  have hpb := pr_bd b
  have hq0 : 0 < q := by
    rcases hq with ⟨_, h⟩ | ⟨h, _⟩
    · omega
    · exact h
  have hbq : 0 ≤ bq g ∧ bq g ≤ 1 := by cases g <;> simp [bq]
  have hq1 : 2 ^ 59 ≤ q ∧ q < 2 ^ 60 := by
    rcases hq with ⟨h, _⟩ | ⟨_, h⟩
    · omega
    · exact ⟨by have := h.le; omega, h.lt⟩
  have hZ : BitLen (4 * q + bq g) 62 := .inr ⟨by omega, ⟨by omega, by omega⟩⟩
  have hab := natAbs_sv n (show 0 ≤ 4 * q + bq g by omega)
  have hne : sv n (4 * q + bq g) ≠ 0 := fun h => by rw [h] at hab; simp at hab; omega
  have hsg := sv_neg n (show 0 < 4 * q + bq g by omega)
  have F' := F
  obtain ⟨t, rfl, ht, hc, hz, hn, hv, hdv, hlen⟩ := F.data hne (L := 62) (by rw [hab]; exact hZ)
  rw [hsg] at hn
  subst hn
  have hval : Nt.val z * 2 ^ t = 4 * q + bq g := by
    have h8 := hab
    rw [← hv, natAbs_sv n' (Int.mul_nonneg (Nt.val_bd hc.1).1 (Int.le_of_lt (p2pos t)))] at h8
    exact h8
  have hodd : Nt.val z % 2 = 1 := by
    rcases F' with ⟨h, _⟩ | ⟨_, t', ht', _, hx', _, hv'⟩
    · exact absurd h hne
    · rw [hv']; exact ht'.one
  have half : ∀ (e : Int) (k : Nat), (k : Int) = e - 1 - E → qf (Nt.val z) 1 (E - 2 + t + 1 - e) = q / 2 ^ k ∧ qg (Nt.val z) 1 (E - 2 + t + 1 - e) = gx q k g := by
    intro e k hk
    obtain ⟨s1, s2⟩ := qf_shift (Nt.val z) t (E - 2 + 1 - e)
    rw [show E - 2 + 1 - e + (t : Int) = E - 2 + t + 1 - e by omega, hval] at s1 s2
    obtain ⟨f1, f2⟩ := far_half q k g
    rw [← s1, ← s2]
    unfold qf qg
    rw [Int.one_mul, show (E - 2 + 1 - e).toNat = 0 by omega, show (-(E - 2 + 1 - e)).toNat = k + 2 by omega, Int.pow_zero, Int.mul_one]
    exact ⟨f1, f2⟩
  obtain ⟨k1, k2⟩ := half (ulp b T) d hd
  obtain ⟨k3, k4⟩ := half (T - pr b) (59 - pr b) (by omega)
  exact rRound b m hm n' a c z (E - 2 + t) T w l hc hodd (by omega) (by omega) hz hdv (by omega) (by omega) k1.symm k2.symm k3.symm k4.symm
end Go.Proofs.YtdnghibkagcbcaaGreatDoor

namespace Go.Proofs.YtdnghibkagcbcaaGreatDoor
open Go.RowKit Go.Wd Go.Box
set_option linter.unusedVariables false
set_option maxRecDepth 3000
theorem rBeyond1 (n : Bool) (a : Option Addr) (c : Nat) (z : List Int) (x : Int) (w : World) (l : Lie w a z) {q E : Int} {n0 : Bool} (F : Fm (sv n0 q) E n z x) (hq : BitLen q 60) (g : Bool) (h1 : -36000000 ≤ E) (h2 : E ≤ 36000000) :
    Calls Tryz.prog 63 #[dV n a z.length c x, .bool g] w fun e w' => RF w w' (sv n0 (4 * q + bq g)) (E - 2) e := by
  have hq0 : 0 < q := by
    rcases hq with ⟨_, h⟩ | ⟨h, _⟩
    · omega
    · exact h
  have hsg := sv_neg n0 hq0
  have hn : n = n0 := by
    rcases F with ⟨h, _⟩ | ⟨_, t, _, hn, _⟩
    · have := natAbs_sv n0 (Int.le_of_lt hq0); rw [h] at this; simp at this; omega
    · rw [hn, hsg]
  subst hn
  exact rBeyond n a c z x w l F hq g h1 h2
end Go.Proofs.YtdnghibkagcbcaaGreatDoor

namespace Go.Proofs.YtdnghibkagcbcaaGreatDoor
open Go.RowKit Go.Wd Go.Box
set_option linter.unusedVariables false
set_option maxRecDepth 3000
theorem rQuo_walk (b : Bool) (m : Int) (n1 n2 n : Bool) (a1 a2 : Option Addr) (c1 c2 k1 k2 : Nat) (e1 e2 r E W0 X0 : Int) (g : Bool) (w : World)
    (KR : ∀ W, Below w.heap.size w W → Calls Tryz.prog 62 #[dV n1 a1 k1 c1 e1, dV n2 a2 k2 c2 e2, .int .i64 60] W fun e w' => RCut W w' (sv n r) E g e)
    (KB : ∀ n1 z1 x1 a1 c1 W, Fm (sv n r) E n1 z1 x1 → Lie W a1 z1 → Calls Tryz.prog 63 #[dV n1 a1 (List.length z1) c1 x1, .bool g] W fun e w' => RF W w' (sv n (4 * r + bq g)) (E - 2) e)
    (KF : ∀ n1 z1 x1 a1 c1 W, Fm (sv n (4 * r + bq g)) (E - 2) n1 z1 x1 → Lie W a1 z1 → Calls Tryz.prog 19 #[.int .u8 (fm b), .int .u8 m, dV n1 a1 (List.length z1) c1 x1] W fun e w' => e = .returned (.tuple #[.int .u64 W0, .int .u8 X0]) ∧ Below W.heap.size W w') :
    Calls Tryz.prog 24 #[.int .u8 (fm b), .int .u8 m, dV n1 a1 k1 c1 e1, dV n2 a2 k2 c2 e2] w fun e w' => e = .returned (.tuple #[.int .u64 W0, .int .u8 X0]) ∧ Below w.heap.size w w' := by
  have HR := fun W h => Hide.mk (KR W h)
  have HB := fun n1 z1 x1 a1 c1 W f l => Hide.mk (KB n1 z1 x1 a1 c1 W f l)
  have HF := fun n1 z1 x1 a1 c1 W f l => Hide.mk (KF n1 z1 x1 a1 c1 W f l)
  clear KR KB KF
  have B2 := ((Bx.nil w).push (DO n1 a1 k1 c1 e1)).push (DO n2 a2 k2 c2 e2)
  rw [show (w.alloc (DO n1 a1 k1 c1 e1)).heap.size = w.heap.size + 1 by simp] at B2
  obtain ⟨⟨s0, s1, s2⟩, _⟩ := cells3 B2 w.heap.size _ _ _ _ (.tail _ (.head _))
  obtain ⟨⟨t0, t1, t2⟩, _⟩ := cells3 B2 (w.heap.size + 1) _ _ _ _ (.head _)
  go_enter Tryz.func24, Tryz.ntmps24
  go_wp2_with fail
  refine (HR _ B2.bel).out.mono ?_
  rintro e w3 ⟨n3, z3, x3, a3, c3, rfl, F1, l1, h3⟩
  have B3 := (B2.keep h3).push (DO n3 a3 z3.length c3 x3)
  replace l1 := l1.below (below_alloc w3 (DO n3 a3 z3.length c3 x3)) (Nat.le_refl _)
  have H1 := Hide.mk F1
  clear h3 B2 s0 s1 s2 t0 t1 t2 HR F1
  obtain ⟨⟨s0, s1, s2⟩, _⟩ := cells3 B3 w3.heap.size _ _ _ _ (.head _)
  go_wp2_with fail
  refine (HB _ _ _ _ _ _ H1.out l1).out.mono ?_
  rintro e w4 ⟨n4, z4, x4, a4, c4, rfl, F4, l4, h4⟩
  have B4 := B3.keep h4
  clear h4 B3 s0 s1 s2 HB
  go_wp2_with fail
  refine (HF _ _ _ _ _ _ F4 l4).out.mono ?_
  rintro e w5 ⟨rfl, h5⟩
  have B5 := B4.keep h5
  clear h5 B4
  go_wp2
  go_ret2
  exact ⟨rfl, B5.bel⟩
theorem quo_both (b : Bool) (m : Int) (hm : Mode m) (n1 n2 : Bool) (z1 z2 : List Int) (e1 e2 : Int) (g1 : DG n1 z1 e1) (g2 : DG n2 z2 e2) (hz1 : 0 < z1.length) (hz2 : 0 < z2.length) (hl1 : z1.length ≤ 300) (hl2 : z2.length ≤ 300) :
    ∃ W0 X0, (∀ W a1 c1 a2 c2, Lie W a1 z1 → Lie W a2 z2 → Tab W → Calls Tryz.prog 22 #[.int .u8 (fm b), .int .u8 m, dV n1 a1 z1.length c1 e1, dV n2 a2 z2.length c2 e2] W fun e w' => e = .returned (.tuple #[.int .u64 W0, .int .u8 X0, .int .i64 0]) ∧ Below W.heap.size W w') ∧
      (∀ W a1 c1 a2 c2, Lie W a1 z1 → Lie W a2 z2 → Calls Tryz.prog 24 #[.int .u8 (fm b), .int .u8 m, dV n1 a1 z1.length c1 e1, dV n2 a2 z2.length c2 e2] W fun e w' => e = .returned (.tuple #[.int .u64 W0, .int .u8 X0]) ∧ Below W.heap.size W w') := by
  have x1 := g1.ex_bd
  have x2 := g2.ex_bd
  have p1 := g1.pos hz1
  have p2 := g2.pos hz2
  have hpb := pr_bd b
  have hlo := lo_bd b
  have bits : ∀ {n : Bool} {z : List Int} {ex : Int}, DG n z ex → 0 < z.length → z.length ≤ 300 → ∃ L, Bits (Nt.val z) L ∧ L ≤ 9700 := by
    intro n z ex g hz hl
    obtain ⟨B, hB⟩ := bitLen_ex g.good.nonneg
    have hB2 : B ≤ 9700 := by
      have h9 : Nt.val z < 4294967296 ^ z.length := (Nt.can_len g.can z.length).2 (Nat.le_refl _)
      rw [show (4294967296 : Int) = 2 ^ 32 from rfl, ← Int.pow_mul] at h9
      have := bl_le hB h9
      omega
    have hp := g.pos hz
    rcases hB with ⟨h, _⟩ | ⟨_, h⟩
    · omega
    · exact ⟨B, h, hB2⟩
  obtain ⟨La, bx, hLa⟩ := bits g1 hz1 hl1
  obtain ⟨Lb, bY, hLb⟩ := bits g2 hz2 hl2
  obtain ⟨i, R6, i1, i2⟩ := q_at bx bY p1 p2 60 (by decide)
  obtain ⟨j, R4, j1, j2⟩ := q_at bx bY p1 p2 64 (by decide)
  have FM := qFam (Nt.val z1) (Nt.val z2) p2
  have dn := R4.down 4
  rw [← qf_down _ _ p2] at dn
  have hij : j - (4 : Nat) = i := q_idx p2 (by decide) dn R6
  obtain ⟨T, hT⟩ : ∃ T, T = 60 + (e1 - e2 - i) := ⟨_, rfl⟩
  have hub := ulp_ge b T
  obtain ⟨d, hd⟩ : ∃ d : Nat, (d : Int) = ulp b T - 1 - (e1 - e2 - i) := ⟨(ulp b T - 1 - (e1 - e2 - i)).toNat, by omega⟩
  have key : ∀ (e : Int) (v : Nat), (v : Int) = e - 1 - (e1 - e2 - i) → qf (Nt.val z1) (Nt.val z2) (e1 - e2 + 1 - e) = qf (Nt.val z1) (Nt.val z2) i / 2 ^ v ∧ qg (Nt.val z1) (Nt.val z2) (e1 - e2 + 1 - e) = gx (qf (Nt.val z1) (Nt.val z2) i) v (qg (Nt.val z1) (Nt.val z2) i) := by
    intro e v h
    rw [show e1 - e2 + 1 - e = i - (v : Int) by omega]
    exact ⟨qf_down _ _ p2 i v, qg_down _ _ p2 i v⟩
  obtain ⟨k1, k2⟩ := key (ulp b T) d hd
  obtain ⟨k3, k4⟩ := key (T - pr b) (59 - pr b) (by omega)
  refine ⟨_, _, fun W a1 c1 a2 c2 l1 l2 hTab => pQuo b m hm n1 n2 a1 a2 c1 c2 z1 z2 e1 e2 T W l1 l2 g1 g2 hTab hz1 hz2 R4 (by omega) (by omega) (by omega) k1.symm k2.symm k3.symm k4.symm, fun W a1 c1 a2 c2 l1 l2 => ?_⟩
  refine rQuo_walk b m n1 n2 (n1 != n2) a1 a2 c1 c2 z1.length z2.length e1 e2 (qf (Nt.val z1) (Nt.val z2) i) (e1 - e2 - i) _ _ (qg (Nt.val z1) (Nt.val z2) i) W ?_ ?_ ?_
  · intro V hV
    exact rQuoT n1 n2 a1 a2 c1 c2 z1 z2 e1 e2 V (l1.below hV (Nat.le_refl _)) (l2.below hV (Nat.le_refl _)) g1 g2 60 60 rfl (by decide) (by decide) hz1 hz2 R6
  · intro n3 z3 x3 a3 c3 V F l3
    exact rBeyond1 n3 a3 c3 z3 x3 V l3 F R6 _ (by omega) (by omega)
  · intro n3 z3 x3 a3 c3 V F l3
    exact rRoundB b m hm (n1 != n2) n3 a3 c3 z3 x3 T V l3 F R6 (by omega) (by omega) hT d hd
end Go.Proofs.YtdnghibkagcbcaaGreatDoor

namespace Go.Drawn
open Go
section
variable {P : Program} {ops : Array Oper} {Q : Exit → Act → World → Prop} {md : Region.Mode} {I : World → Prop}
theorem trioQ {i j k : Nat} {oi oj ok : Oper} {n : Nat} {listed : Array Bool} {a : Act} {w : World} (hr : Region.ready md ops listed = [i, j, k]) (hi : ops[i]? = some oi) (hj : ops[j]? = some oj) (hk : ops[k]? = some ok)
    (h1 : ∀ K : Act → World → Prop, (∀ a w, I w → wpIn P md ops Q I n (listed.setIfInBounds i true) a w → K a w) → if Region.wanted oi (yielded ops a.tmps) = true then Oper.wp P oi a w K Q else K (a.put oi.dst undef) w)
    (h2 : ∀ K : Act → World → Prop, (∀ a w, I w → wpIn P md ops Q I n (listed.setIfInBounds j true) a w → K a w) → if Region.wanted oj (yielded ops a.tmps) = true then Oper.wp P oj a w K Q else K (a.put oj.dst undef) w)
    (h3 : ∀ K : Act → World → Prop, (∀ a w, I w → wpIn P md ops Q I n (listed.setIfInBounds k true) a w → K a w) → if Region.wanted ok (yielded ops a.tmps) = true then Oper.wp P ok a w K Q else K (a.put ok.dst undef) w) :
    wpIn P md ops Q I (n + 1) listed a w := by
  refine ⟨fun h0 => absurd (hr.symm.trans h0) (by simp), fun m hm => ?_⟩
  rw [hr] at hm
  rcases List.mem_cons.1 hm with rfl | hm
  · exact wpOp_step hi (fun K hK => h1 K fun a w k1 k2 => hK a w ⟨k1, k2⟩)
  · rcases List.mem_cons.1 hm with rfl | hm
    · exact wpOp_step hj (fun K hK => h2 K fun a w k1 k2 => hK a w ⟨k1, k2⟩)
    · obtain rfl := List.mem_singleton.1 hm
      exact wpOp_step hk (fun K hK => h3 K fun a w k1 k2 => hK a w ⟨k1, k2⟩)
end
end Go.Drawn
namespace Go.Proofs.YtdnghibkagcbcaaGreatDoor
open Go.RowKit Go.Wd Go.Box
set_option linter.unusedVariables false
set_option maxRecDepth 3000
set_option maxHeartbeats 20000000 in
theorem rq_long1 (m : Int) (n1 n2 : Bool) (a1 a2 : Option Addr) (c1 c2 : Nat) (z1 z2 : List Int) (e1 e2 : Int) (f : Int) (hl : (300 : Int) < (z1.length : Int)) (w : World) (u1 : DLie w a1 z1) (u2 : DLie w a2 z2) (hT : Tab w) :
    Calls Tryz.prog 4 #[.int .u8 f, .int .u8 m, dV n1 a1 z1.length c1 e1, dV n2 a2 z2.length c2 e2] w fun e w' => e = .returned (.bool true) ∧ Below w.heap.size w w' := by
  have l1 := u1.lie
  have l2 := u2.lie
  have BX := ((Bx.nil w).push (DO n1 a1 z1.length c1 e1)).push (DO n2 a2 z2.length c2 e2)
  rw [show (w.alloc (DO n1 a1 z1.length c1 e1)).heap.size = w.heap.size + 1 by simp] at BX
  obtain ⟨⟨q0, q1, q2⟩, _⟩ := cells3 BX w.heap.size _ _ _ _ (show (w.heap.size, DO n1 a1 z1.length c1 e1) ∈ _ by simp)
  obtain ⟨⟨s0, s1, s2⟩, _⟩ := cells3 BX (w.heap.size + 1) _ _ _ _ (show (w.heap.size + 1, DO n2 a2 z2.length c2 e2) ∈ _ by simp)
  go_enter Tryz.func4, Tryz.ntmps4
  go_wp2_with fail
  refine (lLong4 n1 a1 z1.length c1 e1 _ true (decide_eq_true hl)).mono ?_
  rintro e v1 ⟨rfl, hk⟩
  replace BX := BX.keep hk
  clear hk q0 q1 q2 s0 s1 s2
  obtain ⟨⟨q0, q1, q2⟩, _⟩ := cells3 BX w.heap.size _ _ _ _ (show (w.heap.size, DO n1 a1 z1.length c1 e1) ∈ _ by simp)
  obtain ⟨⟨s0, s1, s2⟩, _⟩ := cells3 BX (w.heap.size + 1) _ _ _ _ (show (w.heap.size + 1, DO n2 a2 z2.length c2 e2) ∈ _ by simp)
  go_wp2_with fail
  refine (lKnown4 _ (hT.below BX.bel (Nat.le_refl _))).mono ?_
  rintro e v2 ⟨rfl, hk⟩
  replace BX := BX.keep hk
  clear hk q0 q1 q2 s0 s1 s2
  obtain ⟨⟨q0, q1, q2⟩, _⟩ := cells3 BX w.heap.size _ _ _ _ (show (w.heap.size, DO n1 a1 z1.length c1 e1) ∈ _ by simp)
  obtain ⟨⟨s0, s1, s2⟩, _⟩ := cells3 BX (w.heap.size + 1) _ _ _ _ (show (w.heap.size + 1, DO n2 a2 z2.length c2 e2) ∈ _ by simp)
  go_wp2
  go_ret
  exact ⟨rfl, BX.bel⟩
set_option maxHeartbeats 20000000 in
theorem rq_long2 (m : Int) (n1 n2 : Bool) (a1 a2 : Option Addr) (c1 c2 : Nat) (z1 z2 : List Int) (e1 e2 : Int) (f : Int) (hl1 : (z1.length : Int) ≤ 300) (hl : (300 : Int) < (z2.length : Int)) (w : World) (u1 : DLie w a1 z1) (u2 : DLie w a2 z2) (hT : Tab w) :
    Calls Tryz.prog 4 #[.int .u8 f, .int .u8 m, dV n1 a1 z1.length c1 e1, dV n2 a2 z2.length c2 e2] w fun e w' => e = .returned (.bool true) ∧ Below w.heap.size w w' := by
  have l1 := u1.lie
  have l2 := u2.lie
  have BX := ((Bx.nil w).push (DO n1 a1 z1.length c1 e1)).push (DO n2 a2 z2.length c2 e2)
  rw [show (w.alloc (DO n1 a1 z1.length c1 e1)).heap.size = w.heap.size + 1 by simp] at BX
  obtain ⟨⟨q0, q1, q2⟩, _⟩ := cells3 BX w.heap.size _ _ _ _ (show (w.heap.size, DO n1 a1 z1.length c1 e1) ∈ _ by simp)
  obtain ⟨⟨s0, s1, s2⟩, _⟩ := cells3 BX (w.heap.size + 1) _ _ _ _ (show (w.heap.size + 1, DO n2 a2 z2.length c2 e2) ∈ _ by simp)
  go_enter Tryz.func4, Tryz.ntmps4
  go_wp2_with fail
  refine (lLong4 n1 a1 z1.length c1 e1 _ false (decide_eq_false (by omega))).mono ?_
  rintro e v3 ⟨rfl, hk⟩
  replace BX := BX.keep hk
  clear hk q0 q1 q2 s0 s1 s2
  obtain ⟨⟨q0, q1, q2⟩, _⟩ := cells3 BX w.heap.size _ _ _ _ (show (w.heap.size, DO n1 a1 z1.length c1 e1) ∈ _ by simp)
  obtain ⟨⟨s0, s1, s2⟩, _⟩ := cells3 BX (w.heap.size + 1) _ _ _ _ (show (w.heap.size + 1, DO n2 a2 z2.length c2 e2) ∈ _ by simp)
  go_wp2_with fail
  refine (lLong4 n2 a2 z2.length c2 e2 _ true (decide_eq_true hl)).mono ?_
  rintro e v4 ⟨rfl, hk⟩
  replace BX := BX.keep hk
  clear hk q0 q1 q2 s0 s1 s2
  obtain ⟨⟨q0, q1, q2⟩, _⟩ := cells3 BX w.heap.size _ _ _ _ (show (w.heap.size, DO n1 a1 z1.length c1 e1) ∈ _ by simp)
  obtain ⟨⟨s0, s1, s2⟩, _⟩ := cells3 BX (w.heap.size + 1) _ _ _ _ (show (w.heap.size + 1, DO n2 a2 z2.length c2 e2) ∈ _ by simp)
  go_wp2_with fail
  refine (lKnown4 _ (hT.below BX.bel (Nat.le_refl _))).mono ?_
  rintro e v5 ⟨rfl, hk⟩
  replace BX := BX.keep hk
  clear hk q0 q1 q2 s0 s1 s2
  obtain ⟨⟨q0, q1, q2⟩, _⟩ := cells3 BX w.heap.size _ _ _ _ (show (w.heap.size, DO n1 a1 z1.length c1 e1) ∈ _ by simp)
  obtain ⟨⟨s0, s1, s2⟩, _⟩ := cells3 BX (w.heap.size + 1) _ _ _ _ (show (w.heap.size + 1, DO n2 a2 z2.length c2 e2) ∈ _ by simp)
  go_wp2
  go_ret
  exact ⟨rfl, BX.bel⟩
theorem suppose7Q {F G : Nat → Nat → World → Option Addr → Nat → Option Addr → Nat → Prop} {T : Prop} (h : (∀ a b c d e f g, F a b c d e f g → G a b c d e f g) → T) (k : ∀ a b c d e f g, F a b c d e f g → G a b c d e f g) : T := h k
end Go.Proofs.YtdnghibkagcbcaaGreatDoor
