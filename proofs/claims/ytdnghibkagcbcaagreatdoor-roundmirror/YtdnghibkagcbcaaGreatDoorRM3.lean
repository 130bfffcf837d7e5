import Derived.Test.YtdnghibkagcbcaaGreatDoorRoundMirrorPart12
import Derived.Test.YtdnghibkagcbcaaGreatDoorRoundMirrorPart13
namespace Go.Proofs.YtdnghibkagcbcaaGreatDoor
open Go.RowKit Go.Wd Go.Box
set_option linter.unusedVariables false
set_option maxRecDepth 3000
theorem half_bd (b : Bool) {X : Int} {B : Nat} (hp : 0 < X) (hB : BitLen X B) (ex T : Int) (hT : T = B + ex) :
    0 ≤ qf X 1 (ex + 1 - ulp b T) ∧ qf X 1 (ex + 1 - ulp b T) < 2 ^ (pr b + 1) ∧ (ulp b T ≠ lo b → 2 ^ pr b ≤ qf X 1 (ex + 1 - ulp b T)) := by
  obtain ⟨u1, u2, u3⟩ := ulp_ge b T
  have hXB : X < 2 ^ B := by
    rcases hB with ⟨h, _⟩ | ⟨_, h⟩
    · omega
    · exact h.lt
  generalize ulp b T = e at *
  refine ⟨?_, ?_, ?_⟩
  · unfold qf
    exact Int.ediv_nonneg (Int.mul_nonneg (by omega) (Int.le_of_lt (p2pos _))) (by rw [Int.one_mul]; exact Int.le_of_lt (p2pos _))
  · by_cases q : 0 ≤ (B : Int) + (ex + 1 - e)
    · obtain ⟨v, hv⟩ : ∃ v : Nat, (v : Int) = B + (ex + 1 - e) := ⟨((B : Int) + (ex + 1 - e)).toNat, by omega⟩
      rcases qf1_bits hp hB _ hv with ⟨h, _⟩ | ⟨_, h⟩
      · rw [h]; exact p2pos _
      · exact Int.lt_of_lt_of_le h.lt (p2le (by omega))
    · have : qf X 1 (ex + 1 - e) = 0 := by
        unfold qf
        rw [Int.one_mul, show (ex + 1 - e).toNat = 0 by omega, Int.pow_zero, Int.mul_one]
        exact Int.ediv_eq_zero_of_lt (by omega) (Int.lt_of_lt_of_le hXB (p2le (by omega)))
      rw [this]; exact p2pos _
  · intro q
    rcases qf1_bits (k := pr b + 1) hp hB (ex + 1 - e) (by omega) with ⟨_, h⟩ | ⟨_, h⟩
    · omega
    · have := h.le
      rw [Int.pow_succ] at this
      omega
theorem sd_tmod (b : Bool) {s : Int} (h0 : 0 ≤ s) (h1 : s < sg b) (n : Bool) : (sd b s n).tmod (sg b) = s := by
  have hp := sg_pos b
  unfold sd
  cases n
  · rw [if_neg (by decide), Int.tmod_eq_emod_of_nonneg h0]
    exact Int.emod_eq_of_lt h0 h1
  · rw [if_pos rfl, Int.tmod_eq_emod_of_nonneg (by omega), Int.add_emod_right]
    exact Int.emod_eq_of_lt h0 h1
theorem sd_ne (b : Bool) (s : Int) (n : Bool) : (sd b s n == sd b s (!n)) = false := by
  have hp := sg_pos b
  unfold sd
  cases n <;> simp <;> omega
theorem val_bits {n : Bool} {z : List Int} {ex : Int} (g : DG n z ex) : ∃ B, BitLen (Nt.val z) B ∧ B ≤ 131072 := by
  obtain ⟨B, hB⟩ := bitLen_ex g.good.nonneg
  refine ⟨B, hB, ?_⟩
  have h9 : Nt.val z < 4294967296 ^ z.length := (Nt.can_len g.can z.length).2 (Nat.le_refl _)
  rw [show (4294967296 : Int) = 2 ^ 32 from rfl, ← Int.pow_mul] at h9
  have := bl_le hB h9
  have := g.len
  omega
theorem word_round (b : Bool) (m : Int) (hm : Mode m) {x V : Int} (h : Ok b x) (hf : sz b x < inf b) (hV : (x = sg b ∧ V = 0) ∨ (x ≠ sg b ∧ V = x)) (n : Bool) (zs : List Int) (ex : Int) (a : Option Addr) (c : Nat) (W : World) (N : DN n zs ex (wv b x)) (l : Lie W a zs) (hT : Tab W) :
    Calls Tryz.prog 14 #[.int .u8 (fm b), .int .u8 m, dV n a (List.length zs) c ex] W fun e w' => e = .returned (.tuple #[.int .u64 V, .int .u8 0, .int .i64 0]) ∧ Below W.heap.size W w' := by
  have h0 := h.1
  have h1 := h.2
  have hsp := sg_pos b
  by_cases hz0 : sz b x = 0
  · have hu : un b x = 0 := by
      cases b <;> simp only [un, fd, fn, sz, sg, fr] at * <;> (try split) <;> omega
    have hw : wv b x = 0 := by
      unfold wv
      rw [hu]
      cases ng b x <;> simp [sv]
    have hzl : zs.length ≤ 0 := by
      by_cases q : 0 < zs.length
      · exact absurd hw (N.low q).2
      · omega
    obtain ⟨e1, e2, e3, _⟩ := N.zero hzl
    have hV0 : V = 0 := by
      rcases hV with ⟨_, h⟩ | ⟨h2, h⟩
      · exact h
      · rw [h]
        cases b <;> simp only [sz, sg] at * <;> omega
    subst hV0
    exact pRound_zeroG b m hm n a c zs ex W ⟨e1, e2, e3⟩
  · have hzl : 0 < zs.length := by
      by_cases q : 0 < zs.length
      · exact q
      · have h3 := (N.zero (by omega)).2.2.2
        have hp := un_pos hz0
        have hpk := pK_pos (ue b x)
        unfold wv at h3
        rcases Int.mul_eq_zero.1 h3 with h4 | h4
        · have := natAbs_sv (ng b x) (Int.le_of_lt hp)
          rw [h4] at this
          simp at this
          omega
        · omega
    obtain ⟨B, hB, hB2⟩ := val_bits N.dg
    obtain ⟨_, e1, e2⟩ := rd_word b m h hf hz0 N hB
    have hVx : V = x := by
      rcases hV with ⟨h2, _⟩ | ⟨_, h⟩
      · exfalso
        apply hz0
        rw [h2]
        cases b <;> simp [sz, sg]
      · exact h
    have := pRound b m hm n a c zs ex (B + ex) W l N.dg hzl hT hB hB2 rfl rfl rfl rfl rfl
    rw [e1, e2] at this
    rw [hVx]
    exact this
theorem rm_xzi (n : Bool) (a : Option Addr) (c : Nat) (z : List Int) (ex x : Int) (b : Bool) (hq : dmayB n z ex = true) (m : Int) (hm : Mode m) (hx : Ok b x) (KP1 : ∀ W, Lie W a z → Tab W → Calls Tryz.prog 14 #[.int .u8 (fm b), .int .u8 m, dV n a z.length c ex] W fun e w' => e = .returned (.tuple #[.int .u64 0, .int .u8 0, .int .i64 0]) ∧ Below W.heap.size W w') (KP2 : ∀ W, Lie W a z → Tab W → Calls Tryz.prog 14 #[.int .u8 (fm b), .int .u8 (swp m), dV (rn n z) a z.length c ex] W fun e w' => e = .returned (.tuple #[.int .u64 0, .int .u8 0, .int .i64 0]) ∧ Below W.heap.size W w') (KS : ∀ W, Calls Tryz.prog 23 #[dV n a z.length c ex] W fun e w' => e = .returned (.int .i64 0) ∧ Below W.heap.size W w') (hf : inf b ≤ sz b x) (hl : (z.length : Int) ≤ 300) (w : World) (u : DLie w a z) (hT : Tab w) :
    Calls Tryz.prog 9 #[.int .u8 (fm b), .int .u8 m, dV n a z.length c ex, .int .u64 x] w fun e w' => e = .returned (.bool true) ∧ Below w.heap.size w w' := by
  have hm' := hm
  rcases hm' with rfl | rfl | rfl | rfl | rfl
  · simp only [show swp 1 = 1 from rfl] at KP2
    exact rm_azi n a c z ex x b hq 1 hm rfl rfl hx KP1 KP2 KS hf hl w u hT
  · simp only [show swp 2 = 2 from rfl] at KP2
    exact rm_azi n a c z ex x b hq 2 hm rfl rfl hx KP1 KP2 KS hf hl w u hT
  · simp only [show swp 3 = 3 from rfl] at KP2
    exact rm_azi n a c z ex x b hq 3 hm rfl rfl hx KP1 KP2 KS hf hl w u hT
  · simp only [show swp 4 = 5 from rfl] at KP2
    exact rm_bzi n a c z ex x b hq hx KP1 KP2 KS hf hl w u hT
  · simp only [show swp 5 = 4 from rfl] at KP2
    exact rm_czi n a c z ex x b hq hx KP1 KP2 KS hf hl w u hT
theorem rm_xzf (n : Bool) (a : Option Addr) (c : Nat) (z : List Int) (ex x : Int) (b : Bool) (hq : dmayB n z ex = true) (m : Int) (hm : Mode m) (hx : Ok b x) (KP1 : ∀ W, Lie W a z → Tab W → Calls Tryz.prog 14 #[.int .u8 (fm b), .int .u8 m, dV n a z.length c ex] W fun e w' => e = .returned (.tuple #[.int .u64 0, .int .u8 0, .int .i64 0]) ∧ Below W.heap.size W w') (KP2 : ∀ W, Lie W a z → Tab W → Calls Tryz.prog 14 #[.int .u8 (fm b), .int .u8 (swp m), dV (rn n z) a z.length c ex] W fun e w' => e = .returned (.tuple #[.int .u64 0, .int .u8 0, .int .i64 0]) ∧ Below W.heap.size W w') (KS : ∀ W, Calls Tryz.prog 23 #[dV n a z.length c ex] W fun e w' => e = .returned (.int .i64 0) ∧ Below W.heap.size W w') (hf : sz b x < inf b) (V : Int) (hV : Hide ((x = sg b ∧ V = 0) ∨ (x ≠ sg b ∧ V = x))) (hl : (z.length : Int) ≤ 300) (w : World) (u : DLie w a z) (hT : Tab w) :
    Calls Tryz.prog 9 #[.int .u8 (fm b), .int .u8 m, dV n a z.length c ex, .int .u64 x] w fun e w' => e = .returned (.bool true) ∧ Below w.heap.size w w' := by
  have hm' := hm
  rcases hm' with rfl | rfl | rfl | rfl | rfl
  · simp only [show swp 1 = 1 from rfl] at KP2
    exact rm_azf n a c z ex x b hq 1 hm rfl rfl hx KP1 KP2 KS hf V hV (word_round b 1 hm hx hf hV.out) hl w u hT
  · simp only [show swp 2 = 2 from rfl] at KP2
    exact rm_azf n a c z ex x b hq 2 hm rfl rfl hx KP1 KP2 KS hf V hV (word_round b 2 hm hx hf hV.out) hl w u hT
  · simp only [show swp 3 = 3 from rfl] at KP2
    exact rm_azf n a c z ex x b hq 3 hm rfl rfl hx KP1 KP2 KS hf V hV (word_round b 3 hm hx hf hV.out) hl w u hT
  · simp only [show swp 4 = 5 from rfl] at KP2
    exact rm_bzf n a c z ex x b hq hx KP1 KP2 KS hf V hV (word_round b 4 hm hx hf hV.out) hl w u hT
  · simp only [show swp 5 = 4 from rfl] at KP2
    exact rm_czf n a c z ex x b hq hx KP1 KP2 KS hf V hV (word_round b 5 hm hx hf hV.out) hl w u hT
theorem rm_xni (n : Bool) (a : Option Addr) (c : Nat) (z : List Int) (ex x : Int) (b : Bool) (hq : dmayB n z ex = true) (m : Int) (hm : Mode m) (hx : Ok b x) (s X1 s1 : Int) (s0 : 0 ≤ s) (s9 : s < sg b) (hs1 : (s1 == 0) = false) (KP1 : ∀ W, Lie W a z → Tab W → Calls Tryz.prog 14 #[.int .u8 (fm b), .int .u8 m, dV n a z.length c ex] W fun e w' => e = .returned (.tuple #[.int .u64 (sd b s n), .int .u8 X1, .int .i64 0]) ∧ Below W.heap.size W w') (KP2 : ∀ W, Lie W a z → Tab W → Calls Tryz.prog 14 #[.int .u8 (fm b), .int .u8 (swp m), dV (rn n z) a z.length c ex] W fun e w' => e = .returned (.tuple #[.int .u64 (sd b s (!n)), .int .u8 X1, .int .i64 0]) ∧ Below W.heap.size W w') (KS : ∀ W, Calls Tryz.prog 23 #[dV n a z.length c ex] W fun e w' => e = .returned (.int .i64 s1) ∧ Below W.heap.size W w') (hf : inf b ≤ sz b x) (hl : (z.length : Int) ≤ 300) (w : World) (u : DLie w a z) (hT : Tab w) :
    Calls Tryz.prog 9 #[.int .u8 (fm b), .int .u8 m, dV n a z.length c ex, .int .u64 x] w fun e w' => e = .returned (.bool true) ∧ Below w.heap.size w w' := by
  have hm' := hm
  rcases hm' with rfl | rfl | rfl | rfl | rfl
  · simp only [show swp 1 = 1 from rfl] at KP2
    exact rm_ani n a c z ex x b hq 1 hm rfl rfl hx (sd b s n) (sd b s (!n)) X1 s1 s hs1 (sd_tmod b s0 s9 n) (sd_tmod b s0 s9 (!n)) (sd_ne b s n) KP1 KP2 KS hf hl w u hT
  · simp only [show swp 2 = 2 from rfl] at KP2
    exact rm_ani n a c z ex x b hq 2 hm rfl rfl hx (sd b s n) (sd b s (!n)) X1 s1 s hs1 (sd_tmod b s0 s9 n) (sd_tmod b s0 s9 (!n)) (sd_ne b s n) KP1 KP2 KS hf hl w u hT
  · simp only [show swp 3 = 3 from rfl] at KP2
    exact rm_ani n a c z ex x b hq 3 hm rfl rfl hx (sd b s n) (sd b s (!n)) X1 s1 s hs1 (sd_tmod b s0 s9 n) (sd_tmod b s0 s9 (!n)) (sd_ne b s n) KP1 KP2 KS hf hl w u hT
  · simp only [show swp 4 = 5 from rfl] at KP2
    exact rm_bni n a c z ex x b hq hx (sd b s n) (sd b s (!n)) X1 s1 s hs1 (sd_tmod b s0 s9 n) (sd_tmod b s0 s9 (!n)) (sd_ne b s n) KP1 KP2 KS hf hl w u hT
  · simp only [show swp 5 = 4 from rfl] at KP2
    exact rm_cni n a c z ex x b hq hx (sd b s n) (sd b s (!n)) X1 s1 s hs1 (sd_tmod b s0 s9 n) (sd_tmod b s0 s9 (!n)) (sd_ne b s n) KP1 KP2 KS hf hl w u hT
theorem rm_xnf (n : Bool) (a : Option Addr) (c : Nat) (z : List Int) (ex x : Int) (b : Bool) (hq : dmayB n z ex = true) (m : Int) (hm : Mode m) (hx : Ok b x) (s X1 s1 : Int) (s0 : 0 ≤ s) (s9 : s < sg b) (hs1 : (s1 == 0) = false) (KP1 : ∀ W, Lie W a z → Tab W → Calls Tryz.prog 14 #[.int .u8 (fm b), .int .u8 m, dV n a z.length c ex] W fun e w' => e = .returned (.tuple #[.int .u64 (sd b s n), .int .u8 X1, .int .i64 0]) ∧ Below W.heap.size W w') (KP2 : ∀ W, Lie W a z → Tab W → Calls Tryz.prog 14 #[.int .u8 (fm b), .int .u8 (swp m), dV (rn n z) a z.length c ex] W fun e w' => e = .returned (.tuple #[.int .u64 (sd b s (!n)), .int .u8 X1, .int .i64 0]) ∧ Below W.heap.size W w') (KS : ∀ W, Calls Tryz.prog 23 #[dV n a z.length c ex] W fun e w' => e = .returned (.int .i64 s1) ∧ Below W.heap.size W w') (hf : sz b x < inf b) (V : Int) (hV : Hide ((x = sg b ∧ V = 0) ∨ (x ≠ sg b ∧ V = x))) (hl : (z.length : Int) ≤ 300) (w : World) (u : DLie w a z) (hT : Tab w) :
    Calls Tryz.prog 9 #[.int .u8 (fm b), .int .u8 m, dV n a z.length c ex, .int .u64 x] w fun e w' => e = .returned (.bool true) ∧ Below w.heap.size w w' := by
  have hm' := hm
  rcases hm' with rfl | rfl | rfl | rfl | rfl
  · simp only [show swp 1 = 1 from rfl] at KP2
    exact rm_anf n a c z ex x b hq 1 hm rfl rfl hx (sd b s n) (sd b s (!n)) X1 s1 s hs1 (sd_tmod b s0 s9 n) (sd_tmod b s0 s9 (!n)) (sd_ne b s n) KP1 KP2 KS hf V hV (word_round b 1 hm hx hf hV.out) hl w u hT
  · simp only [show swp 2 = 2 from rfl] at KP2
    exact rm_anf n a c z ex x b hq 2 hm rfl rfl hx (sd b s n) (sd b s (!n)) X1 s1 s hs1 (sd_tmod b s0 s9 n) (sd_tmod b s0 s9 (!n)) (sd_ne b s n) KP1 KP2 KS hf V hV (word_round b 2 hm hx hf hV.out) hl w u hT
  · simp only [show swp 3 = 3 from rfl] at KP2
    exact rm_anf n a c z ex x b hq 3 hm rfl rfl hx (sd b s n) (sd b s (!n)) X1 s1 s hs1 (sd_tmod b s0 s9 n) (sd_tmod b s0 s9 (!n)) (sd_ne b s n) KP1 KP2 KS hf V hV (word_round b 3 hm hx hf hV.out) hl w u hT
  · simp only [show swp 4 = 5 from rfl] at KP2
    exact rm_bnf n a c z ex x b hq hx (sd b s n) (sd b s (!n)) X1 s1 s hs1 (sd_tmod b s0 s9 n) (sd_tmod b s0 s9 (!n)) (sd_ne b s n) KP1 KP2 KS hf V hV (word_round b 4 hm hx hf hV.out) hl w u hT
  · simp only [show swp 5 = 4 from rfl] at KP2
    exact rm_cnf n a c z ex x b hq hx (sd b s n) (sd b s (!n)) X1 s1 s hs1 (sd_tmod b s0 s9 n) (sd_tmod b s0 s9 (!n)) (sd_ne b s n) KP1 KP2 KS hf V hV (word_round b 5 hm hx hf hV.out) hl w u hT
/-- RoundMirror, whatever it is called with. -/
theorem rm_any (f m : Int) (n : Bool) (a : Option Addr) (c : Nat) (z : List Int) (ex x : Int) (w : World) (u : DLie w a z) (hT : Tab w) (hx0 : 0 ≤ x) (hx1 : x < 18446744073709551616) :
    Calls Tryz.prog 9 #[.int .u8 f, .int .u8 m, dV n a z.length c ex, .int .u64 x] w fun e w' => e = .returned (.bool true) ∧ Below w.heap.size w w' := by
  by_cases hl : (300 : Int) < (z.length : Int)
  · exact rm_long n a c z ex x f m hl w u hT
  · have hl2 : (z.length : Int) ≤ 300 := by omega
    rcases fm_or_bad f with ⟨b, rfl⟩ | hf
    · by_cases hm : Mode m
      · cases hq : dmayB n z ex with
        | false => exact rm_open n a c z ex x (fm b) m _ rfl (fun W g h1 h2 => lOpens1_no b m hm g n a c z ex W h1 hq h2) hl2 w u hT
        | true =>
          by_cases hx : Ok b x
          · have g := DG.of u.rng hq
            obtain ⟨V, hV⟩ : ∃ V, (x = sg b ∧ V = 0) ∨ (x ≠ sg b ∧ V = x) := by
              by_cases q : x = sg b
              · exact ⟨0, .inl ⟨q, rfl⟩⟩
              · exact ⟨x, .inr ⟨q, rfl⟩⟩
            by_cases hz : 0 < z.length
            · obtain ⟨B, hB, hB2⟩ := val_bits g
              obtain ⟨b0, b1, b2⟩ := half_bd b (g.pos hz) hB ex (B + ex) rfl
              obtain ⟨s, s0, s9, e1, e2⟩ := rdW_size b m hm n (B + ex) _ (qg (Nt.val z) 1 (ex + 1 - ulp b (B + ex))) b0 b1 b2
              have g2 : DG (!n) z ex := by
                rcases g.form with ⟨rfl, _⟩ | h
                · simp at hz
                · exact ⟨g.can, g.len, .inr h⟩
              have hrn : rn n z = !n := by unfold rn; rw [if_neg (by omega)]
              have KP1 := fun W (h1 : Lie W a z) (h2 : Tab W) => pRound b m hm n a c z ex (B + ex) W h1 g hz h2 hB hB2 rfl rfl rfl rfl rfl
              have KP2 := fun W (h1 : Lie W a z) (h2 : Tab W) => pRound b (swp m) (swp_mode hm) (!n) a c z ex (B + ex) W h1 g2 hz h2 hB hB2 rfl rfl rfl rfl rfl
              simp only [e1] at KP1
              simp only [e2, rdX_swp b m hm] at KP2
              obtain ⟨s1, hs1, KS⟩ : ∃ s1 : Int, (s1 == 0) = false ∧ ∀ W, Calls Tryz.prog 23 #[dV n a z.length c ex] W fun e w' => e = .returned (.int .i64 s1) ∧ Below W.heap.size W w' := by
                cases n
                · exact ⟨1, rfl, fun W => rSgnAny false a c z.length ex 1 (.inr (.inl ⟨hz, rfl, rfl⟩)) W⟩
                · exact ⟨-1, rfl, fun W => rSgnAny true a c z.length ex (-1) (.inr (.inr ⟨hz, rfl, rfl⟩)) W⟩
              by_cases hf : sz b x < inf b
              · exact rm_xnf n a c z ex x b hq m hm hx s _ s1 s0 s9 hs1 KP1 (by rw [hrn]; exact KP2) KS hf V ⟨hV⟩ hl2 w u hT
              · exact rm_xni n a c z ex x b hq m hm hx s _ s1 s0 s9 hs1 KP1 (by rw [hrn]; exact KP2) KS (by omega) hl2 w u hT
            · obtain ⟨h1, h2, h3⟩ := g.nil (by omega)
              have h4 : rn n z = false := by rw [h1, h2]; rfl
              have KP1 := fun W (_ : Lie W a z) (_ : Tab W) => pRound_zeroG b m hm n a c z ex W ⟨h1, h2, h3⟩
              have KP2 := fun W (_ : Lie W a z) (_ : Tab W) => pRound_zeroG b (swp m) (swp_mode hm) (rn n z) a c z ex W ⟨h1, h4, h3⟩
              have KS := fun W => rSgnAny n a c z.length ex 0 (.inl ⟨by rw [h1]; rfl, rfl⟩) W
              by_cases hf : sz b x < inf b
              · exact rm_xzf n a c z ex x b hq m hm hx KP1 KP2 KS hf V ⟨hV⟩ hl2 w u hT
              · exact rm_xzi n a c z ex x b hq m hm hx KP1 KP2 KS (by omega) hl2 w u hT
          · exact rm_word n a c z ex x b hq m hm 6 rfl (.inr ⟨b, rfl, by unfold Ok at hx; omega, rfl⟩) hx1 hl2 w u hT
      · exact rm_open n a c z ex x (fm b) m 5 rfl (fun W g _ _ => lOpens_bad (fm b) m 5 _ (.inr ⟨b, rfl, .inl ⟨hm, rfl⟩⟩) rfl W) hl2 w u hT
    · exact rm_open n a c z ex x f m 4 rfl (fun W g _ _ => lOpens_bad f m 4 _ (.inl ⟨hf, rfl⟩) rfl W) hl2 w u hT
end Go.Proofs.YtdnghibkagcbcaaGreatDoor
