import Derived.Test.YtdnghibkagcbcaaGreatDoorM4
namespace Go.Proofs.YtdnghibkagcbcaaGreatDoor
open Go.RowKit
set_option linter.unusedVariables false
set_option maxRecDepth 3000
/-- The first i products of column k. -/
def colp (a b : List Int) (k : Nat) : Nat → Int
  | 0 => 0
  | i + 1 => colp a b k i + a.getD i 0 * b.getD (k - i) 0
/-- The first n columns. -/
def cols (a b : List Int) : Nat → Int
  | 0 => 0
  | k + 1 => cols a b k + colp a b k (k + 1) * 4294967296 ^ k
/-- Row by row: digit i of a by as much of b as lies below column n. -/
def rows (a b : List Int) (n : Nat) : Nat → Int
  | 0 => 0
  | i + 1 => rows a b n i + a.getD i 0 * 4294967296 ^ i * Nt.vp b (n - i)
theorem rows_succ (a b : List Int) (n i : Nat) (hi : i ≤ n + 1) : rows a b (n + 1) i = rows a b n i + colp a b n i * 4294967296 ^ n := by
  induction i with
  | zero => simp [rows, colp]
  | succ i ih =>
    rw [rows, rows, colp, ih (by omega), show n + 1 - i = (n - i) + 1 by omega, Nt.vp_step]
    have e : (4294967296 : Int) ^ n = 4294967296 ^ i * 4294967296 ^ (n - i) := by rw [← Nt.pw_add, show i + (n - i) = n by omega]
    rw [e]
    generalize (4294967296 : Int) ^ i = X
    generalize (4294967296 : Int) ^ (n - i) = Y
    grind
theorem cols_rows (a b : List Int) (n : Nat) : cols a b n = rows a b n n := by
  induction n with
  | zero => rfl
  | succ n ih =>
    rw [cols, ih, rows_succ a b n (n + 1) (by omega), rows]
    rw [Nat.sub_self, show Nt.vp b 0 = 0 from rfl]
    omega
theorem rows_full (a b : List Int) (n i : Nat) (hn : a.length + b.length ≤ n) : rows a b n i = Nt.vp a i * Nt.val b := by
  induction i with
  | zero => simp [rows, Nt.vp]
  | succ i ih =>
    rw [rows, ih, Nt.vp_step]
    by_cases c : i < a.length
    · rw [← Nt.val_vp (s := b) (k := n - i) (by omega)]
      grind
    · rw [getD_past (by omega)]; grind
theorem cols_full (a b : List Int) (n : Nat) (hn : a.length + b.length ≤ n) : cols a b n = Nt.val a * Nt.val b := by
  rw [cols_rows, rows_full a b n n hn, ← Nt.val_vp (s := a) (by omega)]
theorem colp_stop (a b : List Int) (k i j : Nat) (h : a.length ≤ i) (hij : i ≤ j) : colp a b k j = colp a b k i := by
  induction j with
  | zero => have : i = 0 := by omega
            subst this; rfl
  | succ j ih =>
    by_cases e : i = j + 1
    · subst e; rfl
    · rw [colp, ih (by omega), getD_past (by omega)]; omega
theorem colp_zero (a b : List Int) (k i : Nat) (h : i + b.length ≤ k + 1) : colp a b k i = 0 := by
  induction i with
  | zero => rfl
  | succ i ih => rw [colp, ih (by omega), getD_past (s := b) (by omega)]; omega
theorem colp_bd {a b : List Int} (ha : Nt.Rng a) (hb : Nt.Rng b) (k i : Nat) : 0 ≤ colp a b k i ∧ colp a b k i ≤ (i : Int) * 18446744065119617025 := by
  induction i with
  | zero => simp [colp]
  | succ i ih =>
    rw [colp]
    have := mul_bd (ha i).1 (ha i).2 (hb (k - i)).1 (hb (k - i)).2
    constructor
    · omega
    · have : ((i + 1 : Nat) : Int) * 18446744065119617025 = (i : Int) * 18446744065119617025 + 18446744065119617025 := by omega
      omega

/-- Columns below k are told: s; l is what goes on. -/
structure MulInv (a b s : List Int) (l : Int) : Prop where
  rng : Nt.Rng s
  eq : Nt.vp s s.length + l * 4294967296 ^ s.length = cols a b s.length
  l0 : 0 ≤ l
theorem MulInv.step {a b s : List Int} {l t : Int} (h : MulInv a b s l) (ht : t = l + colp a b s.length (s.length + 1)) (h0 : 0 ≤ t) : MulInv a b (s ++ [t % 4294967296]) (t / 4294967296) := by
  refine ⟨rng_snoc h.rng (by omega) (by omega), ?_, by omega⟩
  have e := h.eq
  have hn : t % 4294967296 + t / 4294967296 * 4294967296 = t := by omega
  rw [List.length_append, List.length_singleton, vp_snoc, Nt.pw_succ, cols, ← e]
  generalize t % 4294967296 = n at *
  generalize t / 4294967296 = c at *
  generalize (4294967296 : Int) ^ s.length = P at *
  generalize colp a b s.length (s.length + 1) = C at *
  grind
theorem MulInv.done {a b s : List Int} {l : Int} (h : MulInv a b s l) (ha : Nt.Rng a) (hb : Nt.Rng b) (hl : s.length = a.length + b.length) : Nt.val s = Nt.val a * Nt.val b := by
  have e := h.eq
  rw [cols_full a b s.length (by omega)] at e
  have h1 := Nt.val_bd ha
  have h2 := Nt.val_bd hb
  have h3 := Nt.val_bd h.rng
  have hp := Nt.pw_pos s.length
  have hlt : Nt.val a * Nt.val b < 4294967296 ^ s.length := by
    rw [hl, Nt.pw_add]
    have a1 : Nt.val a * Nt.val b ≤ Nt.val a * 4294967296 ^ b.length := Int.mul_le_mul_of_nonneg_left (by omega) h1.1
    have a2 : Nt.val a * 4294967296 ^ b.length < 4294967296 ^ a.length * 4294967296 ^ b.length := Int.mul_lt_mul_of_pos_right h1.2 (Nt.pw_pos _)
    omega
  have hl0 : l = 0 := by
    by_cases c : l = 0
    · exact c
    · exfalso
      have : 1 * 4294967296 ^ s.length ≤ l * 4294967296 ^ s.length := Int.mul_le_mul_of_nonneg_right (by have := h.l0; omega) (by omega)
      have h4 : 0 ≤ Nt.vp s s.length := h3.1
      omega
  subst hl0
  show Nt.vp s s.length = _
  omega

/-- 2^64, kept from the walk. -/
def twoW : Int := 18446744073709551616
theorem wrap_over {l p : Int} (h0 : 0 ≤ l) (h1 : l < twoW) (p0 : 0 ≤ p) (p1 : p < twoW) (h : twoW ≤ l + p) : ∃ l2, IntKind.u64.wrap (l + p) = l2 ∧ l2 = l + p - twoW ∧ 0 ≤ l2 ∧ l2 < p ∧ l2 < twoW := by
  refine ⟨_, rfl, ?_⟩
  rw [wrap_u64_mod]
  unfold twoW at *
  omega
theorem or_col (l h : Int) (h0 : 0 ≤ l) (h1 : l < twoW) (k0 : 0 ≤ h) (k1 : h ≤ 1000000) : bits .or .u64 (l / 4294967296) (h * 4294967296) = l / 4294967296 + 4294967296 * h := or64_join _ _ (by omega) (by unfold twoW at h1; omega) k0 (by omega)

set_option maxHeartbeats 8000000 in
theorem refMul28 (a b : Option Addr) (ca cb : Nat) (za zb : List Int) (w : World) (ha : Lie w a za) (hb : Lie w b zb) (ra : Nt.Rng za) (rb : Nt.Rng zb) (hpa : 0 < za.length) (hpb : 0 < zb.length) (hna : za.length ≤ 100000) (hnb : zb.length ≤ 100000) :
    Calls Tryz.prog 72 #[.slice a za.length ca, .slice b zb.length cb] w fun e w' => ∃ zs a' c, e = .returned (.slice a' zs.length c) ∧ Own w.heap.size w' (.slice a' zs.length c) zs ∧ Nt.Can zs ∧ Nt.val zs = Nt.val za * Nt.val zb ∧ Below w.heap.size w w' := by
  obtain ⟨ba, oa, rfl⟩ := lie_some ha hpa
  obtain ⟨bb, ob, rfl⟩ := lie_some hb hpb
  have HA := Hide.mk ha
  have HB := Hide.mk hb
  have RA := Hide.mk ra
  have RB := Hide.mk rb
  have hz1 : ((za.length : Int) == 0) = false := beq_eq_false_iff_ne.2 (by omega)
  have hz2 : ((zb.length : Int) == 0) = false := beq_eq_false_iff_ne.2 (by omega)
  clear ha hb ra rb
  go_enter Tryz.func72, Tryz.ntmps72
  go_wp2
  go_loopw [5, 6, 7, 8] (fun v lo hi i wr => ∃ (s : List Int) (l : Int), s.length ≤ za.length + zb.length ∧ i = .int .i64 (s.length : Int) ∧ lo = .int .u64 l ∧ hi = .int .u64 0 ∧ 0 ≤ l ∧ l ≤ 429501024600000 ∧ Hide (Own w.heap.size wr v s) ∧ Hide (MulInv za zb s l) ∧ Below w.heap.size w wr) (fun _ _ _ i _ => za.length + zb.length - (intOf i).toNat)
  case atStart => exact ⟨[], 0, Nat.zero_le _, rfl, rfl, rfl, by decide, by decide, ⟨Own.nil _ _⟩, ⟨⟨Nt.rng_nil, by simp [Nt.vp, cols], by decide⟩⟩, Below.refl _ _⟩
  case round =>
    obtain ⟨s, l, hk, rfl, rfl, rfl, hl0, hl1, HO, HI, hbel⟩ := hrel
    by_cases hlt : s.length < za.length + zb.length
    · -- the first term of the column
      obtain ⟨fr, hfr, hfz⟩ : ∃ fr : Nat, (fr : Int) = (if zb.length ≤ s.length then (s.length : Int) - zb.length + 1 else 0) ∧ colp za zb s.length fr = 0 := by
        by_cases c : zb.length ≤ s.length
        · exact ⟨s.length - zb.length + 1, by rw [if_pos c]; omega, colp_zero za zb s.length _ (by omega)⟩
        · exact ⟨0, by rw [if_neg c]; rfl, rfl⟩
      have hstep := fun t => Hide.mk (fun h1 h2 => HI.out.step (t := t) h1 h2)
      have hC := Hide.mk (colp_bd RA.out RB.out s.length)
      have hstop := Hide.mk (colp_stop za zb s.length)
      generalize hn : s.length = n at *
      have HN := Hide.mk hn
      have HFZ := Hide.mk hfz
      have hfb : fr ≤ n + 1 ∧ fr ≤ za.length := by split at hfr <;> omega
      have hlti : (n : Int) < (za.length : Int) + (zb.length : Int) := by omega
      clear hn hfz HI
      by_cases hc : zb.length ≤ n
      · rw [if_pos hc] at hfr
        have hfi : (n : Int) - (zb.length : Int) + 1 = (fr : Int) := hfr.symm
        clear hfr
        go_wp2
        go_loopw [6, 7, 10] (fun lo hi iv wr2 => ∃ (i : Nat) (l2 h2 : Int), fr ≤ i ∧ i ≤ n + 1 ∧ i ≤ za.length ∧ iv = .int .i64 i ∧ lo = .int .u64 l2 ∧ hi = .int .u64 h2 ∧ 0 ≤ l2 ∧ l2 < twoW ∧ 0 ≤ h2 ∧ h2 ≤ (i : Int) ∧ Hide (l2 + h2 * twoW = l + colp za zb n i) ∧ Below w.heap.size w wr2 ∧ Hide (Own w.heap.size wr2 u5 s)) (fun _ _ iv _ => n + 1 - (intOf iv).toNat)
        case atStart => exact ⟨fr, l, 0, Nat.le_refl _, hfb.1, hfb.2, rfl, rfl, rfl, hl0, by unfold twoW; omega, by decide, by omega, ⟨by rw [HFZ.out]; omega⟩, hbel, HO⟩
        case round =>
          obtain ⟨i, l2, h2, hi0, hi1, hi2, rfl, rfl, rfl, hl20, hl21, hh0, hh1, HE, hbel2, HO2⟩ := hrel
          clear HO hbel
          by_cases hgo : i ≤ n ∧ i < za.length
          · obtain ⟨hin, hia⟩ := hgo
            have hib : n - i < zb.length := by omega
            have hini : (n : Int) - (i : Int) = ((n - i : Nat) : Int) := by omega
            have hca := lie_cell (HA.out.below hbel2 (Nat.le_refl _)) rfl hia
            have hcb : wr.cell? ⟨bb, ob + (n - i), none⟩ = _ := lie_cell (HB.out.below hbel2 (Nat.le_refl _)) rfl (i := n - i) hib
            have hra := RA.out i
            have hrb := RB.out (n - i)
            have HE2 : Hide (∀ x y, x = za.getD i 0 → y = zb.getD (n - i) 0 → l + colp za zb n (i + 1) = l2 + h2 * twoW + x * y) := ⟨fun x y hx hy => by rw [colp, ← hx, ← hy]; have := HE.out; omega⟩
            clear HE
            generalize hx : za.getD i 0 = x at *
            generalize hy : zb.getD (n - i) 0 = y at *
            have HXY := Hide.mk (HE2.out x y rfl rfl)
            clear HE2 hx hy
            generalize hni : n - i = ni at *
            have HNI := Hide.mk hni
            clear hni
            have hpb := mul_bd hra.1 hra.2 hrb.1 hrb.2
            by_cases hov : l2 + x * y < twoW
            · have hov2 : l2 + x * y ≤ 18446744073709551615 := by unfold twoW at hov; omega
              go_wp2
              go_region
              all_goals go_wp2
              go_roundw
              case rel => exact ⟨i + 1, _, _, by omega, by omega, by omega, by go_num, rfl, rfl, by omega, hov, hh0, by omega, ⟨by rw [HXY.out]; omega⟩, hbel2.drew, ⟨HO2.out.below (Below.refl _ _).drew (Nat.le_refl _)⟩⟩
              case measure => simp [intOf]; omega
            · obtain ⟨l3, hw, hl3, hl30, hl3p, hl3w⟩ := wrap_over (p := x * y) hl20 hl21 hpb.1 (by unfold twoW; omega) (by omega)
              have HL3 := Hide.mk hl3
              clear hl3
              have hhb : h2 ≤ 100000 := by omega
              go_wp2
              go_region
              all_goals go_wp2
              go_roundw
              case rel => exact ⟨i + 1, _, _, by omega, by omega, by omega, by go_num, rfl, rfl, hl30, hl3w, by omega, by omega, ⟨by rw [HXY.out, HL3.out, Int.add_mul]; omega⟩, hbel2.drew, ⟨HO2.out.below (Below.refl _ _).drew (Nat.le_refl _)⟩⟩
              case measure => simp [intOf]; omega
          · have hcol : Hide (l2 + h2 * twoW = l + colp za zb n (n + 1)) := ⟨by
              rw [HE.out]
              by_cases c : i = n + 1
              · rw [c]
              · rw [hstop.out i (n + 1) (by omega) hi1]⟩
            have hcb1 := hC.out (n + 1)
            have hcb2 := hC.out i
            have hcol2 := hcol.out
            have hcol3 := HE.out
            have hB1 : l + colp za zb n (n + 1) ≤ 429501024600000 + 100000 * 18446744065119617025 := by
              have : (i : Int) * 18446744065119617025 ≤ 100000 * 18446744065119617025 := Int.mul_le_mul_of_nonneg_right (by omega) (by decide)
              omega
            have hacc0 : 0 ≤ l + colp za zb n (n + 1) := by omega
            have HS := Hide.mk ((hstep (l + colp za zb n (n + 1))).out rfl hacc0)
            have em : (l + colp za zb n (n + 1)) % 4294967296 = l2 % 4294967296 := by rw [← hcol2]; unfold twoW; omega
            have ed : (l + colp za zb n (n + 1)) / 4294967296 = l2 / 4294967296 + 4294967296 * h2 := by rw [← hcol2]; unfold twoW; omega
            have hnew : l2 / 4294967296 + 4294967296 * h2 ≤ 429501024600000 := by rw [← ed]; omega
            rw [em, ed] at HS
            have hor := or_col l2 h2 hl20 hl21 hh0 (by omega)
            have hl2b : l2 ≤ 18446744073709551615 := by unfold twoW at hl21; omega
            have hlu : l2 / 4294967296 < 4294967296 := by omega
            have hgo2 : (n : Int) < (i : Int) ∨ ((i : Int) ≤ (n : Int) ∧ (za.length : Int) ≤ (i : Int)) := by omega
            clear hcb1 hcb2 hcol2 hcol3 hcol HE hB1 hacc0 em ed hl21 hC hstop hstep
            rcases hgo2 with hgo2 | ⟨hgo2, hgo3⟩
            all_goals
              go_wp2_with (at_builtin; refine app1 rfl (.tmp 71) (.tmp 74) rfl w.heap.size _ s (l2 % 4294967296) wr.heap.size rfl rfl (own_alloc HO2.out _) (cell_new1 _ _) (by have := HN.out; omega) (by have := hbel2.size; simp; omega) ?_; intro v2 w2 hown2 hgrow)
              have hb3 := own_push HO2.out hgrow hbel2 (by have := hbel2.size; omega)
              have HO3 := Hide.mk hown2
              clear hown2 hgrow
              go_wp2
              go_roundw
              case rel => exact ⟨_, _, by rw [List.length_append, List.length_singleton, HN.out]; omega, by rw [List.length_append, List.length_singleton, HN.out]; go_num, rfl, by go_num, by omega, hnew, HO3, HS, hb3⟩
              case measure => simp [intOf]; omega
      · rw [if_neg hc] at hfr
        have hf0 : fr = 0 := by omega
        subst hf0
        clear hfr
        go_wp2
        go_loopw [6, 7, 10] (fun lo hi iv wr2 => ∃ (i : Nat) (l2 h2 : Int), 0 ≤ i ∧ i ≤ n + 1 ∧ i ≤ za.length ∧ iv = .int .i64 i ∧ lo = .int .u64 l2 ∧ hi = .int .u64 h2 ∧ 0 ≤ l2 ∧ l2 < twoW ∧ 0 ≤ h2 ∧ h2 ≤ (i : Int) ∧ Hide (l2 + h2 * twoW = l + colp za zb n i) ∧ Below w.heap.size w wr2 ∧ Hide (Own w.heap.size wr2 u5 s)) (fun _ _ iv _ => n + 1 - (intOf iv).toNat)
        case atStart => exact ⟨0, l, 0, Nat.le_refl _, hfb.1, hfb.2, rfl, rfl, rfl, hl0, by unfold twoW; omega, by decide, by omega, ⟨by rw [HFZ.out]; omega⟩, hbel, HO⟩
        case round =>
          obtain ⟨i, l2, h2, hi0, hi1, hi2, rfl, rfl, rfl, hl20, hl21, hh0, hh1, HE, hbel2, HO2⟩ := hrel
          clear HO hbel
          by_cases hgo : i ≤ n ∧ i < za.length
          · obtain ⟨hin, hia⟩ := hgo
            have hib : n - i < zb.length := by omega
            have hini : (n : Int) - (i : Int) = ((n - i : Nat) : Int) := by omega
            have hca := lie_cell (HA.out.below hbel2 (Nat.le_refl _)) rfl hia
            have hcb : wr.cell? ⟨bb, ob + (n - i), none⟩ = _ := lie_cell (HB.out.below hbel2 (Nat.le_refl _)) rfl (i := n - i) hib
            have hra := RA.out i
            have hrb := RB.out (n - i)
            have HE2 : Hide (∀ x y, x = za.getD i 0 → y = zb.getD (n - i) 0 → l + colp za zb n (i + 1) = l2 + h2 * twoW + x * y) := ⟨fun x y hx hy => by rw [colp, ← hx, ← hy]; have := HE.out; omega⟩
            clear HE
            generalize hx : za.getD i 0 = x at *
            generalize hy : zb.getD (n - i) 0 = y at *
            have HXY := Hide.mk (HE2.out x y rfl rfl)
            clear HE2 hx hy
            generalize hni : n - i = ni at *
            have HNI := Hide.mk hni
            clear hni
            have hpb := mul_bd hra.1 hra.2 hrb.1 hrb.2
            by_cases hov : l2 + x * y < twoW
            · have hov2 : l2 + x * y ≤ 18446744073709551615 := by unfold twoW at hov; omega
              go_wp2
              go_region
              all_goals go_wp2
              go_roundw
              case rel => exact ⟨i + 1, _, _, by omega, by omega, by omega, by go_num, rfl, rfl, by omega, hov, hh0, by omega, ⟨by rw [HXY.out]; omega⟩, hbel2.drew, ⟨HO2.out.below (Below.refl _ _).drew (Nat.le_refl _)⟩⟩
              case measure => simp [intOf]; omega
            · obtain ⟨l3, hw, hl3, hl30, hl3p, hl3w⟩ := wrap_over (p := x * y) hl20 hl21 hpb.1 (by unfold twoW; omega) (by omega)
              have HL3 := Hide.mk hl3
              clear hl3
              have hhb : h2 ≤ 100000 := by omega
              go_wp2
              go_region
              all_goals go_wp2
              go_roundw
              case rel => exact ⟨i + 1, _, _, by omega, by omega, by omega, by go_num, rfl, rfl, hl30, hl3w, by omega, by omega, ⟨by rw [HXY.out, HL3.out, Int.add_mul]; omega⟩, hbel2.drew, ⟨HO2.out.below (Below.refl _ _).drew (Nat.le_refl _)⟩⟩
              case measure => simp [intOf]; omega
          · have hcol : Hide (l2 + h2 * twoW = l + colp za zb n (n + 1)) := ⟨by
              rw [HE.out]
              by_cases c : i = n + 1
              · rw [c]
              · rw [hstop.out i (n + 1) (by omega) hi1]⟩
            have hcb1 := hC.out (n + 1)
            have hcb2 := hC.out i
            have hcol2 := hcol.out
            have hcol3 := HE.out
            have hB1 : l + colp za zb n (n + 1) ≤ 429501024600000 + 100000 * 18446744065119617025 := by
              have : (i : Int) * 18446744065119617025 ≤ 100000 * 18446744065119617025 := Int.mul_le_mul_of_nonneg_right (by omega) (by decide)
              omega
            have hacc0 : 0 ≤ l + colp za zb n (n + 1) := by omega
            have HS := Hide.mk ((hstep (l + colp za zb n (n + 1))).out rfl hacc0)
            have em : (l + colp za zb n (n + 1)) % 4294967296 = l2 % 4294967296 := by rw [← hcol2]; unfold twoW; omega
            have ed : (l + colp za zb n (n + 1)) / 4294967296 = l2 / 4294967296 + 4294967296 * h2 := by rw [← hcol2]; unfold twoW; omega
            have hnew : l2 / 4294967296 + 4294967296 * h2 ≤ 429501024600000 := by rw [← ed]; omega
            rw [em, ed] at HS
            have hor := or_col l2 h2 hl20 hl21 hh0 (by omega)
            have hl2b : l2 ≤ 18446744073709551615 := by unfold twoW at hl21; omega
            have hlu : l2 / 4294967296 < 4294967296 := by omega
            have hgo2 : (n : Int) < (i : Int) ∨ ((i : Int) ≤ (n : Int) ∧ (za.length : Int) ≤ (i : Int)) := by omega
            clear hcb1 hcb2 hcol2 hcol3 hcol HE hB1 hacc0 em ed hl21 hC hstop hstep
            rcases hgo2 with hgo2 | ⟨hgo2, hgo3⟩
            all_goals
              go_wp2_with (at_builtin; refine app1 rfl (.tmp 71) (.tmp 74) rfl w.heap.size _ s (l2 % 4294967296) wr.heap.size rfl rfl (own_alloc HO2.out _) (cell_new1 _ _) (by have := HN.out; omega) (by have := hbel2.size; simp; omega) ?_; intro v2 w2 hown2 hgrow)
              have hb3 := own_push HO2.out hgrow hbel2 (by have := hbel2.size; omega)
              have HO3 := Hide.mk hown2
              clear hown2 hgrow
              go_wp2
              go_roundw
              case rel => exact ⟨_, _, by rw [List.length_append, List.length_singleton, HN.out]; omega, by rw [List.length_append, List.length_singleton, HN.out]; go_num, rfl, by go_num, by omega, hnew, HO3, HS, hb3⟩
              case measure => simp [intOf]; omega
    · have hl : s.length = za.length + zb.length := by omega
      have hv := HI.out.done RA.out RB.out hl
      have HR := Hide.mk HI.out.rng
      obtain ⟨a2, c2, hve, h1, h2, hl2⟩ := HO.out.lie
      have HT := Hide.mk (trim36 a2 c2 s wr hl2 h1 h2)
      have HV := Hide.mk hv
      have HVE := Hide.mk hve
      have HLN := Hide.mk hl
      clear hv h1 h2 hl2 HI hl
      rw [hve]
      clear hve
      go_wp2_with fail
      refine HT.out.mono ?_
      rintro e w' ⟨rfl, m, hm, rfl, hz, hd⟩
      have HG : Hide (∃ zs a' c, Value.slice a2 m c2 = .slice a' zs.length c ∧ Own w.heap.size wr (.slice a' zs.length c) zs ∧ Nt.Can zs ∧ Nt.val zs = Nt.val za * Nt.val zb) := ⟨by
        have hl : (s.take m).length = m := by simp only [List.length_take]; omega
        have ho := HO.out
        rw [HVE.out] at ho
        exact ⟨s.take m, a2, c2, by rw [hl], by rw [hl]; exact own_take ho hm, Nt.can_take HR.out hm hd, by rw [Nt.val_take hz hm]; exact HV.out⟩⟩
      clear hz hd hm HT HO
      go_wp2
      go_ret
      obtain ⟨zs, a', c, h1, h2, h3, h4⟩ := HG.out
      exact ⟨zs, a', c, congrArg Ending.returned h1, h2, h3, h4, hbel⟩

/-- A new number that the reference answers. -/
def Made (w w' : World) (x : Int) (e : Ending) : Prop := ∃ zs a' c, e = .returned (.slice a' zs.length c) ∧ Own w.heap.size w' (.slice a' zs.length c) zs ∧ Nt.Can zs ∧ Nt.val zs = x ∧ Below w.heap.size w w'
set_option maxHeartbeats 1000000 in
theorem refMul_nil (a b : Option Addr) (ca cb : Nat) (za zb : List Int) (w : World) (h : za.length = 0 ∨ zb.length = 0) :
    Calls Tryz.prog 72 #[.slice a za.length ca, .slice b zb.length cb] w fun e w' => e = .returned (.slice none 0 0) ∧ w = w' := by
  by_cases c : za.length = 0
  · have h1 : ((za.length : Int) == 0) = true := by rw [c]; rfl
    go_enter Tryz.func72, Tryz.ntmps72
    go_wp2
    go_ret
    exact ⟨rfl, rfl⟩
  · have h1 : ((za.length : Int) == 0) = false := beq_eq_false_iff_ne.2 (by omega)
    have h2 : ((zb.length : Int) == 0) = true := by rw [show zb.length = 0 by omega]; rfl
    go_enter Tryz.func72, Tryz.ntmps72
    go_wp2
    go_ret
    exact ⟨rfl, rfl⟩
theorem refMul_any (a b : Option Addr) (ca cb : Nat) (za zb : List Int) (w : World) (ha : Lie w a za) (hb : Lie w b zb) (ra : Nt.Rng za) (rb : Nt.Rng zb) (hna : za.length ≤ 100000) (hnb : zb.length ≤ 100000) :
    Calls Tryz.prog 72 #[.slice a za.length ca, .slice b zb.length cb] w fun e w' => Made w w' (Nt.val za * Nt.val zb) e := by
  by_cases h : za.length = 0 ∨ zb.length = 0
  · refine (refMul_nil a b ca cb za zb w h).mono ?_
    rintro e w' ⟨rfl, rfl⟩
    refine ⟨[], none, 0, rfl, Own.nil _ _, Nt.can_nil, ?_, Below.refl _ _⟩
    rcases h with h | h
    · rw [List.length_eq_zero_iff.1 h, Nt.val_nil]; simp
    · rw [List.length_eq_zero_iff.1 h, Nt.val_nil]; simp
  · exact refMul28 a b ca cb za zb w ha hb ra rb (by omega) (by omega) hna hnb

set_option maxHeartbeats 1000000 in
theorem refLen45 (a : Option Addr) (ca : Nat) (za : List Int) (w : World) (ha : Lie w a za) (qa : Nt.Can za) (hn : 0 < za.length) (hm : za.length ≤ 3000000) :
    Calls Tryz.prog 89 #[.slice a za.length ca] w fun e w' => w = w' ∧ ∃ BL : Nat, e = .returned (.int .i64 BL) ∧ Bits (Nt.val za) BL ∧ 1 ≤ BL ∧ BL ≤ 32 * za.length := by
  obtain ⟨k, hk⟩ : ∃ k, za.length = k + 1 := ⟨za.length - 1, by omega⟩
  have ht0 : za.getD k 0 ≠ 0 := by have := qa.2 (by omega); rw [hk] at this; exact this
  have htr := qa.1 k
  obtain ⟨L, eL, hL1, hL2, hL3, hL4⟩ := bitLen32 (za.getD k 0) (by omega) htr.2
  obtain ⟨b, o, rfl⟩ := lie_some ha hn
  have hc : w.cell? ⟨b, o + k, none⟩ = _ := lie_cell ha rfl (i := k) (by omega)
  have HB := Hide.mk (bits_top qa.1 hk hL3 hL4)
  have hne : (((k : Int) + 1) == 0) = false := beq_eq_false_iff_ne.2 (by omega)
  rw [hk]
  have hkb : k ≤ 3000000 := by omega
  have EL := Hide.mk eL
  clear ha qa ht0 hL3 hL4 eL hk hn hm
  generalize za.getD k 0 = x at *
  go_enter Tryz.func89, Tryz.ntmps89
  go_wp2
  go_loop [3, 4] (fun nv xv => ∃ (j : Nat) (y : Int), nv = .int .i64 (32 * (k : Int) + j) ∧ xv = .int .u32 y ∧ 0 ≤ y ∧ y < 4294967296 ∧ j ≤ 32 ∧ Hide (L = j + Lib.bitLen y.toNat)) (fun _ xv => (intOf xv).toNat)
  case atStart => exact ⟨0, x, by go_num, rfl, htr.1, htr.2, by omega, ⟨by rw [EL.out]; omega⟩⟩
  case round =>
    obtain ⟨j, y, rfl, rfl, hy0, hy1, hj, HL⟩ := hrel
    by_cases hp : 0 < y
    · have hh := Lib.bitLen_half y.toNat (by omega) (by omega)
      have hl := HL.out
      have hj2 : j + 1 ≤ 32 := by omega
      have HL2 : Hide (L = j + 1 + Lib.bitLen (y / 2).toNat) := ⟨by rw [hl, hh, show (y / 2).toNat = y.toNat / 2 by omega]; omega⟩
      clear hh hl HL
      go_wp2
      go_round
      case rel => exact ⟨j + 1, y / 2, by go_num, rfl, by omega, by omega, hj2, HL2⟩
      case measure => simp [intOf]; omega
    · have hy : y = 0 := by omega
      have hfin : Hide (L = j) := ⟨by
        have := HL.out
        rw [hy] at this
        have e : Lib.bitLen (0 : Int).toNat = 0 := by decide
        omega⟩
      clear hy HL
      go_wp2
      go_ret
      exact ⟨rfl, 32 * k + L, by rw [hfin.out]; go_num, HB.out, by omega, by omega⟩

theorem bit_eq {za : List Int} (ra : Nt.Rng za) (wh p : Nat) (hp : p < 32) (hw : wh < za.length) : Nt.val za / 2 ^ (32 * wh + p) % 2 = za.getD wh 0 / 2 ^ p % 2 := by
  rw [pow2_split (32 * wh + p) wh p rfl, ← Int.ediv_ediv_of_nonneg (Int.le_of_lt (Nt.pw_pos _)), ← val_drop_div ra wh (by omega), val_drop_step hw]
  obtain ⟨q, hq⟩ : ∃ q, p + 1 + q = 32 := ⟨31 - p, by omega⟩
  have e : (4294967296 : Int) = 2 ^ p * (2 * 2 ^ q) := by
    rw [show (4294967296 : Int) = 2 ^ (p + 1 + q) by rw [hq]; decide, Int.pow_add, Int.pow_succ]; grind
  have hpos := p2pos p
  rw [e, Int.mul_assoc (2 ^ p), Int.add_mul_ediv_left _ _ (by omega), Int.mul_assoc, Int.add_mul_emod_self_left]
theorem and32_one (x : Int) (h0 : 0 ≤ x) (h1 : x < 4294967296) : bits .and .u32 x 1 = x % 2 := by
  rw [u32_and x 1 h0 h1 (by decide) (by decide)]
  have : x.toNat &&& (1 : Int).toNat = x.toNat % 2 := nat_mask1 x.toNat
  rw [this]; omega

set_option maxHeartbeats 1000000 in
theorem refBit48 (a : Option Addr) (ca : Nat) (za : List Int) (w : World) (i : Nat) (ha : Lie w a za) (ra : Nt.Rng za) (hm : za.length ≤ 3000000) (hi : i ≤ 100000000) :
    Calls Tryz.prog 122 #[.slice a za.length ca, .int .i64 (i : Int)] w fun e w' => e = .returned (.int .u32 (Nt.val za / 2 ^ i % 2)) ∧ w = w' := by
  by_cases hw : i / 32 < za.length
  · obtain ⟨b, o, rfl⟩ := lie_some ha (by omega)
    have hc : w.cell? ⟨b, o + i / 32, none⟩ = _ := lie_cell ha rfl hw
    have hr := ra (i / 32)
    have hp : i % 32 < 32 := Nat.mod_lt _ (by decide)
    have he := bit_eq ra (i / 32) (i % 32) hp hw
    rw [show 32 * (i / 32) + i % 32 = i by omega] at he
    rw [he]
    have hq : (i : Int) / 32 = ((i / 32 : Nat) : Int) := by omega
    have hr2 : (i : Int) % 32 = ((i % 32 : Nat) : Int) := by omega
    clear ha ra he
    generalize za.getD (i / 32) 0 = x at *
    have hx0 : 0 ≤ x / 2 ^ (i % 32) := Int.ediv_nonneg hr.1 (Int.le_of_lt (p2pos _))
    have hx1 : x / 2 ^ (i % 32) < 4294967296 := by
      have : x / 2 ^ (i % 32) ≤ x := Int.ediv_le_self _ hr.1
      omega
    have hand := and32_one _ hx0 hx1
    generalize i / 32 = wh at *
    generalize i % 32 = p at *
    go_enter Tryz.func122, Tryz.ntmps122
    go_wp2
    go_ret
    exact ⟨rfl, rfl⟩
  · have hz : Nt.val za / 2 ^ i % 2 = 0 := by
      have h1 := Nt.val_bd ra
      have h2 : (4294967296 : Int) ^ za.length ≤ 2 ^ i := by
        have := p2mono (show 32 * za.length ≤ i by omega)
        rw [Int.pow_mul, show (2 : Int) ^ 32 = 4294967296 by decide] at this
        exact this
      rw [Int.ediv_eq_zero_of_lt h1.1 (by omega)]; rfl
    rw [hz]
    have hq : (i : Int) / 32 = ((i / 32 : Nat) : Int) := by omega
    clear ha ra hz
    generalize i / 32 = wh at *
    go_enter Tryz.func122, Tryz.ntmps122
    go_wp2
    go_ret
    exact ⟨rfl, rfl⟩

/-- After k digits of the reference's Up. -/
structure RUpInv (za s : List Int) (wh p k : Nat) (l : Int) : Prop where
  len : s.length = wh + k
  rng : Nt.Rng s
  eq : Nt.vp s (wh + k) + l * 4294967296 ^ (wh + k) = Nt.vp za k * 2 ^ p * 4294967296 ^ wh
theorem RUpInv.start {za : List Int} {wh p : Nat} : RUpInv za (List.replicate wh 0) wh p 0 0 :=
  ⟨by simp, fun k => by rw [getD_rep]; decide, by rw [vp_rep]; simp [Nt.vp]⟩
theorem RUpInv.step {za s : List Int} {wh p k : Nat} {l x t : Int} (h : RUpInv za s wh p k l) (hx : x = za.getD k 0) (ht : t = l + x * 2 ^ p) : RUpInv za (s ++ [t % 4294967296]) wh p (k + 1) (t / 4294967296) := by
  have hl := h.len
  refine ⟨by rw [List.length_append, List.length_singleton, hl]; omega, rng_snoc h.rng (by omega) (by omega), ?_⟩
  have e := h.eq
  have hn : t % 4294967296 + t / 4294967296 * 4294967296 = t := by omega
  have e2 := vp_snoc s (t % 4294967296)
  rw [hl] at e2
  rw [show wh + (k + 1) = wh + k + 1 by omega, e2, Nt.vp_step, Nt.pw_succ, ← hx]
  rw [Nt.pw_add] at *
  generalize t % 4294967296 = n at *
  generalize t / 4294967296 = c at *
  generalize (4294967296 : Int) ^ wh = P at *
  generalize (4294967296 : Int) ^ k = K at *
  generalize (2 : Int) ^ p = T at *
  grind
theorem mod_step {x : Int} {n : Nat} (h : x % 2 ^ n = 0) (hb : x / 2 ^ n % 2 = 0) : x % 2 ^ (n + 1) = 0 := by
  have h1 := Int.emod_add_mul_ediv x (2 ^ n)
  have h2 := Int.emod_add_mul_ediv (x / 2 ^ n) 2
  rw [h] at h1
  rw [hb] at h2
  rw [Int.pow_succ]
  refine Int.emod_eq_zero_of_dvd ⟨x / 2 ^ n / 2, ?_⟩
  generalize x / 2 ^ n = q at *
  generalize (2 : Int) ^ n = X at *
  generalize q / 2 = r at *
  grind
theorem mod_jump {za : List Int} (ra : Nt.Rng za) {wh : Nat} (hw : wh < za.length) (h : Nt.val za % 2 ^ (32 * wh) = 0) (hd : za.getD wh 0 = 0) : Nt.val za % 2 ^ (32 * wh + 32) = 0 := by
  have e1 : (2 : Int) ^ (32 * wh) = 4294967296 ^ wh := by rw [Int.pow_mul]; rfl
  have e2 : (2 : Int) ^ (32 * wh + 32) = 4294967296 ^ wh * 4294967296 := by rw [Int.pow_add, e1]; rfl
  rw [e1] at h
  rw [e2]
  have h1 := Int.emod_add_mul_ediv (Nt.val za) (4294967296 ^ wh)
  rw [h, ← val_drop_div ra wh (by omega), val_drop_step hw, hd] at h1
  refine Int.emod_eq_zero_of_dvd ⟨Nt.val (za.drop (wh + 1)), ?_⟩
  generalize (4294967296 : Int) ^ wh = X at *
  generalize Nt.val (za.drop (wh + 1)) = r at *
  grind

/-- The place of the lowest bit that is 1. -/
structure LowBit (x : Int) (t : Nat) : Prop where
  zero : x % 2 ^ t = 0
  one : x / 2 ^ t % 2 = 1

set_option maxHeartbeats 2000000 in
theorem refLow59 (a : Option Addr) (ca : Nat) (za : List Int) (w : World) (ha : Lie w a za) (qa : Nt.Can za) (hz : 0 < za.length) (hm : za.length ≤ 3000000) :
    Calls Tryz.prog 103 #[.slice a za.length ca] w fun e w' => w = w' ∧ ∃ t : Nat, e = .returned (.int .i64 t) ∧ LowBit (Nt.val za) t ∧ t < 32 * za.length := by
  obtain ⟨ba, oa, rfl⟩ := lie_some ha hz
  have HA := Hide.mk ha
  have QA := Hide.mk qa
  have C1 := fun i hi => Hide.mk (refBit48 (some ⟨ba, oa, none⟩) ca za w i ha qa.1 (by omega) hi)
  clear ha qa
  go_enter Tryz.func103, Tryz.ntmps103
  go_wp2
  go_loop [3] (fun nv => ∃ n : Nat, nv = .int .i64 n ∧ n ≤ 32 * za.length ∧ Hide (Nt.val za % 2 ^ n = 0) ∧ Hide (n % 32 ≠ 0 → za.getD (n / 32) 0 ≠ 0)) (fun nv => 32 * za.length - (intOf nv).toNat)
  case atStart => exact ⟨0, rfl, by omega, ⟨by simp⟩, ⟨fun h => absurd rfl h⟩⟩
  case round =>
    obtain ⟨n, rfl, hn, HZ, HD⟩ := hrel
    by_cases hlt : n < 32 * za.length
    · have hw : n / 32 < za.length := by omega
      have hcell : w.cell? ⟨ba, oa + n / 32, none⟩ = _ := lie_cell HA.out rfl hw
      have C2 := C1 n (by omega)
      have hq : (n : Int) / 32 = ((n / 32 : Nat) : Int) := by omega
      have hlti : (n : Int) < 32 * (za.length : Int) := by omega
      have hr := QA.out.1 (n / 32)
      by_cases hb : Nt.val za / 2 ^ n % 2 = 0
      · rw [hb] at C2
        have HS := Hide.mk (mod_step HZ.out hb)
        have hbe := bit_eq QA.out.1 (n / 32) (n % 32) (Nat.mod_lt _ (by decide)) hw
        rw [show 32 * (n / 32) + n % 32 = n by omega, hb] at hbe
        have HBE := Hide.mk hbe
        clear hb hbe C1
        by_cases hd : za.getD (n / 32) 0 = 0
        · have hn32 : n % 32 = 0 := by
            by_cases c : n % 32 = 0
            · exact c
            · exact absurd hd (HD.out c)
          have HJ : Hide (Nt.val za % 2 ^ (n + 32) = 0) := ⟨by
            have h1 : 32 * (n / 32) = n := by omega
            have := mod_jump QA.out.1 hw (by rw [h1]; exact HZ.out) hd
            rw [h1] at this; exact this⟩
          rw [hd] at hcell
          have HN := Hide.mk hn32
          clear hn32 hd hr HD
          generalize n / 32 = wh at *
          go_wp2_with fail
          refine C2.out.mono ?_
          rintro e w' ⟨rfl, rfl⟩
          go_wp2
          go_round
          case rel => exact ⟨n + 32, by go_num, by have := HN.out; omega, HJ, ⟨fun c => absurd (by have := HN.out; omega) c⟩⟩
          case measure => simp [intOf]; omega
        · have hd2 : (za.getD (n / 32) 0 == 0) = false := beq_eq_false_iff_ne.2 hd
          have HD2 : Hide ((n + 1) % 32 ≠ 0 → za.getD ((n + 1) / 32) 0 ≠ 0) := ⟨fun c => by rw [show (n + 1) / 32 = n / 32 by omega]; exact hd⟩
          clear hd HD HBE
          generalize za.getD (n / 32) 0 = x at *
          generalize n / 32 = wh at *
          go_wp2_with fail
          refine C2.out.mono ?_
          rintro e w' ⟨rfl, rfl⟩
          go_wp2
          go_round
          case rel => exact ⟨n + 1, by go_num, by omega, HS, HD2⟩
          case measure => simp [intOf]; omega
      · have hb1 : Nt.val za / 2 ^ n % 2 = 1 := by omega
        rw [hb1] at C2
        have HB1 := Hide.mk hb1
        have hne : ((n : Int) == 32 * (za.length : Int)) = false := beq_eq_false_iff_ne.2 (by omega)
        clear hb hb1 C1 hcell hq hw hr HD
        go_wp2_with fail
        refine C2.out.mono ?_
        rintro e w' ⟨rfl, rfl⟩
        go_wp2
        go_ret
        exact ⟨rfl, n, rfl, ⟨HZ.out, HB1.out⟩, hlt⟩
    · exfalso
      have hnn : n = 32 * za.length := by omega
      have h1 := HZ.out
      have h2 := Nt.val_bd QA.out.1
      have h3 := can_ge QA.out hz
      have h4 := Nt.pw_pos (za.length - 1)
      rw [hnn, Int.pow_mul, show (2 : Int) ^ 32 = 4294967296 by decide, Int.emod_eq_of_lt h2.1 h2.2] at h1
      omega

theorem or64_low2 (l t : Int) (p : Nat) (hp : p ≤ 32) (h0 : 0 ≤ l) (h1 : l < 2 ^ p) (ht : 0 ≤ t) (ht' : t < 18446744073709551616) (hm : t % 2 ^ p = 0) : bits .or .u64 l t = l + t := by
  have hb := p2mono hp
  have e32 : (2 : Int) ^ 32 = 4294967296 := by decide
  rw [u64_or l t h0 (by omega) ht ht']
  have e : ((2 ^ p : Nat) : Int) = (2 : Int) ^ p := by simp
  have := nat_join p t.toNat l.toNat (by
    have h1 : ((t.toNat % 2 ^ p : Nat) : Int) = t % 2 ^ p := by
      rw [Int.natCast_emod, e, Int.toNat_of_nonneg ht]
    rw [hm] at h1
    omega) (by omega)
  rw [Nat.or_comm, this]; omega
theorem split_shift (ab x : Int) (p q : Nat) (h : p + q = 32) : (ab * 4294967296 + x) / 2 ^ p = x / 2 ^ p + ab * 2 ^ q := by
  have e : (4294967296 : Int) = 2 ^ p * 2 ^ q := by rw [← Int.pow_add, h]; decide
  have : ab * 4294967296 + x = x + 2 ^ p * (ab * 2 ^ q) := by rw [e]; grind
  rw [this, Int.add_mul_ediv_left _ _ (by have := p2pos p; omega)]
/-- After k digits of the reference's Down. -/
structure RDnInv (za s : List Int) (wh p : Nat) : Prop where
  rng : Nt.Rng s
  eq : Nt.vp s s.length + 4294967296 ^ s.length * (Nt.val (za.drop (wh + s.length)) / 2 ^ p) = Nt.val (za.drop wh) / 2 ^ p
theorem RDnInv.step {za s : List Int} {wh p : Nat} {x ab d : Int} (h : RDnInv za s wh p) (hp : p < 32) (ra : Nt.Rng za) (hk : wh + s.length < za.length) (hx : x = za.getD (wh + s.length) 0) (hab : ab = za.getD (wh + s.length + 1) 0) (hd : d = (ab * 4294967296 + x) / 2 ^ p % 4294967296) :
    RDnInv za (s ++ [d]) wh p := by
  have hxr := ra (wh + s.length)
  rw [← hx] at hxr
  refine ⟨rng_snoc h.rng (by omega) (by omega), ?_⟩
  have e := h.eq
  have dd := down_digit (Nt.val (za.drop (wh + s.length + 1))) ab x p hp (by rw [hab, val_drop_mod ra]) hxr.1 hxr.2
  rw [val_drop_step hk, ← hx, ← dd, ← hd] at e
  rw [List.length_append, List.length_singleton, vp_snoc, Nt.pw_succ, ← e, show wh + (s.length + 1) = wh + s.length + 1 by omega]
  generalize Nt.val (za.drop (wh + s.length + 1)) / 2 ^ p = r
  generalize (4294967296 : Int) ^ s.length = P
  grind
theorem RDnInv.done {za s : List Int} {wh p : Nat} (h : RDnInv za s wh p) (ra : Nt.Rng za) (hl : wh + s.length = za.length) : Nt.val s = Nt.val za / 2 ^ (32 * wh + p) := by
  have e := h.eq
  rw [hl, List.drop_eq_nil_of_le (Nat.le_refl _), Nt.val_nil, Int.zero_ediv, Int.mul_zero, Int.add_zero] at e
  rw [pow2_split (32 * wh + p) wh p rfl, ← Int.ediv_ediv_of_nonneg (Int.le_of_lt (Nt.pw_pos _)), ← val_drop_div ra wh (by omega)]
  exact e
theorem low_lost {x : Int} {t n : Nat} (h : LowBit x t) : decide (t < n) = decide (x % 2 ^ n ≠ 0) := by
  have h1 := Int.emod_add_mul_ediv x (2 ^ t)
  rw [h.zero] at h1
  have ho := h.one
  by_cases c : t < n
  · have : x % 2 ^ n ≠ 0 := by
      intro e
      obtain ⟨m, hm⟩ := Int.dvd_of_emod_eq_zero e
      obtain ⟨k, rfl⟩ : ∃ k, n = t + (k + 1) := ⟨n - t - 1, by omega⟩
      have e2 : x / 2 ^ t = 2 * (2 ^ k * m) := by
        rw [hm, Int.pow_add, Int.mul_assoc, Int.mul_ediv_cancel_left _ (by have := p2pos t; omega), Int.pow_succ]; grind
      omega
    simp [this, c]
  · have : x % 2 ^ n = 0 := by
      obtain ⟨k, rfl⟩ : ∃ k, t = n + k := ⟨t - n, by omega⟩
      refine Int.emod_eq_zero_of_dvd ⟨2 ^ k * (x / 2 ^ (n + k)), ?_⟩
      rw [← Int.mul_assoc, ← Int.pow_add]; omega
    simp [this, c]

/-- What the reference's Down answers. -/
def Downs (w w' : World) (x : Int) (n : Nat) (e : Ending) : Prop := ∃ zs a' c, e = .returned (.tuple #[.slice a' zs.length c, .bool (decide (x % 2 ^ n ≠ 0))]) ∧ Own w.heap.size w' (.slice a' zs.length c) zs ∧ Nt.Can zs ∧ Nt.val zs = x / 2 ^ n ∧ Below w.heap.size w w'

set_option maxHeartbeats 4000000 in
theorem refDown46 (a : Option Addr) (ca : Nat) (za : List Int) (w : World) (n : Nat) (hn1 : n ≤ 120000000) (ha : Lie w a za) (qa : Nt.Can za) (hz : 0 < za.length) (hm : za.length ≤ 3000000) :
    Calls Tryz.prog 104 #[.slice a za.length ca, .int .i64 (n : Int)] w fun e w' => Downs w w' (Nt.val za) n e := by
  obtain ⟨ba, oa, rfl⟩ := lie_some ha hz
  have C1 := Hide.mk (refLen45 (some ⟨ba, oa, none⟩) ca za w ha qa hz (by omega))
  have C2 := Hide.mk (refLow59 (some ⟨ba, oa, none⟩) ca za w ha qa hz hm)
  have HA := Hide.mk ha
  have QA := Hide.mk qa
  have hzi : (0 : Int) < (za.length : Int) := by omega
  clear ha qa
  obtain ⟨wh, hwh⟩ : ∃ wh, wh = n / 32 := ⟨_, rfl⟩
  obtain ⟨p, hpp⟩ : ∃ p, p = n % 32 := ⟨_, rfl⟩
  obtain ⟨q, hqq⟩ : ∃ q, q = 32 - p := ⟨_, rfl⟩
  have hq : (n : Int) / 32 = (wh : Int) := by omega
  have hr : (n : Int) % 32 = (p : Int) := by omega
  have hp : p < 32 := by omega
  have hqi : (32 : Int) - (p : Int) = (q : Int) := by omega
  have HNW := Hide.mk (show n = 32 * wh + p by omega)
  have HPQ := Hide.mk (show p + q = 32 by omega)
  have hq32 : q ≤ 32 := by omega
  clear hwh hpp hqq
  go_enter Tryz.func104, Tryz.ntmps104
  go_wp2_with fail
  refine C1.out.mono ?_
  rintro e w' ⟨rfl, BL, rfl, hbits, hB1, hB2⟩
  by_cases hge : BL ≤ n
  · have HF : Hide (Downs w w (Nt.val za) n (.returned (.tuple #[.slice none 0 0, .bool true]))) := ⟨by
      have h1 := hbits.lt
      have h2 := p2mono hge
      have h3 := Nt.val_bd QA.out.1
      have h4 := can_ge QA.out hz
      have h5 := Nt.pw_pos (za.length - 1)
      refine ⟨[], none, 0, ?_, Own.nil _ _, Nt.can_nil, by rw [Nt.val_nil, Int.ediv_eq_zero_of_lt h3.1 (by omega)], Below.refl _ _⟩
      have : Nt.val za % 2 ^ n ≠ 0 := by rw [Int.emod_eq_of_lt h3.1 (by omega)]; omega
      simp [this]⟩
    go_wp2
    go_ret2
    exact HF.out
  · have HBW := Hide.mk (show wh < za.length by have := HNW.out; omega)
    clear hbits C1
    go_wp2_with fail
    refine C2.out.mono ?_
    rintro e w' ⟨rfl, t, rfl, hlow, htl⟩
    have HLOW := Hide.mk (low_lost (n := n) hlow)
    clear hlow C2 hge
    generalize hlost : decide (Nt.val za % 2 ^ n ≠ 0) = lost at *
    have HLS := Hide.mk hlost
    clear hlost
    go_wp2
    rw [hr, HLOW.out]
    go_loopw [7, 9] (fun v iv wr => ∃ (s : List Int), wh + s.length ≤ za.length ∧ iv = .int .i64 ((wh + s.length : Nat) : Int) ∧ Hide (Own w.heap.size wr v s) ∧ Hide (RDnInv za s wh p) ∧ Below w.heap.size w wr) (fun _ iv _ => za.length - (intOf iv).toNat)
    case atStart => exact ⟨[], by have := HBW.out; simp; omega, rfl, ⟨Own.nil _ _⟩, ⟨⟨Nt.rng_nil, by simp [Nt.vp]⟩⟩, Below.refl _ _⟩
    case round =>
      obtain ⟨s, hk, rfl, HO, HI, hbel⟩ := hrel
      clear hr
      by_cases hlt : wh + s.length < za.length
      · have hca := lie_cell (HA.out.below hbel (Nat.le_refl _)) rfl hlt
        have hrx := QA.out.1 (wh + s.length)
        have hrab := QA.out.1 (wh + s.length + 1)
        have hstep := fun x ab d => Hide.mk (fun h1 h2 h3 => HI.out.step (x := x) (ab := ab) (d := d) hp QA.out.1 hlt h1 h2 h3)
        have hsl : Hide (s.length ≤ 3000000) := ⟨by omega⟩
        have hxd : ∀ x : Int, 0 ≤ x → x < 4294967296 → 0 ≤ x / 2 ^ p ∧ x / 2 ^ p < 2 ^ q ∧ x / 2 ^ p < 4294967296 := fun x h0 h1 => by
          refine ⟨Int.ediv_nonneg h0 (Int.le_of_lt (p2pos p)), Int.ediv_lt_of_lt_mul (p2pos p) ?_, ?_⟩
          · rw [← Int.pow_add, show q + p = 32 by have := HPQ.out; omega]; exact h1
          · have : x / 2 ^ p ≤ x := Int.ediv_le_self _ h0
            omega
        have hxx := hxd _ hrx.1 hrx.2
        have hmq : ∀ y : Int, 0 ≤ y → y < 4294967296 → 0 ≤ y * 2 ^ q ∧ y * 2 ^ q ≤ 18446744069414584320 ∧ y * 2 ^ q % 2 ^ q = 0 := fun y h0 h1 => by
          have h2 := p2mono hq32
          have h3 := p2pos q
          have e32 : (2 : Int) ^ 32 = 4294967296 := by decide
          rw [e32] at h2
          have h4 : y * 2 ^ q ≤ 4294967295 * 4294967296 := Int.mul_le_mul (by omega) h2 (by omega) (by decide)
          exact ⟨Int.mul_nonneg h0 (by omega), by omega, Int.mul_emod_left _ _⟩
        have hab := hmq _ hrab.1 hrab.2
        have hor := or64_low2 (za.getD (wh + s.length) 0 / 2 ^ p) (za.getD (wh + s.length + 1) 0 * 2 ^ q) q hq32 hxx.1 hxx.2.1 hab.1 (by omega) hab.2.2
        have hsp := Hide.mk (split_shift (za.getD (wh + s.length + 1) 0) (za.getD (wh + s.length) 0) p q HPQ.out)
        clear HI hxd hmq
        by_cases hlt2 : wh + s.length + 1 < za.length
        · have hcb := lie_cell (HA.out.below hbel (Nat.le_refl _)) rfl hlt2
          generalize hm2 : wh + s.length = m at *
          have HM := Hide.mk hm2
          clear hm2
          generalize za.getD m 0 = x at *
          generalize za.getD (m + 1) 0 = ab at *
          go_wp2_with (at_builtin; refine app1 rfl (.tmp 55) (.tmp 58) rfl w.heap.size _ s ((x / 2 ^ p + ab * 2 ^ q) % 4294967296) wr.heap.size rfl rfl (own_alloc HO.out _) (cell_new1 _ _) (by have := hsl.out; omega) (by have := hbel.size; simp; omega) ?_; intro v2 w2 hown2 hgrow)
          have hb2 := own_push HO.out hgrow hbel (by have := hbel.size; omega)
          have HO2 := Hide.mk hown2
          clear hown2 hgrow
          go_wp2
          go_roundw
          case rel => exact ⟨_, by rw [List.length_append, List.length_singleton]; have := HM.out; omega, by rw [List.length_append, List.length_singleton]; have := HM.out; go_num, HO2, ⟨(hstep x ab _).out rfl rfl (by rw [hsp.out])⟩, hb2⟩
          case measure => simp [intOf]; omega
        · have hab0 : za.getD (wh + s.length + 1) 0 = 0 := getD_past (by omega)
          rw [hab0] at hsp hstep
          clear hor hab hrab
          generalize hm2 : wh + s.length = m at *
          have HM := Hide.mk hm2
          clear hm2 hab0
          generalize za.getD m 0 = x at *
          go_wp2_with (at_builtin; refine app1 rfl (.tmp 55) (.tmp 58) rfl w.heap.size _ s (x / 2 ^ p) wr.heap.size rfl rfl (own_alloc HO.out _) (cell_new1 _ _) (by have := hsl.out; omega) (by have := hbel.size; simp; omega) ?_; intro v2 w2 hown2 hgrow)
          have hb2 := own_push HO.out hgrow hbel (by have := hbel.size; omega)
          have HO2 := Hide.mk hown2
          clear hown2 hgrow
          go_wp2
          go_roundw
          case rel => exact ⟨_, by rw [List.length_append, List.length_singleton]; have := HM.out; omega, by rw [List.length_append, List.length_singleton]; have := HM.out; go_num, HO2, ⟨(hstep x 0 _).out rfl rfl (by rw [hsp.out, Int.zero_mul, Int.add_zero, Int.emod_eq_of_lt hxx.1 hxx.2.2])⟩, hb2⟩
          case measure => simp [intOf]; omega
      · have hv := HI.out.done QA.out.1 (by omega)
        rw [← HNW.out] at hv
        have HR := Hide.mk HI.out.rng
        obtain ⟨a2, c2, hve, h1, h2, hl2⟩ := HO.out.lie
        have HT := Hide.mk (trim36 a2 c2 s wr hl2 h1 h2)
        have HV := Hide.mk hv
        have HVE := Hide.mk hve
        clear hv h1 h2 hl2 HI
        generalize hm2 : wh + s.length = m at *
        rw [hve]
        clear hve hm2
        go_wp2_with fail
        refine HT.out.mono ?_
        rintro e w' ⟨rfl, m2, hm2, rfl, hz2, hd2⟩
        have HG : Hide (Downs w wr (Nt.val za) n (.returned (.tuple #[.slice a2 m2 c2, .bool lost]))) := ⟨by
          have hl : (s.take m2).length = m2 := by simp only [List.length_take]; omega
          have ho := HO.out
          rw [HVE.out] at ho
          exact ⟨s.take m2, a2, c2, by rw [hl, HLS.out], by rw [hl]; exact own_take ho hm2, Nt.can_take HR.out hm2 hd2, by rw [Nt.val_take hz2 hm2]; exact HV.out, hbel⟩⟩
        clear hz2 hd2 hm2 HT HO
        go_wp2
        go_ret2
        exact HG.out

/-- Digits from m on are divided: q. -/
structure ByInv (za q : List Int) (d : Int) (m : Nat) (l : Int) : Prop where
  len : q.length = za.length
  rng : Nt.Rng q
  eq : Nt.val (za.drop m) = d * Nt.val (q.drop m) + l
  l0 : 0 ≤ l
  l1 : l < d
theorem ByInv.start {za : List Int} {d : Int} (hd : 0 < d) : ByInv za (List.replicate za.length 0) d za.length 0 :=
  ⟨by simp, fun k => by rw [getD_rep]; decide, by rw [List.drop_eq_nil_of_le (Nat.le_refl _), List.drop_eq_nil_of_le (by simp), Nt.val_nil]; omega, Int.le_refl _, hd⟩
theorem ByInv.step {za q : List Int} {d l : Int} {m : Nat} (h : ByInv za q d (m + 1) l) (hm : m < za.length) (ra : Nt.Rng za) (x : Int) (hx : x = za.getD m 0) :
    ByInv za (q.set m ((l * 4294967296 + x) / d)) d m ((l * 4294967296 + x) % d) := by
  have hl := h.len
  have hxr := ra m
  rw [← hx] at hxr
  have hq := quo_bd h.l0 h.l1 hxr.1 hxr.2
  refine ⟨by rw [List.length_set]; exact hl, Nt.rng_set h.rng hq.1 hq.2.1, ?_, hq.2.2.1, hq.2.2.2⟩
  have e5 : (q.set m ((l * 4294967296 + x) / d)).drop (m + 1) = q.drop (m + 1) := List.drop_set_of_lt (by omega)
  rw [val_drop_step (s := za) hm, val_drop_step (s := q.set m _) (m := m) (by rw [List.length_set]; omega), Nt.getD_set_self (by omega), e5, h.eq, ← hx]
  have := Int.emod_add_mul_ediv (l * 4294967296 + x) d
  generalize (l * 4294967296 + x) % d = r at *
  generalize (l * 4294967296 + x) / d = y at *
  grind

/-- Bits of the quotient from i on are told. -/
structure BitInv (za zb q : List Int) (r : Int) (i : Nat) : Prop where
  len : q.length = za.length
  rng : Nt.Rng q
  ex : ∃ Q, Nt.val q = Q * 2 ^ i ∧ Nt.val za / 2 ^ i = Q * Nt.val zb + r
  r0 : 0 ≤ r
  r1 : r < Nt.val zb
theorem bits_next (x : Int) (i : Nat) : x / 2 ^ i = 2 * (x / 2 ^ (i + 1)) + x / 2 ^ i % 2 := by
  rw [Int.pow_succ, ← Int.ediv_ediv_of_nonneg (Int.le_of_lt (p2pos i))]
  omega
theorem BitInv.no {za zb q : List Int} {r : Int} {i : Nat} (h : BitInv za zb q r (i + 1)) (hc : 2 * r + Nt.val za / 2 ^ i % 2 < Nt.val zb) : BitInv za zb q (2 * r + Nt.val za / 2 ^ i % 2) i := by
  obtain ⟨Q, e1, e2⟩ := h.ex
  have hr := h.r0
  refine ⟨h.len, h.rng, ⟨2 * Q, by rw [e1, Int.pow_succ]; grind, ?_⟩, by omega, hc⟩
  have := bits_next (Nt.val za) i
  rw [e2] at this
  generalize Nt.val za / 2 ^ i % 2 = b at *
  rw [this]; grind
theorem BitInv.start {za zb : List Int} {A B L : Nat} (hA : Bits (Nt.val za) A) (hB : Bits (Nt.val zb) B) (h0 : 0 ≤ Nt.val za) (hL : A + 1 ≤ L + B) : BitInv za zb (List.replicate za.length 0) (Nt.val za / 2 ^ L) L := by
  have hz : Nt.val (List.replicate za.length (0 : Int)) = 0 := vp_rep _ _
  refine ⟨by simp, fun k => by rw [getD_rep]; decide, ⟨0, by rw [hz]; simp, by simp⟩, Int.ediv_nonneg h0 (Int.le_of_lt (p2pos L)), Int.ediv_lt_of_lt_mul (p2pos L) ?_⟩
  have h1 := hA.lt
  have h2 := hB.le
  have h3 := p2mono (show A + 1 ≤ L + B from hL)
  rw [Int.pow_succ, Int.pow_add] at h3
  have h4 : 2 ^ L * 2 ^ B ≤ 2 ^ L * (2 * Nt.val zb) := Int.mul_le_mul_of_nonneg_left h2 (Int.le_of_lt (p2pos L))
  have e : 2 ^ L * (2 * Nt.val zb) = 2 * (Nt.val zb * 2 ^ L) := by grind
  omega
theorem Blk.drew {w : World} {g : Nat} {s : List Int} (h : Blk w g s) : Blk w.drew g s := h
set_option maxHeartbeats 1000000 in
theorem refLen_nil (a : Option Addr) (ca : Nat) (w : World) : Calls Tryz.prog 89 #[.slice a 0 ca] w fun e w' => e = .returned (.int .i64 0) ∧ w = w' := by
  go_enter Tryz.func89, Tryz.ntmps89
  go_wp2
  go_ret
  exact ⟨rfl, rfl⟩
set_option maxHeartbeats 1000000 in
theorem refDown_nil (a : Option Addr) (ca : Nat) (w : World) (n : Int) (hn : 0 ≤ n) : Calls Tryz.prog 104 #[.slice a 0 ca, .int .i64 n] w fun e w' => e = .returned (.tuple #[.slice none 0 0, .bool false]) ∧ w = w' := by
  go_enter Tryz.func104, Tryz.ntmps104
  go_wp2_with fail
  refine (refLen_nil a ca w).mono ?_
  rintro e w' ⟨rfl, rfl⟩
  go_wp2
  go_ret2
  exact ⟨rfl, rfl⟩

end Go.Proofs.YtdnghibkagcbcaaGreatDoor

namespace Go.Proofs.YtdnghibkagcbcaaGreatDoor
open Go.RowKit
set_option linter.unusedVariables false
set_option maxRecDepth 3000
/-- Memory of the call's own, which may be written. -/
def Wr (B : Nat) (w : World) (v : Value) : Prop := v = .slice none 0 0 ∨ ∃ g n cap cur, v = .slice (some ⟨g, 0, none⟩) n cap ∧ B ≤ g ∧ w.heap[g]? = some (.cells cur 108 (0, 0)) ∧ n ≤ cur.size ∧ n ≤ 1000000
theorem Own.wr {B : Nat} {w : World} {v : Value} {zs : List Int} (h : Own B w v zs) (hl : zs.length ≤ 1000000) : Wr B w v := by
  rcases h.blk with ⟨h, _⟩ | ⟨g, cap, cur, hv, hB, hg, hn⟩
  · exact .inl h
  · exact .inr ⟨g, zs.length, cap, cur, hv, hB, hg, hn, hl⟩
theorem Wr.below {B B' : Nat} {w w' : World} {v : Value} (h : Wr B w v) (hb : Below B' w w') (hB : w.heap.size ≤ B') : Wr B w' v := by
  rcases h with h | ⟨g, n, cap, cur, hv, h1, hg, r⟩
  · exact .inl h
  · exact .inr ⟨g, n, cap, cur, hv, h1, (hb.block g (by have := (Array.getElem?_eq_some_iff.1 hg).1; omega)).trans hg, r⟩

/-- r is the whole root of x, s what is left. -/
structure RtInv (x r s : Int) : Prop where
  r0 : 0 ≤ r
  s0 : 0 ≤ s
  eq : x = r * r + s
  le : s ≤ 2 * r
theorem RtInv.no {x y r s b : Int} (h : RtInv x r s) (hy : y = 4 * x + b) (hb : 0 ≤ b) (hb3 : b ≤ 3) (hc : 4 * s + b < 4 * r + 1) : RtInv y (2 * r) (4 * s + b) := by
  obtain ⟨h1, h2, h3, h4⟩ := h
  refine ⟨by omega, by omega, ?_, by omega⟩
  have e : 2 * r * (2 * r) = 4 * (r * r) := by grind
  rw [e]; omega
/-- What a power answers: its digits, or that they are too many. -/
def PowEnd (w w' : World) (x M : Int) (e : Ending) : Prop :=
  (x < M ∧ ∃ zs a c, e = .returned (.tuple #[.slice a zs.length c, .int .i64 0]) ∧ Lie w' a zs ∧ Good zs x ∧ Below w.heap.size w w') ∨
  (M ≤ x ∧ e = .returned (.tuple #[.slice none 0 0, .int .i64 3]) ∧ Below w.heap.size w w')
/-- What is told of a slice of integers that came in: it is nil; or it leads to a row of cap cells, the numbers zs (the first len are its elements), each fitting its kind. -/
def IsRow (k : IntKind) (w : World) (a : Option Addr) (len cap : Nat) (zs : List Int) : Prop :=
  (a = none ∧ len = 0 ∧ cap = 0 ∧ zs = []) ∨
  ∃ x, a = some x ∧ len ≤ cap ∧ cap ≤ maxLen ∧ zs.length = cap ∧ (∀ i, i < zs.length → w.cell? (x.add i) = some (.int k (zs.getD i 0))) ∧ ∀ n ∈ zs, (Lit.int k n).wf = true

theorem wf_u64 {n : Int} (h : (Lit.int .u64 n).wf = true) : 0 ≤ n ∧ n < 18446744073709551616 := by
  have e : ∀ n, (Lit.int .u64 n).wf = (decide (IntKind.u64.min ≤ n) && decide (n ≤ IntKind.u64.max)) := fun _ => rfl
  rw [e] at h
  have e1 : IntKind.u64.min = 0 := rfl
  have e2 : IntKind.u64.max = 18446744073709551615 := rfl
  rw [e1, e2] at h
  simp at h
  omega
end Go.Proofs.YtdnghibkagcbcaaGreatDoor
