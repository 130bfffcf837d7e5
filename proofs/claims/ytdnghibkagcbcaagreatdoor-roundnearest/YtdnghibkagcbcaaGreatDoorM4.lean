import Derived.Test.YtdnghibkagcbcaaGreatDoorM3
namespace Go.Proofs.YtdnghibkagcbcaaGreatDoor
open Go.RowKit
set_option linter.unusedVariables false
set_option maxRecDepth 3000
theorem val_append (P T : List Int) : Nt.val (P ++ T) = Nt.val P + 4294967296 ^ P.length * Nt.val T := by
  induction P with
  | nil => simp [Nt.val_nil]
  | cons d P ih =>
    rw [List.cons_append, val_cons, ih, val_cons, List.length_cons, Nt.pw_succ]
    generalize (4294967296 : Int) ^ P.length = X
    grind
theorem vp_of_small {T : List Int} (hr : Nt.Rng T) {n : Nat} (hn : n ≤ T.length) (h : Nt.val T < 4294967296 ^ n) : Nt.vp T n = Nt.val T ∧ Nt.val (T.drop n) = 0 := by
  have e := val_drop_split (s := T) n hn
  have h1 := Nt.vp_bd hr n
  have h2 := Nt.val_bd (rng_drop hr n)
  have hp := Nt.pw_pos n
  have h3 : Nt.val (T.drop n) = 0 := by
    by_cases c : Nt.val (T.drop n) = 0
    · exact c
    · exfalso
      have : 4294967296 ^ n * 1 ≤ 4294967296 ^ n * Nt.val (T.drop n) := Int.mul_le_mul_of_nonneg_left (by omega) (by omega)
      omega
  rw [h3] at e
  exact ⟨by omega, h3⟩
theorem drop_eq_of_getD {T T0 : List Int} {n : Nat} (hl : T.length = T0.length) (h : ∀ j, n ≤ j → T.getD j 0 = T0.getD j 0) : T.drop n = T0.drop n := by
  refine getD_eq_of_same (fun j _ => ?_) (by simp [hl])
  have := h (n + j) (by omega)
  simpa [List.getD_eq_getElem?_getD] using this

/-- Digits from t on of the quotient are told: Q; what is left of U0 stands in U. -/
structure LongInv (U0 zv U Q : List Int) (t : Nat) : Prop where
  lu : U.length = U0.length
  ru : Nt.Rng U
  rq : Nt.Rng Q
  eq : Nt.val U0 = Nt.val (Q.drop t) * 4294967296 ^ t * Nt.val zv + Nt.val U
  lt : Nt.val (U.drop t) < Nt.val zv
theorem LongInv.window {U0 zv U Q : List Int} {t m : Nat} (h : LongInv U0 zv U Q (t + 1)) (ht : t + m + 3 ≤ U.length) (hz : zv.length = m + 2) (rv : Nt.Rng zv) :
    Nt.vp (U.drop t) (m + 3) = Nt.val (U.drop t) ∧ Nt.val ((U.drop t).drop (m + 3)) = 0 ∧ Nt.val (U.drop t) < Nt.val zv * 4294967296 := by
  have e := val_drop_step (s := U) (m := t) (by omega)
  have h1 := h.lt
  have h2 := h.ru t
  have h3 := (Nt.val_bd rv).2
  have hlt : Nt.val (U.drop t) < Nt.val zv * 4294967296 := by omega
  have h4 := vp_of_small (T := U.drop t) (rng_drop h.ru t) (n := m + 3) (by rw [List.length_drop]; omega) (by
    rw [hz, show m + 2 = m + 2 from rfl] at h3
    rw [show m + 3 = m + 2 + 1 from rfl, Nt.pw_succ]
    omega)
  exact ⟨h4.1, h4.2, hlt⟩
theorem LongInv.step {U0 zv U Q T : List Int} {t m : Nat} {q : Int} (h : LongInv U0 zv U Q (t + 1)) (ht : t + m + 3 ≤ U.length) (htq : t < Q.length) (hz : zv.length = m + 2) (rv : Nt.Rng zv) (hn : Next (U.drop t) zv T q) :
    LongInv U0 zv (U.take t ++ T) (Q.set t q) t := by
  obtain ⟨e1, e2, e3⟩ := h.window ht hz rv
  have hpl : (U.take t).length = t := by rw [List.length_take]; omega
  have hTl := hn.len
  rw [List.length_drop] at hTl
  have eT : Nt.val T = Nt.val (U.drop t) - q * Nt.val zv := by
    have a1 := val_drop_split (s := T) (m + 3) (by omega)
    have a2 := drop_eq_of_getD hn.len (n := m + 3) (by have := hn.rest; rw [hz] at this; exact this)
    have a3 := hn.eq
    rw [hz] at a3
    rw [a1, a2, e2, a3, show m + 2 + 1 = m + 3 from rfl, e1]; omega
  have hTlt : Nt.val T < Nt.val zv := by
    have a1 := val_drop_split (s := T) (m + 3) (by omega)
    have a2 := drop_eq_of_getD hn.len (n := m + 3) (by have := hn.rest; rw [hz] at this; exact this)
    have a3 := hn.lt
    rw [hz, show m + 2 + 1 = m + 3 from rfl] at a3
    rw [a1, a2, e2]; omega
  refine ⟨by rw [List.length_append, hpl, hTl]; have := h.lu; omega, rng_pre (Nt.rng_take h.ru t) hn.rng, Nt.rng_set h.rq hn.q0 hn.q1, ?_, ?_⟩
  · have b1 : Nt.val U = Nt.val (U.take t) + 4294967296 ^ t * Nt.val (U.drop t) := by
      have := val_append (U.take t) (U.drop t)
      rw [List.take_append_drop, hpl] at this
      exact this
    have b2 := val_append (U.take t) T
    rw [hpl] at b2
    have b3 := val_drop_step (s := Q.set t q) (m := t) (by rw [List.length_set]; exact htq)
    have b5 : (Q.set t q).drop (t + 1) = Q.drop (t + 1) := List.drop_set_of_lt (by omega)
    rw [Nt.getD_set_self htq, b5] at b3
    have b4 := h.eq
    rw [Nt.pw_succ] at b4
    rw [b4, b3, b2, b1, eT]
    generalize (4294967296 : Int) ^ t = X
    grind
  · have : (U.take t ++ T).drop t = T := by
      rw [List.drop_append_of_le_length (by omega), List.drop_eq_nil_of_le (by omega), List.nil_append]
    rw [this]; exact hTlt

/-- The divisor, shifted till its highest bit is 1. -/
theorem norm_div {zb zv : List Int} {m L : Nat} (cb : Nt.Can zb) (hz : zb.length = m + 2) (hL : 1 ≤ L) (hL' : L ≤ 32) (h1 : zb.getD (m + 1) 0 < 2 ^ L) (h2 : (2 : Int) ^ L ≤ 2 * zb.getD (m + 1) 0) (cv : Nt.Can zv) (hv : Nt.val zv = Nt.val zb * 2 ^ (32 - L)) :
    zv.length = m + 2 ∧ 2147483648 ≤ zv.getD (m + 1) 0 := by
  have e1 : Nt.val zb = Nt.vp zb (m + 1) + zb.getD (m + 1) 0 * 4294967296 ^ (m + 1) := by unfold Nt.val; rw [hz, Nt.vp_step]
  have b1 := Nt.vp_bd cb.1 (m + 1)
  have hM := Nt.pw_pos (m + 1)
  have hp : (2 : Int) ^ L * 2 ^ (32 - L) = 4294967296 := by
    rw [← Int.pow_add, show L + (32 - L) = 32 by omega]; decide
  have hT : (0 : Int) < 2 ^ (32 - L) := Int.pow_pos (by decide)
  have lo : 2147483648 * 4294967296 ^ (m + 1) ≤ Nt.val zv := by
    have a1 : (2 : Int) ^ L * 2 ^ (32 - L) ≤ 2 * zb.getD (m + 1) 0 * 2 ^ (32 - L) := Int.mul_le_mul_of_nonneg_right h2 (by omega)
    rw [hp] at a1
    have a2 : 2147483648 ≤ zb.getD (m + 1) 0 * 2 ^ (32 - L) := by
      have : 2 * zb.getD (m + 1) 0 * 2 ^ (32 - L) = 2 * (zb.getD (m + 1) 0 * 2 ^ (32 - L)) := Int.mul_assoc _ _ _
      omega
    have a3 : 2147483648 * 4294967296 ^ (m + 1) ≤ zb.getD (m + 1) 0 * 2 ^ (32 - L) * 4294967296 ^ (m + 1) := Int.mul_le_mul_of_nonneg_right a2 (by omega)
    have a4 : 0 ≤ Nt.vp zb (m + 1) * 2 ^ (32 - L) := Int.mul_nonneg b1.1 (by omega)
    have a5 : Nt.val zb * 2 ^ (32 - L) = Nt.vp zb (m + 1) * 2 ^ (32 - L) + zb.getD (m + 1) 0 * 2 ^ (32 - L) * 4294967296 ^ (m + 1) := by rw [e1]; grind
    rw [hv, a5]; omega
  have hi : Nt.val zv < 4294967296 ^ (m + 2) := by
    have a1 : Nt.val zb < (zb.getD (m + 1) 0 + 1) * 4294967296 ^ (m + 1) := by rw [Int.add_mul, e1]; omega
    have a2 : (zb.getD (m + 1) 0 + 1) * 4294967296 ^ (m + 1) ≤ 2 ^ L * 4294967296 ^ (m + 1) := Int.mul_le_mul_of_nonneg_right (by omega) (by omega)
    have a3 : Nt.val zb * 2 ^ (32 - L) < 2 ^ L * 4294967296 ^ (m + 1) * 2 ^ (32 - L) := Int.mul_lt_mul_of_pos_right (by omega) hT
    have a4 : (2 : Int) ^ L * 4294967296 ^ (m + 1) * 2 ^ (32 - L) = 4294967296 ^ (m + 2) := by
      rw [show m + 2 = m + 1 + 1 from rfl, Nt.pw_succ, ← hp]; grind
    rw [hv]; omega
  have l1 := (Nt.can_len cv (m + 2)).1 hi
  have l2 : ¬ zv.length ≤ m + 1 := fun c => by
    have := (Nt.can_len cv (m + 1)).2 c
    omega
  have hl : zv.length = m + 2 := by omega
  refine ⟨hl, ?_⟩
  have e2 : Nt.val zv = Nt.vp zv (m + 1) + zv.getD (m + 1) 0 * 4294967296 ^ (m + 1) := by unfold Nt.val; rw [hl, Nt.vp_step]
  have b2 := Nt.vp_bd cv.1 (m + 1)
  by_cases c : 2147483648 ≤ zv.getD (m + 1) 0
  · exact c
  · exfalso
    have : (zv.getD (m + 1) 0 + 1) * 4294967296 ^ (m + 1) ≤ 2147483648 * 4294967296 ^ (m + 1) := Int.mul_le_mul_of_nonneg_right (by omega) (by omega)
    rw [Int.add_mul] at this
    omega
/-- The last step of a division. -/
theorem div_back {a b Q U T : Int} (hT : 0 < T) (hU : 0 ≤ U) (h : a * T = Q * (b * T) + U) (hlt : U < b * T) : a = Q * b + U / T ∧ 0 ≤ U / T ∧ U / T < b := by
  have e : U = T * (a - Q * b) := by grind
  have e2 : U / T = a - Q * b := by rw [e, Int.mul_ediv_cancel_left _ (by omega)]
  refine ⟨by omega, Int.ediv_nonneg hU (by omega), ?_⟩
  exact Int.ediv_lt_of_lt_mul hT hlt

theorem ownLie {B : Nat} {w : World} {a : Option Addr} {n c : Nat} {zs : List Int} (h : Own B w (.slice a n c) zs) : Lie w a zs := by
  obtain ⟨a', c', he, _, _, hl⟩ := h.lie
  simp only [Value.slice.injEq] at he
  rw [he.1]; exact hl
theorem pow2_split (n wh p : Nat) (h : n = 32 * wh + p) : (2 : Int) ^ n = 4294967296 ^ wh * 2 ^ p := by
  subst h
  rw [Int.pow_add, Int.pow_mul]
  rfl
theorem LongInv.start {zu zv za zb : List Int} {p n ee m : Nat} (cu : Nt.Can zu) (hv : Nt.val zu = Nt.val za * 2 ^ p) (hvv : Nt.val zv = Nt.val zb * 2 ^ p) (ca : Nt.Can za) (cb : Nt.Can zb) (hz : zb.length = m + 2) (he : za.length = m + 2 + ee) (hl : zu.length + n = za.length + 1) :
    LongInv (zu ++ List.replicate n 0) zv (zu ++ List.replicate n 0) (List.replicate (ee + 1) 0) (ee + 1) := by
  have hr := rng_app n cu.1
  refine ⟨rfl, hr, fun k => by rw [getD_rep]; decide, ?_, ?_⟩
  · rw [List.drop_eq_nil_of_le (by simp), Nt.val_nil]; omega
  · have hval : Nt.val (zu ++ List.replicate n 0) = Nt.val zu := by
      rw [val_append]
      have : Nt.val (List.replicate n (0 : Int)) = 0 := vp_rep _ _
      rw [this]; omega
    rw [val_drop_div hr (ee + 1) (by simp; omega), hval, hv, hvv]
    refine Int.ediv_lt_of_lt_mul (Nt.pw_pos _) ?_
    have h1 := (Nt.val_bd ca.1).2
    have h2 := can_ge cb (by omega)
    have hT : (0 : Int) < 2 ^ p := Int.pow_pos (by decide)
    have h3 : (4294967296 : Int) ^ (zb.length - 1) * 4294967296 ^ (ee + 1) ≤ Nt.val zb * 4294967296 ^ (ee + 1) := Int.mul_le_mul_of_nonneg_right h2 (Int.le_of_lt (Nt.pw_pos _))
    rw [← Nt.pw_add, hz, show m + 2 - 1 + (ee + 1) = za.length by omega] at h3
    have h4 : Nt.val za * 2 ^ p < Nt.val zb * 4294967296 ^ (ee + 1) * 2 ^ p := Int.mul_lt_mul_of_pos_right (by omega) hT
    have e : Nt.val zb * 2 ^ p * 4294967296 ^ (ee + 1) = Nt.val zb * 4294967296 ^ (ee + 1) * 2 ^ p := by grind
    rw [e]; exact h4
theorem splice_blk2 {w : World} {g n : Nat} {za : List Int} (hn : za.length ≤ n) (h : w.heap[g]? = some (.cells (splice ((List.replicate n (0 : Int)).map (Value.int .u32)) 0 (za.map (Value.int .u32))).toArray 108 (0, 0))) :
    Blk w g (za ++ List.replicate (n - za.length) 0) := by
  refine splice_blk (n := n - za.length) ?_
  rw [show za.length + (n - za.length) = n by omega]; exact h
theorem Lie.belowAt {w w' : World} {g o B : Nat} {zs : List Int} (h : Lie w (some ⟨g, o, none⟩) zs) (hb : Below B w w') (hg : g < B) : Lie w' (some ⟨g, o, none⟩) zs := by
  rcases h with h | ⟨b', o', he, hc⟩
  · exact .inl h
  · cases he
    refine .inr ⟨g, o, rfl, fun i hi => ?_⟩
    rw [hb.cell (p := ⟨g, o + i, none⟩) hg]; exact hc i hi
theorem blk_grown {w w' : World} {g g' : Nat} {s : List Int} (h : Blk w g s) (hg : w.grownBy w' (some g')) (hne : g ≠ g') : Blk w' g s := (hg.block g h.lt (by simpa using hne)).trans h

set_option maxHeartbeats 4000000 in
theorem long58 (a b : Option Addr) (ca cb m : Nat) (za zb : List Int) (w : World) (ha : Lie w a za) (hb : Lie w b zb) (qa : Nt.Can za) (qb : Nt.Can zb) (hz : zb.length = m + 2) (hle : m + 2 ≤ za.length) (hm : za.length ≤ 90000) :
    Calls Tryz.prog 161 #[.slice a za.length ca, .slice b zb.length cb] w fun e w' => ∃ zq zr aq cq ar cr, e = .returned (.tuple #[.slice aq zq.length cq, .slice ar zr.length cr]) ∧ Own w.heap.size w' (.slice aq zq.length cq) zq ∧ Own w.heap.size w' (.slice ar zr.length cr) zr ∧ Nt.Can zq ∧ Nt.Can zr ∧ Nt.val za = Nt.val zq * Nt.val zb + Nt.val zr ∧ Nt.val zr < Nt.val zb ∧ Below w.heap.size w w' := by
  obtain ⟨i0, hi, hz0, hz1, hz2⟩ := info_parts Tryz.info49
  obtain ⟨bb, bo, rfl⟩ := lie_some hb (by omega)
  obtain ⟨ee, hee⟩ : ∃ ee, za.length = m + 2 + ee := ⟨za.length - (m + 2), by omega⟩
  have HE := Hide.mk hee
  clear hee
  have hc1 : w.cell? ⟨bb, bo + (m + 1), none⟩ = _ := lie_cell hb rfl (i := m + 1) (by omega)
  have ht0 : zb.getD (m + 1) 0 ≠ 0 := by have := qb.2 (by omega); rw [hz] at this; exact this
  have htr := qb.1 (m + 1)
  obtain ⟨L, eL, hL1, hL2, hL3, hL4⟩ := bitLen32 (zb.getD (m + 1) 0) (by omega) htr.2
  obtain ⟨p, hp⟩ : ∃ p : Nat, p = 32 - L := ⟨_, rfl⟩
  have hpI : (32 : Int) - (L : Int) = (p : Int) := by omega
  have hp31 : p < 32 := by omega
  have C1 := Hide.mk (lz66 (zb.getD (m + 1) 0) w htr.1 (by omega) L eL hL2)
  have C2 := Hide.mk (shiftUp63 (some ⟨bb, bo, none⟩) cb zb w (p : Int) 0 p (by omega) (by omega) (by omega) (by omega) hp31 (by omega) hb qb.1 (by omega))
  have C3 := fun W (h : Below w.heap.size w W) => Hide.mk (shiftUp63 a ca za W (p : Int) 0 p (by omega) (by omega) (by omega) (by omega) hp31 (by omega) (ha.below h (Nat.le_refl _)) qa.1 (by omega))
  have ND := fun zv cv hv => Hide.mk (norm_div (zv := zv) qb hz hL1 hL2 hL3 hL4 cv hv)
  rw [← hp] at ND
  rw [hpI] at C1
  have QA := Hide.mk qa
  have QB := Hide.mk qb
  have HZ := Hide.mk hz
  rw [hz] at C2 ⊢
  clear ha hb qa qb hz eL hL3 hL4 hpI ht0 hp hL1 hL2
  generalize zb.getD (m + 1) 0 = tb at *
  go_enter Tryz.func161, Tryz.ntmps161
  go_wp2_with fail
  refine C1.out.mono ?_
  rintro e w' ⟨rfl, rfl⟩
  go_wp2_with fail
  refine C2.out.mono ?_
  rintro e w1 ⟨v, zv, rfl, hov, hcv, hvv, hb1⟩
  have hvv2 : Nt.val zv = Nt.val zb * 2 ^ p := by rw [hvv]; simp
  have HN := ND zv hcv hvv2
  have hlv := HN.out.1
  obtain ⟨av, cv, hve, _⟩ := hov.lie
  rw [hve] at hov
  obtain ⟨gv, hgv, hgB, hrw, _⟩ := hov.rw (by omega)
  have hLv : Lie w1 (some ⟨gv, 0, none⟩) zv := by have := ownLie hov; rw [hgv] at this; exact this
  have HVV := Hide.mk hvv2
  have HCV := Hide.mk hcv
  have HLV := Hide.mk hLv
  have HGV : gv < w1.heap.size := hLv.lt (by omega) _ rfl
  rw [hve, hgv, hlv]
  clear hov hve hgv hrw hvv hvv2 hcv hLv ND C1 C2
  go_wp2_with (at_make; refine wpList_make_full _ rfl _ _ 24 rfl w1.heap.size 108 i0 (.int .u32 0) 1 Tryz.underlying24 hi hz0 hz1 .i64 .i64 _ _ (za.length + 1) rfl rfl (by omega) (by omega) (by rw [hz2]; omega) (by unfold maxLen; omega) (Nat.le_refl _) ?_; intro w2 hown hgrow; have hblk2 := Hide.mk (blk_made hown); have hbel2 := below_of_grown hgrow; clear hown hgrow)
  refine (C3 w2 (below_then hb1 hbel2)).out.mono ?_
  rintro e w3 ⟨vu, zu, rfl, hou, hcu, hvu, hb3⟩
  have hvu2 : Nt.val zu = Nt.val za * 2 ^ p := by rw [hvu]; simp
  have hlu : zu.length ≤ za.length + 1 := by
    refine (Nt.can_len hcu _).1 ?_
    have h1 := Nt.val_bd QA.out.1
    have h2 := two_pow_le p hp31
    rw [hvu2, Nt.pw_succ]
    have h3 : Nt.val za * 2 ^ p ≤ Nt.val za * 2147483648 := Int.mul_le_mul_of_nonneg_left h2.2 h1.1
    have := Nt.pw_pos za.length
    omega
  obtain ⟨au, cu, hue, _⟩ := hou.lie
  rw [hue] at hou
  have HLU := Hide.mk (ownLie hou)
  have HVU := Hide.mk hvu2
  have HCU := Hide.mk hcu
  have HK3 := Hide.mk (hblk2.out.below hb3 hblk2.out.lt)
  have hb13 := below_then (below_then hb1 hbel2) hb3
  have HLV3 := Hide.mk (HLV.out.below (below_then hbel2 hb3) (Nat.le_refl _))
  have hsz3 : w1.heap.size < w3.heap.size := by have := hblk2.out.lt; have := hb3.size; omega
  have hcs : Hide ((zu.map (Value.int .u32)).length = Nat.min zu.length (za.length + 1)) := ⟨by simp [Nat.min_def]; omega⟩
  have hfit : Hide (0 + (zu.map (Value.int .u32)).length ≤ ((List.replicate (za.length + 1) (0 : Int)).map (Value.int .u32)).length) := ⟨by simp; omega⟩
  rw [hue]
  clear hue hou hvu hvu2 hcu hblk2 hbel2 hb3 C3 HLV
  go_wp2_with (first
    | ((with_reducible apply at_copy); refine wpList_copy_splice rfl (.tmp 25) (.tmp 28) 24 24 rfl 108 Tryz.underlying24 Tryz.size49 (some ⟨w1.heap.size, 0, none⟩) au (za.length + 1) (za.length + 1) zu.length cu rfl rfl w1.heap.size 0 ((List.replicate (za.length + 1) 0).map (Value.int .u32)) 108 HK3.out (zu.map (Value.int .u32)) hcs.out (fun hp => ⟨rfl, HLU.out.src (by simpa using hp)⟩) hfit.out (oneCell_ints zu) w1.heap.size w3 (Below.refl _ _) (Nat.le_refl _) ?_; intro w4 hblk4 hbel4)
    | (at_make; refine wpList_make_full _ rfl _ _ 24 rfl w4.heap.size 108 i0 (.int .u32 0) 1 Tryz.underlying24 hi hz0 hz1 .i64 .i64 _ _ (ee + 1) rfl rfl (by have := HE.out; omega) (by have := HE.out; omega) (by rw [hz2]; have := HE.out; omega) (by unfold maxLen; have := HE.out; omega) (Nat.le_refl _) ?_; intro w5 hown hgrow; have hblk5 := Hide.mk (blk_made hown); have hbel5 := below_of_grown hgrow; clear hown hgrow))
  have hblk4' := splice_blk2 (n := za.length + 1) hlu hblk4.out
  have hz4 : w1.heap.size < w4.heap.size := by have := hbel4.size; omega
  have HK5 := Hide.mk (hblk4'.below hbel5 hz4)
  have HLV5 := Hide.mk ((HLV3.out.belowAt hbel4 HGV).below hbel5 (Nat.le_refl _))
  have hsz1 : w.heap.size ≤ w1.heap.size := hb1.size
  have HB5 := Hide.mk ((hb13.trans (hbel4.mono hsz1)).trans (hbel5.mono (by have := hb13.size; have := hbel4.size; omega)))
  have HS := Hide.mk (LongInv.start (n := za.length + 1 - zu.length) HCU.out HVU.out HVV.out QA.out QB.out HZ.out HE.out (by omega))
  generalize hU0 : zu ++ List.replicate (za.length + 1 - zu.length) 0 = U0 at *
  have hlU : U0.length = za.length + 1 := by rw [← hU0]; simp; omega
  have hvU : Nt.val U0 = Nt.val za * 2 ^ p := by
    rw [← hU0, val_append, show Nt.val (List.replicate (za.length + 1 - zu.length) (0 : Int)) = 0 from vp_rep _ _, HVU.out]; omega
  have HLEN := Hide.mk hlU
  have HVAL := Hide.mk hvU
  clear hU0 hlU hvU hblk4 hblk4' hbel4 hbel5 hb13 HLV3 HK3 HLU HVU HCU hb1 hi hz0 hz1 hz2 hcs hfit
  have HGQ : Hide (gv < w1.heap.size ∧ w1.heap.size < w4.heap.size) := ⟨HGV, hz4⟩
  generalize w1.heap.size = gu at *
  generalize w4.heap.size = gq at *
  go_loopw [39] (fun i wr => ∃ (k : Nat) (U Q : List Int), k ≤ ee + 1 ∧ i = .int .i64 k ∧ Hide (Blk wr gu U) ∧ Hide (Blk wr gq Q) ∧ Hide (Q.length = ee + 1) ∧ Hide (LongInv U0 zv U Q (ee + 1 - k)) ∧ Hide (Lie wr (some ⟨gv, 0, none⟩) zv) ∧ Below w.heap.size w wr) (fun i _ => ee + 1 - (intOf i).toNat)
  case atStart => exact ⟨0, _, _, Nat.zero_le _, rfl, HK5, hblk5, ⟨by simp⟩, HS, HLV5, HB5.out⟩
  case round =>
    obtain ⟨k, U, Q, hk, rfl, HU, HQ, HQL, HI, HL, hbel⟩ := hrel
    clear HK5 hblk5 HS HLV5 HB5
    have hzl := HE.out
    have HEL := Hide.mk hzl
    have hUl : Hide (U.length = m + 2 + ee + 1) := ⟨by rw [HI.out.lu, HLEN.out]; omega⟩
    clear hzl
    by_cases hlt : k < ee + 1
    · obtain ⟨t, ht⟩ : ∃ t, ee = k + t := ⟨ee - k, by omega⟩
      have e1 : ee + 1 - k = t + 1 := by omega
      have e2 : ee + 1 - (k + 1) = t := by omega
      have E2 := Hide.mk e2
      have HT := Hide.mk ht
      have hi2 := HI.out
      rw [e1] at hi2
      have hpl : (U.take t).length = t := by rw [List.length_take, hUl.out]; omega
      have hdl : (U.drop t).length = m + 3 + k := by rw [List.length_drop, hUl.out]; omega
      have hw := hi2.window (m := m) (by rw [hUl.out]; omega) hlv HCV.out.1
      have htd : U.take t ++ U.drop t = U := List.take_append_drop t U
      have hn := fun c => Hide.mk (next67 gu t c gv 0 cv m (U.take t) (U.drop t) zv wr (by rw [htd]; exact HU.out) hpl hlv (by omega) (by rw [htd, hUl.out]; have := HEL.out; omega) HL.out (Nat.ne_of_lt HGQ.out.1) (rng_drop hi2.ru t) HCV.out.1 HN.out.2 (by rw [hw.1]; exact hw.2.2))
      have hstep := fun T q (h : Next (U.drop t) zv T q) => Hide.mk (hi2.step (m := m) (by rw [hUl.out]; omega) (by rw [HQL.out]; omega) hlv HCV.out.1 h)
      have hcapb : t + m + 3 ≤ za.length + 1 := by have := HEL.out; omega
      clear e1 e2 hi2 hpl hdl hw htd HI ht
      have hpi : (ee : Int) - (k : Int) = (t : Int) := by have := HT.out; omega
      have hb9 : ee ≤ 90000 := by have := HEL.out; omega
      have hti : (t : Int) < (ee : Int) + 1 := by have := HT.out; omega
      go_wp2_with fail
      rw [show t + (m + 2) + 1 - t = m + 3 by omega]
      refine (hn _).out.mono ?_
      rintro e w6 ⟨T, qd, rfl, hk6, hnx, hg6⟩
      have HK6 := Hide.mk hk6
      have HQ6 := Hide.mk (blk_grown HQ.out hg6 (Ne.symm (Nat.ne_of_lt HGQ.out.2)))
      have HI6 := hstep T qd hnx
      have hL6 := Hide.mk (HL.out.grown hg6 (fun _ x hx => by cases hx; exact Nat.ne_of_lt HGQ.out.1))
      have hB6 := hbel.grown hg6 (by have := hbel.size; omega) (fun j hj => by cases hj; exact hsz1)
      have hcq := HQ6.out.cell (j := t) (by rw [HQL.out]; have := HT.out; omega)
      have hfq := HQ6.out.frozen t
      have hsq := Hide.mk (HQ6.out.set t qd)
      have hsu : Hide (Blk (w6.setCell ⟨gq, t, none⟩ (.int .u32 qd)) gu (U.take t ++ T)) := ⟨(Below.heap_setCell w6 ⟨gq, t, none⟩ (.int .u32 qd) gu (Nat.ne_of_lt HGQ.out.2)).trans HK6.out⟩
      have hsl : Hide (Lie (w6.setCell ⟨gq, t, none⟩ (.int .u32 qd)) (some ⟨gv, 0, none⟩) zv) := ⟨hL6.out.grown (grown_set w6 gq t (.int .u32 qd)) (fun _ x hx => by cases hx; have := HGQ.out; show gv ≠ gq; omega)⟩
      clear hk6 hnx hg6 hn hstep HU HQ HL hbel HK6 HQ6 hL6
      generalize Q.getD t 0 = y at *
      go_wp2
      go_roundw
      case rel => exact ⟨k + 1, _, _, hlt, by go_num, hsu, hsq, ⟨by rw [List.length_set]; exact HQL.out⟩, ⟨by rw [E2.out]; exact HI6.out⟩, hsl, hB6.setCell (by have := HGQ.out; simp; omega) _⟩
      case measure => simp [intOf]; omega
    · have hi0 : LongInv U0 zv U Q 0 := by
        have e : ee + 1 - k = 0 := by omega
        have := HI.out
        rw [e] at this; exact this
      have hval : Nt.val za * 2 ^ p = Nt.val Q * (Nt.val zb * 2 ^ p) + Nt.val U := by
        have := hi0.eq
        rw [List.drop_zero, HVAL.out, HVV.out] at this
        rw [this]; simp
      have hlt2 : Nt.val U < Nt.val zb * 2 ^ p := by
        have := hi0.lt
        rw [List.drop_zero, HVV.out] at this; exact this
      have HF := Hide.mk (div_back (Int.pow_pos (by decide)) (Nt.val_bd hi0.ru).1 hval hlt2)
      have RQ := Hide.mk hi0.rq
      have HO := fun n hn hm => Hide.mk (HQ.out.own (B := w.heap.size) (n := n) (by have := HGQ.out; omega) hn hm)
      have HT1 := Hide.mk (fun hc hm => trim35 _ Q.length Q wr (HQ.out.lie (n := 0)) hc hm)
      have HSD := Hide.mk (shiftDown62 (some ⟨gu, 0, none⟩) (za.length + 1) U wr (p : Int) 0 p (by omega) (by omega) (by omega) (by omega) hp31 (by omega) (HU.out.lie (n := 0)) hi0.ru (by rw [hUl.out]; have := HEL.out; omega))
      have hul2 : U.length = za.length + 1 := by rw [hUl.out]; have := HEL.out; omega
      rw [hul2] at HSD
      rw [HQL.out] at HT1 HO
      clear hi0 hval hlt2 HU HQ HL HI hul2
      go_wp2_with fail
      refine (HT1.out (Nat.le_refl _) (by unfold maxLen; have := HEL.out; omega)).mono ?_
      rintro e w' ⟨rfl, n, hn, rfl, hzz, hdd⟩
      go_wp2_with fail
      refine HSD.out.mono ?_
      rintro e w7 ⟨vr, zr, rfl, hor, hcr, hvr, hb7⟩
      obtain ⟨ar, cr, hre, _⟩ := hor.lie
      have HFIN : Hide (∃ zq zr' aq cq ar' cr', Value.tuple #[Value.slice (some ⟨gq, 0, none⟩) n (ee + 1), vr] = .tuple #[.slice aq zq.length cq, .slice ar' zr'.length cr'] ∧ Own w.heap.size w7 (.slice aq zq.length cq) zq ∧ Own w.heap.size w7 (.slice ar' zr'.length cr') zr' ∧ Nt.Can zq ∧ Nt.Can zr' ∧ Nt.val za = Nt.val zq * Nt.val zb + Nt.val zr' ∧ Nt.val zr' < Nt.val zb ∧ Below w.heap.size w w7) := ⟨by
        have hlq : (Q.take n).length = n := by rw [List.length_take, HQL.out]; omega
        have hvr2 : Nt.val zr = Nt.val U / 2 ^ p := by rw [hvr]; simp
        have hvq : Nt.val (Q.take n) = Nt.val Q := Nt.val_take hzz (by rw [HQL.out]; exact hn)
        refine ⟨Q.take n, zr, some ⟨gq, 0, none⟩, ee + 1, ar, cr, by rw [hlq, hre], ?_, ?_, Nt.can_take RQ.out (by rw [HQL.out]; exact hn) hdd, hcr, ?_, ?_, below_then hbel hb7⟩
        · rw [hlq]; exact ((HO n hn (by unfold maxLen; have := HEL.out; omega)).out).below hb7 (Nat.le_refl _)
        · rw [← hre]; exact hor.mono hbel.size
        · rw [hvq, hvr2]; exact HF.out.1
        · rw [hvr2]; exact HF.out.2.2⟩
      clear hzz hdd hor hcr hvr hb7 HT1 HSD HO HF hre
      go_wp2
      go_ret2
      obtain ⟨zq, zr', aq, cq, ar', cr', h1, h2, h3, h4, h5, h6, h7, h8⟩ := HFIN.out
      exact ⟨zq, zr', aq, cq, ar', cr', congrArg Ending.returned h1, h2, h3, h4, h5, h6, h7, h8⟩

/-- What a division answers. -/
def Divs (w w' : World) (za zb : List Int) (v : Value → Value → Value) (e : Ending) : Prop := ∃ zq zr aq cq ar cr, e = .returned (v (.slice aq zq.length cq) (.slice ar zr.length cr)) ∧ Own w.heap.size w' (.slice aq zq.length cq) zq ∧ Own w.heap.size w' (.slice ar zr.length cr) zr ∧ Nt.Can zq ∧ Nt.Can zr ∧ Nt.val za = Nt.val zq * Nt.val zb + Nt.val zr ∧ Nt.val zr < Nt.val zb ∧ Below w.heap.size w w'
def two (x y : Value) : Value := .tuple #[x, y]

set_option maxHeartbeats 2000000 in
theorem div_less (a b : Option Addr) (ca cb : Nat) (za zb : List Int) (w : World) (ha : Lie w a za) (hb : Lie w b zb) (qa : Nt.Can za) (qb : Nt.Can zb) (hm : za.length ≤ 90000) (hv : Nt.val za < Nt.val zb) :
    Calls Tryz.prog 147 #[.slice a za.length ca, .slice b zb.length cb] w fun e w' => Divs w w' za zb two e := by
  have C1 := Hide.mk (compare38 a b ca cb za zb w ha hb qa qb (by unfold maxLen; omega))
  have C2 := fun W (h : Below w.heap.size w W) => Hide.mk (clone56 a ca za W (ha.below h (Nat.le_refl _)) (by omega))
  rw [sgn_lt hv] at C1
  have QA := Hide.mk qa
  have HV := Hide.mk hv
  clear ha hb qa qb hv
  go_enter Tryz.func147, Tryz.ntmps147
  go_wp2_with fail
  refine C1.out.mono ?_
  rintro e w1 ⟨rfl, hb1⟩
  go_wp2_with fail
  refine (C2 _ hb1).out.mono ?_
  rintro e w2 ⟨a2, c2, rfl, ho2, hb2⟩
  have HF : Hide (Divs w w2 za zb two (.returned (two (.slice none 0 0) (.slice a2 za.length c2)))) := ⟨⟨[], za, none, 0, a2, c2, rfl, Own.nil _ _, ho2.mono hb1.size, Nt.can_nil, QA.out, by rw [Nt.val_nil]; omega, HV.out, below_then hb1 hb2⟩⟩
  clear ho2 hb1 hb2 C1 C2
  go_wp2
  go_ret2
  exact HF.out

set_option maxHeartbeats 2000000 in
theorem div_one (a : Option Addr) (ca cb bb bo : Nat) (za : List Int) (d : Int) (w : World) (ha : Lie w a za) (hb : Lie w (some ⟨bb, bo, none⟩) [d]) (qa : Nt.Can za) (qb : Nt.Can [d]) (hm : za.length ≤ 90000) (hv : Nt.val [d] ≤ Nt.val za) :
    Calls Tryz.prog 147 #[.slice a za.length ca, .slice (some ⟨bb, bo, none⟩) 1 cb] w fun e w' => Divs w w' za [d] two e := by
  have hd0 : d ≠ 0 := by have := qb.2 (by simp); simpa using this
  have hdr := qb.1 0
  simp only [List.getD_cons_zero] at hdr
  have hlen : 0 < za.length := by
    by_cases c : za.length = 0
    · have : za = [] := List.length_eq_zero_iff.1 c
      subst this
      rw [val_one, Nt.val_nil] at hv
      omega
    · omega
  have C1 := Hide.mk (compare38 a (some ⟨bb, bo, none⟩) ca cb za [d] w ha hb qa qb (by unfold maxLen; omega))
  have C2 := fun W (h : Below w.heap.size w W) => Hide.mk (clone56 a ca za W (ha.below h (Nat.le_refl _)) (by omega))
  have hsg : 0 ≤ sgn (Nt.val za) (Nt.val [d]) := by unfold sgn; split <;> (try split) <;> omega
  have QA := Hide.mk qa
  have HLB := Hide.mk hb
  clear ha hb qa qb hv
  generalize sgn (Nt.val za) (Nt.val [d]) = sg at *
  go_enter Tryz.func147, Tryz.ntmps147
  go_wp2_with fail
  refine C1.out.mono ?_
  rintro e w1 ⟨rfl, hb1⟩
  go_wp2_with fail
  refine (C2 _ hb1).out.mono ?_
  rintro e w2 ⟨a2, c2, rfl, ho2, hb2⟩
  obtain ⟨g, rfl, hgB, hrw, hzc, hcm⟩ := ho2.rw hlen
  have hb12 := below_then hb1 hb2
  have hcd : w2.cell? ⟨bb, bo, none⟩ = some (.int .u32 d) := lie_cell (HLB.out.below hb12 (Nat.le_refl _)) rfl (i := 0) (by simp)
  have C3 := Hide.mk (divideBy57 g c2 za d w2 hrw (by omega) QA.out.1 (by omega) hdr.2)
  have HG := Hide.mk hgB
  have hs1 := hb1.size
  clear C1 C2 ho2 hrw hb1 hb2
  go_wp2_with fail
  refine C3.out.mono ?_
  rintro e w3 ⟨s, l, rfl, hrw3, hinv, hgr⟩
  have hl0 := hinv.l0
  have hl1 := hinv.l1
  have hb13 : Below w.heap.size w w3 := hb12.grown hgr (by have := hb12.size; omega) (fun k hk => by cases hk; have := HG.out; omega)
  have hsl : s.length = za.length := hinv.len
  have HI : Hide (Nt.val za = d * Nt.val s + l) := ⟨by have := hinv.eq; simpa using this⟩
  have HR := Hide.mk hinv.rng
  have HW := Hide.mk hrw3
  have HSL := Hide.mk hsl
  have C4 := Hide.mk (trim35 (some ⟨g, 0, none⟩) c2 s w3 hrw3.lie (by omega) hcm)
  rw [hsl] at C4
  clear C3 hrw3 hinv hgr hb12 hsl hcd
  go_wp2_with fail
  refine C4.out.mono ?_
  rintro e w' ⟨rfl, n, hn, rfl, hz, hdd⟩
  have HZ := Hide.mk (And.intro hz hdd)
  clear hz hdd C4
  go_wp2_with fail
  refine (of16 l hl0 (by omega) w3).mono ?_
  rintro e w4 ⟨zr, ar, cr, rfl, hnum, hor⟩
  have HF : Hide (Divs w w4 za [d] two (.returned (two (.slice (some ⟨g, 0, none⟩) n c2) (.slice ar zr.length cr)))) := ⟨by
    have hln : (s.take n).length = n := by rw [List.length_take, HSL.out]; omega
    refine ⟨s.take n, zr, some ⟨g, 0, none⟩, c2, ar, cr, by rw [hln], ?_, hor.mono hb13.size, Nt.can_take HR.out (by rw [HSL.out]; exact hn) HZ.out.2, hnum.can, ?_, ?_, below_then hb13 hnum.bel⟩
    · rw [hln]
      exact (HW.out.own (B := w.heap.size) (by have := HG.out; omega) (by rw [HSL.out]; exact hn) hcm).below hnum.bel (Nat.le_refl _)
    · rw [Nt.val_take HZ.out.1 (by rw [HSL.out]; exact hn), val_one, hnum.val, HI.out, Int.mul_comm]
    · rw [val_one, hnum.val]; exact hl1⟩
  clear hnum hor HW HZ
  go_wp2
  go_ret2
  exact HF.out

set_option maxHeartbeats 2000000 in
theorem div_long (a b : Option Addr) (ca cb m : Nat) (za zb : List Int) (w : World) (ha : Lie w a za) (hb : Lie w b zb) (qa : Nt.Can za) (qb : Nt.Can zb) (hz : zb.length = m + 2) (hm : za.length ≤ 90000) (hv : Nt.val zb ≤ Nt.val za) :
    Calls Tryz.prog 147 #[.slice a za.length ca, .slice b zb.length cb] w fun e w' => Divs w w' za zb two e := by
  have hl : zb.length ≤ za.length := (Nt.can_len qb _).1 (by have := (Nt.val_bd qa.1).2; omega)
  have C1 := Hide.mk (compare38 a b ca cb za zb w ha hb qa qb (by unfold maxLen; omega))
  have C2 := fun W (h : Below w.heap.size w W) => Hide.mk (long58 a b ca cb m za zb W (ha.below h (Nat.le_refl _)) (hb.below h (Nat.le_refl _)) qa qb hz (by omega) hm)
  have hsg : 0 ≤ sgn (Nt.val za) (Nt.val zb) := by unfold sgn; split <;> (try split) <;> omega
  have hne : ((zb.length : Int) == 1) = false := by simp; omega
  clear ha hb qa qb hv hz
  generalize sgn (Nt.val za) (Nt.val zb) = sg at *
  go_enter Tryz.func147, Tryz.ntmps147
  go_wp2_with fail
  refine C1.out.mono ?_
  rintro e w1 ⟨rfl, hb1⟩
  go_wp2_with fail
  refine (C2 _ hb1).out.mono ?_
  rintro e w2 ⟨zq, zr, aq, cq, ar, cr, rfl, h1, h2, h3, h4, h5, h6, h7⟩
  have HF : Hide (Divs w w2 za zb two (.returned (two (.slice aq zq.length cq) (.slice ar zr.length cr)))) := ⟨⟨zq, zr, aq, cq, ar, cr, rfl, h1.mono hb1.size, h2.mono hb1.size, h3, h4, h5, h6, below_then hb1 h7⟩⟩
  clear h1 h2 h3 h4 h5 h6 h7 hb1 C1 C2
  go_wp2
  go_ret2
  exact HF.out

theorem div43 (a b : Option Addr) (ca cb : Nat) (za zb : List Int) (w : World) (ha : Lie w a za) (hb : Lie w b zb) (qa : Nt.Can za) (qb : Nt.Can zb) (hz : 0 < zb.length) (hm : za.length ≤ 90000) :
    Calls Tryz.prog 147 #[.slice a za.length ca, .slice b zb.length cb] w fun e w' => Divs w w' za zb two e := by
  by_cases hv : Nt.val za < Nt.val zb
  · exact div_less a b ca cb za zb w ha hb qa qb hm hv
  · match zb, hz with
    | [d], _ =>
      obtain ⟨bb, bo, rfl⟩ := lie_some hb (by simp)
      exact div_one a ca cb bb bo za d w ha hb qa qb hm (by omega)
    | d :: e :: r, _ => exact div_long a b ca cb r.length za (d :: e :: r) w ha hb qa qb (by simp) hm (by omega)

def three (x y : Value) : Value := .tuple #[x, y, .int .i64 0]
set_option maxHeartbeats 2000000 in
set_option maxRecDepth 100000 in
theorem quo27 (a b : Option Addr) (ca cb : Nat) (za zb : List Int) (w : World) (ha : Lie w a za) (hb : Lie w b zb) (ra : Nt.Rng za) (rb : Nt.Rng zb) (pa : mayB za = true) (pb : mayB zb = true) (hz : 0 < zb.length) :
    Calls Tryz.prog 133 #[.slice a za.length ca, .slice b zb.length cb] w fun e w' => Divs w w' za zb three e := by
  have la := (may_can ra pa).2
  have lb := (may_can rb pb).2
  have HM := Hide.mk (allMay_new a b ca cb za zb w ha hb (by unfold maxLen; omega) (by unfold maxLen; omega) true (by rw [pa, pb]; rfl))
  have HS := fun W (h : Below w.heap.size w W) => Hide.mk (div43 a b ca cb za zb W (ha.below h (Nat.le_refl _)) (hb.below h (Nat.le_refl _)) (may_can ra pa).1 (may_can rb pb).1 hz (by omega))
  have hne : ((zb.length : Int) == 0) = false := beq_eq_false_iff_ne.2 (by omega)
  clear ha hb ra rb pa pb
  go_enter Tryz.func133, Tryz.ntmps133
  go_wp2_with fail
  refine HM.out.mono ?_
  rintro e w' ⟨rfl, rfl⟩
  have hb1 := below_alloc w (.cells #[.slice a za.length ca, .slice b zb.length cb] 24)
  go_wp2_with fail
  refine (HS _ hb1).out.mono ?_
  rintro e w2 ⟨zq, zr, aq, cq, ar, cr, rfl, h1, h2, h3, h4, h5, h6, h7⟩
  have HF : Hide (Divs w w2 za zb three (.returned (three (.slice aq zq.length cq) (.slice ar zr.length cr)))) := ⟨⟨zq, zr, aq, cq, ar, cr, rfl, h1.mono hb1.size, h2.mono hb1.size, h3, h4, h5, h6, below_then hb1 h7⟩⟩
  clear h1 h2 h3 h4 h5 h6 h7 hb1 HM HS
  unfold two
  go_wp2
  go_ret3
  exact HF.out
/-- How many bits: BL. -/
structure Bits (x : Int) (BL : Nat) : Prop where
  lt : x < 2 ^ BL
  le : (2 : Int) ^ BL ≤ 2 * x
theorem bits_top {za : List Int} {k L : Nat} (hr : Nt.Rng za) (hz : za.length = k + 1) (h1 : za.getD k 0 < 2 ^ L) (h2 : (2 : Int) ^ L ≤ 2 * za.getD k 0) : Bits (Nt.val za) (32 * k + L) := by
  have e : Nt.val za = Nt.vp za k + za.getD k 0 * 4294967296 ^ k := by unfold Nt.val; rw [hz, Nt.vp_step]
  have b := Nt.vp_bd hr k
  have hp := Nt.pw_pos k
  have e2 : (2 : Int) ^ (32 * k + L) = 2 ^ L * 4294967296 ^ k := by
    rw [Int.pow_add, Int.pow_mul, show (2 : Int) ^ 32 = 4294967296 by decide, Int.mul_comm]
  refine ⟨?_, ?_⟩
  · rw [e, e2]
    have : (za.getD k 0 + 1) * 4294967296 ^ k ≤ 2 ^ L * 4294967296 ^ k := Int.mul_le_mul_of_nonneg_right (by omega) (by omega)
    rw [Int.add_mul] at this
    omega
  · rw [e, e2]
    have : 2 ^ L * 4294967296 ^ k ≤ 2 * za.getD k 0 * 4294967296 ^ k := Int.mul_le_mul_of_nonneg_right h2 (by omega)
    rw [Int.mul_assoc] at this
    omega

set_option maxHeartbeats 1000000 in
theorem nlen60 (a : Option Addr) (ca : Nat) (za : List Int) (w : World) (ha : Lie w a za) (ra : Nt.Rng za) (pa : mayB za = true) (hn : 0 < za.length) :
    Calls Tryz.prog 119 #[.slice a za.length ca] w fun e w' => w = w' ∧ ∃ BL : Nat, e = .returned (.int .i64 BL) ∧ Bits (Nt.val za) BL ∧ 1 ≤ BL ∧ BL ≤ 32 * za.length := by
  obtain ⟨qa, la⟩ := may_can ra pa
  obtain ⟨k, hk⟩ : ∃ k, za.length = k + 1 := ⟨za.length - 1, by omega⟩
  have ht0 : za.getD k 0 ≠ 0 := by have := qa.2 (by omega); rw [hk] at this; exact this
  have htr := ra k
  obtain ⟨L, eL, hL1, hL2, hL3, hL4⟩ := bitLen32 (za.getD k 0) (by omega) htr.2
  obtain ⟨b, o, rfl⟩ := lie_some ha hn
  have hc : w.cell? ⟨b, o + k, none⟩ = _ := lie_cell ha rfl (i := k) (by omega)
  have C1 := Hide.mk (may_yes (some ⟨b, o, none⟩) ca za w ha (by unfold maxLen; omega) pa)
  have C2 := Hide.mk (len68 (za.getD k 0) w htr.1 (by omega))
  have HB := Hide.mk (bits_top ra hk hL3 hL4)
  rw [eL] at C2
  rw [hk] at C1 ⊢
  have hne : (((k : Int) + 1) == 0) = false := beq_eq_false_iff_ne.2 (by omega)
  have hkb : k ≤ 4096 := by omega
  clear ha ra pa qa la ht0 hL3 hL4 eL hk hn
  generalize za.getD k 0 = x at *
  go_enter Tryz.func119, Tryz.ntmps119
  go_wp2_with fail
  refine C1.out.mono ?_
  rintro e w' ⟨rfl, rfl⟩
  go_wp2_with fail
  refine C2.out.mono ?_
  rintro e w' ⟨rfl, rfl⟩
  go_wp2
  go_ret
  exact ⟨rfl, 32 * k + L, by go_num, HB.out, by omega, by omega⟩

/-- One step of Newton's, kept to one on either side. -/
theorem newton {m a T y f g : Int} (ha : 1 ≤ a) (hT : 1 ≤ T) (hy : 2 * y = T * a) (hTa : T ≤ 2 * a) (h1 : T * T * ((a - 1) * (a - 1)) < m) (h2 : m < T * T * ((a + 1) * (a + 1))) (hm : m = 4 * y * f + g) (hg0 : 0 ≤ g) (hg1 : g < 4 * y) (hf : 0 ≤ f) :
    (y + f - 1) * (y + f - 1) < m ∧ m < (y + f + 1) * (y + f + 1) := by
  have hTa1 : 1 ≤ T * a := by
    have : 1 * 1 ≤ T * a := Int.mul_le_mul hT ha (by decide) (by omega)
    omega
  have hy1 : 1 ≤ y := by omega
  have hTT : T * T ≤ 4 * y := by
    have : T * T ≤ T * (2 * a) := Int.mul_le_mul_of_nonneg_left hTa (by omega)
    have e : T * (2 * a) = 2 * (T * a) := by grind
    omega
  have e1 : T * T * ((a - 1) * (a - 1)) = (2 * y - T) * (2 * y - T) := by rw [hy]; grind
  have e2 : T * T * ((a + 1) * (a + 1)) = (2 * y + T) * (2 * y + T) := by rw [hy]; grind
  rw [e1] at h1
  rw [e2] at h2
  constructor
  · by_cases c : (y + f - 1) * (y + f - 1) < m
    · exact c
    · exfalso
      generalize ht : y + f - 1 = t at *
      have hf2 : f = t - y + 1 := by omega
      subst hf2
      have ht0 : 0 ≤ t := by omega
      -- (t - 2y)^2 >= 4y
      have c1 : m ≤ t * t := by omega
      have c2 : 4 * y ≤ (t - 2 * y) * (t - 2 * y) := by
        have : 4 * y * (t - y + 1) ≤ t * t := by omega
        have e : (t - 2 * y) * (t - 2 * y) = t * t - 4 * y * (t - y + 1) + 4 * y := by grind
        omega
      rcases (show t < 2 * y - T + 1 ∨ 2 * y - T + 1 ≤ t by omega) with d | d
      · have : t * t ≤ (2 * y - T) * (2 * y - T) := Int.mul_le_mul (by omega) (by omega) ht0 (by omega)
        omega
      · rcases (show t < 2 * y + T ∨ 2 * y + T ≤ t by omega) with d2 | d2
        · -- |t - 2y| < T
          have d3 : (t - 2 * y) * (t - 2 * y) < T * T := by
            have p1 : 0 < T - (t - 2 * y) := by omega
            have p2 : 0 < T + (t - 2 * y) := by omega
            have p3 := Int.mul_pos p1 p2
            have e : (T - (t - 2 * y)) * (T + (t - 2 * y)) = T * T - (t - 2 * y) * (t - 2 * y) := by grind
            omega
          omega
        · have d3 : 4 * y * (y + T + 1) ≤ 4 * y * (t - y + 1) := Int.mul_le_mul_of_nonneg_left (by omega) (by omega)
          have e : (2 * y + T) * (2 * y + T) = 4 * y * (y + T + 1) - 4 * y + T * T := by grind
          omega
  · have e : (y + f + 1) * (y + f + 1) = (y - (f + 1)) * (y - (f + 1)) + 4 * y * f + 4 * y := by grind
    have : 0 ≤ (y - (f + 1)) * (y - (f + 1)) := by
      rcases (show y - (f + 1) < 0 ∨ 0 ≤ y - (f + 1) by omega) with d | d
      · exact Int.mul_nonneg_of_nonpos_of_nonpos (by omega) (by omega)
      · exact Int.mul_nonneg d d
    omega

/-- a is a root, one too great at most, of as much of n as d bits of its root say. -/
structure RootInv (n : Int) (c d : Nat) (a : Int) : Prop where
  one : 1 ≤ a
  lo : (a - 1) * (a - 1) < n / 2 ^ (2 * (c - d))
  hi : n / 2 ^ (2 * (c - d)) < (a + 1) * (a + 1)
theorem p2pos (k : Nat) : (0 : Int) < 2 ^ k := Int.pow_pos (by decide)
theorem p2mono {i j : Nat} (h : i ≤ j) : (2 : Int) ^ i ≤ 2 ^ j := by
  obtain ⟨k, rfl⟩ : ∃ k, j = i + k := ⟨j - i, by omega⟩
  rw [Int.pow_add]
  have := p2pos k
  have : 2 ^ i * 1 ≤ (2 : Int) ^ i * 2 ^ k := Int.mul_le_mul_of_nonneg_left (by omega) (Int.le_of_lt (p2pos i))
  omega
theorem sq_lt {x y : Int} (hy : 0 ≤ y) (h : x * x < y * y) : x < y := by
  by_cases c : x < y
  · exact c
  · have : y * y ≤ x * x := Int.mul_le_mul (by omega) (by omega) hy (by omega)
    omega
theorem RootInv.step {n a : Int} {c e d : Nat} (h : RootInv n c e a) (hed : e < d) (hdc : d ≤ c) (hd2 : d ≤ 2 * e + 1) (hn : (2 : Int) ^ (2 * c) ≤ n) :
    RootInv n c d (a * 2 ^ (d - e - 1) + n / 2 ^ (2 * c - e - d + 1) / a) := by
  obtain ⟨h1, h2, h3⟩ := h
  obtain ⟨k, rfl⟩ : ∃ k, d = e + 1 + k := ⟨d - e - 1, by omega⟩
  have hn0 : 0 ≤ n := by have := p2pos (2 * c); omega
  have eM : n / 2 ^ (2 * (c - e)) = n / 2 ^ (2 * (c - (e + 1 + k))) / (2 ^ (k + 1) * 2 ^ (k + 1)) := by
    rw [Int.ediv_ediv_of_nonneg (Int.le_of_lt (p2pos _)), ← Int.pow_add, ← Int.pow_add, show 2 * (c - (e + 1 + k)) + (k + 1 + (k + 1)) = 2 * (c - e) by omega]
  have eP : n / 2 ^ (2 * c - e - (e + 1 + k) + 1) / a = n / 2 ^ (2 * (c - (e + 1 + k))) / (4 * (a * 2 ^ k)) := by
    rw [Int.ediv_ediv_of_nonneg (Int.le_of_lt (p2pos _)), Int.ediv_ediv_of_nonneg (Int.le_of_lt (p2pos _))]
    congr 1
    rw [show 2 * c - e - (e + 1 + k) + 1 = 2 * (c - (e + 1 + k)) + (k + 2) by omega, Int.pow_add, Int.pow_add 2 k 2]
    have : (2 : Int) ^ 2 = 4 := by decide
    rw [this]
    generalize (2 : Int) ^ (2 * (c - (e + 1 + k))) = X
    generalize (2 : Int) ^ k = Y
    grind
  have hM : (2 : Int) ^ (2 * e) ≤ n / 2 ^ (2 * (c - e)) := by
    refine Int.le_ediv_of_mul_le (p2pos _) ?_
    rw [← Int.pow_add, show 2 * e + 2 * (c - e) = 2 * c by omega]; exact hn
  have hae : (2 : Int) ^ e < a + 1 := by
    refine sq_lt (by omega) ?_
    rw [← Int.pow_add, show e + e = 2 * e by omega]
    omega
  have hT : (2 : Int) ^ (k + 1) ≤ 2 * a := by
    have := p2mono (show k + 1 ≤ e + 1 by omega)
    rw [Int.pow_succ 2 e] at this
    omega
  rw [eP, show e + 1 + k - e - 1 = k by omega]
  rw [eM] at h2 h3
  suffices hs : ∀ b, b = a * 2 ^ k + n / 2 ^ (2 * (c - (e + 1 + k))) / (4 * (a * 2 ^ k)) → 1 ≤ b ∧ (b - 1) * (b - 1) < n / 2 ^ (2 * (c - (e + 1 + k))) ∧ n / 2 ^ (2 * (c - (e + 1 + k))) < (b + 1) * (b + 1) from
    ⟨(hs _ rfl).1, (hs _ rfl).2.1, (hs _ rfl).2.2⟩
  intro b hb
  have hm0 : 0 ≤ n / 2 ^ (2 * (c - (e + 1 + k))) := Int.ediv_nonneg hn0 (Int.le_of_lt (p2pos _))
  generalize n / 2 ^ (2 * (c - (e + 1 + k))) = m at *
  have hT1 : (1 : Int) ≤ 2 ^ (k + 1) := by have := p2pos (k + 1); omega
  have hy : 2 * (a * 2 ^ k) = 2 ^ (k + 1) * a := by rw [Int.pow_succ]; grind
  generalize (2 : Int) ^ (k + 1) = T at *
  have hyp : 1 ≤ a * 2 ^ k := by
    have : 1 * 1 ≤ a * 2 ^ k := Int.mul_le_mul h1 (by have := p2pos k; omega) (by decide) (by omega)
    omega
  generalize a * 2 ^ k = y at *
  have hTT : 0 < T * T := Int.mul_pos (by omega) (by omega)
  have q1 := Int.emod_add_mul_ediv m (T * T)
  have q2 := Int.emod_nonneg m (show T * T ≠ 0 by omega)
  have q3 := Int.emod_lt_of_pos m hTT
  have r1 := Int.emod_add_mul_ediv m (4 * y)
  have r2 := Int.emod_nonneg m (show 4 * y ≠ 0 by omega)
  have r3 := Int.emod_lt_of_pos m (show 0 < 4 * y by omega)
  have r4 : 0 ≤ m / (4 * y) := Int.ediv_nonneg hm0 (by omega)
  generalize m / (T * T) = M at *
  have hl : T * T * ((a - 1) * (a - 1)) < m := by
    have : T * T * ((a - 1) * (a - 1) + 1) ≤ T * T * M := Int.mul_le_mul_of_nonneg_left (by omega) (by omega)
    rw [Int.mul_add] at this
    omega
  have hh : m < T * T * ((a + 1) * (a + 1)) := by
    have : T * T * (M + 1) ≤ T * T * ((a + 1) * (a + 1)) := Int.mul_le_mul_of_nonneg_left (by omega) (by omega)
    rw [Int.mul_add] at this
    omega
  generalize m / (4 * y) = f at *
  generalize m % (4 * y) = g at *
  have := newton h1 hT1 hy hT hl hh (show m = 4 * y * f + g by omega) r2 r3 r4
  subst hb
  exact ⟨by omega, this.1, this.2⟩

theorem RootInv.start {n : Int} {BL c : Nat} (hb : Bits n BL) (hc : c = (BL - 1) / 2) (h1 : 1 ≤ BL) : RootInv n c 0 1 ∧ (2 : Int) ^ (2 * c) ≤ n := by
  obtain ⟨hlt, hle⟩ := hb
  have e1 : (2 : Int) ^ BL = 2 * 2 ^ (BL - 1) := by
    obtain ⟨k, rfl⟩ : ∃ k, BL = k + 1 := ⟨BL - 1, by omega⟩
    rw [Int.pow_succ, Nat.add_sub_cancel]; omega
  have lo : (2 : Int) ^ (2 * c) ≤ n := by
    have := p2mono (show 2 * c ≤ BL - 1 by omega)
    omega
  have hi : n < 2 ^ (2 * c) * 4 := by
    have := p2mono (show BL ≤ 2 * c + 2 by omega)
    rw [Int.pow_add] at this
    have e : (2 : Int) ^ 2 = 4 := by decide
    omega
  refine ⟨⟨by decide, ?_, ?_⟩, lo⟩
  · rw [Nat.sub_zero]
    have : 1 ≤ n / 2 ^ (2 * c) := Int.le_ediv_of_mul_le (p2pos _) (by omega)
    omega
  · rw [Nat.sub_zero]
    have : n / 2 ^ (2 * c) < 4 := Int.ediv_lt_of_lt_mul (p2pos _) (by omega)
    omega
theorem RootInv.len {n a : Int} {c d : Nat} (h : RootInv n c d a) (hn : 0 ≤ n) : a ≤ n + 1 := by
  have h1 := h.lo
  have h2 := h.one
  have h3 : n / 2 ^ (2 * (c - d)) ≤ n := Int.ediv_le_self _ hn
  have h4 : (a - 1) * 1 ≤ (a - 1) * (a - 1) ∨ a = 1 := by
    by_cases e : a = 1
    · exact .inr e
    · exact .inl (Int.mul_le_mul_of_nonneg_left (by omega) (by omega))
  rcases h4 with h4 | h4 <;> omega
theorem up_val (x : Int) (u : Nat) : x * 2 ^ (u % 32) * 4294967296 ^ (u / 32) = x * 2 ^ u := by
  rw [pow2_split u (u / 32) (u % 32) (by omega), Int.mul_assoc, Int.mul_comm (2 ^ (u % 32))]
/-- What a root answers. -/
def Roots (w w' : World) (za : List Int) (e : Ending) : Prop := ∃ zr a c, e = .returned (.tuple #[.slice a zr.length c, .bool (decide (Nt.val zr * Nt.val zr = Nt.val za)), .int .i64 0]) ∧ Own w.heap.size w' (.slice a zr.length c) zr ∧ Nt.Can zr ∧ Nt.val zr * Nt.val zr ≤ Nt.val za ∧ Nt.val za < (Nt.val zr + 1) * (Nt.val zr + 1) ∧ Below w.heap.size w w'

end Go.Proofs.YtdnghibkagcbcaaGreatDoor
