import Derived.Test.YtdnghibkagcbcaaGreatDoorM1
import Derived.Laws.AppendOwnNone
namespace Go.Proofs.YtdnghibkagcbcaaGreatDoor
open Go.RowKit
set_option linter.unusedVariables false
set_option maxRecDepth 3000
theorem may_can {za : List Int} (hr : Nt.Rng za) (h : mayB za = true) : Nt.Can za ∧ za.length ≤ 4096 := by
  simp only [mayB, Bool.or_eq_true, beq_iff_eq, Bool.and_eq_true, decide_eq_true_eq, bne_iff_ne] at h
  rcases h with h | ⟨h1, h2⟩
  · exact ⟨⟨hr, fun c => absurd h c⟩, by omega⟩
  · exact ⟨⟨hr, fun _ => h2⟩, h1⟩
theorem can_may {za : List Int} (h : Nt.Can za) (hl : za.length ≤ 4096) : mayB za = true := by
  simp only [mayB, Bool.or_eq_true, beq_iff_eq, Bool.and_eq_true, decide_eq_true_eq, bne_iff_ne]
  by_cases c : za.length = 0
  · exact .inl c
  · exact .inr ⟨hl, h.2 c⟩

theorem allMay_new (a b : Option Addr) (ca cb : Nat) (za zb : List Int) (w : World) (ha : Lie w a za) (hb : Lie w b zb) (la : za.length ≤ maxLen) (lb : zb.length ≤ maxLen) (q : Bool) (hq : (mayB za && mayB zb) = q) :
    Calls Tryz.prog 146 #[.slice (some ⟨w.heap.size, 0, none⟩) 2 2] (w.alloc (.cells #[.slice a za.length ca, .slice b zb.length cb] 24)) fun e w' => e = .returned (.bool q) ∧ w.alloc (.cells #[.slice a za.length ca, .slice b zb.length cb] 24) = w' := by
  have hn := heap_alloc_new w (.cells #[.slice a za.length ca, .slice b zb.length cb] 24)
  have c0 := cell_of_row _ w.heap.size 0 _ 24 (0, 0) hn
  have c1 := cell_of_row _ w.heap.size 1 _ 24 (0, 0) hn
  rw [← hq]
  exact allMay37 w.heap.size a b ca cb za zb _ c0 c1 (ha.below (below_alloc _ _) (Nat.le_refl _)) (hb.below (below_alloc _ _) (Nat.le_refl _)) la lb

/-- What Add, Mul answer: a number that is not too long, or ErrLong. -/
def Told (w : World) (x : Int) (e : Ending) (w' : World) : Prop := ∃ zs, Nt.Can zs ∧ Nt.val zs = x ∧ Below w.heap.size w w' ∧
      ((zs.length ≤ 4096 ∧ ∃ v, e = .returned (.tuple #[v, .int .i64 0]) ∧ Own w.heap.size w' v zs) ∨ (4096 < zs.length ∧ e = .returned (.tuple #[.slice none 0 0, .int .i64 3])))

set_option maxHeartbeats 1000000 in
set_option maxRecDepth 100000 in
theorem add20 (a b : Option Addr) (ca cb : Nat) (za zb : List Int) (w : World) (ha : Lie w a za) (hb : Lie w b zb) (ra : Nt.Rng za) (rb : Nt.Rng zb) (pa : mayB za = true) (pb : mayB zb = true) :
    Calls Tryz.prog 148 #[.slice a za.length ca, .slice b zb.length cb] w fun e w' => Told w (Nt.val za + Nt.val zb) e w' := by
  have la := (may_can ra pa).2
  have lb := (may_can rb pb).2
  have HM := Hide.mk (allMay_new a b ca cb za zb w ha hb (by unfold maxLen; omega) (by unfold maxLen; omega) true (by rw [pa, pb]; rfl))
  have HS := fun W (h : Below w.heap.size w W) => Hide.mk (sum40 a b ca cb za zb W (ha.below h (Nat.le_refl _)) (hb.below h (Nat.le_refl _)) ra rb (by omega) (by omega))
  clear ha hb ra rb pa pb la lb
  go_enter Tryz.func148, Tryz.ntmps148
  go_wp2_with fail
  refine HM.out.mono ?_
  rintro e w' ⟨rfl, rfl⟩
  have hb1 := below_alloc w (.cells #[.slice a za.length ca, .slice b zb.length cb] 24)
  go_wp2_with fail
  refine (HS _ hb1).out.mono ?_
  rintro e w2 ⟨v, zs, rfl, hown, hcan, hval, hbel⟩
  have HO := Hide.mk (hown.mono hb1.size)
  have HL := Hide.mk (below_then hb1 hbel)
  obtain ⟨a2, c2, hv, h1, h2, _⟩ := hown.lie
  clear hbel hown hb1
  have HC := Hide.mk hcan
  have HV := Hide.mk hval
  have HE := Hide.mk hv
  clear hcan hval
  rw [hv]
  clear hv h2 HM HS
  by_cases hz : zs.length ≤ 4096
  · have hz' : ((zs.length : Nat) : Int) ≤ 4096 := by omega
    go_wp2_with fail
    refine (notLong39 _ _ _ _ hz).mono ?_
    rintro e w' ⟨rfl, rfl⟩
    go_wp2
    go_ret2
    exact ⟨zs, HC.out, HV.out, HL.out, .inl ⟨hz, _, rfl, by rw [← HE.out]; exact HO.out⟩⟩
  · go_wp2_with fail
    refine (notLong39_no _ _ _ _ (by omega)).mono ?_
    rintro e w' ⟨rfl, rfl⟩
    go_wp2
    go_ret2
    exact ⟨zs, HC.out, HV.out, HL.out, .inr ⟨by omega, rfl⟩⟩

theorem vp_cons (d : Int) (s : List Int) (k : Nat) : Nt.vp (d :: s) (k + 1) = d + 4294967296 * Nt.vp s k := by
  induction k with
  | zero => simp [Nt.vp]
  | succ k ih =>
    rw [Nt.vp_step, ih, Nt.vp_step s k, Nt.pw_succ]
    have : (d :: s).getD (k + 1) 0 = s.getD k 0 := by simp [List.getD_eq_getElem?_getD]
    rw [this]
    generalize (4294967296 : Int) ^ k = P
    grind
theorem val_cons (d : Int) (s : List Int) : Nt.val (d :: s) = d + 4294967296 * Nt.val s := vp_cons d s s.length
theorem rng_cons {d : Int} {s : List Int} (h0 : 0 ≤ d) (h1 : d < 4294967296) (h : Nt.Rng s) : Nt.Rng (d :: s) := by
  intro k
  cases k with
  | zero => simpa using ⟨h0, h1⟩
  | succ k => have := h k; simpa [List.getD_eq_getElem?_getD] using this
theorem can_cons {d : Int} {s : List Int} (h0 : 0 ≤ d) (h1 : d < 4294967296) (h : Nt.Can s) (hne : s = [] → d ≠ 0) : Nt.Can (d :: s) := by
  refine ⟨rng_cons h0 h1 h.1, fun _ => ?_⟩
  cases s with
  | nil => simpa using hne rfl
  | cons e t =>
    have := h.2 (by simp)
    simpa [List.getD_eq_getElem?_getD] using this
theorem digs_ex (n : Nat) : ∃ zs, Nt.Can zs ∧ Nt.val zs = (n : Int) := by
  induction n using Nat.strongRecOn with
  | _ n ih =>
    by_cases h : n = 0
    · subst h; exact ⟨[], Nt.can_nil, rfl⟩
    · obtain ⟨zs, hc, hv⟩ := ih (n / 4294967296) (by omega)
      refine ⟨((n % 4294967296 : Nat) : Int) :: zs, can_cons (by omega) (by omega) hc ?_, ?_⟩
      · intro e
        subst e
        rw [Nt.val_nil] at hv
        omega
      · rw [val_cons, hv]; omega
theorem digs_int {x : Int} (h : 0 ≤ x) : ∃ zs, Nt.Can zs ∧ Nt.val zs = x := by
  obtain ⟨n, rfl⟩ := Int.eq_ofNat_of_zero_le h
  exact digs_ex n

theorem can_ge {s : List Int} (h : Nt.Can s) (hp : 0 < s.length) : (4294967296 : Int) ^ (s.length - 1) ≤ Nt.val s := by
  have := (Nt.can_len h (s.length - 1))
  by_cases c : Nt.val s < 4294967296 ^ (s.length - 1)
  · have := this.1 c; omega
  · omega

theorem long_mul {za zb zs : List Int} (ha : Nt.Can za) (hb : Nt.Can zb) (hz : Nt.Can zs) (hv : Nt.val zs = Nt.val za * Nt.val zb) (hp : 0 < za.length) (hq : 0 < zb.length) (hl : 4097 < za.length + zb.length) : 4096 < zs.length := by
  by_cases c : zs.length ≤ 4096
  · exfalso
    have h1 := (Nt.can_len hz 4096).2 c
    have h2 := can_ge ha hp
    have h3 := can_ge hb hq
    have h4 : (4294967296 : Int) ^ (za.length - 1) * 4294967296 ^ (zb.length - 1) ≤ Nt.val za * Nt.val zb := Int.mul_le_mul h2 h3 (Int.le_of_lt (Nt.pw_pos _)) (Nt.val_bd ha.1).1
    rw [← Nt.pw_add] at h4
    have h5 := Nt.pw_mono (show 4096 ≤ za.length - 1 + (zb.length - 1) by omega)
    rw [hv] at h1
    omega
  · omega

set_option maxHeartbeats 1000000 in
set_option maxRecDepth 100000 in
theorem mul26 (a b : Option Addr) (ca cb : Nat) (za zb : List Int) (w : World) (ha : Lie w a za) (hb : Lie w b zb) (ra : Nt.Rng za) (rb : Nt.Rng zb) (pa : mayB za = true) (pb : mayB zb = true) :
    Calls Tryz.prog 136 #[.slice a za.length ca, .slice b zb.length cb] w fun e w' => Told w (Nt.val za * Nt.val zb) e w' := by
  have la := (may_can ra pa).2
  have lb := (may_can rb pb).2
  have HM := Hide.mk (allMay_new a b ca cb za zb w ha hb (by unfold maxLen; omega) (by unfold maxLen; omega) true (by rw [pa, pb]; rfl))
  have HS := fun W (h : Below w.heap.size w W) => Hide.mk (product42 a b ca cb za zb W (ha.below h (Nat.le_refl _)) (hb.below h (Nat.le_refl _)) ra rb (by omega) (by omega))
  have HT : Hide (4097 < za.length + zb.length → ∃ zs, Nt.Can zs ∧ Nt.val zs = Nt.val za * Nt.val zb ∧ 4096 < zs.length) := ⟨fun hl => by
    obtain ⟨zs, h1, h2⟩ := digs_int (Int.mul_nonneg (Nt.val_bd ra).1 (Nt.val_bd rb).1)
    exact ⟨zs, h1, h2, long_mul (may_can ra pa).1 (may_can rb pb).1 h1 h2 (by omega) (by omega) hl⟩⟩
  clear ha hb ra rb pa pb
  by_cases hlong : 4097 < za.length + zb.length
  · go_enter Tryz.func136, Tryz.ntmps136
    go_wp2_with fail
    refine HM.out.mono ?_
    rintro e w' ⟨rfl, rfl⟩
    have hb1 := below_alloc w (.cells #[.slice a za.length ca, .slice b zb.length cb] 24)
    go_wp2_with fail
    go_ret2
    obtain ⟨zs, h1, h2, h3⟩ := HT.out hlong
    exact ⟨zs, h1, h2, hb1, .inr ⟨h3, rfl⟩⟩
  go_enter Tryz.func136, Tryz.ntmps136
  go_wp2_with fail
  refine HM.out.mono ?_
  rintro e w' ⟨rfl, rfl⟩
  have hb1 := below_alloc w (.cells #[.slice a za.length ca, .slice b zb.length cb] 24)
  go_wp2_with fail
  refine (HS _ hb1).out.mono ?_
  rintro e w2 ⟨v, zs, rfl, hown, hcan, hval, hbel⟩
  have HO := Hide.mk (hown.mono hb1.size)
  have HL := Hide.mk (below_then hb1 hbel)
  obtain ⟨a2, c2, hv, h1, h2, _⟩ := hown.lie
  clear hbel hown hb1
  have HC := Hide.mk hcan
  have HV := Hide.mk hval
  have HE := Hide.mk hv
  clear hcan hval
  rw [hv]
  clear hv h2 HM HS
  by_cases hz : zs.length ≤ 4096
  · have hz' : ((zs.length : Nat) : Int) ≤ 4096 := by omega
    go_wp2_with fail
    refine (notLong39 _ _ _ _ hz).mono ?_
    rintro e w' ⟨rfl, rfl⟩
    go_wp2
    go_ret2
    exact ⟨zs, HC.out, HV.out, HL.out, .inl ⟨hz, _, rfl, by rw [← HE.out]; exact HO.out⟩⟩
  · go_wp2_with fail
    refine (notLong39_no _ _ _ _ (by omega)).mono ?_
    rintro e w' ⟨rfl, rfl⟩
    go_wp2
    go_ret2
    exact ⟨zs, HC.out, HV.out, HL.out, .inr ⟨by omega, rfl⟩⟩

set_option maxHeartbeats 1000000 in
set_option maxRecDepth 100000 in
theorem sub21 (a b : Option Addr) (ca cb : Nat) (za zb : List Int) (w : World) (ha : Lie w a za) (hb : Lie w b zb) (ra : Nt.Rng za) (rb : Nt.Rng zb) (pa : mayB za = true) (pb : mayB zb = true) (hv : Nt.val zb ≤ Nt.val za) :
    Calls Tryz.prog 151 #[.slice a za.length ca, .slice b zb.length cb] w fun e w' => ∃ v zs, e = .returned (.tuple #[v, .int .i64 0]) ∧ Own w.heap.size w' v zs ∧ Nt.Can zs ∧ Nt.val zs = Nt.val za - Nt.val zb ∧ Below w.heap.size w w' := by
  have la := (may_can ra pa).2
  have lb := (may_can rb pb).2
  have hl : zb.length ≤ za.length := (Nt.can_len (may_can rb pb).1 _).1 (by have := (Nt.val_bd ra).2; omega)
  have hsg : 0 ≤ sgn (Nt.val za) (Nt.val zb) := by unfold sgn; split <;> (try split) <;> omega
  have HM := Hide.mk (allMay_new a b ca cb za zb w ha hb (by unfold maxLen; omega) (by unfold maxLen; omega) true (by rw [pa, pb]; rfl))
  have HC := fun W (h : Below w.heap.size w W) => Hide.mk (compare38 a b ca cb za zb W (ha.below h (Nat.le_refl _)) (hb.below h (Nat.le_refl _)) (may_can ra pa).1 (may_can rb pb).1 (by unfold maxLen; omega))
  have HS := fun W (h : Below w.heap.size w W) => Hide.mk (dif41 a b ca cb za zb W (ha.below h (Nat.le_refl _)) (hb.below h (Nat.le_refl _)) ra rb hl hv (by omega))
  clear ha hb ra rb pa pb hv hl
  generalize sgn (Nt.val za) (Nt.val zb) = sg at *
  go_enter Tryz.func151, Tryz.ntmps151
  go_wp2_with fail
  refine HM.out.mono ?_
  rintro e w' ⟨rfl, rfl⟩
  have hb1 := below_alloc w (.cells #[.slice a za.length ca, .slice b zb.length cb] 24)
  go_wp2_with fail
  refine (HC _ hb1).out.mono ?_
  rintro e w2 ⟨rfl, hbel2⟩
  have hb2 := below_then hb1 hbel2
  clear hb1 hbel2
  go_wp2_with fail
  refine (HS _ hb2).out.mono ?_
  rintro e w3 ⟨v, zs, rfl, hown, hcan, hval, hbel⟩
  have HO := Hide.mk (hown.mono hb2.size)
  have HL := Hide.mk (below_then hb2 hbel)
  clear hown hbel hb2
  go_wp2
  go_ret2
  exact ⟨v, zs, rfl, HO.out, hcan, hval, HL.out⟩

set_option maxHeartbeats 1000000 in
set_option maxRecDepth 100000 in
theorem cmp19 (a b : Option Addr) (ca cb : Nat) (za zb : List Int) (w : World) (ha : Lie w a za) (hb : Lie w b zb) (ra : Nt.Rng za) (rb : Nt.Rng zb) (pa : mayB za = true) (pb : mayB zb = true) :
    Calls Tryz.prog 150 #[.slice a za.length ca, .slice b zb.length cb] w fun e w' => e = .returned (.tuple #[.int .i64 (sgn (Nt.val za) (Nt.val zb)), .int .i64 0]) ∧ Below w.heap.size w w' := by
  have la := (may_can ra pa).2
  have lb := (may_can rb pb).2
  have HM := Hide.mk (allMay_new a b ca cb za zb w ha hb (by unfold maxLen; omega) (by unfold maxLen; omega) true (by rw [pa, pb]; rfl))
  have HC := fun W (h : Below w.heap.size w W) => Hide.mk (compare38 a b ca cb za zb W (ha.below h (Nat.le_refl _)) (hb.below h (Nat.le_refl _)) (may_can ra pa).1 (may_can rb pb).1 (by unfold maxLen; omega))
  clear ha hb ra rb pa pb
  generalize sgn (Nt.val za) (Nt.val zb) = sg at *
  go_enter Tryz.func150, Tryz.ntmps150
  go_wp2_with fail
  refine HM.out.mono ?_
  rintro e w' ⟨rfl, rfl⟩
  have hb1 := below_alloc w (.cells #[.slice a za.length ca, .slice b zb.length cb] 24)
  go_wp2_with fail
  refine (HC _ hb1).out.mono ?_
  rintro e w2 ⟨rfl, hbel2⟩
  have hb2 := below_then hb1 hbel2
  clear hb1 hbel2
  go_wp2
  go_ret2
  exact ⟨rfl, hb2⟩

theorem lie_new (w : World) (zs : List Int) : Lie (w.alloc (.cells (zs.map (Value.int .u32)).toArray 108)) (some ⟨w.heap.size, 0, none⟩) zs := by
  have h : Blk (w.alloc (.cells (zs.map (Value.int .u32)).toArray 108)) w.heap.size zs := heap_alloc_new w _
  exact h.lie (n := 0)

/-- The success of Add or Mul: the sum is not too long. -/
theorem Told.fits {w w' : World} {x : Int} {e : Ending} (h : Told w x e w') (hx : x < 4294967296 ^ 4096) : ∃ zs, Nt.Can zs ∧ Nt.val zs = x ∧ Below w.heap.size w w' ∧ zs.length ≤ 4096 ∧ ∃ a c, e = .returned (.tuple #[.slice a zs.length c, .int .i64 0]) ∧ Own w.heap.size w' (.slice a zs.length c) zs ∧ Lie w' a zs := by
  obtain ⟨zs, h1, h2, h3, h4⟩ := h
  refine ⟨zs, h1, h2, h3, ?_⟩
  rcases h4 with ⟨h5, v, rfl, h6⟩ | ⟨h5, _⟩
  · obtain ⟨a, c, rfl, _, _, hl⟩ := h6.lie
    exact ⟨h5, a, c, rfl, h6, hl⟩
  · have := (Nt.can_len h1 4096).1 (by rw [h2]; exact hx)
    omega

/-- Not below nought, and of at most n digits. -/
def Lt (n : Nat) (x : Int) : Prop := 0 ≤ x ∧ x < 4294967296 ^ n
theorem Lt.of {n : Nat} {zs : List Int} (h : Nt.Rng zs) (hl : zs.length ≤ n) : Lt n (Nt.val zs) := by
  have h1 := Nt.val_bd h
  have h2 := Nt.pw_mono hl
  exact ⟨h1.1, by omega⟩
theorem Lt.mono {n m : Nat} {x : Int} (h : Lt n x) (hl : n ≤ m) : Lt m x := ⟨h.1, by have := Nt.pw_mono hl; have := h.2; omega⟩
theorem Lt.add {n : Nat} {x y : Int} (h : Lt n x) (k : Lt n y) : Lt (n + 1) (x + y) := by
  obtain ⟨h1, h2⟩ := h
  obtain ⟨k1, k2⟩ := k
  have := Nt.pw_succ n
  have := Nt.pw_pos n
  exact ⟨by omega, by omega⟩
/-- Numbers that lie in memory. -/
structure Live (w : World) (l : List (Option Addr × List Int)) : Prop where
  all : ∀ p ∈ l, Lie w p.1 p.2
theorem Live.push {w w' : World} {l : List (Option Addr × List Int)} {a : Option Addr} {zs : List Int} (h : Live w l) (hl : Lie w' a zs) (hb : Below w.heap.size w w') : Live w' ((a, zs) :: l) := by
  refine ⟨fun p hp => ?_⟩
  rcases List.mem_cons.1 hp with rfl | hp
  · exact hl
  · exact (h.all p hp).below hb (Nat.le_refl _)
theorem Live.keep {w w' : World} {l : List (Option Addr × List Int)} (h : Live w l) (hb : Below w.heap.size w w') : Live w' l := ⟨fun p hp => (h.all p hp).below hb (Nat.le_refl _)⟩

/-- A new number, x. -/
structure IsNum (w w' : World) (a : Option Addr) (zs : List Int) (x : Int) : Prop where
  can : Nt.Can zs
  len : zs.length ≤ 4096
  val : Nt.val zs = x
  lie : Lie w' a zs
  bel : Below w.heap.size w w'
/-- What is known of a number. -/
structure Good (zs : List Int) (x : Int) : Prop where
  can : Nt.Can zs
  len : zs.length ≤ 4096
  val : Nt.val zs = x
theorem IsNum.good {w w' : World} {a : Option Addr} {zs : List Int} {x : Int} (h : IsNum w w' a zs x) : Good zs x := ⟨h.can, h.len, h.val⟩
theorem Good.may {z : List Int} {u : Int} (h : Good z u) : mayB z = true := can_may h.can h.len
theorem Good.lt {z : List Int} {u : Int} (h : Good z u) : Lt 4096 u := by rw [← h.val]; exact Lt.of h.can.1 h.len

theorem add_fit (a b : Option Addr) (ca cb : Nat) (za zb : List Int) (w : World) {x y : Int} (ha : Lie w a za) (hb : Lie w b zb) (ga : Good za x) (gb : Good zb y) (hf : Lt 4096 (x + y)) :
    Calls Tryz.prog 148 #[.slice a za.length ca, .slice b zb.length cb] w fun e w' => ∃ zs a' c, e = .returned (.tuple #[.slice a' zs.length c, .int .i64 0]) ∧ IsNum w w' a' zs (x + y) ∧ Own w.heap.size w' (.slice a' zs.length c) zs := by
  refine (add20 a b ca cb za zb w ha hb ga.can.1 gb.can.1 ga.may gb.may).mono ?_
  intro e w' h
  obtain ⟨zs, h1, h2, h3, h4, a', c, h5, h6, h7⟩ := h.fits (by rw [ga.val, gb.val]; exact hf.2)
  exact ⟨zs, a', c, h5, ⟨h1, h4, by rw [h2, ga.val, gb.val], h7, h3⟩, h6⟩
theorem mul_fit (a b : Option Addr) (ca cb : Nat) (za zb : List Int) (w : World) {x y : Int} (ha : Lie w a za) (hb : Lie w b zb) (ga : Good za x) (gb : Good zb y) (hf : Lt 4096 (x * y)) :
    Calls Tryz.prog 136 #[.slice a za.length ca, .slice b zb.length cb] w fun e w' => ∃ zs a' c, e = .returned (.tuple #[.slice a' zs.length c, .int .i64 0]) ∧ IsNum w w' a' zs (x * y) ∧ Own w.heap.size w' (.slice a' zs.length c) zs := by
  refine (mul26 a b ca cb za zb w ha hb ga.can.1 gb.can.1 ga.may gb.may).mono ?_
  intro e w' h
  obtain ⟨zs, h1, h2, h3, h4, a', c, h5, h6, h7⟩ := h.fits (by rw [ga.val, gb.val]; exact hf.2)
  exact ⟨zs, a', c, h5, ⟨h1, h4, by rw [h2, ga.val, gb.val], h7, h3⟩, h6⟩
theorem sub_fit (a b : Option Addr) (ca cb : Nat) (za zb : List Int) (w : World) {x y : Int} (ha : Lie w a za) (hb : Lie w b zb) (ga : Good za x) (gb : Good zb y) (hf : y ≤ x) :
    Calls Tryz.prog 151 #[.slice a za.length ca, .slice b zb.length cb] w fun e w' => ∃ zs a' c, e = .returned (.tuple #[.slice a' zs.length c, .int .i64 0]) ∧ IsNum w w' a' zs (x - y) ∧ Own w.heap.size w' (.slice a' zs.length c) zs := by
  refine (sub21 a b ca cb za zb w ha hb ga.can.1 gb.can.1 ga.may gb.may (by rw [ga.val, gb.val]; exact hf)).mono ?_
  rintro e w' ⟨v, zs, rfl, h2, h3, h4, h5⟩
  obtain ⟨a', c, rfl, _, _, hl⟩ := h2.lie
  rw [ga.val, gb.val] at h4
  refine ⟨zs, a', c, rfl, ⟨h3, ?_, h4, hl, h5⟩, h2⟩
  refine (Nt.can_len h3 4096).1 ?_
  have := ga.lt.2
  have := gb.lt.1
  omega
theorem may_yes (a : Option Addr) (cap : Nat) (zs : List Int) (w : World) (hl : Lie w a zs) (hm : zs.length ≤ maxLen) (h : mayB zs = true) :
    Calls Tryz.prog 106 #[.slice a zs.length cap] w fun e w' => e = .returned (.bool true) ∧ w = w' := by
  rw [← h]; exact may13 a cap zs w hl hm
/-- append of one digit to a list of the call's own. -/
theorem app1 {w : World} {ops : Array Oper} {rest : List Oper} {o : Oper} {a : Act} {Q : Exit → Act → World → Prop} (hgd : o.guard = none) (s x : Operand)
    (ho : o.op = .call { callee := .builtin .append, args := #[s, x], argTypes := #[24, 24] }) (B : Nat) (v : Value) (zs : List Int) (d : Int) (g : Nat) (hs : a.eval s = v) (hx : a.eval x = .slice (some ⟨g, 0, none⟩) 1 1)
    (hown : Own B w v zs) (hc : w.cell? ⟨g, 0, none⟩ = some (.int .u32 d)) (hl : zs.length ≤ 100000000) (hB : B ≤ w.heap.size)
    (h : ∀ v' w', Own B w' v' (zs ++ [d]) → w.grownBy w' v.ownBlock → wpList Tryz.prog ops Q rest (a.put o.dst v') w') : wpList Tryz.prog ops Q (o :: rest) a w := by
  obtain ⟨i0, hi, hz0, hz1, hz2⟩ := info_parts Tryz.info49
  refine wpList_append_own w hgd s x 24 ho B 108 i0 (.int .u32 0) 1 4 Tryz.underlying24 hi hz0 hz1 hz2 rfl (by decide) v zs.length _ hs hown ⟨g, 0, none⟩ 1 1 [.int .u32 d] hx rfl ?_ ?_ (by unfold maxLen; omega) (by omega) hB ?_
  · intro j u hj
    match j, hj with
    | 0, hj =>
      simp only [List.getElem?_cons_zero, Option.some.injEq] at hj
      subst hj
      simpa [Addr.add] using hc
  · intro u hu
    simp only [List.mem_singleton] at hu
    subst hu; rfl
  · intro v' w' h1 h2 _
    refine h v' w' ?_ h2
    unfold Own
    simpa using h1

theorem own_grown {B : Nat} {w w0 w' : World} {v : Value} {zs : List Int} (hown : Own B w v zs) (hg : w.grownBy w' v.ownBlock) (hb : Below B w0 w) (hB : B ≤ w.heap.size) : Below B w0 w' :=
  hb.grown hg hB (fun k hk => (hown.lt k hk).1)
theorem own_alloc {B : Nat} {w : World} {v : Value} {zs : List Int} (h : Own B w v zs) (o : Obj) : Own B (w.alloc o) v zs := World.ownsRow.alloc h o

set_option maxRecDepth 100000 in
theorem refMay14 (a : Option Addr) (cap : Nat) (zs : List Int) (w : World) (hl : Lie w a zs) (hm : zs.length ≤ maxLen) :
    Calls Tryz.prog 86 #[.slice a zs.length cap] w fun e w' => e = .returned (.bool (mayB zs)) ∧ w = w' := by
  unfold maxLen at hm
  by_cases h0 : zs.length = 0
  · have e : mayB zs = true := by simp [mayB, h0]
    rw [e, h0]
    go_enter Tryz.func86, Tryz.ntmps86
    go_wp2
    go_ret
    exact ⟨rfl, rfl⟩
  · rcases hl with rfl | ⟨b, o, rfl, hcell⟩
    · exact absurd rfl h0
    · have e : mayB zs = (decide (zs.length ≤ 4096) && zs.getD (zs.length - 1) 0 != 0) := by simp [mayB, h0]
      rw [e]
      have hck := hcell (zs.length - 1) (by omega)
      clear hcell e
      generalize zs.getD (zs.length - 1) 0 = x at *
      obtain ⟨k, hk⟩ : ∃ k, zs.length = k + 1 := ⟨zs.length - 1, by omega⟩
      rw [hk] at hck hm ⊢
      clear hk h0
      rw [Nat.add_sub_cancel] at hck
      have hk0 : ((k : Int) + 1 == 0) = false := by simp; omega
      by_cases h1 : k + 1 ≤ 4096
      · go_enter Tryz.func86, Tryz.ntmps86
        go_wp2
        go_ret
        exact ⟨by simp [h1], rfl⟩
      · go_enter Tryz.func86, Tryz.ntmps86
        go_wp2
        go_ret
        exact ⟨by simp, rfl⟩

set_option maxHeartbeats 400000 in
theorem trim36 (a : Option Addr) (cap : Nat) (zs : List Int) (w : World) (hl : Lie w a zs) (hc : zs.length ≤ cap) (hm : cap ≤ maxLen) :
    Calls Tryz.prog 105 #[.slice a zs.length cap] w fun e w' => w = w' ∧ ∃ n, n ≤ zs.length ∧ e = .returned (.slice a n cap) ∧ (∀ j, n ≤ j → zs.getD j 0 = 0) ∧ (n ≠ 0 → zs.getD (n - 1) 0 ≠ 0) := by
  unfold maxLen at hm
  have hpast : ∀ j, zs.length ≤ j → zs.getD j 0 = 0 := fun j hj => by simp [List.getD_eq_getElem?_getD, List.getElem?_eq_none hj]
  rcases hl with rfl | ⟨b, o, rfl, hcell⟩
  · go_enter Tryz.func105, Tryz.ntmps105
    go_wp2
    refine wp_loop_rounds 1 ?_
    rw [rounds_succ]
    go_wp2
    go_ret
    exact ⟨rfl, 0, Nat.le_refl _, rfl, fun j _ => by simp, fun h => absurd rfl h⟩
  · generalize hn : zs.length = n at *
    have hN : Hid (zs.length = n) := hn
    clear hn
    go_enter Tryz.func105, Tryz.ntmps105
    go_wp2
    go_loop [3] (fun i => ∃ k : Nat, k ≤ n ∧ i = .int .i64 k ∧ ∀ j, k ≤ j → zs.getD j 0 = 0) (fun i => (intOf i).toNat)
    case atStart => exact ⟨n, Nat.le_refl _, rfl, hpast⟩
    case round =>
      obtain ⟨k, hk, rfl, hz⟩ := hrel
      have HZ : Hid (∀ j, k ≤ j → zs.getD j 0 = 0) := hz
      clear hz hpast
      cases k with
      | zero =>
        go_wp2
        go_ret
        exact ⟨rfl, 0, Nat.zero_le _, rfl, HZ.out, fun h => absurd rfl h⟩
      | succ k =>
        have hck := hcell k (by omega)
        clear hcell
        generalize hx : zs.getD k 0 = x at *
        have HX : Hid (zs.getD k 0 = x) := hx
        clear hx
        by_cases h0 : x = 0
        · subst h0
          go_wp2
          go_round
          case rel =>
            refine ⟨k, by omega, by go_num, fun j hj => ?_⟩
            by_cases e : j = k
            · subst e; exact HX.out
            · exact HZ.out j (by omega)
          case measure => simp [intOf]; try omega
        · have hb : (x == 0) = false := by simp [h0]
          go_wp2
          go_ret
          exact ⟨rfl, k + 1, hk, by go_num, HZ.out, fun _ => by have h := HX.out; simp only [List.getD_eq_getElem?_getD, Nat.add_sub_cancel] at h ⊢; rw [h]; exact h0⟩


/-- A number of two digits or less, trimmed. -/
theorem of_aux (w : World) (n : Int) (h0 : 0 ≤ n) (h1 : n < 18446744073709551616) (m : Nat) (hm : m ≤ 2) (hz : ∀ j, m ≤ j → ([n % 4294967296, n / 4294967296] : List Int).getD j 0 = 0) (hd : m ≠ 0 → ([n % 4294967296, n / 4294967296] : List Int).getD (m - 1) 0 ≠ 0) :
    ∃ zs, zs.length = m ∧ IsNum w (w.alloc (.cells #[.int .u32 (n % 4294967296), .int .u32 (n / 4294967296)] 108)) (some ⟨w.heap.size, 0, none⟩) zs n ∧ Own w.heap.size (w.alloc (.cells #[.int .u32 (n % 4294967296), .int .u32 (n / 4294967296)] 108)) (.slice (some ⟨w.heap.size, 0, none⟩) zs.length 2) zs := by
  have hb : Blk (w.alloc (.cells #[.int .u32 (n % 4294967296), .int .u32 (n / 4294967296)] 108)) w.heap.size [n % 4294967296, n / 4294967296] := heap_alloc_new w _
  have hr : Nt.Rng [n % 4294967296, n / 4294967296] := Nt.rng_mem (by intro z hz; simp at hz; omega)
  have hl : (([n % 4294967296, n / 4294967296] : List Int).take m).length = m := by simp; omega
  have ho := hb.own (B := w.heap.size) (n := m) (Nat.le_refl _) (by simpa using hm) (by unfold maxLen; simp)
  refine ⟨([n % 4294967296, n / 4294967296] : List Int).take m, hl, ⟨Nt.can_take hr (by simpa using hm) hd, by omega, ?_, ?_, below_alloc _ _⟩, by rw [hl]; exact ho⟩
  · rw [Nt.val_take hz (by simpa using hm)]
    rw [val_cons, val_cons, Nt.val_nil]; omega
  · obtain ⟨a, c, he, _, _, h⟩ := ho.lie
    simp only [Value.slice.injEq] at he
    rw [he.1]
    exact h

set_option maxHeartbeats 1000000 in
theorem of16 (n : Int) (h0 : 0 ≤ n) (h1 : n < 18446744073709551616) (w : World) :
    Calls Tryz.prog 111 #[.int .u64 n] w fun e w' => ∃ zs a c, e = .returned (.slice a zs.length c) ∧ IsNum w w' a zs n ∧ Own w.heap.size w' (.slice a zs.length c) zs := by
  have HT := Hide.mk (trim35 (some ⟨w.heap.size, 0, none⟩) 2 [n % 4294967296, n / 4294967296] _ (lie_new w [n % 4294967296, n / 4294967296]) (by simp) (by unfold maxLen; omega))
  go_enter Tryz.func111, Tryz.ntmps111
  go_wp2_with fail
  refine HT.out.mono ?_
  rintro e w' ⟨rfl, m, hm, rfl, hz, hd⟩
  have HF := Hide.mk (of_aux w n h0 h1 m hm hz hd)
  clear hz hd HT
  go_wp2
  go_ret
  obtain ⟨zs, hl, h2, h3⟩ := HF.out
  exact ⟨zs, _, 2, by rw [hl]; rfl, h2, h3⟩

set_option maxHeartbeats 1000000 in
theorem of17 (n : Int) (h0 : 0 ≤ n) (h1 : n < 18446744073709551616) (w : World) :
    Calls Tryz.prog 71 #[.int .u64 n] w fun e w' => ∃ zs a c, e = .returned (.slice a zs.length c) ∧ IsNum w w' a zs n ∧ Own w.heap.size w' (.slice a zs.length c) zs := by
  have HT := Hide.mk (trim36 (some ⟨w.heap.size, 0, none⟩) 2 [n % 4294967296, n / 4294967296] _ (lie_new w [n % 4294967296, n / 4294967296]) (by simp) (by unfold maxLen; omega))
  go_enter Tryz.func71, Tryz.ntmps71
  go_wp2_with fail
  refine HT.out.mono ?_
  rintro e w' ⟨rfl, m, hm, rfl, hz, hd⟩
  have HF := Hide.mk (of_aux w n h0 h1 m hm hz hd)
  clear hz hd HT
  go_wp2
  go_ret
  obtain ⟨zs, hl, h2, h3⟩ := HF.out
  exact ⟨zs, _, 2, by rw [hl]; rfl, h2, h3⟩

theorem or64_zero (x : Int) (h0 : 0 ≤ x) (h1 : x < 18446744073709551616) : bits .or .u64 0 x = x := by
  rw [u64_or 0 x (by decide) (by decide) h0 h1]
  simp; omega
theorem or64_join (x y : Int) (h0 : 0 ≤ x) (h1 : x < 4294967296) (h2 : 0 ≤ y) (h3 : y < 4294967296) : bits .or .u64 x (y * 4294967296) = x + 4294967296 * y := by
  rw [u64_or x _ h0 (by omega) (by omega) (by omega)]
  have := nat_join 32 (y * 4294967296).toNat x.toNat (by omega) (by omega)
  rw [Nat.or_comm, this]; omega

theorem val_one (x : Int) : Nt.val [x] = x := by rw [val_cons, Nt.val_nil]; omega
theorem val_two (x y : Int) : Nt.val [x, y] = x + 4294967296 * y := by rw [val_cons, val_one]

theorem lie_cell {w : World} {a : Option Addr} {zs : List Int} (h : Lie w a zs) {b o : Nat} (ha : a = some ⟨b, o, none⟩) {i : Nat} (hi : i < zs.length) : w.cell? ⟨b, o + i, none⟩ = some (.int .u32 (zs.getD i 0)) := by
  rcases h with rfl | ⟨b', o', he, hc⟩
  · simp at hi
  · rw [ha] at he
    cases he
    exact hc i hi
theorem lie_some {w : World} {a : Option Addr} {zs : List Int} (h : Lie w a zs) (hp : 0 < zs.length) : ∃ b o, a = some ⟨b, o, none⟩ := by
  rcases h with rfl | ⟨b, o, he, _⟩
  · simp at hp
  · exact ⟨b, o, he⟩

set_option maxHeartbeats 1000000 in
theorem num_two (b o c : Nat) (x y : Int) (w : World) (hm : mayB [x, y] = true) (ha : Lie w (some ⟨b, o, none⟩) [x, y]) (hx : 0 ≤ x) (hx' : x < 4294967296) (hy : 0 ≤ y) (hy' : y < 4294967296) :
    Calls Tryz.prog 115 #[.slice (some ⟨b, o, none⟩) 2 c] w fun e w' => e = .returned (.tuple #[.int .u64 (x + 4294967296 * y), .bool true]) ∧ w = w' := by
  have c0 : w.cell? ⟨b, o, none⟩ = some (.int .u32 x) := lie_cell ha rfl (i := 0) (by simp)
  have c1 : w.cell? ⟨b, o + 1, none⟩ = some (.int .u32 y) := lie_cell ha rfl (i := 1) (by simp)
  have HM := Hide.mk (may_yes (some ⟨b, o, none⟩) c [x, y] w ha (by unfold maxLen; simp) hm)
  rw [← or64_join x y hx hx' hy hy']
  have hx2 := or64_zero x hx (by omega)
  clear ha hm
  go_enter Tryz.func115, Tryz.ntmps115
  go_wp2_with fail
  refine HM.out.mono ?_
  rintro e w' ⟨rfl, rfl⟩
  go_wp2
  refine wp_loop_rounds 3 ?_
  rw [rounds_succ]
  go_wp2
  rw [rounds_succ]
  go_wp2
  rw [rounds_succ]
  go_wp2
  go_ret2
  exact ⟨rfl, rfl⟩
set_option maxHeartbeats 1000000 in
theorem num_one (b o c : Nat) (x : Int) (w : World) (hm : mayB [x] = true) (ha : Lie w (some ⟨b, o, none⟩) [x]) (hx : 0 ≤ x) (hx' : x < 4294967296) :
    Calls Tryz.prog 115 #[.slice (some ⟨b, o, none⟩) 1 c] w fun e w' => e = .returned (.tuple #[.int .u64 x, .bool true]) ∧ w = w' := by
  have c0 : w.cell? ⟨b, o, none⟩ = some (.int .u32 x) := lie_cell ha rfl (i := 0) (by simp)
  have HM := Hide.mk (may_yes (some ⟨b, o, none⟩) c [x] w ha (by unfold maxLen; simp) hm)
  have hx2 := or64_zero x hx (by omega)
  clear ha hm
  go_enter Tryz.func115, Tryz.ntmps115
  go_wp2_with fail
  refine HM.out.mono ?_
  rintro e w' ⟨rfl, rfl⟩
  go_wp2
  refine wp_loop_rounds 2 ?_
  rw [rounds_succ]
  go_wp2
  rw [rounds_succ]
  go_wp2
  go_ret2
  exact ⟨rfl, rfl⟩
set_option maxHeartbeats 1000000 in
theorem num_none (a : Option Addr) (c : Nat) (w : World) :
    Calls Tryz.prog 115 #[.slice a 0 c] w fun e w' => e = .returned (.tuple #[.int .u64 0, .bool true]) ∧ w = w' := by
  have HM := Hide.mk (may_yes a c [] w (.inl rfl) (by unfold maxLen; simp) (by decide))
  go_enter Tryz.func115, Tryz.ntmps115
  go_wp2_with fail
  refine HM.out.mono ?_
  rintro e w' ⟨rfl, rfl⟩
  go_wp2
  refine wp_loop_rounds 1 ?_
  rw [rounds_succ]
  go_wp2
  go_ret2
  exact ⟨rfl, rfl⟩
theorem num_yes (a : Option Addr) (c : Nat) (zs : List Int) (w : World) (hm : mayB zs = true) (ha : Lie w a zs) (hr : Nt.Rng zs) (hl : zs.length ≤ 2) :
    Calls Tryz.prog 115 #[.slice a zs.length c] w fun e w' => e = .returned (.tuple #[.int .u64 (Nt.val zs), .bool true]) ∧ w = w' := by
  match zs, hl with
  | [], _ => exact num_none a c w
  | [x], _ =>
    obtain ⟨b, o, rfl⟩ := lie_some ha (by simp)
    rw [val_one]
    exact num_one b o c x w hm ha (hr 0).1 (hr 0).2
  | [x, y], _ =>
    obtain ⟨b, o, rfl⟩ := lie_some ha (by simp)
    rw [val_two]
    exact num_two b o c x y w hm ha (hr 0).1 (hr 0).2 (hr 1).1 (hr 1).2
  | _ :: _ :: _ :: _, h => simp at h
set_option maxHeartbeats 1000000 in
theorem refCmp22 (a b : Option Addr) (ca cb : Nat) (za zb : List Int) (w : World) (ha : Lie w a za) (hb : Lie w b zb) (qa : Nt.Can za) (qb : Nt.Can zb) (hm : za.length ≤ maxLen) :
    Calls Tryz.prog 101 #[.slice a za.length ca, .slice b zb.length cb] w fun e w' => e = .returned (.int .i64 (sgn (Nt.val za) (Nt.val zb))) ∧ Below w.heap.size w w' := by
  unfold maxLen at hm
  by_cases hne : za.length = zb.length
  · have h1 : ((za.length : Int) != (zb.length : Int)) = false := by simp [hne]
    have hpast : ∀ j, za.length ≤ j → za.getD j 0 = zb.getD j 0 := fun j hj => by simp [List.getD_eq_getElem?_getD, List.getElem?_eq_none hj, List.getElem?_eq_none (show zb.length ≤ j by omega)]
    have HP := Hide.mk hpast
    have HL := Hide.mk hne
    have HA := Hide.mk ha
    have HB := Hide.mk hb
    have QA := Hide.mk qa
    have QB := Hide.mk qb
    clear hne ha hb qa qb hpast
    go_enter Tryz.func101, Tryz.ntmps101
    go_wp2
    go_loopw [5] (fun i wr => ∃ k : Nat, k ≤ za.length ∧ i = .int .i64 ((k : Int) - 1) ∧ (∀ j, k ≤ j → za.getD j 0 = zb.getD j 0) ∧ Below w.heap.size w wr) (fun i _ => (intOf i + 1).toNat)
    case atStart => exact ⟨za.length, Nat.le_refl _, rfl, HP.out, Below.refl _ _⟩
    case round =>
      obtain ⟨k, hk, rfl, hsame, hbel⟩ := hrel
      have HS := Hide.mk hsame
      clear hsame
      cases k with
      | succ p =>
        have hp1 : p < za.length := by omega
        obtain ⟨ba, oa, rfl⟩ := lie_some HA.out (by omega)
        obtain ⟨bb, ob, rfl⟩ := lie_some HB.out (by rw [← HL.out]; omega)
        have hlt2 : p < zb.length := by rw [← HL.out]; exact hp1
        have hca : wr.cell? ⟨ba, oa + p, none⟩ = some (.int .u32 (za.getD p 0)) := lie_cell (HA.out.below hbel (Nat.le_refl _)) rfl hp1
        have hcb : wr.cell? ⟨bb, ob + p, none⟩ = some (.int .u32 (zb.getD p 0)) := lie_cell (HB.out.below hbel (Nat.le_refl _)) rfl hlt2
        have hpi : ((p + 1 : Nat) : Int) - 1 = (p : Int) := by omega
        rw [hpi]
        have HR : Hide (za.getD p 0 ≠ zb.getD p 0 → sgn (Nt.val za) (Nt.val zb) = sgn (za.getD p 0) (zb.getD p 0)) := ⟨fun hne => cmp_at QA.out.1 QB.out.1 HL.out hp1 (fun j hj => HS.out j (by omega)) hne⟩
        clear hpi
        generalize hx : za.getD p 0 = x at *
        generalize hy : zb.getD p 0 = y at *
        have HX := Hide.mk hx
        have HY := Hide.mk hy
        clear hx hy
        rcases Int.lt_trichotomy x y with hxy | hxy | hxy
        · go_wp2
          go_region
          all_goals go_wp2
          all_goals go_ret
          all_goals exact ⟨by rw [HR.out (by omega), sgn_lt hxy]; rfl, hbel.drew⟩
        · have h1 : ¬ x < y := by omega
          have h2 : ¬ y < x := by omega
          have HXY := Hide.mk hxy
          clear hxy
          go_wp2
          go_region
          all_goals go_wp2
          go_region
          all_goals go_wp2
          go_roundw
          case rel =>
            refine ⟨p, by omega, rfl, fun j hj => ?_, hbel.drew.drew⟩
            by_cases e : j = p
            · subst e; rw [HX.out, HY.out]; exact HXY.out
            · exact HS.out j (by omega)
          case measure => simp [intOf]; try omega
        · have h1 : ¬ x < y := by omega
          go_wp2
          go_region
          all_goals go_wp2
          go_region
          all_goals go_wp2
          all_goals go_ret
          all_goals exact ⟨by rw [HR.out (by omega), sgn_gt hxy]; rfl, hbel.drew.drew⟩
      | zero =>
        go_wp2
        go_ret
        refine ⟨?_, hbel⟩
        have : za = zb := getD_eq_of_same (fun j hj => HS.out j (by omega)) HL.out
        rw [this, sgn_eq rfl]; rfl
  · have h1 : ((za.length : Int) != (zb.length : Int)) = true := by simp; omega
    rw [cmp_len qa qb hne]
    by_cases hlt : za.length < zb.length
    · rw [sgn_lt (by omega)]
      go_enter Tryz.func101, Tryz.ntmps101
      go_wp2
      go_ret
      exact ⟨rfl, Below.refl _ _⟩
    · rw [sgn_gt (by omega)]
      go_enter Tryz.func101, Tryz.ntmps101
      go_wp2
      go_ret
      exact ⟨rfl, Below.refl _ _⟩

theorem getD_append_lt {s : List Int} {x : Int} {j : Nat} (h : j < s.length) : (s ++ [x]).getD j 0 = s.getD j 0 := by
  simp [List.getD_eq_getElem?_getD, List.getElem?_append, h]
theorem getD_append_at {s : List Int} {x : Int} : (s ++ [x]).getD s.length 0 = x := by
  simp [List.getD_eq_getElem?_getD]
theorem vp_snoc (s : List Int) (x : Int) : Nt.vp (s ++ [x]) (s.length + 1) = Nt.vp s s.length + x * 4294967296 ^ s.length := by
  rw [Nt.vp_step, getD_append_at, Nt.vp_congr (fun j hj => getD_append_lt hj)]
theorem rng_snoc {s : List Int} {x : Int} (h : Nt.Rng s) (h0 : 0 ≤ x) (h1 : x < 4294967296) : Nt.Rng (s ++ [x]) := by
  intro k
  by_cases c : k < s.length
  · rw [getD_append_lt c]; exact h k
  · by_cases e : k = s.length
    · subst e; rw [getD_append_at]; exact ⟨h0, h1⟩
    · have : (s ++ [x]).getD k 0 = 0 := by
        simp only [List.getD_eq_getElem?_getD]
        rw [List.getElem?_eq_none (by simp; omega)]; rfl
      rw [this]; decide
theorem getD_past {s : List Int} {j : Nat} (h : s.length ≤ j) : s.getD j 0 = 0 := by
  simp [List.getD_eq_getElem?_getD, List.getElem?_eq_none h]

/-- After as many rounds of the reference's Add as s has digits. -/
structure RefAddInv (za zb s : List Int) (c : Int) : Prop where
  rng : Nt.Rng s
  eq : Nt.vp s s.length + c * 4294967296 ^ s.length = Nt.vp za s.length + Nt.vp zb s.length
theorem RefAddInv.step {za zb s : List Int} {c : Int} (h : RefAddInv za zb s c) (t : Int) (ht : t = c + za.getD s.length 0 + zb.getD s.length 0) :
    RefAddInv za zb (s ++ [t % 4294967296]) (t / 4294967296) := by
  refine ⟨rng_snoc h.rng (by omega) (by omega), ?_⟩
  have e := h.eq
  have hn : t % 4294967296 + t / 4294967296 * 4294967296 = t := by omega
  rw [List.length_append, List.length_singleton, vp_snoc, Nt.vp_step, Nt.vp_step, Nt.pw_succ]
  generalize t % 4294967296 = n at *
  generalize t / 4294967296 = c' at *
  generalize (4294967296 : Int) ^ s.length = P at *
  grind

theorem cell_new1 (w : World) (u : Value) : (w.alloc (.cells #[u] 108)).cell? ⟨w.heap.size, 0, none⟩ = some u := by
  rw [cell_of_row _ w.heap.size 0 _ 108 (0, 0) (heap_alloc_new w _)]; rfl
theorem own_push {B : Nat} {w0 w w' : World} {v : Value} {s : List Int} {o : Obj} (hown : Own B w v s) (hg : (w.alloc o).grownBy w' v.ownBlock) (hb : Below B w0 w) (hB : B ≤ w.heap.size) : Below B w0 w' :=
  own_grown (own_alloc hown o) hg (hb.alloc hB o) (by simp; omega)

theorem own_take {B : Nat} {w : World} {a : Option Addr} {n c m : Nat} {zs : List Int} (h : Own B w (.slice a n c) zs) (hm : m ≤ zs.length) : Own B w (.slice a m c) (zs.take m) := by
  have hl : (zs.take m).length = m := by simp; omega
  have h1 := h.1
  rcases h.2 with ⟨hv, h0⟩ | ⟨g, cap, cur, hv, hB, hg, hn, hcm, hsz, ht⟩
  · simp only [Value.slice.injEq] at hv
    obtain ⟨rfl, rfl, rfl⟩ := hv
    have : m = 0 := by omega
    subst this
    simpa using Own.nil B w
  · simp only [Value.slice.injEq] at hv
    obtain ⟨rfl, rfl, rfl⟩ := hv
    refine ⟨by simp, .inr ⟨g, c, cur, by rw [hl], hB, hg, by omega, hcm, hsz, ?_⟩⟩
    rw [hl, List.map_take, ← ht, List.take_take]
    congr 1
    omega

set_option maxHeartbeats 2000000 in
theorem refAdd23 (a b : Option Addr) (ca cb : Nat) (za zb : List Int) (w : World) (ha : Lie w a za) (hb : Lie w b zb) (ra : Nt.Rng za) (rb : Nt.Rng zb) (hna : za.length ≤ 4000000) (hnb : zb.length ≤ 4000000) :
    Calls Tryz.prog 100 #[.slice a za.length ca, .slice b zb.length cb] w fun e w' => ∃ zs a' c, e = .returned (.slice a' zs.length c) ∧ Own w.heap.size w' (.slice a' zs.length c) zs ∧ Nt.Can zs ∧ Nt.val zs = Nt.val za + Nt.val zb ∧ Below w.heap.size w w' := by
  have HA := Hide.mk ha
  have HB := Hide.mk hb
  have RA := Hide.mk ra
  have RB := Hide.mk rb
  clear ha hb ra rb
  go_enter Tryz.func100, Tryz.ntmps100
  go_wp2
  go_loopw [5, 6, 7] (fun v c i wr => ∃ (s : List Int) (cc : Int), s.length ≤ max za.length zb.length ∧ i = .int .i64 (s.length : Int) ∧ c = .int .u64 cc ∧ 0 ≤ cc ∧ cc ≤ 1 ∧ Own w.heap.size wr v s ∧ RefAddInv za zb s cc ∧ Below w.heap.size w wr) (fun _ _ i _ => max za.length zb.length - (intOf i).toNat)
  case atStart => exact ⟨[], 0, Nat.zero_le _, rfl, rfl, by decide, by decide, Own.nil _ _, ⟨Nt.rng_nil, by simp [Nt.vp]⟩, Below.refl _ _⟩
  case round =>
    obtain ⟨s, cc, hk, rfl, rfl, hc0, hc1, hown, hinv, hbel⟩ := hrel
    by_cases hlt : s.length < za.length
    · obtain ⟨ba, oa, rfl⟩ := lie_some HA.out (by omega)
      have hca := lie_cell (HA.out.below hbel (Nat.le_refl _)) rfl hlt
      have hra := RA.out s.length
      by_cases hlt2 : s.length < zb.length
      · obtain ⟨bb, ob, rfl⟩ := lie_some HB.out (by omega)
        have hcb := lie_cell (HB.out.below hbel (Nat.le_refl _)) rfl hlt2
        have hrb := RB.out s.length
        have HI := Hide.mk (hinv.step (cc + za.getD s.length 0 + zb.getD s.length 0) rfl)
        have HO := Hide.mk hown
        clear hinv hown
        generalize hn : s.length = n at *
        have HN := Hide.mk hn
        clear hn
        generalize za.getD n 0 = x at *
        generalize zb.getD n 0 = y at *
        go_wp2_with (at_builtin; refine app1 rfl (.tmp 42) (.tmp 45) rfl w.heap.size _ s ((cc + x + y) % 4294967296) wr.heap.size rfl rfl (own_alloc HO.out _) (cell_new1 _ _) (by have := HN.out; omega) (by have := hbel.size; simp; omega) ?_; intro v2 w2 hown2 hgrow)
        have hb2 := own_push HO.out hgrow hbel (by have := hbel.size; omega)
        have HO2 := Hide.mk hown2
        clear hown2 hgrow
        go_wp2
        go_roundw
        case rel => exact ⟨_, _, by rw [List.length_append, List.length_singleton, HN.out]; omega, by rw [List.length_append, List.length_singleton, HN.out]; go_num, rfl, by omega, by omega, HO2.out, HI.out, hb2⟩
        case measure => simp [intOf]; omega
      · have HI : Hide (RefAddInv za zb (s ++ [(cc + za.getD s.length 0) % 4294967296]) ((cc + za.getD s.length 0) / 4294967296)) := ⟨by
          have := hinv.step (cc + za.getD s.length 0) (by rw [getD_past (s := zb) (by omega)]; omega)
          exact this⟩
        have HO := Hide.mk hown
        clear hinv hown
        generalize hn : s.length = n at *
        have HN := Hide.mk hn
        clear hn
        generalize za.getD n 0 = x at *
        go_wp2_with (at_builtin; refine app1 rfl (.tmp 42) (.tmp 45) rfl w.heap.size _ s ((cc + x) % 4294967296) wr.heap.size rfl rfl (own_alloc HO.out _) (cell_new1 _ _) (by have := HN.out; omega) (by have := hbel.size; simp; omega) ?_; intro v2 w2 hown2 hgrow)
        have hb2 := own_push HO.out hgrow hbel (by have := hbel.size; omega)
        have HO2 := Hide.mk hown2
        clear hown2 hgrow
        go_wp2
        go_roundw
        case rel => exact ⟨_, _, by rw [List.length_append, List.length_singleton, HN.out]; omega, by rw [List.length_append, List.length_singleton, HN.out]; go_num, rfl, by omega, by omega, HO2.out, HI.out, hb2⟩
        case measure => simp [intOf]; omega
    · by_cases hlt2 : s.length < zb.length
      · obtain ⟨bb, ob, rfl⟩ := lie_some HB.out (by omega)
        have hcb := lie_cell (HB.out.below hbel (Nat.le_refl _)) rfl hlt2
        have hrb := RB.out s.length
        have HI : Hide (RefAddInv za zb (s ++ [(cc + zb.getD s.length 0) % 4294967296]) ((cc + zb.getD s.length 0) / 4294967296)) := ⟨by
          have := hinv.step (cc + zb.getD s.length 0) (by rw [getD_past (s := za) (by omega)]; omega)
          exact this⟩
        have HO := Hide.mk hown
        clear hinv hown
        generalize hn : s.length = n at *
        have HN := Hide.mk hn
        clear hn
        generalize zb.getD n 0 = y at *
        go_wp2_with (at_builtin; refine app1 rfl (.tmp 42) (.tmp 45) rfl w.heap.size _ s ((cc + y) % 4294967296) wr.heap.size rfl rfl (own_alloc HO.out _) (cell_new1 _ _) (by have := HN.out; omega) (by have := hbel.size; simp; omega) ?_; intro v2 w2 hown2 hgrow)
        have hb2 := own_push HO.out hgrow hbel (by have := hbel.size; omega)
        have HO2 := Hide.mk hown2
        clear hown2 hgrow
        go_wp2
        go_roundw
        case rel => exact ⟨_, _, by rw [List.length_append, List.length_singleton, HN.out]; omega, by rw [List.length_append, List.length_singleton, HN.out]; go_num, rfl, by omega, by omega, HO2.out, HI.out, hb2⟩
        case measure => simp [intOf]; omega
      · have HI := Hide.mk (hinv.step cc (by rw [getD_past (s := za) (by omega), getD_past (s := zb) (by omega)]; omega))
        have HO := Hide.mk hown
        have HV : Hide (Nt.vp za s.length = Nt.val za ∧ Nt.vp zb s.length = Nt.val zb) := ⟨(Nt.val_vp (by omega)).symm, (Nt.val_vp (by omega)).symm⟩
        have HQ := Hide.mk hinv.eq
        have hcc : cc % 4294967296 = cc := by omega
        have HC := Hide.mk hcc
        clear hinv hown hcc
        generalize hn : s.length = n at *
        have HN := Hide.mk hn
        clear hn
        go_wp2_with (at_builtin; refine app1 rfl (.tmp 49) (.tmp 52) rfl w.heap.size _ s cc wr.heap.size rfl rfl (own_alloc HO.out _) (cell_new1 _ _) (by have := HN.out; omega) (by have := hbel.size; simp; omega) ?_; intro v2 w2 hown2 hgrow)
        have hb2 := own_push HO.out hgrow hbel (by have := hbel.size; omega)
        obtain ⟨a2, c2, hv2, h1, h2, hl2⟩ := hown2.lie
        have HO2 := Hide.mk hown2
        have HT := Hide.mk (trim36 a2 c2 _ w2 hl2 h1 h2)
        have HV2 := Hide.mk hv2
        clear hown2 hgrow hl2 h1 h2
        rw [hv2]
        clear hv2
        refine HT.out.mono ?_
        rintro e w' ⟨rfl, m, hm, rfl, hz, hd⟩
        have HF : Hide (∃ zs a' c, Value.slice a2 m c2 = .slice a' zs.length c ∧ Own w.heap.size w2 (.slice a' zs.length c) zs ∧ Nt.Can zs ∧ Nt.val zs = Nt.val za + Nt.val zb) := ⟨by
          have hl : ((s ++ [cc]).take m).length = m := by simp only [List.length_take]; omega
          have hr := HI.out.rng
          rw [HC.out] at hr
          refine ⟨(s ++ [cc]).take m, a2, c2, by rw [hl], ?_, Nt.can_take hr hm hd, ?_⟩
          · rw [hl]
            have := HO2.out
            rw [HV2.out] at this
            exact own_take this hm
          · rw [Nt.val_take hz hm]
            unfold Nt.val
            rw [List.length_append, List.length_singleton, vp_snoc]
            have h1 := HQ.out
            have h2 := HV.out
            have h3 := HN.out
            unfold Nt.val at h2
            rw [h3, h1, h2.1, h2.2]⟩
        clear hz hd hm HI HQ HV HT HO HO2
        go_wp2
        go_ret
        obtain ⟨zs, a', c, h1, h2, h3, h4⟩ := HF.out
        exact ⟨zs, a', c, congrArg Ending.returned h1, h2, h3, h4, hb2⟩

/-- After as many rounds of the reference's Sub as s has digits. -/
structure RefSubInv (za zb s : List Int) (c : Int) : Prop where
  rng : Nt.Rng s
  eq : Nt.vp s s.length - c * 4294967296 ^ s.length = Nt.vp za s.length - Nt.vp zb s.length
theorem RefSubInv.step {za zb s : List Int} {c t : Int} (h : RefSubInv za zb s c) (b : Int) (ht : t - b * 4294967296 = za.getD s.length 0 - (c + zb.getD s.length 0)) (h0 : 0 ≤ t) (h1 : t < 4294967296) :
    RefSubInv za zb (s ++ [t]) b := by
  refine ⟨rng_snoc h.rng h0 h1, ?_⟩
  have e := h.eq
  rw [List.length_append, List.length_singleton, vp_snoc, Nt.vp_step, Nt.vp_step, Nt.pw_succ]
  generalize (4294967296 : Int) ^ s.length = P at *
  grind

set_option maxHeartbeats 4000000 in
theorem refSub24 (a b : Option Addr) (ca cb : Nat) (za zb : List Int) (w : World) (ha : Lie w a za) (hb : Lie w b zb) (ra : Nt.Rng za) (rb : Nt.Rng zb) (hna : za.length ≤ 4000000) (hle : zb.length ≤ za.length) (hv : Nt.val zb ≤ Nt.val za) :
    Calls Tryz.prog 102 #[.slice a za.length ca, .slice b zb.length cb] w fun e w' => ∃ zs a' c, e = .returned (.slice a' zs.length c) ∧ Own w.heap.size w' (.slice a' zs.length c) zs ∧ Nt.Can zs ∧ Nt.val zs = Nt.val za - Nt.val zb ∧ Below w.heap.size w w' := by
  have HA := Hide.mk ha
  have HB := Hide.mk hb
  have RA := Hide.mk ra
  have RB := Hide.mk rb
  have HV := Hide.mk hv
  clear ha hb ra rb hv
  go_enter Tryz.func102, Tryz.ntmps102
  go_wp2
  go_loopw [5, 6, 7] (fun v c i wr => ∃ (s : List Int) (cc : Int), s.length ≤ za.length ∧ i = .int .i64 (s.length : Int) ∧ c = .int .u64 cc ∧ 0 ≤ cc ∧ cc ≤ 1 ∧ Own w.heap.size wr v s ∧ RefSubInv za zb s cc ∧ Below w.heap.size w wr) (fun _ _ i _ => za.length - (intOf i).toNat)
  case atStart => exact ⟨[], 0, Nat.zero_le _, rfl, rfl, by decide, by decide, Own.nil _ _, ⟨Nt.rng_nil, by simp [Nt.vp]⟩, Below.refl _ _⟩
  case round =>
    obtain ⟨s, cc, hk, rfl, rfl, hc0, hc1, hown, hinv, hbel⟩ := hrel
    by_cases hlt : s.length < za.length
    · obtain ⟨ba, oa, rfl⟩ := lie_some HA.out (by omega)
      have hca := lie_cell (HA.out.below hbel (Nat.le_refl _)) rfl hlt
      have hra := RA.out s.length
      by_cases hlt2 : s.length < zb.length
      · obtain ⟨bb, ob, rfl⟩ := lie_some HB.out (by omega)
        have hcb := lie_cell (HB.out.below hbel (Nat.le_refl _)) rfl hlt2
        have hrb := RB.out s.length
        have HS := fun t b => Hide.mk (fun h0 h1 h2 => hinv.step (t := t) b h0 h1 h2)
        have HO := Hide.mk hown
        clear hinv hown
        generalize hn : s.length = n at *
        have HN := Hide.mk hn
        clear hn
        generalize za.getD n 0 = x at *
        generalize zb.getD n 0 = y at *
        by_cases hxy : x < cc + y
        · have HI := Hide.mk ((HS (x + 4294967296 - (cc + y)) 1).out (by omega) (by omega) (by omega))
          clear HS
          go_wp2_with (at_builtin; refine app1 rfl (.tmp 38) (.tmp 43) rfl w.heap.size _ s (x + 4294967296 - (cc + y)) wr.heap.size rfl rfl (own_alloc HO.out _) (cell_new1 _ _) (by have := HN.out; omega) (by have := hbel.size; simp; omega) ?_; intro v2 w2 hown2 hgrow)
          have hb2 := own_push HO.out hgrow hbel (by have := hbel.size; omega)
          have HO2 := Hide.mk hown2
          clear hown2 hgrow
          go_wp2
          go_roundw
          case rel => exact ⟨_, 1, by rw [List.length_append, List.length_singleton, HN.out]; omega, by rw [List.length_append, List.length_singleton, HN.out]; go_num, rfl, by omega, by omega, HO2.out, HI.out, hb2⟩
          case measure => simp [intOf]; omega
        · have HI := Hide.mk ((HS (x - (cc + y)) 0).out (by omega) (by omega) (by omega))
          clear HS
          go_wp2_with (at_builtin; refine app1 rfl (.tmp 38) (.tmp 43) rfl w.heap.size _ s (x - (cc + y)) wr.heap.size rfl rfl (own_alloc HO.out _) (cell_new1 _ _) (by have := HN.out; omega) (by have := hbel.size; simp; omega) ?_; intro v2 w2 hown2 hgrow)
          have hb2 := own_push HO.out hgrow hbel (by have := hbel.size; omega)
          have HO2 := Hide.mk hown2
          clear hown2 hgrow
          go_wp2
          go_roundw
          case rel => exact ⟨_, 0, by rw [List.length_append, List.length_singleton, HN.out]; omega, by rw [List.length_append, List.length_singleton, HN.out]; go_num, rfl, by omega, by omega, HO2.out, HI.out, hb2⟩
          case measure => simp [intOf]; omega
      · have HS := fun t b => Hide.mk (fun h0 h1 h2 => hinv.step (t := t) b h0 h1 h2)
        rw [getD_past (s := zb) (show zb.length ≤ s.length by omega)] at HS
        have HO := Hide.mk hown
        clear hinv hown
        generalize hn : s.length = n at *
        have HN := Hide.mk hn
        clear hn
        generalize za.getD n 0 = x at *
        by_cases hxy : x < cc
        · have HI := Hide.mk ((HS (x + 4294967296 - cc) 1).out (by omega) (by omega) (by omega))
          clear HS
          go_wp2_with (at_builtin; refine app1 rfl (.tmp 38) (.tmp 43) rfl w.heap.size _ s (x + 4294967296 - cc) wr.heap.size rfl rfl (own_alloc HO.out _) (cell_new1 _ _) (by have := HN.out; omega) (by have := hbel.size; simp; omega) ?_; intro v2 w2 hown2 hgrow)
          have hb2 := own_push HO.out hgrow hbel (by have := hbel.size; omega)
          have HO2 := Hide.mk hown2
          clear hown2 hgrow
          go_wp2
          go_roundw
          case rel => exact ⟨_, 1, by rw [List.length_append, List.length_singleton, HN.out]; omega, by rw [List.length_append, List.length_singleton, HN.out]; go_num, rfl, by omega, by omega, HO2.out, HI.out, hb2⟩
          case measure => simp [intOf]; omega
        · have HI := Hide.mk ((HS (x - cc) 0).out (by omega) (by omega) (by omega))
          clear HS
          go_wp2_with (at_builtin; refine app1 rfl (.tmp 38) (.tmp 43) rfl w.heap.size _ s (x - cc) wr.heap.size rfl rfl (own_alloc HO.out _) (cell_new1 _ _) (by have := HN.out; omega) (by have := hbel.size; simp; omega) ?_; intro v2 w2 hown2 hgrow)
          have hb2 := own_push HO.out hgrow hbel (by have := hbel.size; omega)
          have HO2 := Hide.mk hown2
          clear hown2 hgrow
          go_wp2
          go_roundw
          case rel => exact ⟨_, 0, by rw [List.length_append, List.length_singleton, HN.out]; omega, by rw [List.length_append, List.length_singleton, HN.out]; go_num, rfl, by omega, by omega, HO2.out, HI.out, hb2⟩
          case measure => simp [intOf]; omega
    · have HF : Hide (Nt.Rng s ∧ Nt.val s = Nt.val za - Nt.val zb) := ⟨by
        have hn : s.length = za.length := by omega
        have e := hinv.eq
        have hb := (Nt.vp_bd hinv.rng s.length).2
        have h3 : Nt.vp za s.length = Nt.val za := by rw [hn]; rfl
        have h4 : Nt.vp zb s.length = Nt.val zb := (Nt.val_vp (by omega)).symm
        have hv := HV.out
        have hc : cc = 0 := by
          by_cases c : cc = 0
          · exact c
          · have : cc = 1 := by omega
            subst this
            omega
        subst hc
        refine ⟨hinv.rng, ?_⟩
        show Nt.vp s s.length = _
        omega⟩
      obtain ⟨a2, c2, hv2, h1, h2, hl2⟩ := hown.lie
      have HO := Hide.mk hown
      have HT := Hide.mk (trim36 a2 c2 _ wr hl2 h1 h2)
      clear hown hinv hl2 h1 h2
      subst hv2
      go_wp2_with fail
      refine HT.out.mono ?_
      rintro e w' ⟨rfl, m, hm, rfl, hz, hd⟩
      have HG : Hide (∃ zs a' c, Value.slice a2 m c2 = .slice a' zs.length c ∧ Own w.heap.size wr (.slice a' zs.length c) zs ∧ Nt.Can zs ∧ Nt.val zs = Nt.val za - Nt.val zb) := ⟨by
        have hl : (s.take m).length = m := by simp only [List.length_take]; omega
        refine ⟨s.take m, a2, c2, by rw [hl], ?_, Nt.can_take HF.out.1 hm hd, ?_⟩
        · rw [hl]; exact own_take HO.out hm
        · rw [Nt.val_take hz hm]; exact HF.out.2⟩
      clear hz hd hm HT HO HF
      go_wp2
      go_ret
      obtain ⟨zs, a', c, h1, h2, h3, h4⟩ := HG.out
      exact ⟨zs, a', c, congrArg Ending.returned h1, h2, h3, h4, hbel⟩

/-- The memory of an answer is written over: nothing else turns. -/
theorem Own.blk {B : Nat} {w : World} {v : Value} {zs : List Int} (h : Own B w v zs) : (v = .slice none 0 0 ∧ zs = []) ∨ ∃ g cap cur, v = .slice (some ⟨g, 0, none⟩) zs.length cap ∧ B ≤ g ∧ w.heap[g]? = some (.cells cur 108 (0, 0)) ∧ zs.length ≤ cur.size := by
  have h1 := h.1
  rcases h.2 with ⟨hv, h0⟩ | ⟨g, cap, cur, hv, hB, hg, hn, _, hsz, _⟩
  · exact .inl ⟨hv, List.length_eq_zero_iff.1 h0⟩
  · exact .inr ⟨g, cap, cur, hv, hB, hg, by omega⟩


end Go.Proofs.YtdnghibkagcbcaaGreatDoor
