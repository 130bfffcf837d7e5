import Derived.Test.YtdnghibkagcbcaaGreatDoorRoundBetweenPart6
import Derived.RegionTactic
import Derived.Below
import Derived.Laws.ResultCell
import Derived.Laws.Rows
namespace Go.Proofs.YtdnghibkagcbcaaGreatDoor
set_option linter.unusedVariables false
/-- The whole part of x by y, times 2^i, and whether there is more. -/
def qf (x y i : Int) : Int := x * 2 ^ i.toNat / (y * 2 ^ (-i).toNat)
def qg (x y i : Int) : Bool := decide (x * 2 ^ i.toNat % (y * 2 ^ (-i).toNat) ≠ 0)
theorem cut_div {N D : Int} (hD : 0 < D) (d : Nat) : N / (D * 2 ^ d) = N / D / 2 ^ d := (Int.ediv_ediv_of_nonneg (by omega)).symm
theorem dec_or {a b c : Int} (hD : 0 < a) (hb : 0 ≤ b) (hc : 0 ≤ c) : decide (a * b + c ≠ 0) = (decide (b ≠ 0) || decide (c ≠ 0)) := by
  by_cases h1 : b = 0
  · subst h1; simp
  · have : 0 < a * b := Int.mul_pos hD (by omega)
    have e1 : decide (a * b + c ≠ 0) = true := decide_eq_true (by omega)
    have e2 : decide (b ≠ 0) = true := decide_eq_true h1
    rw [e1, e2]; rfl
theorem mod_split {N D : Int} (hD : 0 < D) (d : Nat) : N % (D * 2 ^ d) = D * (N / D % 2 ^ d) + N % D := by
  have hp := p2pos d
  have h1 := Int.emod_nonneg (N / D) (show (2 : Int) ^ d ≠ 0 by omega)
  have h2 := Int.emod_lt_of_pos (N / D) hp
  have h3 := Int.emod_nonneg N (show D ≠ 0 by omega)
  have h4 := Int.emod_lt_of_pos N hD
  have e1 := Int.mul_ediv_add_emod N D
  have e2 := Int.mul_ediv_add_emod (N / D) (2 ^ d)
  generalize N / D = q at *
  generalize N % D = r at *
  generalize q % 2 ^ d = u at *
  generalize q / 2 ^ d = v at *
  have e3 : N = (D * u + r) + D * 2 ^ d * v := by rw [← e1, ← e2, Int.mul_add, ← Int.mul_assoc]; omega
  rw [e3, Int.add_mul_emod_self_left]
  refine Int.emod_eq_of_lt (by have := Int.mul_nonneg (show 0 ≤ D by omega) h1; omega) ?_
  have : D * u + D ≤ D * 2 ^ d := by
    have := Int.mul_le_mul_of_nonneg_left (show u + 1 ≤ 2 ^ d by omega) (show 0 ≤ D by omega)
    rw [Int.mul_add, Int.mul_one] at this; exact this
  omega
theorem cut_mod {N D : Int} (hD : 0 < D) (d : Nat) : decide (N % (D * 2 ^ d) ≠ 0) = (decide (N / D % 2 ^ d ≠ 0) || decide (N % D ≠ 0)) := by
  rw [mod_split hD]
  exact dec_or hD (Int.emod_nonneg _ (by have := p2pos d; omega)) (Int.emod_nonneg _ (by omega))
theorem q_split (x y i : Int) (d : Nat) : ∃ c : Nat, x * 2 ^ i.toNat = x * 2 ^ (i - d).toNat * 2 ^ c ∧ y * 2 ^ (-i).toNat * 2 ^ d = y * 2 ^ (-(i - d)).toNat * 2 ^ c := by
  refine ⟨i.toNat - (i - d).toNat, ?_, ?_⟩
  · rw [Int.mul_assoc, ← Int.pow_add]; congr 2; omega
  · rw [Int.mul_assoc, Int.mul_assoc, ← Int.pow_add, ← Int.pow_add]; congr 2; omega
theorem qf_down (x y : Int) (hy : 0 < y) (i : Int) (d : Nat) : qf x y (i - d) = qf x y i / 2 ^ d := by
  obtain ⟨c, h1, h2⟩ := q_split x y i d
  unfold qf
  rw [← cut_div (Int.mul_pos hy (p2pos _)), h1, h2, Int.mul_ediv_mul_of_pos_left _ _ (p2pos c)]
theorem qg_down (x y : Int) (hy : 0 < y) (i : Int) (d : Nat) : qg x y (i - d) = (decide (qf x y i % 2 ^ d ≠ 0) || qg x y i) := by
  obtain ⟨c, h1, h2⟩ := q_split x y i d
  unfold qf qg
  rw [← cut_mod (Int.mul_pos hy (p2pos _)), h1, h2, Int.mul_comm (x * 2 ^ (i - d).toNat), Int.mul_comm (y * 2 ^ (-(i - d)).toNat), Int.mul_emod_mul_of_pos _ _ (p2pos c)]
  have hp := p2pos c
  generalize x * 2 ^ (i - d).toNat % (y * 2 ^ (-(i - d)).toNat) = u
  by_cases h : u = 0
  · subst h; simp
  · have e1 : decide (u ≠ 0) = true := decide_eq_true h
    have e2 : decide (2 ^ c * u ≠ 0) = true := decide_eq_true (Int.mul_ne_zero (by omega) h)
    rw [e1, e2]
theorem p2le {a b : Nat} (h : a ≤ b) : (2 : Int) ^ a ≤ 2 ^ b := by
  obtain ⟨c, rfl⟩ : ∃ c, b = a + c := ⟨b - a, by omega⟩
  rw [Int.pow_add]
  have h1 := p2pos a
  have h2 := p2pos c
  have := Int.mul_le_mul_of_nonneg_left (show 1 ≤ (2 : Int) ^ c by omega) (show 0 ≤ (2 : Int) ^ a by omega)
  omega
theorem qf_ge {x y : Int} {La Lb : Nat} (hx : Bits x La) (hy : Bits y Lb) (hy0 : 0 < y) (k : Nat) (i : Int) (h : (Lb : Int) + k + 1 ≤ La + i) : 2 ^ k ≤ qf x y i := by
  unfold qf
  rw [Int.le_ediv_iff_mul_le (Int.mul_pos hy0 (p2pos _))]
  have h1 := (hy.up (-i).toNat).lt
  have h2 := (hx.up i.toNat).le
  have h3 := Int.mul_le_mul_of_nonneg_left (Int.le_of_lt h1) (Int.le_of_lt (p2pos k))
  rw [← Int.pow_add] at h3
  have h4 := p2le (show k + (Lb + (-i).toNat) + 1 ≤ La + i.toNat by omega)
  rw [Int.pow_succ] at h4
  omega
theorem qf_lt {x y : Int} {La Lb : Nat} (hx : Bits x La) (hy : Bits y Lb) (hy0 : 0 < y) (k : Nat) (i : Int) (h : (La : Int) + i + 1 ≤ Lb + k) : qf x y i < 2 ^ k := by
  unfold qf
  refine Int.ediv_lt_of_lt_mul (Int.mul_pos hy0 (p2pos _)) ?_
  have h1 := (hy.up (-i).toNat).le
  have h2 := (hx.up i.toNat).lt
  have h3 := Int.mul_le_mul_of_nonneg_left h1 (Int.le_of_lt (p2pos k))
  rw [← Int.pow_add] at h3
  have h4 := p2le (show La + i.toNat + 1 ≤ k + (Lb + (-i).toNat) by omega)
  rw [Int.pow_succ] at h4
  have e : (2 : Int) ^ k * (2 * (y * 2 ^ (-i).toNat)) = 2 * (2 ^ k * (y * 2 ^ (-i).toNat)) := by grind
  omega
theorem bl_ge {x : Int} {B k : Nat} (h : BitLen x B) (h1 : 2 ^ k ≤ x) : k < B := by
  have := p2pos k
  rcases h with ⟨h, rfl⟩ | ⟨h0, h⟩
  · omega
  · refine Classical.byContradiction fun c => ?_
    have := p2le (show B ≤ k by omega)
    have := h.lt
    omega
theorem bl_le {x : Int} {B k : Nat} (h : BitLen x B) (h1 : x < 2 ^ k) : B ≤ k := by
  rcases h with ⟨h, rfl⟩ | ⟨h0, h⟩
  · omega
  · refine Classical.byContradiction fun c => ?_
    have := p2le (show k + 1 ≤ B by omega)
    rw [Int.pow_succ] at this
    have := h.le
    omega
/-- Numbers cut at every place: what is cut at one is what is cut at a finer one, cut again. -/
structure Fam (P : Int → Int → Bool → Prop) : Prop where
  down : ∀ i r g (d : Nat), P i r g → P (i - d) (r / 2 ^ d) (decide (r % 2 ^ d ≠ 0) || g)
  uniq : ∀ i r g s h, P i r g → P i s h → r = s ∧ g = h
theorem Fam.idx {P : Int → Int → Bool → Prop} (F : Fam P) {i j r s : Int} {g h : Bool} {B : Nat} (p1 : P i r g) (p2 : P j s h) (b1 : BitLen r B) (b2 : BitLen s B) (hB : 0 < B) : i = j := by
  have key : ∀ {i j r s : Int} {g h : Bool}, P i r g → P j s h → BitLen r B → BitLen s B → ¬ i < j := by
    intro i j r s g h p1 p2 b1 b2 hlt
    obtain ⟨d, hd⟩ : ∃ d : Nat, i = j - d := ⟨(j - i).toNat, by omega⟩
    have p3 := F.down j s h d p2
    rw [← hd] at p3
    have e := (F.uniq _ _ _ _ _ p1 p3).1
    subst e
    have := b1.unique (b2.down d)
    omega
  have h1 := key p1 p2 b1 b2
  have h2 := key p2 p1 b2 b1
  omega
theorem qFam (x y : Int) (hy : 0 < y) : Fam fun i r g => r = qf x y i ∧ g = qg x y i :=
  ⟨fun i r g d ⟨h1, h2⟩ => ⟨by rw [h1, qf_down x y hy], by rw [h1, h2, qg_down x y hy]⟩, fun i r g s h ⟨h1, h2⟩ ⟨k1, k2⟩ => ⟨by rw [h1, k1], by rw [h2, k2]⟩⟩
/-- The whole root of x times 2^(e + 2 i), and whether there is more. -/
structure RtAt (x e i r : Int) (g : Bool) : Prop where
  nn : 0 ≤ r
  le : r * r * 2 ^ (-(e + 2 * i)).toNat ≤ x * 2 ^ (e + 2 * i).toNat
  lt : x * 2 ^ (e + 2 * i).toNat < (r + 1) * (r + 1) * 2 ^ (-(e + 2 * i)).toNat
  fl : g = decide (r * r * 2 ^ (-(e + 2 * i)).toNat ≠ x * 2 ^ (e + 2 * i).toNat)
end Go.Proofs.YtdnghibkagcbcaaGreatDoor

/-
  A region that draws its order, where what it reads stays as it is: the reads may be taken first. I tells what every world on the way keeps.
-/
set_option linter.unusedVariables false
namespace Go.Drawn
open Go
section
variable {P : Program} {ops : Array Oper} {Q : Exit → Act → World → Prop} {md : Region.Mode} {I : World → Prop}
/-- Whatever order: the end holds, and each world on the way keeps I. -/
def wpIn (P : Program) (md : Region.Mode) (ops : Array Oper) (Q : Exit → Act → World → Prop) (I : World → Prop) : Nat → Array Bool → Act → World → Prop
  | 0, listed, a, w => Region.ready md ops listed = [] ∧ Q .normal a w
  | n + 1, listed, a, w => (Region.ready md ops listed = [] → Q .normal a w) ∧
      ∀ i ∈ Region.ready md ops listed, wpOp P ops Q i (fun a' w' => I w' ∧ wpIn P md ops Q I n (listed.setIfInBounds i true) a' w') a w
theorem wpIn.any : ∀ {n : Nat} {listed : Array Bool} {a : Act} {w : World}, wpIn P md ops Q I n listed a w → wpAny P md ops Q n listed a w
  | 0, _, _, _, h => h
  | n + 1, _, _, _, h => ⟨h.1, fun i hi => wpOp_mono (fun _ _ hh => wpIn.any hh.2) (h.2 i hi)⟩
/-- What an operation leaves of the frame. -/
theorem wpOp_acts {j : Nat} {o : Oper} (hj : ops[j]? = some o) {K : Act → World → Prop} {a : Act} {w : World} (h : wpOp P ops Q j K a w) :
    wpOp P ops Q j (fun a' w' => (∃ u ds, a' = { a.put o.dst u with defers := ds }) ∧ K a' w') a w := by
  unfold wpOp at *
  simp only [hj] at *
  by_cases hw : Region.wanted o (yielded ops a.tmps) = true
  · rw [if_pos hw] at h ⊢
    refine h.imp (fun hh => ?_) id
    unfold Oper.wp at *
    cases hr : (execOp a.eval o).run P w with
    | ok n w' =>
      rw [hr] at hh
      cases n <;> simp only [Oper.upon] at hh ⊢
      case value u => exact ⟨⟨u, _, rfl⟩, hh⟩
      case skip => exact ⟨⟨undef, _, rfl⟩, hh⟩
      case defer d => exact ⟨⟨undef, d :: a.defers, by cases o.dst <;> rfl⟩, hh⟩
      case enter f args =>
        refine Calls.mono hh fun e w'' he => ?_
        cases e with
        | returned u => exact ⟨⟨u, _, rfl⟩, he⟩
        | panicked c => exact he
        | outgrown => exact he
      case row r args => exact Rows.mono hh fun u w'' he => ⟨⟨u, _, rfl⟩, he⟩
    | halt x w' =>
      rw [hr] at hh
      cases x <;> first | exact hh | (simp only [Oper.upon] at hh ⊢; exact hh)
  · rw [if_neg hw] at h ⊢
    exact ⟨⟨undef, _, rfl⟩, h⟩
/-- In every world that keeps I the operation yields v, or it is not wanted. -/
def YieldsIn (P : Program) (ops : Array Oper) (I : World → Prop) (o : Oper) (v : Value) (a : Act) : Prop :=
  (Region.wanted o (yielded ops a.tmps) = true ∧ ∀ w, I w → (execOp a.eval o).run P w = .ok (.value v) w) ∨ (Region.wanted o (yielded ops a.tmps) = false ∧ v = undef)
theorem YieldsIn.op {i : Nat} {o : Oper} {v : Value} {a : Act} {w : World} (hi : ops[i]? = some o) (hy : YieldsIn P ops I o v a) (hI : I w) {K : Act → World → Prop} (h : K (a.put o.dst v) w) : wpOp P ops Q i K a w := by
  unfold wpOp
  rcases hy with hy | ⟨hy, rfl⟩
  · simp only [hi, hy.1, if_true]
    refine .inl ?_
    unfold Oper.wp
    rw [hy.2 w hI]
    exact h
  · simp only [hi, hy]
    exact h
/-- The same place, filled by a constant. -/
def still (o : Oper) (v : Value) : Oper := { o with op := .move (.const v), guard := none }
theorem still_yields (o : Oper) (v : Value) (a : Act) : Yields P ops (still o v) v a := .inl ⟨rfl, fun _ => rfl⟩
theorem still_apart {o oj : Oper} (v : Value) (h : o.apart ops oj = true) : (still o v).apart ops oj = true := by
  unfold Oper.apart at *
  rw [Bool.and_eq_true] at h ⊢
  refine ⟨h.1, ?_⟩
  have e : (still o v).looksAt ops = [] := rfl
  rw [e]
  cases oj.dst <;> rfl
theorem take_first {i : Nat} {oi : Oper} {v : Value} (hi : ops[i]? = some oi) (hsel : ∀ (j : Nat) (o : Oper) cs b, ops[j]? = some o → o.op ≠ .select cs b)
    (hQ : ∀ c a w, Q (.panic c) (a.put oi.dst v) w → Q (.panic c) a w) :
    ∀ (n : Nat) (listed : Array Bool) (a : Act) (w : World),
      (∀ j oj, ops[j]? = some oj → j ≠ i → listed.getD j true = false → (∀ e ∈ oj.after, Region.binds md e = true → e.on ≠ i) → oi.apart ops oj = true) →
      i ∈ Region.ready md ops listed → YieldsIn P ops I oi v a → I w →
      wpIn P md ops Q I n (listed.setIfInBounds i true) (a.put oi.dst v) w → wpIn P md ops Q I (n + 1) listed a w := by
  intro n
  induction n with
  | zero =>
    intro listed a w _ hr hy hI H
    refine ⟨fun h => by rw [h] at hr; exact absurd hr (by simp), fun j hj => ?_⟩
    by_cases c : j = i
    · subst c; exact hy.op hi hI ⟨hI, H⟩
    · have := ready_mono hj c
      rw [H.1] at this
      exact absurd this (by simp)
  | succ n ih =>
    intro listed a w hfree hr hy hI H
    refine ⟨fun h => by rw [h] at hr; exact absurd hr (by simp), fun j hj => ?_⟩
    by_cases c : j = i
    · subst c; exact hy.op hi hI ⟨hI, H⟩
    · obtain ⟨hjun, oj, hoj, hall⟩ := mem_ready.1 hj
      have hnot : ∀ e ∈ oj.after, Region.binds md e = true → e.on ≠ i := by
        intro e he hb heq
        have h1 := hall e he hb
        have h0 := (mem_ready.1 hr).1
        rw [heq] at h1
        simp only [Array.getD_eq_getD_getElem?] at h0 h1
        cases hx : listed[i]? with
        | none => rw [hx] at h1; simp at h1
        | some q => rw [hx] at h0 h1; simp at h0 h1; rw [h0] at h1; cases h1
      have hap := hfree j oj hoj c hjun hnot
      have h2 := wpOp_acts hoj (wpOp_put (oi := still oi v) hoj (still_apart v hap) (fun cs b h => by cases h) (fun cs b => hsel j oj cs b hoj) hQ (still_yields oi v a) (H.2 j (ready_mono hj c)))
      refine wpOp_mono (fun a' w' h3 => ?_) h2
      obtain ⟨⟨u, ds, rfl⟩, _, hI', H'⟩ := h3
      obtain ⟨_, _, h5⟩ := Oper.apart_spec hap
      refine ⟨hI', ih _ _ _ ?_ (ready_mono hr (Ne.symm c)) ?_ hI' ?_⟩
      · intro k ok hk hki hun hno
        refine hfree k ok hk hki ?_ hno
        by_cases e : j = k
        · subst e; exact hjun
        · rw [getD_set_ne true e] at hun; exact hun
      · rcases hy with hy | ⟨hy, hv⟩
        · refine .inl ⟨?_, fun w'' hw'' => ?_⟩
          · have := wanted_put oi a oj.dst u h5
            rw [← hy.1]; exact this
          · have e : execOp (Act.eval { a.put oj.dst u with defers := ds }) oi = execOp a.eval oi := execOp_put oi (fun cs b => hsel i oi cs b hi) a oj.dst u h5
            rw [e]; exact hy.2 w'' hw''
        · have := wanted_put oi a oj.dst u h5
          exact .inr ⟨by rw [← hy]; exact this, hv⟩
      · rw [Array.setIfInBounds_comm _ _ c]
        exact H'
/-- A read that is ready is taken. -/
theorem take {i : Nat} {oi : Oper} {v : Value} {n : Nat} {listed : Array Bool} {a : Act} {w : World} (hi : ops[i]? = some oi)
    (hs : Region.noSelect ops = true) (hf : Region.free md ops listed i = true) (hr : (Region.ready md ops listed).contains i = true)
    (hQ : ∀ c a w, Q (.panic c) (a.put oi.dst v) w → Q (.panic c) a w) (hw : Region.wanted oi (yielded ops a.tmps) = true) (hy : ∀ w, I w → (execOp a.eval oi).run P w = .ok (.value v) w) (hI : I w)
    (h : wpIn P md ops Q I n (listed.setIfInBounds i true) (a.put oi.dst v) w) : wpIn P md ops Q I (n + 1) listed a w :=
  take_first hi (Region.noSelect_spec hs) hQ n listed a w (Region.free_spec hi hf) (by simpa using hr) (.inl ⟨hw, hy⟩) hI h
/-- An operation that is ready and not wanted is passed by. -/
theorem skip {i : Nat} {oi : Oper} {n : Nat} {listed : Array Bool} {a : Act} {w : World} (hi : ops[i]? = some oi)
    (hs : Region.noSelect ops = true) (hf : Region.free md ops listed i = true) (hr : (Region.ready md ops listed).contains i = true)
    (hQ : ∀ c a w, Q (.panic c) (a.put oi.dst undef) w → Q (.panic c) a w) (hw : Region.wanted oi (yielded ops a.tmps) = false) (hI : I w)
    (h : wpIn P md ops Q I n (listed.setIfInBounds i true) (a.put oi.dst undef) w) : wpIn P md ops Q I (n + 1) listed a w :=
  take_first hi (Region.noSelect_spec hs) hQ n listed a w (Region.free_spec hi hf) (by simpa using hr) (.inr ⟨hw, rfl⟩) hI h
/-- As take and skip, what the kernel sees by itself left out. -/
theorem tk {i : Nat} {oi : Oper} {v : Value} {n : Nat} {listed : Array Bool} {a : Act} {w : World} (hi : ops[i]? = some oi)
    (hy : ∀ w, I w → (execOp a.eval oi).run P w = .ok (.value v) w) (hI : I w) (h : wpIn P md ops Q I n (listed.setIfInBounds i true) (a.put oi.dst v) w)
    (hs : Region.noSelect ops = true := by kernel_rfl) (hf : Region.free md ops listed i = true := by kernel_rfl) (hr : (Region.ready md ops listed).contains i = true := by kernel_rfl)
    (hQ : ∀ c a w, Q (.panic c) (a.put oi.dst v) w → Q (.panic c) a w := by exact fun _ _ _ h => h) (hw : Region.wanted oi (yielded ops a.tmps) = true := by kernel_rfl) : wpIn P md ops Q I (n + 1) listed a w :=
  take hi hs hf hr hQ hw hy hI h
/-- The one operation that is ready. -/
theorem one {j : Nat} {o : Oper} {n : Nat} {listed : Array Bool} {a : Act} {w : World} (hr : Region.ready md ops listed = [j]) (hj : ops[j]? = some o)
    (h : ∀ K : Act → World → Prop, (∀ a w, I w → wpIn P md ops Q I n (listed.setIfInBounds j true) a w → K a w) → if Region.wanted o (yielded ops a.tmps) = true then Oper.wp P o a w K Q else K (a.put o.dst undef) w) :
    wpIn P md ops Q I (n + 1) listed a w := by
  refine ⟨fun h0 => absurd (hr.symm.trans h0) (by simp), fun i hi => ?_⟩
  rw [hr] at hi
  obtain rfl := List.mem_singleton.1 hi
  exact wpOp_step hj (fun K hK => h K fun a w h1 h2 => hK a w ⟨h1, h2⟩)
theorem done {n : Nat} {listed : Array Bool} {a : Act} {w : World} (hr : Region.ready md ops listed = []) (h : Q .normal a w) : wpIn P md ops Q I n listed a w := by
  cases n with
  | zero => exact ⟨hr, h⟩
  | succ n => exact ⟨fun _ => h, fun i hi => by rw [hr] at hi; cases hi⟩
theorem enter {id : Nat} {a : Act} {w : World} (I : World → Prop) (hm : P.follows .mixedOrders = true)
    (h : wpIn P .any ops Q I ops.size (Array.replicate ops.size false) a w.drew) : (Code.region id ops true).wp P Q a w := wp_region_any hm h.any
end
end Go.Drawn

namespace Go.Proofs.YtdnghibkagcbcaaGreatDoor
open Go.RowKit
set_option linter.unusedVariables false
set_option maxRecDepth 3000
theorem isNought99 (a : Option Addr) (n cap : Nat) (w : World) (q : Bool) (hq : decide (n = 0) = q) :
    Calls Tryz.prog 74 #[.slice a n cap] w fun e w' => e = .returned (.bool q) ∧ w = w' := by
  go_enter Tryz.func74, Tryz.ntmps74
  go_wp2
  go_ret
  refine ⟨?_, rfl⟩
  rw [← hq]
  have : ((n : Int) == 0) = decide (n = 0) := by
    by_cases c : n = 0
    · subst c; rfl
    · rw [decide_eq_false c]; exact beq_eq_false_iff_ne.2 (by omega)
  simp [this]
theorem nought_yes (a : Option Addr) (n cap : Nat) (w : World) (h : n ≤ 0) :
    Calls Tryz.prog 74 #[.slice a n cap] w fun e w' => e = .returned (.bool true) ∧ w = w' := isNought99 a n cap w true (by simp; omega)
theorem nought_no (a : Option Addr) (n cap : Nat) (w : World) (h : 0 < n) :
    Calls Tryz.prog 74 #[.slice a n cap] w fun e w' => e = .returned (.bool false) ∧ w = w' := isNought99 a n cap w false (by simp; omega)
theorem shiftedU (a : Option Addr) (ca : Nat) (za : List Int) (w : World) {x : Int} (ha : Lie w a za) (ga : Good za x) (M : Int) (n : Nat) (hM : M = (n : Int)) (hf : x * 2 ^ n < 4294967296 ^ 4096) :
    Calls Tryz.prog 135 #[.slice a za.length ca, .int .i64 M] w fun e w' => ∃ zs a' c, e = .returned (.slice a' zs.length c) ∧ IsNum w w' a' zs (x * 2 ^ n) ∧ Own w.heap.size w' (.slice a' zs.length c) zs := by
  have HS := Hide.mk (shiftUi a ca za w ha ga M n hM hf)
  clear ha hM hf
  go_enter Tryz.func135, Tryz.ntmps135
  go_wp2_with fail
  refine HS.out.mono ?_
  rintro e w' ⟨zs, a', c, rfl, h1, h2⟩
  have H := Hide.mk (And.intro h1 h2)
  clear h1 h2 HS
  go_wp2
  go_ret
  exact ⟨zs, a', c, rfl, H.out.1, H.out.2⟩
theorem shiftedD (a : Option Addr) (ca : Nat) (za : List Int) (w : World) {x : Int} (ha : Lie w a za) (ga : Good za x) (M : Int) (n : Nat) (hM : M = -(n : Int)) (hn : n ≤ 9223372036854775808) (hT : Tab w) :
    Calls Tryz.prog 135 #[.slice a za.length ca, .int .i64 M] w fun e w' => ∃ zs a' c, e = .returned (.slice a' zs.length c) ∧ IsNum w w' a' zs (x / 2 ^ n) ∧ Own w.heap.size w' (.slice a' zs.length c) zs := by
  have HS := Hide.mk (shiftDi a ca za w ha ga M n hM hn hT _ rfl)
  clear ha hM hn hT
  generalize decide (x % 2 ^ n ≠ 0) = q at *
  go_enter Tryz.func135, Tryz.ntmps135
  go_wp2_with fail
  refine HS.out.mono ?_
  rintro e w' ⟨zs, a', c, rfl, h1, h2⟩
  have H := Hide.mk (And.intro h1 h2)
  clear h1 h2 HS
  go_wp2
  go_ret
  exact ⟨zs, a', c, rfl, H.out.1, H.out.2⟩
theorem Tryz.size44 : (Tryz.prog.info? 26).map (·.size) = some 3 := by kernel_rfl
/-- The block g holds a number's three cells. -/
def DCell (w : World) (g : Nat) (cs : Array Value) : Prop := w.heap[g]? = some (.cells cs 26 (0, 0)) ∧ cs.size = 3
theorem load_D (w : World) (g : Nat) (cs : Array Value) (h : DCell w g cs) : (loadVar 26 ⟨g, 0, none⟩).run Tryz.prog w = .ok (.agg cs) w := by
  exact run_loadVar_row w g 26 26 cs (0, 0) _ h.1 Tryz.underlying26 rfl (by rw [Tryz.size44, h.2])
theorem results_D2 {fn : Func} {p u : Tmp} (h : fn.results = #[.cell p 26, .tmp u]) (tmps : Array Value) (w : World) (g : Nat) (cs : Array Value) (hp : tmps.getD p undef = .pointer (some ⟨g, 0, none⟩)) (hg : DCell w g cs) :
    (results fn tmps).run Tryz.prog w = .ok (.tuple #[.agg cs, tmps.getD u undef]) w := by
  rw [results_cell_tmp h, hp]
  simp [asAddr, load_D w g cs hg]
theorem results_D1 {fn : Func} {p : Tmp} (h : fn.results = #[.cell p 26]) (tmps : Array Value) (w : World) (g : Nat) (cs : Array Value) (hp : tmps.getD p undef = .pointer (some ⟨g, 0, none⟩)) (hg : DCell w g cs) :
    (results fn tmps).run Tryz.prog w = .ok (.agg cs) w := by
  exact results_cell_row h tmps w g 26 cs (0, 0) _ hp hg.1 Tryz.underlying26 rfl (by rw [Tryz.size44, hg.2])
theorem results_D3 {fn : Func} {p u v : Tmp} (h : fn.results = #[.cell p 26, .tmp u, .tmp v]) (tmps : Array Value) (w : World) (g : Nat) (cs : Array Value) (hp : tmps.getD p undef = .pointer (some ⟨g, 0, none⟩)) (hg : DCell w g cs) :
    (results fn tmps).run Tryz.prog w = .ok (.tuple #[.agg cs, tmps.getD u undef, tmps.getD v undef]) w := by
  have hp' : tmps[p]?.getD undef = .pointer (some ⟨g, 0, none⟩) := by simpa using hp
  simp [results, h, hp', asAddr, load_D w g cs hg]
theorem dcell_new (w : World) (a b c : Value) : DCell (w.alloc (.cells #[a, b, c] 26)) w.heap.size #[a, b, c] := ⟨heap_alloc_new w _, rfl⟩
theorem DCell.below {w w' : World} {g B : Nat} {cs : Array Value} (h : DCell w g cs) (hb : Below B w w') (hg : g < B) : DCell w' g cs := ⟨(hb.block g hg).trans h.1, h.2⟩
theorem Own.setOff {B g j : Nat} {w : World} {v : Value} {zs : List Int} (h : Own B w v zs) (hg : g < B) (x : Value) : Own B (w.setCell ⟨g, j, none⟩ x) v zs := ownsRow_setCell_below h hg x
/-- A number made behind a cell of the call's own, which was then written. -/
theorem made_set {w w' : World} {o : Obj} {a : Option Addr} {c : Nat} {zs : List Int} {x : Int} (h : IsNum (w.alloc o) w' a zs x) (ho : Own (w.alloc o).heap.size w' (.slice a zs.length c) zs) (u0 u1 u2 : Value) :
    IsNum w (((w'.setCell ⟨w.heap.size, 0, none⟩ u0).setCell ⟨w.heap.size, 1, none⟩ u1).setCell ⟨w.heap.size, 2, none⟩ u2) a zs x ∧ Own w.heap.size (((w'.setCell ⟨w.heap.size, 0, none⟩ u0).setCell ⟨w.heap.size, 1, none⟩ u1).setCell ⟨w.heap.size, 2, none⟩ u2) (.slice a zs.length c) zs := by
  have hs : w.heap.size < (w.alloc o).heap.size := by simp
  have h2 := ((ho.setOff (j := 0) hs u0).setOff (j := 1) hs u1).setOff (j := 2) hs u2
  have hb : Below w.heap.size w w' := below_then (below_alloc w o) h.bel
  have hb2 := ((hb.setCell (p := ⟨w.heap.size, 0, none⟩) (Nat.le_refl _) u0).setCell (p := ⟨w.heap.size, 1, none⟩) (Nat.le_refl _) u1).setCell (p := ⟨w.heap.size, 2, none⟩) (Nat.le_refl _) u2
  obtain ⟨a2, c2, he, _, _, hl⟩ := h2.lie
  simp only [Value.slice.injEq, true_and] at he
  obtain ⟨rfl, rfl⟩ := he
  exact ⟨⟨h.can, h.len, h.val, hl, hb2⟩, h2.mono (by simp)⟩
theorem DCell.set {w : World} {g : Nat} {cs : Array Value} (h : DCell w g cs) (j : Nat) (x : Value) : DCell (w.setCell ⟨g, j, none⟩ x) g (cs.setIfInBounds j x) := by
  refine ⟨?_, by simpa using h.2⟩
  exact heap_setCell_same w g j _ 26 _ h.1
/-- No number, in the place of one. -/
abbrev noD : Value := .agg #[.bool false, .slice none 0 0, .int .i64 0]
theorem formed_nil (ng : Bool) (a : Option Addr) (n cap : Nat) (ex : Int) (w : World) (hn : n ≤ 0) :
    Calls Tryz.prog 126 #[.bool ng, .slice a n cap, .int .i64 ex] w fun e w' => e = .returned (.tuple #[noD, .int .i64 0]) ∧ Below w.heap.size w w' := by
  have HN := fun w => Hide.mk (nought_yes a n cap w hn)
  go_enter Tryz.func126, Tryz.ntmps126
  go_wp2_with fail
  refine (HN _).out.mono ?_
  rintro e w' ⟨rfl, rfl⟩
  go_wp2
  refine bodyPost_ret (results_D2 rfl _ _ w.heap.size _ rfl (dcell_new _ _ _ _)) rfl ?_
  exact ⟨rfl, below_alloc _ _⟩
set_option maxHeartbeats 1000000 in
theorem formed_ok (ng : Bool) (a : Option Addr) (ca : Nat) (za : List Int) (ex : Int) (w : World) {x : Int} (ha : Lie w a za) (ga : Good za x) (hz : 0 < za.length) {t : Nat} (ht : LowBit x t) (hT : Tab w) (h0 : -16777216 ≤ ex + t) (h1 : ex + t ≤ 16777216) :
    Calls Tryz.prog 126 #[.bool ng, .slice a za.length ca, .int .i64 ex] w fun e w' => ∃ zs a' c, e = .returned (.tuple #[.agg #[.bool ng, .slice a' zs.length c, .int .i64 (ex + t)], .int .i64 0]) ∧ IsNum w w' a' zs (x / 2 ^ t) ∧ Own w.heap.size w' (.slice a' zs.length c) zs := by
  have HN := fun w => Hide.mk (nought_no a za.length ca w hz)
  have hb1 := below_alloc w (.cells #[.bool false, .slice none 0 0, .int .i64 0] 26)
  have hd1 := dcell_new w (.bool false) (.slice none 0 0) (.int .i64 0)
  have HL := Hide.mk (lowN a ca za _ (ha.below hb1 (Nat.le_refl _)) ga hz (hT.below hb1 (Nat.le_refl _)))
  have HS := fun M hM hn => Hide.mk (shiftedD a ca za _ (ha.below hb1 (Nat.le_refl _)) ga M t hM hn (hT.below hb1 (Nat.le_refl _)))
  have Ht := Hide.mk ht
  clear ha hT ht
  go_enter Tryz.func126, Tryz.ntmps126
  go_wp2_with fail
  refine (HN _).out.mono ?_
  rintro e w' ⟨rfl, rfl⟩
  have hx1 : ex ≤ 16777216 := by omega
  have hx2 : -16908288 ≤ ex ∨ ex < -16908288 := by omega
  by_cases hx3 : -16908288 ≤ ex
  · clear hx2
    go_wp2_with fail
    refine HL.out.mono ?_
    rintro e w' ⟨rfl, t2, rfl, ht2, htl⟩
    obtain rfl := ht2.unique Ht.out
    clear ht2
    have HS2 := HS (-(t2 : Int)) rfl (by omega)
    clear HS HL HN Ht
    generalize hu : (t2 : Int) = u at *
    have hu0 : 0 ≤ u := by omega
    have hu1 : u < 131072 := by omega
    have HU := Hide.mk hu
    clear hu htl
    go_wp2_with fail
    refine HS2.out.mono ?_
    rintro e w' ⟨zs, a', c, rfl, h3, h4⟩
    have hd2 := hd1.below h3.bel (by simp)
    have H := Hide.mk (And.intro h3 h4)
    have HD := Hide.mk hd2
    clear h3 h4 HS2 hd1
    have hc0 : w'.cell? ⟨w.heap.size, 0, none⟩ = some (.bool false) := cell_of_row _ _ 0 _ 26 (0, 0) hd2.1
    have hc1 : w'.cell? ⟨w.heap.size, 1, none⟩ = some (.slice none 0 0) := cell_of_row _ _ 1 _ 26 (0, 0) hd2.1
    have hc2 : w'.cell? ⟨w.heap.size, 2, none⟩ = some (.int .i64 0) := cell_of_row _ _ 2 _ 26 (0, 0) hd2.1
    have hf0 := frozen_of_row _ _ 0 _ 26 hd2.1
    have hf1 := frozen_of_row _ _ 1 _ 26 hd2.1
    have hf2 := frozen_of_row _ _ 2 _ 26 hd2.1
    clear hd2
    go_wp2
    refine bodyPost_ret (results_D2 rfl _ _ w.heap.size _ rfl (((HD.out.set 0 _).set 1 _).set 2 _)) rfl ?_
    have hm := made_set H.out.1 H.out.2 (.bool ng) (.slice a' zs.length c) (.int .i64 (ex + u))
    exact ⟨zs, a', c, by rw [HU.out]; rfl, hm.1, hm.2⟩
  · exfalso
    have htl : t < 131072 := by
      have h2 := ga.lt.2
      rw [pw32] at h2
      have h3 := Int.emod_add_mul_ediv x (2 ^ t)
      rw [Ht.out.zero] at h3
      have h4 := Ht.out.one
      have h5 := ga.pos hz
      refine p2lt (?_ : (2 : Int) ^ t < 2 ^ 131072)
      have h6 : 1 ≤ x / 2 ^ t := by
        have := Int.ediv_nonneg (show 0 ≤ x by omega) (Int.le_of_lt (p2pos t))
        omega
      have h7 : (2 : Int) ^ t * 1 ≤ 2 ^ t * (x / 2 ^ t) := Int.mul_le_mul_of_nonneg_left h6 (Int.le_of_lt (p2pos t))
      omega
    omega

/-- A dyadic number's value in a call. -/
abbrev dV (ng : Bool) (a : Option Addr) (n c : Nat) (ex : Int) : Value := .agg #[.bool ng, .slice a n c, .int .i64 ex]
/-- May this be a dyadic number? -/
def dmayB (ng : Bool) (zs : List Int) (ex : Int) : Bool :=
  if zs.length = 0 then (!ng && ex == 0) else (mayB zs && zs.getD 0 0 % 2 == 1 && decide (-16777216 ≤ ex) && decide (ex ≤ 16777216))
theorem dmay_nil36 (ng : Bool) (a : Option Addr) (cap : Nat) (ex : Int) (w : World) (q : Bool) (hq : (!ng && ex == 0) = q) :
    Calls Tryz.prog 73 #[dV ng a 0 cap ex] w fun e w' => e = .returned (.bool q) ∧ Below w.heap.size w w' := by
  cases ng
  · by_cases h0 : ex = 0
    · subst h0
      have : q = true := by rw [← hq]; rfl
      subst this
      go_enter Tryz.func73, Tryz.ntmps73
      go_wp2
      go_ret
      exact ⟨rfl, below_alloc _ _⟩
    · have hb : (ex == 0) = false := by simp [h0]
      have : q = false := by rw [← hq, hb]; rfl
      subst this
      go_enter Tryz.func73, Tryz.ntmps73
      go_wp2
      go_ret
      exact ⟨rfl, below_alloc _ _⟩
  · have : q = false := by rw [← hq]; rfl
    subst this
    go_enter Tryz.func73, Tryz.ntmps73
    go_wp2
    go_ret
    exact ⟨rfl, below_alloc _ _⟩
set_option maxHeartbeats 1000000 in
theorem dmay_num36 (ng : Bool) (a : Option Addr) (cap : Nat) (zs : List Int) (ex : Int) (w : World) (ha : Lie w a zs) (hl : zs.length ≤ maxLen) (hr : Nt.Rng zs) (hz : 0 < zs.length) :
    Calls Tryz.prog 73 #[dV ng a zs.length cap ex] w fun e w' => e = .returned (.bool (mayB zs && zs.getD 0 0 % 2 == 1 && decide (-16777216 ≤ ex) && decide (ex ≤ 16777216))) ∧ Below w.heap.size w w' := by
  have hb := below_alloc w (.cells #[.bool ng, .slice a zs.length cap, .int .i64 ex] 26)
  have HM := fun q (h : mayB zs = q) => Hide.mk (show Calls Tryz.prog 106 #[.slice a zs.length cap] (w.alloc (.cells #[.bool ng, .slice a zs.length cap, .int .i64 ex] 26)) fun e w' => e = .returned (.bool q) ∧ (w.alloc (.cells #[.bool ng, .slice a zs.length cap, .int .i64 ex] 26)) = w' by rw [← h]; exact may13 a cap zs _ (ha.below hb (Nat.le_refl _)) hl)
  obtain ⟨b, o, rfl⟩ := lie_some ha hz
  have hc : (w.alloc (.cells #[.bool ng, .slice (some ⟨b, o, none⟩) zs.length cap, .int .i64 ex] 26)).cell? ⟨b, o, none⟩ = some (.int .u32 (zs.getD 0 0)) := lie_cell (ha.below hb (Nat.le_refl _)) rfl hz
  have h01 := hr 0
  have hand := and32_one (zs.getD 0 0) h01.1 h01.2
  have HB := Hide.mk hb
  have hne : ((zs.length : Int) == 0) = false := beq_eq_false_iff_ne.2 (by omega)
  clear ha hb hr
  generalize zs.getD 0 0 = x at *
  cases hp : mayB zs
  · have HM2 := HM false hp
    clear HM hp hc hand
    go_enter Tryz.func73, Tryz.ntmps73
    go_wp2_with fail
    refine HM2.out.mono ?_
    rintro e w' ⟨rfl, rfl⟩
    go_wp2
    go_ret
    exact ⟨rfl, HB.out⟩
  · have HM2 := HM true hp
    clear HM hp
    rw [Bool.true_and]
    by_cases hodd : x % 2 = 1
    · have ho : (x % 2 == 1) = true := by simp [hodd]
      have hand2 : (bits .and .u32 x 1 == 1) = true := by rw [hand, hodd]; rfl
      rw [ho, Bool.true_and]
      clear hand ho hodd
      by_cases h1 : -16777216 ≤ ex
      · by_cases h2 : ex ≤ 16777216
        · rw [decide_eq_true h1, decide_eq_true h2]
          go_enter Tryz.func73, Tryz.ntmps73
          go_wp2_with fail
          refine HM2.out.mono ?_
          rintro e w' ⟨rfl, rfl⟩
          go_wp2
          go_ret
          exact ⟨rfl, HB.out⟩
        · rw [decide_eq_true h1, decide_eq_false h2]
          go_enter Tryz.func73, Tryz.ntmps73
          go_wp2_with fail
          refine HM2.out.mono ?_
          rintro e w' ⟨rfl, rfl⟩
          go_wp2
          go_ret
          refine ⟨?_, HB.out⟩
          simp [h2]
      · rw [decide_eq_false h1, Bool.false_and]
        go_enter Tryz.func73, Tryz.ntmps73
        go_wp2_with fail
        refine HM2.out.mono ?_
        rintro e w' ⟨rfl, rfl⟩
        go_wp2
        go_ret
        exact ⟨rfl, HB.out⟩
    · have ho : (x % 2 == 1) = false := by simp [hodd]
      have hand2 : (bits .and .u32 x 1 == 1) = false := by rw [hand]; exact ho
      rw [ho, Bool.false_and]
      clear hand ho hodd
      go_enter Tryz.func73, Tryz.ntmps73
      go_wp2_with fail
      refine HM2.out.mono ?_
      rintro e w' ⟨rfl, rfl⟩
      go_wp2
      go_ret
      exact ⟨rfl, HB.out⟩
theorem dmay36 (ng : Bool) (a : Option Addr) (cap : Nat) (zs : List Int) (ex : Int) (w : World) (ha : Lie w a zs) (hl : zs.length ≤ maxLen) (hr : Nt.Rng zs) (q : Bool) (hq : dmayB ng zs ex = q) :
    Calls Tryz.prog 73 #[dV ng a zs.length cap ex] w fun e w' => e = .returned (.bool q) ∧ Below w.heap.size w w' := by
  by_cases hz : 0 < zs.length
  · have e : dmayB ng zs ex = (mayB zs && zs.getD 0 0 % 2 == 1 && decide (-16777216 ≤ ex) && decide (ex ≤ 16777216)) := by
      unfold dmayB; rw [if_neg (by omega)]
    rw [← hq, e]
    exact dmay_num36 ng a cap zs ex w ha hl hr hz
  · have e0 : zs = [] := List.length_eq_zero_iff.1 (by omega)
    subst e0
    exact dmay_nil36 ng a cap ex w q hq

/-- Some dyadic number that lies in memory, whatever its form. -/
structure DLie (w : World) (a : Option Addr) (zs : List Int) : Prop where
  lie : Lie w a zs
  len : zs.length ≤ maxLen
  rng : Nt.Rng zs
theorem DLie.below {w w' : World} {a : Option Addr} {zs : List Int} (h : DLie w a zs) (hb : Below w.heap.size w w') : DLie w' a zs := ⟨h.lie.below hb (Nat.le_refl _), h.len, h.rng⟩
theorem DLie.may {w : World} {a : Option Addr} {zs : List Int} (h : DLie w a zs) (ng : Bool) (cap : Nat) (ex : Int) (q : Bool) (hq : dmayB ng zs ex = q) (W : World) (hb : Below w.heap.size w W) :
    Calls Tryz.prog 73 #[dV ng a zs.length cap ex] W fun e w' => e = .returned (.bool q) ∧ Below W.heap.size W w' :=
  dmay36 ng a cap zs ex W (h.lie.below hb (Nat.le_refl _)) h.len h.rng q hq
theorem below_cell {w w' : World} {g i : Nat} {x : Value} (hb : Below w.heap.size w w') (h : w.cell? ⟨g, i, none⟩ = some x) : w'.cell? ⟨g, i, none⟩ = some x := by
  rw [hb.cell (p := ⟨g, i, none⟩) (World.block_lt_of_cell? w _ h)]; exact h
set_option maxHeartbeats 1000000 in
theorem dallMay1 (b : Nat) (n1 : Bool) (a1 : Option Addr) (c1 : Nat) (z1 : List Int) (e1 : Int) (w : World) (h1 : DLie w a1 z1) (q : Bool) (hq : dmayB n1 z1 e1 = q)
    (k0 : w.cell? ⟨b, 0, none⟩ = some (.bool n1)) (k1 : w.cell? ⟨b, 1, none⟩ = some (.slice a1 z1.length c1)) (k2 : w.cell? ⟨b, 2, none⟩ = some (.int .i64 e1)) :
    Calls Tryz.prog 129 #[.slice (some ⟨b, 0, none⟩) 1 1] w fun e w' => e = .returned (.bool q) ∧ Below w.heap.size w w' := by
  have M1 := fun W hb => Hide.mk (h1.may n1 c1 e1 q hq W hb)
  clear h1 hq
  have hb1 := below_alloc w (.cells #[.bool n1, .slice a1 z1.length c1, .int .i64 e1] 26)
  cases q
  · go_enter Tryz.func129, Tryz.ntmps129
    go_wp2
    refine wp_loop_rounds 3 ?_
    rw [rounds_succ]
    go_wp2_with fail
    refine (M1 _ hb1).out.mono ?_
    rintro e w' ⟨rfl, hb2⟩
    go_wp2_with fail
    go_ret
    exact ⟨rfl, below_then hb1 hb2⟩
  · go_enter Tryz.func129, Tryz.ntmps129
    go_wp2
    refine wp_loop_rounds 3 ?_
    rw [rounds_succ]
    go_wp2_with fail
    refine (M1 _ hb1).out.mono ?_
    rintro e w' ⟨rfl, hb2⟩
    go_wp2_with fail
    rw [rounds_succ]
    go_wp2_with fail
    go_ret
    exact ⟨rfl, below_then hb1 hb2⟩
set_option maxHeartbeats 1000000 in
theorem dallMay2 (b : Nat) (n1 : Bool) (a1 : Option Addr) (c1 : Nat) (z1 : List Int) (e1 : Int) (n2 : Bool) (a2 : Option Addr) (c2 : Nat) (z2 : List Int) (e2 : Int) (w : World) (h1 : DLie w a1 z1) (h2 : DLie w a2 z2) (q1 q2 : Bool) (hq1 : dmayB n1 z1 e1 = q1) (hq2 : dmayB n2 z2 e2 = q2)
    (k0 : w.cell? ⟨b, 0, none⟩ = some (.bool n1)) (k1 : w.cell? ⟨b, 1, none⟩ = some (.slice a1 z1.length c1)) (k2 : w.cell? ⟨b, 2, none⟩ = some (.int .i64 e1))
    (k3 : w.cell? ⟨b, 3, none⟩ = some (.bool n2)) (k4 : w.cell? ⟨b, 4, none⟩ = some (.slice a2 z2.length c2)) (k5 : w.cell? ⟨b, 5, none⟩ = some (.int .i64 e2)) :
    Calls Tryz.prog 129 #[.slice (some ⟨b, 0, none⟩) 2 2] w fun e w' => e = .returned (.bool (q1 && q2)) ∧ Below w.heap.size w w' := by
  have M1 := fun W hb => Hide.mk (h1.may n1 c1 e1 q1 hq1 W hb)
  have M2 := fun W hb => Hide.mk (h2.may n2 c2 e2 q2 hq2 W hb)
  clear h1 hq1 h2 hq2
  have hb1 := below_alloc w (.cells #[.bool n1, .slice a1 z1.length c1, .int .i64 e1] 26)
  cases q1
  · go_enter Tryz.func129, Tryz.ntmps129
    go_wp2
    refine wp_loop_rounds 3 ?_
    rw [rounds_succ]
    go_wp2_with fail
    refine (M1 _ hb1).out.mono ?_
    rintro e w' ⟨rfl, hb2⟩
    go_wp2_with fail
    go_ret
    exact ⟨rfl, below_then hb1 hb2⟩
  · go_enter Tryz.func129, Tryz.ntmps129
    go_wp2
    refine wp_loop_rounds 3 ?_
    rw [rounds_succ]
    go_wp2_with fail
    refine (M1 _ hb1).out.mono ?_
    rintro e w' ⟨rfl, hb2⟩
    have hb3 := below_then hb1 hb2
    clear hb1 hb2
    replace k3 := below_cell hb3 k3
    replace k4 := below_cell hb3 k4
    replace k5 := below_cell hb3 k5
    have hb4 := below_then hb3 (below_alloc w' (.cells #[.bool n2, .slice a2 z2.length c2, .int .i64 e2] 26))
    clear k0 k1 k2
    go_wp2_with fail
    rw [rounds_succ]
    go_wp2_with fail
    refine (M2 _ hb4).out.mono ?_
    rintro e w2 ⟨rfl, hb5⟩
    have hb6 := below_then hb4 hb5
    clear hb3 hb4 hb5 k3 k4 k5 M1 M2
    cases q2
    · go_wp2_with fail
      go_ret
      exact ⟨rfl, hb6⟩
    · go_wp2_with fail
      rw [rounds_succ]
      go_wp2_with fail
      go_ret
      exact ⟨rfl, hb6⟩

/-- MaxExp. -/
def KK : Nat := 16777216
theorem KK_eq : KK = 16777216 := by unfold KK; rfl
theorem KK_int : (KK : Int) = 16777216 := by rw [KK_eq]; rfl
def sv (ng : Bool) (x : Int) : Int := if ng then -x else x
theorem sv_t (x : Int) : sv true x = -x := rfl
theorem sv_f (x : Int) : sv false x = x := rfl
theorem sv_abs (ng : Bool) {x : Int} (h : 0 ≤ x) : ((sv ng x).natAbs : Int) = x := by cases ng <;> simp only [sv_t, sv_f] <;> omega
theorem sv_zero (ng : Bool) {x : Int} : sv ng x = 0 ↔ x = 0 := by cases ng <;> simp only [sv_t, sv_f] <;> omega
theorem sv_neg (ng : Bool) {x : Int} (h : 0 < x) : decide (sv ng x < 0) = ng := by
  cases ng
  · exact decide_eq_false (by rw [sv_f]; omega)
  · exact decide_eq_true (by rw [sv_t]; omega)
def pK (ex : Int) : Int := 2 ^ (ex + KK).toNat
theorem pK_pos (ex : Int) : 0 < pK ex := Int.pow_pos (by decide)
theorem pK_add {ex : Int} (h : -(KK : Int) ≤ ex) (n : Nat) : pK (ex + n) = pK ex * 2 ^ n := by
  unfold pK
  rw [show (ex + n + KK).toNat = (ex + KK).toNat + n by omega, Int.pow_add]
/-- The value of a dyadic number, in units of 2 to the -MaxExp. -/
def dv (ng : Bool) (zs : List Int) (ex : Int) : Int := sv ng (Nt.val zs) * pK ex
/-- A number that may be. -/
structure DG (ng : Bool) (zs : List Int) (ex : Int) : Prop where
  can : Nt.Can zs
  len : zs.length ≤ 4096
  form : (zs = [] ∧ ng = false ∧ ex = 0) ∨ (0 < zs.length ∧ Nt.val zs % 2 = 1 ∧ -16777216 ≤ ex ∧ ex ≤ 16777216)
theorem val_odd {zs : List Int} (hz : 0 < zs.length) : Nt.val zs % 2 = zs.getD 0 0 % 2 := by
  cases zs with
  | nil => simp at hz
  | cons d s => rw [val_cons]; simp only [List.getD_cons_zero]; omega
theorem DG.of {ng : Bool} {zs : List Int} {ex : Int} (hr : Nt.Rng zs) (h : dmayB ng zs ex = true) : DG ng zs ex := by
  unfold dmayB at h
  by_cases hz : zs.length = 0
  · rw [if_pos hz] at h
    have e := List.length_eq_zero_iff.1 hz
    subst e
    refine ⟨Nt.can_nil, by simp, .inl ⟨rfl, ?_, ?_⟩⟩ <;> cases ng <;> simp_all
  · rw [if_neg hz] at h
    simp only [Bool.and_eq_true, beq_iff_eq, decide_eq_true_eq] at h
    obtain ⟨⟨⟨h1, h2⟩, h3⟩, h4⟩ := h
    exact ⟨(may_can hr h1).1, (may_can hr h1).2, .inr ⟨by omega, by rw [val_odd (by omega)]; exact h2, h3, h4⟩⟩
theorem DG.may {ng : Bool} {zs : List Int} {ex : Int} (h : DG ng zs ex) : dmayB ng zs ex = true := by
  unfold dmayB
  rcases h.form with ⟨rfl, rfl, rfl⟩ | ⟨h1, h2, h3, h4⟩
  · rfl
  · rw [if_neg (by omega), can_may h.can h.len, ← val_odd h1, h2]
    simp [h3, h4]
theorem DG.good {ng : Bool} {zs : List Int} {ex : Int} (h : DG ng zs ex) : Good zs (Nt.val zs) := ⟨h.can, h.len, rfl⟩
theorem DG.ex_bd {ng : Bool} {zs : List Int} {ex : Int} (h : DG ng zs ex) : -16777216 ≤ ex ∧ ex ≤ 16777216 := by
  rcases h.form with ⟨rfl, rfl, rfl⟩ | ⟨h1, h2, h3, h4⟩
  · omega
  · exact ⟨h3, h4⟩
theorem DG.nil {ng : Bool} {zs : List Int} {ex : Int} (h : DG ng zs ex) (hz : zs.length ≤ 0) : zs = [] ∧ ng = false ∧ ex = 0 := by
  rcases h.form with h1 | ⟨h1, _⟩
  · exact h1
  · omega
theorem DG.odd {ng : Bool} {zs : List Int} {ex : Int} (h : DG ng zs ex) (hz : 0 < zs.length) : Nt.val zs % 2 = 1 := by
  rcases h.form with ⟨rfl, _⟩ | ⟨_, h2, _⟩
  · simp at hz
  · exact h2
theorem zeroDG : DG false [] 0 := ⟨Nt.can_nil, by simp, .inl ⟨rfl, rfl, rfl⟩⟩
theorem zero_dv (ng : Bool) (ex : Int) : dv ng [] ex = 0 := by unfold dv; rw [Nt.val_nil]; cases ng <;> simp [sv]
theorem DG.pos {ng : Bool} {zs : List Int} {ex : Int} (h : DG ng zs ex) (hz : 0 < zs.length) : 0 < Nt.val zs := h.good.pos hz
theorem odd_low {x : Int} (h : x % 2 = 1) : LowBit x 0 := ⟨by simp, by simpa using h⟩
theorem LowBit.up {x : Int} {t : Nat} (h : LowBit x t) (n : Nat) : LowBit (x * 2 ^ n) (t + n) := by
  have hp := p2pos n
  have h1 := Int.emod_add_mul_ediv x (2 ^ t)
  rw [h.zero, Int.zero_add] at h1
  have e : x * 2 ^ n = 2 ^ (t + n) * (x / 2 ^ t) := by rw [Int.pow_add, ← h1, Int.mul_ediv_cancel_left _ (by have := p2pos t; omega)]; generalize x / 2 ^ t = q; grind
  refine ⟨by rw [e]; exact Int.mul_emod_right _ _, ?_⟩
  rw [e, Int.mul_ediv_cancel_left _ (by have := p2pos (t + n); omega)]
  exact h.one
theorem low_ex {x : Int} (h : 0 < x) : ∃ t, LowBit x t := by
  have key : ∀ n : Nat, ∀ x : Int, 0 < x → x.toNat ≤ n → ∃ t, LowBit x t := by
    intro n
    induction n with
    | zero => intro x h0 h1; omega
    | succ n ih =>
      intro x h0 h1
      by_cases c : x % 2 = 1
      · exact ⟨0, odd_low c⟩
      · obtain ⟨t, ht⟩ := ih (x / 2) (by omega) (by omega)
        have e : x = x / 2 * 2 ^ 1 := by omega
        exact ⟨t + 1, by rw [e]; exact ht.up 1⟩
  exact key _ x h (Nat.le_refl _)
theorem low_half {x : Int} {t : Nat} (h : LowBit x t) : x = x / 2 ^ t * 2 ^ t := by
  have h1 := Int.emod_add_mul_ediv x (2 ^ t)
  rw [h.zero, Int.zero_add, Int.mul_comm] at h1
  exact h1.symm
/-- Equal values have one form. -/
theorem DG.unique {n1 n2 : Bool} {z1 z2 : List Int} {e1 e2 : Int} (h1 : DG n1 z1 e1) (h2 : DG n2 z2 e2) (h : dv n1 z1 e1 = dv n2 z2 e2) : n1 = n2 ∧ z1 = z2 ∧ e1 = e2 := by
  have key : ∀ (n1 n2 : Bool) (z1 z2 : List Int) (e1 e2 : Int), DG n1 z1 e1 → DG n2 z2 e2 → dv n1 z1 e1 = dv n2 z2 e2 → e1 ≤ e2 → 0 < z1.length → 0 < z2.length → n1 = n2 ∧ z1 = z2 ∧ e1 = e2 := by
    intro n1 n2 z1 z2 e1 e2 h1 h2 h hle p1 p2
    have o1 := h1.odd p1
    have o2 := h2.odd p2
    have v1 := h1.pos p1
    have v2 := h2.pos p2
    have b1 := h1.ex_bd
    have hk := KK_int
    obtain ⟨n, hn⟩ : ∃ n : Nat, e2 = e1 + n := ⟨(e2 - e1).toNat, by omega⟩
    unfold dv at h
    rw [hn, pK_add (by omega), ← Int.mul_assoc, Int.mul_right_comm] at h
    have h3 := Int.eq_of_mul_eq_mul_right (by have := pK_pos e1; omega) h
    have hp := p2pos n
    have hs : n1 = n2 := by
      have hpos : 0 < Nt.val z2 * 2 ^ n := Int.mul_pos v2 hp
      cases n1 <;> cases n2 <;> simp only [sv_t, sv_f, Int.neg_mul] at h3 <;> first | rfl | omega
    subst hs
    have h4 : Nt.val z1 = Nt.val z2 * 2 ^ n := by
      cases n1 <;> simp only [sv_t, sv_f, Int.neg_mul] at h3 <;> omega
    have hn0 : n = 0 := (odd_low o1).unique (by rw [h4]; have := (odd_low o2).up n; rw [Nat.zero_add] at this; exact this) |>.symm
    subst hn0
    rw [Int.pow_zero, Int.mul_one] at h4
    exact ⟨rfl, Nt.can_unique h1.can h2.can h4, by omega⟩
  have hz : ∀ {n : Bool} {z : List Int} {e : Int}, DG n z e → 0 < z.length → dv n z e ≠ 0 := by
    intro n z e g p c
    have := g.pos p
    have := pK_pos e
    rcases Int.mul_eq_zero.1 c with c | c
    · have := (sv_zero n).1 c; omega
    · omega
  by_cases p1 : 0 < z1.length
  · by_cases p2 : 0 < z2.length
    · by_cases hle : e1 ≤ e2
      · exact key _ _ _ _ _ _ h1 h2 h hle p1 p2
      · obtain ⟨a, b, c⟩ := key _ _ _ _ _ _ h2 h1 h.symm (by omega) p2 p1
        exact ⟨a.symm, b.symm, c.symm⟩
    · obtain ⟨rfl, rfl, rfl⟩ := h2.nil (by omega)
      rw [zero_dv] at h
      exact absurd h (hz h1 p1)
  · obtain ⟨rfl, rfl, rfl⟩ := h1.nil (by omega)
    by_cases p2 : 0 < z2.length
    · rw [zero_dv] at h
      exact absurd h.symm (hz h2 p2)
    · obtain ⟨rfl, rfl, rfl⟩ := h2.nil (by omega)
      exact ⟨rfl, rfl, rfl⟩
/-- What is answered for the exact number s times 2 to the E. -/
structure DV (w w' : World) (s E : Int) (ng : Bool) (a : Option Addr) (n c : Nat) (ex code : Int) : Prop where
  bel : Below w.heap.size w w'
  all : (s = 0 ∧ ng = false ∧ a = none ∧ n = 0 ∧ c = 0 ∧ ex = 0 ∧ code = 0) ∨ (s ≠ 0 ∧ ∃ t : Nat, LowBit (s.natAbs : Int) t ∧
    ((-16777216 ≤ E + t ∧ E + t ≤ 16777216 ∧ ng = decide (s < 0) ∧ ex = E + t ∧ code = 0 ∧ ∃ zs, n = zs.length ∧ Good zs ((s.natAbs : Int) / 2 ^ t) ∧ Own w.heap.size w' (.slice a n c) zs) ∨
     (4294967296 ^ 4096 ≤ (s.natAbs : Int) / 2 ^ t ∧ ng = false ∧ a = none ∧ n = 0 ∧ c = 0 ∧ ex = 0 ∧ code = 3) ∨
     ((s.natAbs : Int) / 2 ^ t < 4294967296 ^ 4096 ∧ (E + t < -16777216 ∨ 16777216 < E + t) ∧ ng = false ∧ a = none ∧ n = 0 ∧ c = 0 ∧ ex = 0 ∧ code = 20)))
def DRes (w w' : World) (s E : Int) (e : Ending) : Prop := ∃ ng a n c ex code, e = .returned (.tuple #[dV ng a n c ex, .int .i64 code]) ∧ DV w w' s E ng a n c ex code
theorem natAbs_mul_pow (s : Int) (k : Nat) : ((s * 2 ^ k).natAbs : Int) = (s.natAbs : Int) * 2 ^ k := by
  rw [Int.natAbs_mul, Int.natCast_mul]
  have := p2pos k
  have e : (((2 : Int) ^ k).natAbs : Int) = 2 ^ k := by omega
  rw [e]
theorem DV.scale {w w' : World} {s E : Int} {ng : Bool} {a : Option Addr} {n c : Nat} {ex code : Int} {k : Nat} (h : DV w w' s (E + k) ng a n c ex code) : DV w w' (s * 2 ^ k) E ng a n c ex code := by
  have hp := p2pos k
  refine ⟨h.bel, ?_⟩
  rcases h.all with ⟨rfl, he⟩ | ⟨hs, t, ht, hh⟩
  · exact .inl ⟨by simp, he⟩
  · refine .inr ⟨fun c => by rcases Int.mul_eq_zero.1 c with c | c <;> omega, t + k, by rw [natAbs_mul_pow]; exact ht.up k, ?_⟩
    have e1 : ((s * 2 ^ k).natAbs : Int) / 2 ^ (t + k) = (s.natAbs : Int) / 2 ^ t := by
      rw [natAbs_mul_pow, Int.pow_add, Int.mul_ediv_mul_of_pos_left _ _ hp]
    have e2 : E + ((t + k : Nat) : Int) = E + k + t := by omega
    have e3 : decide (s * 2 ^ k < 0) = decide (s < 0) := by
      by_cases c : s < 0
      · have : s * 2 ^ k < 0 := Int.mul_neg_of_neg_of_pos c hp
        simp [c, this]
      · have : ¬ s * 2 ^ k < 0 := by have := Int.mul_nonneg (show 0 ≤ s by omega) (Int.le_of_lt hp); omega
        simp [c, this]
    rw [e1, e2, e3]
    exact hh
/-- From an earlier world on, and with another cell of the call's own written. -/
theorem DV.back {w0 w w' : World} {s E : Int} {ng : Bool} {a : Option Addr} {n c : Nat} {ex code : Int} (h : DV w w' s E ng a n c ex code) (hb : Below w0.heap.size w0 w) {g : Nat} (hg : w0.heap.size ≤ g) (hg' : g < w.heap.size) (u0 u1 u2 : Value) :
    DV w0 (((w'.setCell ⟨g, 0, none⟩ u0).setCell ⟨g, 1, none⟩ u1).setCell ⟨g, 2, none⟩ u2) s E ng a n c ex code := by
  refine ⟨(((below_then hb h.bel).setCell (p := ⟨g, 0, none⟩) hg u0).setCell (p := ⟨g, 1, none⟩) hg u1).setCell (p := ⟨g, 2, none⟩) hg u2, ?_⟩
  rcases h.all with h1 | ⟨h1, t, h2, h3⟩
  · exact .inl h1
  · refine .inr ⟨h1, t, h2, ?_⟩
    rcases h3 with ⟨k1, k2, k3, k4, k5, zs, k6, k7, k8⟩ | h3
    · exact .inl ⟨k1, k2, k3, k4, k5, zs, k6, k7, (((k8.setOff (j := 0) hg' u0).setOff (j := 1) hg' u1).setOff (j := 2) hg' u2).mono hb.size⟩
    · exact .inr h3
theorem low_lt {x : Int} {t : Nat} (h : LowBit x t) (hx : 0 < x) (hlt : x < 4294967296 ^ 4096) : t < 131072 := by
  rw [pw32] at hlt
  have h1 := low_half h
  have h4 := h.one
  refine p2lt (?_ : (2 : Int) ^ t < 2 ^ 131072)
  have h6 : 1 ≤ x / 2 ^ t := by
    have := Int.ediv_nonneg (show 0 ≤ x by omega) (Int.le_of_lt (p2pos t))
    omega
  have h7 : 1 * 2 ^ t ≤ x / 2 ^ t * 2 ^ t := Int.mul_le_mul_of_nonneg_right h6 (Int.le_of_lt (p2pos t))
  omega
set_option maxHeartbeats 1000000 in
theorem formed_far (ng : Bool) (a : Option Addr) (ca : Nat) (za : List Int) (ex : Int) (w : World) {x : Int} (ha : Lie w a za) (ga : Good za x) (hz : 0 < za.length) {t : Nat} (ht : LowBit x t) (hT : Tab w) (h0 : ex + t < -16777216 ∨ 16777216 < ex + t) (hx1 : -9223372036854775808 ≤ ex) (hx2 : ex ≤ 9223372036854775807) :
    Calls Tryz.prog 126 #[.bool ng, .slice a za.length ca, .int .i64 ex] w fun e w' => e = .returned (.tuple #[noD, .int .i64 20]) ∧ Below w.heap.size w w' := by
  have HN := fun w => Hide.mk (nought_no a za.length ca w hz)
  have hb1 := below_alloc w (.cells #[.bool false, .slice none 0 0, .int .i64 0] 26)
  have HL := Hide.mk (lowN a ca za _ (ha.below hb1 (Nat.le_refl _)) ga hz (hT.below hb1 (Nat.le_refl _)))
  have htl := low_lt ht (ga.pos hz) ga.lt.2
  have Ht := Hide.mk ht
  clear ha hT ht
  by_cases c1 : 16777216 < ex
  · go_enter Tryz.func126, Tryz.ntmps126
    go_wp2_with fail
    refine (HN _).out.mono ?_
    rintro e w' ⟨rfl, rfl⟩
    go_wp2
    refine bodyPost_ret (results_D2 rfl _ _ w.heap.size _ rfl (dcell_new _ _ _ _)) rfl ?_
    exact ⟨rfl, hb1⟩
  · by_cases c2 : ex < -16908288
    · go_enter Tryz.func126, Tryz.ntmps126
      go_wp2_with fail
      refine (HN _).out.mono ?_
      rintro e w' ⟨rfl, rfl⟩
      go_wp2
      refine bodyPost_ret (results_D2 rfl _ _ w.heap.size _ rfl (dcell_new _ _ _ _)) rfl ?_
      exact ⟨rfl, hb1⟩
    · by_cases c3 : 16777216 < ex + t
      · go_enter Tryz.func126, Tryz.ntmps126
        go_wp2_with fail
        refine (HN _).out.mono ?_
        rintro e w' ⟨rfl, rfl⟩
        go_wp2_with fail
        refine HL.out.mono ?_
        rintro e w' ⟨rfl, t2, rfl, ht2, _⟩
        obtain rfl := ht2.unique Ht.out
        clear ht2 HL HN Ht h0
        generalize hu : (t2 : Int) = u at *
        have hu0 : 0 ≤ u := by omega
        have hu1 : u < 131072 := by omega
        clear hu htl
        go_wp2
        refine bodyPost_ret (results_D2 rfl _ _ w.heap.size _ rfl (dcell_new _ _ _ _)) rfl ?_
        exact ⟨rfl, hb1⟩
      · have c4 : ex + t < -16777216 := by omega
        go_enter Tryz.func126, Tryz.ntmps126
        go_wp2_with fail
        refine (HN _).out.mono ?_
        rintro e w' ⟨rfl, rfl⟩
        go_wp2_with fail
        refine HL.out.mono ?_
        rintro e w' ⟨rfl, t2, rfl, ht2, _⟩
        obtain rfl := ht2.unique Ht.out
        clear ht2 HL HN Ht h0
        generalize hu : (t2 : Int) = u at *
        have hu0 : 0 ≤ u := by omega
        have hu1 : u < 131072 := by omega
        clear hu htl
        go_wp2
        refine bodyPost_ret (results_D2 rfl _ _ w.heap.size _ rfl (dcell_new _ _ _ _)) rfl ?_
        exact ⟨rfl, hb1⟩
/-- The one form, whatever the exponent. -/
theorem formedR (ng : Bool) (a : Option Addr) (ca : Nat) (za : List Int) (ex : Int) (w : World) {x : Int} (ha : Lie w a za) (ga : Good za x) (hT : Tab w) (hx1 : -9223372036854775808 ≤ ex) (hx2 : ex ≤ 9223372036854775807) :
    Calls Tryz.prog 126 #[.bool ng, .slice a za.length ca, .int .i64 ex] w fun e w' => DRes w w' (sv ng x) ex e := by
  by_cases hz : 0 < za.length
  · obtain ⟨t, ht⟩ := low_ex (ga.pos hz)
    have hp := ga.pos hz
    have hs : sv ng x ≠ 0 := fun c => by have := (sv_zero ng).1 c; omega
    have hab := sv_abs ng (Int.le_of_lt hp)
    have hlt : x / 2 ^ t < 4294967296 ^ 4096 := by
      have := ga.lt.2
      have : x / 2 ^ t ≤ x := Int.ediv_le_self _ (by omega)
      omega
    by_cases h0 : ex + t < -16777216 ∨ 16777216 < ex + t
    · refine (formed_far ng a ca za ex w ha ga hz ht hT h0 hx1 hx2).mono ?_
      rintro e w' ⟨rfl, hb⟩
      exact ⟨false, none, 0, 0, 0, 20, rfl, hb, .inr ⟨hs, t, by rw [hab]; exact ht, .inr (.inr ⟨by rw [hab]; exact hlt, h0, rfl, rfl, rfl, rfl, rfl, rfl⟩)⟩⟩
    · refine (formed_ok ng a ca za ex w ha ga hz ht hT (by omega) (by omega)).mono ?_
      rintro e w' ⟨zs, a', c, rfl, h1, h2⟩
      exact ⟨ng, a', zs.length, c, ex + t, 0, rfl, h1.bel, .inr ⟨hs, t, by rw [hab]; exact ht, .inl ⟨by omega, by omega, (sv_neg ng hp).symm, rfl, rfl, zs, rfl, by rw [hab]; exact h1.good, h2⟩⟩⟩
  · obtain ⟨rfl, h0⟩ := ga.nil (by omega)
    refine (formed_nil ng a _ ca ex w (by simp)).mono ?_
    rintro e w' ⟨rfl, hb⟩
    exact ⟨false, none, 0, 0, 0, 0, rfl, hb, .inl ⟨(sv_zero ng).2 h0, rfl, rfl, rfl, rfl, rfl, rfl⟩⟩

theorem plus110 (a b : Option Addr) (ca cb : Nat) (za zb : List Int) (w : World) {x y : Int} (ha : Lie w a za) (hb : Lie w b zb) (ga : Good za x) (gb : Good zb y) (hf : x + y < 4294967296 ^ 4096) :
    Calls Tryz.prog 134 #[.slice a za.length ca, .slice b zb.length cb] w fun e w' => ∃ zs a' c, e = .returned (.slice a' zs.length c) ∧ IsNum w w' a' zs (x + y) ∧ Own w.heap.size w' (.slice a' zs.length c) zs := by
  have HS := Hide.mk (add_fit a b ca cb za zb w ha hb ga gb ⟨by have := ga.nonneg; have := gb.nonneg; omega, hf⟩)
  clear ha hb hf
  go_enter Tryz.func134, Tryz.ntmps134
  go_wp2_with fail
  refine HS.out.mono ?_
  rintro e w' ⟨zs, a', c, rfl, h1, h2⟩
  have H := Hide.mk (And.intro h1 h2)
  clear h1 h2 HS
  go_wp2
  go_ret
  exact ⟨zs, a', c, rfl, H.out.1, H.out.2⟩
theorem less132 (a b : Option Addr) (ca cb : Nat) (za zb : List Int) (w : World) {x y : Int} (ha : Lie w a za) (hb : Lie w b zb) (ga : Good za x) (gb : Good zb y) (hf : y ≤ x) :
    Calls Tryz.prog 138 #[.slice a za.length ca, .slice b zb.length cb] w fun e w' => ∃ zs a' c, e = .returned (.slice a' zs.length c) ∧ IsNum w w' a' zs (x - y) ∧ Own w.heap.size w' (.slice a' zs.length c) zs := by
  have HS := Hide.mk (sub_fit a b ca cb za zb w ha hb ga gb hf)
  clear ha hb hf
  go_enter Tryz.func138, Tryz.ntmps138
  go_wp2_with fail
  refine HS.out.mono ?_
  rintro e w' ⟨zs, a', c, rfl, h1, h2⟩
  have H := Hide.mk (And.intro h1 h2)
  clear h1 h2 HS
  go_wp2
  go_ret
  exact ⟨zs, a', c, rfl, H.out.1, H.out.2⟩
theorem cmpM126 (a b : Option Addr) (ca cb : Nat) (za zb : List Int) (w : World) {x y : Int} (ha : Lie w a za) (hb : Lie w b zb) (ga : Good za x) (gb : Good zb y) (s : Int) (hs : sgn x y = s) :
    Calls Tryz.prog 137 #[.slice a za.length ca, .slice b zb.length cb] w fun e w' => e = .returned (.int .i64 s) ∧ Below w.heap.size w w' := by
  have HS := Hide.mk (cmp_good a b ca cb za zb w ha hb ga gb s hs)
  clear ha hb hs
  go_enter Tryz.func137, Tryz.ntmps137
  go_wp2_with fail
  refine HS.out.mono ?_
  rintro e w' ⟨rfl, h1⟩
  clear HS
  go_wp2
  go_ret
  exact ⟨rfl, h1⟩
end Go.Proofs.YtdnghibkagcbcaaGreatDoor

namespace Go.Proofs.YtdnghibkagcbcaaGreatDoor
open Go.RowKit
set_option linter.unusedVariables false
set_option maxRecDepth 3000
theorem DCell.c0 {w : World} {g : Nat} {a b c : Value} (h : DCell w g #[a, b, c]) : w.cell? ⟨g, 0, none⟩ = some a := cell_of_row _ _ 0 _ 26 (0, 0) h.1
theorem DCell.c1 {w : World} {g : Nat} {a b c : Value} (h : DCell w g #[a, b, c]) : w.cell? ⟨g, 1, none⟩ = some b := cell_of_row _ _ 1 _ 26 (0, 0) h.1
theorem DCell.c2 {w : World} {g : Nat} {a b c : Value} (h : DCell w g #[a, b, c]) : w.cell? ⟨g, 2, none⟩ = some c := cell_of_row _ _ 2 _ 26 (0, 0) h.1
theorem DCell.fr {w : World} {g : Nat} {cs : Array Value} (h : DCell w g cs) (j : Nat) : w.frozen? ⟨g, j, none⟩ = false := frozen_of_row _ _ j _ 26 h.1
theorem below_cell2 {w w' : World} {B g i : Nat} {x : Value} (hb : Below B w w') (hg : g < B) (h : w.cell? ⟨g, i, none⟩ = some x) : w'.cell? ⟨g, i, none⟩ = some x := by
  rw [hb.cell (p := ⟨g, i, none⟩) hg]; exact h
theorem wrap_ok {x : Int} (h0 : -9223372036854775808 ≤ x) (h1 : x ≤ 9223372036854775807) : IntKind.i64.wrap x = x := by
  rw [IntKind.wrap_i64]; omega
section
variable {w w' : World} {x y ex : Int} {n1 n2 ng : Bool} {a : Option Addr} {n c : Nat} {xx code : Int}
end
end Go.Proofs.YtdnghibkagcbcaaGreatDoor

namespace Go.Proofs.YtdnghibkagcbcaaGreatDoor
open Go.RowKit
set_option linter.unusedVariables false
set_option maxRecDepth 3000
theorem sgn_gt2 {x y : Int} (h : y < x) : sgn x y = 1 := by unfold sgn; rw [if_neg (by omega), if_pos h]
end Go.Proofs.YtdnghibkagcbcaaGreatDoor

namespace Go.Proofs.YtdnghibkagcbcaaGreatDoor
open Go.RowKit
set_option linter.unusedVariables false
set_option maxRecDepth 3000
theorem DRes.toK {w w' : World} {s E : Int} {e : Ending} (h : DRes w w' s E e) (hE : -(KK : Int) ≤ E) : DRes w w' (s * pK E) (-(KK : Int)) e := by
  obtain ⟨ng, a, n, c, ex, code, h1, h2⟩ := h
  refine ⟨ng, a, n, c, ex, code, h1, ?_⟩
  have e : E = -(KK : Int) + ((E + KK).toNat : Nat) := by omega
  rw [e] at h2
  exact h2.scale
theorem DRes.back {w0 w w' : World} {s E : Int} {ng : Bool} {a : Option Addr} {n c : Nat} {ex code : Int} (h : DV w w' s E ng a n c ex code) (hb : Below w0.heap.size w0 w) {g : Nat} (hg : w0.heap.size ≤ g) (hg' : g < w.heap.size) (u0 u1 u2 : Value) :
    DRes w0 (((w'.setCell ⟨g, 0, none⟩ u0).setCell ⟨g, 1, none⟩ u1).setCell ⟨g, 2, none⟩ u2) s E (.returned (.tuple #[dV ng a n c ex, .int .i64 code])) := ⟨ng, a, n, c, ex, code, rfl, h.back hb hg hg' u0 u1 u2⟩
theorem DG.lie {ng : Bool} {zs : List Int} {ex : Int} (g : DG ng zs ex) {w : World} {a : Option Addr} (h : Lie w a zs) : DLie w a zs := ⟨h, by have := g.len; unfold maxLen; omega, g.can.1⟩

end Go.Proofs.YtdnghibkagcbcaaGreatDoor

namespace Go.Proofs.YtdnghibkagcbcaaGreatDoor
open Go.RowKit
set_option linter.unusedVariables false
set_option maxRecDepth 3000
/-- A multiple of 2 to the lo, below 2 to the hi in size. -/
structure DB (lo hi : Nat) (s : Int) : Prop where
  dvd : s % 2 ^ lo = 0
  gt : -(2 ^ hi) < s
  lt : s < 2 ^ hi
theorem DB.mono {lo hi l h : Nat} {s : Int} (b : DB lo hi s) (hl : l ≤ lo) (hh : hi ≤ h) : DB l h s := by
  have := p2mono hh
  refine ⟨?_, by have := b.gt; omega, by have := b.lt; omega⟩
  obtain ⟨k, rfl⟩ : ∃ k, lo = l + k := ⟨lo - l, by omega⟩
  obtain ⟨m, hm⟩ := Int.dvd_of_emod_eq_zero b.dvd
  exact Int.emod_eq_zero_of_dvd ⟨2 ^ k * m, by rw [hm, Int.pow_add, Int.mul_assoc]⟩
theorem DB.add {lo hi : Nat} {s t : Int} (b : DB lo hi s) (c : DB lo hi t) : DB lo (hi + 1) (s + t) := by
  have e := p2succ hi
  have b1 := b.gt
  have b2 := b.lt
  have c1 := c.gt
  have c2 := c.lt
  refine ⟨?_, by omega, by omega⟩
  obtain ⟨m, hm⟩ := Int.dvd_of_emod_eq_zero b.dvd
  obtain ⟨k, hk⟩ := Int.dvd_of_emod_eq_zero c.dvd
  exact Int.emod_eq_zero_of_dvd ⟨m + k, by rw [hm, hk, Int.mul_add]⟩
theorem DB.low {lo hi t : Nat} {s : Int} (b : DB lo hi s) (hs : s ≠ 0) (ht : LowBit (s.natAbs : Int) t) : lo ≤ t ∧ t < hi ∧ (s.natAbs : Int) / 2 ^ t < 2 ^ (hi - lo) := by
  have b1 := b.gt
  have b2 := b.lt
  have h1 : lo ≤ t := by
    have := low_lost (n := lo) ht
    have e : (s.natAbs : Int) % 2 ^ lo = 0 := by
      obtain ⟨m, hm⟩ := Int.dvd_of_emod_eq_zero b.dvd
      have hp := p2pos lo
      by_cases c : 0 ≤ s
      · exact Int.emod_eq_zero_of_dvd ⟨m, by rw [← hm]; omega⟩
      · exact Int.emod_eq_zero_of_dvd ⟨-m, by rw [Int.mul_neg, ← hm]; omega⟩
    rw [e] at this
    simp at this
    omega
  have h2 := low_half ht
  have h4 : 1 ≤ (s.natAbs : Int) / 2 ^ t := by
    have := Int.ediv_nonneg (show 0 ≤ (s.natAbs : Int) by omega) (Int.le_of_lt (p2pos t))
    have := ht.one
    omega
  have h5 : 1 * 2 ^ t ≤ (s.natAbs : Int) / 2 ^ t * 2 ^ t := Int.mul_le_mul_of_nonneg_right h4 (Int.le_of_lt (p2pos t))
  have h6 : t < hi := p2lt (by omega)
  refine ⟨h1, h6, ?_⟩
  refine Int.ediv_lt_of_lt_mul (p2pos t) ?_
  rw [← Int.pow_add]
  have := p2mono (show hi ≤ hi - lo + t by omega)
  omega
/-- A number of the value v. -/
structure DN (ng : Bool) (zs : List Int) (ex v : Int) : Prop where
  dg : DG ng zs ex
  val : dv ng zs ex = v
theorem DN.inj {n1 n2 : Bool} {z1 z2 : List Int} {e1 e2 u v : Int} (h : DN n1 z1 e1 u) (k : DN n2 z2 e2 v) (e : n1 = n2 ∧ e1 = e2 ∧ z1 = z2) : u = v := by
  obtain ⟨rfl, rfl, rfl⟩ := e
  rw [← h.val, ← k.val]
/-- A new number. -/
structure IsD (w w' : World) (a : Option Addr) (c : Nat) (ng : Bool) (zs : List Int) (ex v : Int) : Prop where
  num : DN ng zs ex v
  lie : Lie w' a zs
  bel : Below w.heap.size w w'
  own : Own w.heap.size w' (.slice a zs.length c) zs
theorem dv_back {s : Int} {t k : Nat} {zs : List Int} (hs : s ≠ 0) (ht : LowBit (s.natAbs : Int) t) (hg : Good zs ((s.natAbs : Int) / 2 ^ t)) (hk : k ≤ t) : dv (decide (s < 0)) zs (-(KK : Int) - k + t) * 2 ^ k = s := by
  unfold dv pK
  rw [hg.val, show (-(KK : Int) - k + t + KK).toNat = t - k by omega, Int.mul_assoc, ← Int.pow_add, show t - k + k = t by omega]
  have h1 := low_half ht
  by_cases c : s < 0
  · rw [decide_eq_true c, sv_t, Int.neg_mul, ← h1]; omega
  · rw [decide_eq_false c, sv_f, ← h1]; omega
/-- What fits is answered. -/
theorem DV.fits {w w' : World} {s : Int} {ng : Bool} {a : Option Addr} {n c : Nat} {ex code : Int} {lo hi k : Nat} (h : DV w w' s (-(KK : Int) - k) ng a n c ex code) (hb : DB lo hi s) (h1 : hi ≤ lo + 131072) (h2 : hi ≤ 2 * KK + k) (h3 : k ≤ lo) :
    code = 0 ∧ ∃ zs v, n = zs.length ∧ v * 2 ^ k = s ∧ IsD w w' a c ng zs ex v := by
  have hK := KK_int
  rcases h.all with ⟨rfl, rfl, rfl, rfl, rfl, rfl, rfl⟩ | ⟨hs, t, ht, hh⟩
  · exact ⟨rfl, [], 0, rfl, by simp, ⟨⟨zeroDG, zero_dv _ _⟩, .inl rfl, h.bel, Own.nil _ _⟩⟩
  · obtain ⟨k1, k2, k3⟩ := hb.low hs ht
    have k4 : (s.natAbs : Int) / 2 ^ t < 4294967296 ^ 4096 := by
      have := p2mono (show hi - lo ≤ 131072 by omega)
      rw [pw32]; omega
    rcases hh with ⟨j1, j2, rfl, rfl, rfl, zs, rfl, j3, j4⟩ | ⟨j1, _⟩ | ⟨_, j1, _⟩
    · obtain ⟨a2, c2, he, _, _, hl⟩ := j4.lie
      simp only [Value.slice.injEq, true_and] at he
      obtain ⟨rfl, rfl⟩ := he
      have hp : 0 < (s.natAbs : Int) / 2 ^ t := by
        have := ht.one
        have := Int.ediv_nonneg (show 0 ≤ (s.natAbs : Int) by omega) (Int.le_of_lt (p2pos t))
        omega
      exact ⟨rfl, zs, _, rfl, dv_back hs ht j3 (by omega), ⟨⟨⟨j3.can, j3.len, .inr ⟨j3.ne hp, by rw [j3.val]; exact ht.one, by omega, by omega⟩⟩, rfl⟩, hl, h.bel, j4⟩⟩
    · omega
    · omega

/-- A number that is handed in. -/
structure Arg where
  ng : Bool
  a : Option Addr
  c : Nat
  zs : List Int
  ex : Int
def nearB (x : Arg) : Bool := decide (x.zs.length ≤ 100) && decide (-3000 ≤ x.ex) && decide (x.ex ≤ 3000) && dmayB x.ng x.zs x.ex
/-- The numbers of l lie in a row. -/
structure ARow (w : World) (b : Nat) (l : List Arg) : Prop where
  c0 : ∀ (i : Nat) (x : Arg), l[i]? = some x → w.cell? ⟨b, i * 3, none⟩ = some (.bool x.ng)
  c1 : ∀ (i : Nat) (x : Arg), l[i]? = some x → w.cell? ⟨b, i * 3 + 1, none⟩ = some (.slice x.a x.zs.length x.c)
  c2 : ∀ (i : Nat) (x : Arg), l[i]? = some x → w.cell? ⟨b, i * 3 + 2, none⟩ = some (.int .i64 x.ex)
  lie : ∀ (i : Nat) (x : Arg), l[i]? = some x → DLie w x.a x.zs
theorem DB.shift {lo hi k : Nat} {p : Int} (h : DB lo hi (p * 2 ^ k)) (hk : k ≤ lo) (hk2 : k ≤ hi) : DB (lo - k) (hi - k) p := by
  have hp := p2pos k
  obtain ⟨j, rfl⟩ : ∃ j, lo = j + k := ⟨lo - k, by omega⟩
  obtain ⟨i, rfl⟩ : ∃ i, hi = i + k := ⟨hi - k, by omega⟩
  rw [show j + k - k = j by omega, show i + k - k = i by omega]
  have b1 := h.gt
  have b2 := h.lt
  rw [Int.pow_add] at b1 b2
  refine ⟨?_, ?_, Int.lt_of_mul_lt_mul_right b2 (by omega)⟩
  · obtain ⟨m, hm⟩ := Int.dvd_of_emod_eq_zero h.dvd
    rw [Int.pow_add] at hm
    exact Int.emod_eq_zero_of_dvd ⟨m, Int.eq_of_mul_eq_mul_right (show (2 : Int) ^ k ≠ 0 by omega) (by rw [hm, Int.mul_right_comm])⟩
  · refine Int.lt_of_mul_lt_mul_right (a := 2 ^ k) ?_ (by omega)
    rw [Int.neg_mul]; exact b1
/-- Variables of the law that hold numbers. -/
structure Boxes (w : World) (l : List (Nat × Array Value)) : Prop where
  all : ∀ p ∈ l, DCell w p.1 p.2
theorem Boxes.keep {w w' : World} {l : List (Nat × Array Value)} (h : Boxes w l) (hb : Below w.heap.size w w') : Boxes w' l :=
  ⟨fun p hp => (h.all p hp).below hb (Array.getElem?_eq_some_iff.1 (h.all p hp).1).1⟩
theorem Boxes.push {w w' : World} {l : List (Nat × Array Value)} (h : Boxes w l) (hb : Below w.heap.size w w') (x y z : Value) : Boxes (w'.alloc (.cells #[x, y, z] 26)) ((w'.heap.size, #[x, y, z]) :: l) := by
  refine ⟨fun p hp => ?_⟩
  rcases List.mem_cons.1 hp with rfl | hp
  · exact dcell_new _ _ _ _
  · exact ((h.keep hb).keep (below_alloc _ _)).all p hp
end Go.Proofs.YtdnghibkagcbcaaGreatDoor
