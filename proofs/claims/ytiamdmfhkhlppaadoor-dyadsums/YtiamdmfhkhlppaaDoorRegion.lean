import Derived.RegionTactic
import Derived.Below
/-
  A region that draws its order, where what it reads stays as it is: the reads may be taken first. I tells what every world on the way keeps.
-/
set_option linter.unusedVariables false
namespace Go.Drawn
open Go
section
variable {P : Program} {ops : Array Oper} {Q : Exit → Act → World → Prop} {md : Region.Mode} {I : World → Prop}
/-- Whatever order: the end holds, and each world on the way keeps I. -/
def wpIn (P : Program) (md : Region.Mode) (ops : Array Oper) (Q : Exit → Act → World → Prop) (I : World → Prop) : Nat → Array Bool → Act → World → Prop
  | 0, listed, a, w => Region.ready md ops listed = [] ∧ Q .normal a w
  | n + 1, listed, a, w => (Region.ready md ops listed = [] → Q .normal a w) ∧
      ∀ i ∈ Region.ready md ops listed, wpOp P ops Q i (fun a' w' => I w' ∧ wpIn P md ops Q I n (listed.setIfInBounds i true) a' w') a w
theorem wpIn.any : ∀ {n : Nat} {listed : Array Bool} {a : Act} {w : World}, wpIn P md ops Q I n listed a w → wpAny P md ops Q n listed a w
  | 0, _, _, _, h => h
  | n + 1, _, _, _, h => ⟨h.1, fun i hi => wpOp_mono (fun _ _ hh => wpIn.any hh.2) (h.2 i hi)⟩
/-- What an operation leaves of the frame. -/
theorem wpOp_acts {j : Nat} {o : Oper} (hj : ops[j]? = some o) {K : Act → World → Prop} {a : Act} {w : World} (h : wpOp P ops Q j K a w) :
    wpOp P ops Q j (fun a' w' => (∃ u ds, a' = { a.put o.dst u with defers := ds }) ∧ K a' w') a w := by
  unfold wpOp at *
  simp only [hj] at *
  by_cases hw : Region.wanted o (yielded ops a.tmps) = true
  · rw [if_pos hw] at h ⊢
    refine h.imp (fun hh => ?_) id
    unfold Oper.wp at *
    cases hr : (execOp a.eval o).run P w with
    | ok n w' =>
      rw [hr] at hh
      cases n <;> simp only [Oper.upon] at hh ⊢
      case value u => exact ⟨⟨u, _, rfl⟩, hh⟩
      case skip => exact ⟨⟨undef, _, rfl⟩, hh⟩
      case defer d => exact ⟨⟨undef, d :: a.defers, by cases o.dst <;> rfl⟩, hh⟩
      case enter f args =>
        refine Calls.mono hh fun e w'' he => ?_
        cases e with
        | returned u => exact ⟨⟨u, _, rfl⟩, he⟩
        | panicked c => exact he
        | outgrown => exact he
      case row r args => exact Rows.mono hh fun u w'' he => ⟨⟨u, _, rfl⟩, he⟩
    | halt x w' =>
      rw [hr] at hh
      cases x <;> first | exact hh | (simp only [Oper.upon] at hh ⊢; exact hh)
  · rw [if_neg hw] at h ⊢
    exact ⟨⟨undef, _, rfl⟩, h⟩
/-- In every world that keeps I the operation yields v, or it is not wanted. -/
def YieldsIn (P : Program) (ops : Array Oper) (I : World → Prop) (o : Oper) (v : Value) (a : Act) : Prop :=
  (Region.wanted o (yielded ops a.tmps) = true ∧ ∀ w, I w → (execOp a.eval o).run P w = .ok (.value v) w) ∨ (Region.wanted o (yielded ops a.tmps) = false ∧ v = undef)
theorem YieldsIn.op {i : Nat} {o : Oper} {v : Value} {a : Act} {w : World} (hi : ops[i]? = some o) (hy : YieldsIn P ops I o v a) (hI : I w) {K : Act → World → Prop} (h : K (a.put o.dst v) w) : wpOp P ops Q i K a w := by
  unfold wpOp
  rcases hy with hy | ⟨hy, rfl⟩
  · simp only [hi, hy.1, if_true]
    refine .inl ?_
    unfold Oper.wp
    rw [hy.2 w hI]
    exact h
  · simp only [hi, hy]
    exact h
/-- The same place, filled by a constant. -/
def still (o : Oper) (v : Value) : Oper := { o with op := .move (.const v), guard := none }
theorem still_yields (o : Oper) (v : Value) (a : Act) : Yields P ops (still o v) v a := .inl ⟨rfl, fun _ => rfl⟩
theorem still_apart {o oj : Oper} (v : Value) (h : o.apart ops oj = true) : (still o v).apart ops oj = true := by
  unfold Oper.apart at *
  rw [Bool.and_eq_true] at h ⊢
  refine ⟨h.1, ?_⟩
  have e : (still o v).looksAt ops = [] := rfl
  rw [e]
  cases oj.dst <;> rfl
theorem take_first {i : Nat} {oi : Oper} {v : Value} (hi : ops[i]? = some oi) (hsel : ∀ (j : Nat) (o : Oper) cs b, ops[j]? = some o → o.op ≠ .select cs b)
    (hQ : ∀ c a w, Q (.panic c) (a.put oi.dst v) w → Q (.panic c) a w) :
    ∀ (n : Nat) (listed : Array Bool) (a : Act) (w : World),
      (∀ j oj, ops[j]? = some oj → j ≠ i → listed.getD j true = false → (∀ e ∈ oj.after, Region.binds md e = true → e.on ≠ i) → oi.apart ops oj = true) →
      i ∈ Region.ready md ops listed → YieldsIn P ops I oi v a → I w →
      wpIn P md ops Q I n (listed.setIfInBounds i true) (a.put oi.dst v) w → wpIn P md ops Q I (n + 1) listed a w := by
  intro n
  induction n with
  | zero =>
    intro listed a w _ hr hy hI H
    refine ⟨fun h => by rw [h] at hr; exact absurd hr (by simp), fun j hj => ?_⟩
    by_cases c : j = i
    · subst c; exact hy.op hi hI ⟨hI, H⟩
    · have := ready_mono hj c
      rw [H.1] at this
      exact absurd this (by simp)
  | succ n ih =>
    intro listed a w hfree hr hy hI H
    refine ⟨fun h => by rw [h] at hr; exact absurd hr (by simp), fun j hj => ?_⟩
    by_cases c : j = i
    · subst c; exact hy.op hi hI ⟨hI, H⟩
    · obtain ⟨hjun, oj, hoj, hall⟩ := mem_ready.1 hj
      have hnot : ∀ e ∈ oj.after, Region.binds md e = true → e.on ≠ i := by
        intro e he hb heq
        have h1 := hall e he hb
        have h0 := (mem_ready.1 hr).1
        rw [heq] at h1
        simp only [Array.getD_eq_getD_getElem?] at h0 h1
        cases hx : listed[i]? with
        | none => rw [hx] at h1; simp at h1
        | some q => rw [hx] at h0 h1; simp at h0 h1; rw [h0] at h1; cases h1
      have hap := hfree j oj hoj c hjun hnot
      have h2 := wpOp_acts hoj (wpOp_put (oi := still oi v) hoj (still_apart v hap) (fun cs b h => by cases h) (fun cs b => hsel j oj cs b hoj) hQ (still_yields oi v a) (H.2 j (ready_mono hj c)))
      refine wpOp_mono (fun a' w' h3 => ?_) h2
      obtain ⟨⟨u, ds, rfl⟩, _, hI', H'⟩ := h3
      obtain ⟨_, _, h5⟩ := Oper.apart_spec hap
      refine ⟨hI', ih _ _ _ ?_ (ready_mono hr (Ne.symm c)) ?_ hI' ?_⟩
      · intro k ok hk hki hun hno
        refine hfree k ok hk hki ?_ hno
        by_cases e : j = k
        · subst e; exact hjun
        · rw [getD_set_ne true e] at hun; exact hun
      · rcases hy with hy | ⟨hy, hv⟩
        · refine .inl ⟨?_, fun w'' hw'' => ?_⟩
          · have := wanted_put oi a oj.dst u h5
            rw [← hy.1]; exact this
          · have e : execOp (Act.eval { a.put oj.dst u with defers := ds }) oi = execOp a.eval oi := execOp_put oi (fun cs b => hsel i oi cs b hi) a oj.dst u h5
            rw [e]; exact hy.2 w'' hw''
        · have := wanted_put oi a oj.dst u h5
          exact .inr ⟨by rw [← hy]; exact this, hv⟩
      · rw [Array.setIfInBounds_comm _ _ c]
        exact H'
/-- A read that is ready is taken. -/
theorem take {i : Nat} {oi : Oper} {v : Value} {n : Nat} {listed : Array Bool} {a : Act} {w : World} (hi : ops[i]? = some oi)
    (hs : Region.noSelect ops = true) (hf : Region.free md ops listed i = true) (hr : (Region.ready md ops listed).contains i = true)
    (hQ : ∀ c a w, Q (.panic c) (a.put oi.dst v) w → Q (.panic c) a w) (hw : Region.wanted oi (yielded ops a.tmps) = true) (hy : ∀ w, I w → (execOp a.eval oi).run P w = .ok (.value v) w) (hI : I w)
    (h : wpIn P md ops Q I n (listed.setIfInBounds i true) (a.put oi.dst v) w) : wpIn P md ops Q I (n + 1) listed a w :=
  take_first hi (Region.noSelect_spec hs) hQ n listed a w (Region.free_spec hi hf) (by simpa using hr) (.inl ⟨hw, hy⟩) hI h
/-- An operation that is ready and not wanted is passed by. -/
theorem skip {i : Nat} {oi : Oper} {n : Nat} {listed : Array Bool} {a : Act} {w : World} (hi : ops[i]? = some oi)
    (hs : Region.noSelect ops = true) (hf : Region.free md ops listed i = true) (hr : (Region.ready md ops listed).contains i = true)
    (hQ : ∀ c a w, Q (.panic c) (a.put oi.dst undef) w → Q (.panic c) a w) (hw : Region.wanted oi (yielded ops a.tmps) = false) (hI : I w)
    (h : wpIn P md ops Q I n (listed.setIfInBounds i true) (a.put oi.dst undef) w) : wpIn P md ops Q I (n + 1) listed a w :=
  take_first hi (Region.noSelect_spec hs) hQ n listed a w (Region.free_spec hi hf) (by simpa using hr) (.inr ⟨hw, rfl⟩) hI h
/-- The one operation that is ready. -/
theorem one {j : Nat} {o : Oper} {n : Nat} {listed : Array Bool} {a : Act} {w : World} (hr : Region.ready md ops listed = [j]) (hj : ops[j]? = some o)
    (h : ∀ K : Act → World → Prop, (∀ a w, I w → wpIn P md ops Q I n (listed.setIfInBounds j true) a w → K a w) → if Region.wanted o (yielded ops a.tmps) = true then Oper.wp P o a w K Q else K (a.put o.dst undef) w) :
    wpIn P md ops Q I (n + 1) listed a w := by
  refine ⟨fun h0 => absurd (hr.symm.trans h0) (by simp), fun i hi => ?_⟩
  rw [hr] at hi
  obtain rfl := List.mem_singleton.1 hi
  exact wpOp_step hj (fun K hK => h K fun a w h1 h2 => hK a w ⟨h1, h2⟩)
theorem done {n : Nat} {listed : Array Bool} {a : Act} {w : World} (hr : Region.ready md ops listed = []) (h : Q .normal a w) : wpIn P md ops Q I n listed a w := by
  cases n with
  | zero => exact ⟨hr, h⟩
  | succ n => exact ⟨fun _ => h, fun i hi => by rw [hr] at hi; cases hi⟩
theorem enter {id : Nat} {a : Act} {w : World} (I : World → Prop) (hm : P.follows .mixedOrders = true)
    (h : wpIn P .any ops Q I ops.size (Array.replicate ops.size false) a w.drew) : (Code.region id ops true).wp P Q a w := wp_region_any hm h.any
end
end Go.Drawn
