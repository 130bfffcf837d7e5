import Derived.Test.YtcjmamlffbhnlaaW12
import Derived.Laws.AppendOwnNone
namespace Go.Proofs.Ytcjmamlffbhnlaa
open Go.RowKit
set_option linter.unusedVariables false
/-- append of one digit to a list of the call's own. -/
theorem app1 {w : World} {ops : Array Oper} {rest : List Oper} {o : Oper} {a : Act} {Q : Exit → Act → World → Prop} (hgd : o.guard = none) (s x : Operand)
    (ho : o.op = .call { callee := .builtin .append, args := #[s, x], argTypes := #[22, 22] }) (B : Nat) (v : Value) (zs : List Int) (d : Int) (g : Nat) (hs : a.eval s = v) (hx : a.eval x = .slice (some ⟨g, 0, none⟩) 1 1)
    (hown : Own B w v zs) (hc : w.cell? ⟨g, 0, none⟩ = some (.int .u32 d)) (hl : zs.length ≤ 1000000) (hB : B ≤ w.heap.size)
    (h : ∀ v' w', Own B w' v' (zs ++ [d]) → w.grownBy w' v.ownBlock → wpList Try.prog ops Q rest (a.put o.dst v') w') : wpList Try.prog ops Q (o :: rest) a w := by
  obtain ⟨i0, hi, hz0, hz1, hz2⟩ := info_parts Try.info49
  refine wpList_append_own w hgd s x 22 ho B 49 i0 (.int .u32 0) 1 4 Try.underlying22 hi hz0 hz1 hz2 rfl (by decide) v zs.length _ hs hown ⟨g, 0, none⟩ 1 1 [.int .u32 d] hx rfl ?_ ?_ (by unfold maxLen; omega) (by omega) hB ?_
  · intro j u hj
    match j, hj with
    | 0, hj =>
      simp only [List.getElem?_cons_zero, Option.some.injEq] at hj
      subst hj
      simpa [Addr.add] using hc
  · intro u hu
    simp only [List.mem_singleton] at hu
    subst hu; rfl
  · intro v' w' h1 h2 _
    refine h v' w' ?_ h2
    unfold Own
    simpa using h1

theorem own_grown {B : Nat} {w w0 w' : World} {v : Value} {zs : List Int} (hown : Own B w v zs) (hg : w.grownBy w' v.ownBlock) (hb : Below B w0 w) (hB : B ≤ w.heap.size) : Below B w0 w' :=
  hb.grown hg hB (fun k hk => (hown.lt k hk).1)
theorem own_alloc {B : Nat} {w : World} {v : Value} {zs : List Int} (h : Own B w v zs) (o : Obj) : Own B (w.alloc o) v zs := World.ownsRow.alloc h o

set_option maxHeartbeats 1000000 in
theorem lent12 (a : Option Addr) (ca : Nat) (za : List Int) (w : World) (ha : Lie w a za) (hl : za.length ≤ 1000000) (hnil : a = none → ca = 0) :
    Calls Try.prog 12 #[.slice a za.length ca] w fun e w' => ∃ a' c, e = .returned (.slice a' za.length c) ∧ Own w.heap.size w' (.slice a' za.length c) za ∧ Below w.heap.size w w' := by
  obtain ⟨i0, hi, hz0, hz1, hz2⟩ := info_parts Try.info49
  have hown : Hide (Own w.heap.size (w.alloc (.cells #[] 49)) (.slice (some ⟨w.heap.size, 0, none⟩) 0 0) []) := ⟨World.ownsRow_made w #[] 0 (Nat.le_refl _) (by unfold maxLen; omega) (by simp)⟩
  cases a with
  | none =>
    have h0 := hnil rfl
    subst h0
    have hz : za = [] := by
      rcases ha with h | ⟨b, o, h, _⟩
      · exact h
      · cases h
    subst hz
    go_enter Try.func12, Try.ntmps12
    go_wp2_with (at_builtin; refine wpList_append_own_none rfl (.tmp 3) (.tmp 4) 22 rfl w.heap.size 49 i0 1 Try.underlying22 hi _ 0 [] rfl hown.out rfl ?_)
    go_ret
    exact ⟨_, _, rfl, hown.out, below_alloc _ _⟩
  | some ad =>
    have hs : Hide (∀ j v, (za.map (Value.int .u32))[j]? = some v → (w.alloc (.cells #[] 49)).cell? (ad.add j) = some v) := ⟨by
      by_cases h0 : 0 < za.length
      · obtain ⟨ad', e, h⟩ := (ha.below (below_alloc w (.cells #[] 49)) (Nat.le_refl _)).src h0
        cases e
        exact h
      · have : za = [] := List.length_eq_zero_iff.1 (by omega)
        subst this
        intro j v h
        simp at h⟩
    have h1 := Hide.mk (oneCell_ints za)
    have hmm : Hide (0 + za.length ≤ maxLen) := ⟨by unfold maxLen; omega⟩
    clear ha hnil
    go_enter Try.func12, Try.ntmps12
    go_wp2_with (at_builtin; refine wpList_append_own _ rfl (.tmp 3) (.tmp 4) 22 rfl w.heap.size 49 i0 (.int .u32 0) 1 4 Try.underlying22 hi hz0 hz1 hz2 rfl (by decide) _ 0 [] rfl hown.out ad za.length ca (za.map (Value.int .u32)) rfl (by simp) hs.out h1.out hmm.out (by omega) (by simp) ?_; intro v' w1 hown' hgrow _)
    have hown2 : Own w.heap.size w1 v' za := by
      unfold Own
      simpa using hown'
    have hb : Below w.heap.size w w1 := own_grown hown.out hgrow (below_alloc _ _) (by simp)
    obtain ⟨a', c, hv, _⟩ := hown2.lie
    have HO := Hide.mk hown2
    have HV := Hide.mk hv
    clear hown' hgrow hown2 hi hz0 hz1 hz2 hs h1 hmm hown
    rw [hv]
    clear hv
    go_wp2
    go_ret
    exact ⟨a', c, rfl, by rw [← HV.out]; exact HO.out, hb⟩

set_option maxRecDepth 100000 in
theorem refMay14 (a : Option Addr) (cap : Nat) (zs : List Int) (w : World) (hl : Lie w a zs) (hm : zs.length ≤ maxLen) :
    Calls Try.prog 14 #[.slice a zs.length cap] w fun e w' => e = .returned (.bool (mayB zs)) ∧ w = w' := by
  unfold maxLen at hm
  by_cases h0 : zs.length = 0
  · have e : mayB zs = true := by simp [mayB, h0]
    rw [e, h0]
    go_enter Try.func14, Try.ntmps14
    go_wp2
    go_ret
    exact ⟨rfl, rfl⟩
  · rcases hl with rfl | ⟨b, o, rfl, hcell⟩
    · exact absurd rfl h0
    · have e : mayB zs = (decide (zs.length ≤ 4096) && zs.getD (zs.length - 1) 0 != 0) := by simp [mayB, h0]
      rw [e]
      have hck := hcell (zs.length - 1) (by omega)
      clear hcell e
      generalize zs.getD (zs.length - 1) 0 = x at *
      obtain ⟨k, hk⟩ : ∃ k, zs.length = k + 1 := ⟨zs.length - 1, by omega⟩
      rw [hk] at hck hm ⊢
      clear hk h0
      rw [Nat.add_sub_cancel] at hck
      have hk0 : ((k : Int) + 1 == 0) = false := by simp; omega
      by_cases h1 : k + 1 ≤ 4096
      · go_enter Try.func14, Try.ntmps14
        go_wp2
        go_ret
        exact ⟨by simp [h1], rfl⟩
      · go_enter Try.func14, Try.ntmps14
        go_wp2
        go_ret
        exact ⟨by simp, rfl⟩

set_option maxHeartbeats 400000 in
theorem trim36 (a : Option Addr) (cap : Nat) (zs : List Int) (w : World) (hl : Lie w a zs) (hc : zs.length ≤ cap) (hm : cap ≤ maxLen) :
    Calls Try.prog 36 #[.slice a zs.length cap] w fun e w' => w = w' ∧ ∃ n, n ≤ zs.length ∧ e = .returned (.slice a n cap) ∧ (∀ j, n ≤ j → zs.getD j 0 = 0) ∧ (n ≠ 0 → zs.getD (n - 1) 0 ≠ 0) := by
  unfold maxLen at hm
  have hpast : ∀ j, zs.length ≤ j → zs.getD j 0 = 0 := fun j hj => by simp [List.getD_eq_getElem?_getD, List.getElem?_eq_none hj]
  rcases hl with rfl | ⟨b, o, rfl, hcell⟩
  · go_enter Try.func36, Try.ntmps36
    go_wp2
    refine wp_loop_rounds 1 ?_
    rw [rounds_succ]
    go_wp2
    go_ret
    exact ⟨rfl, 0, Nat.le_refl _, rfl, fun j _ => by simp, fun h => absurd rfl h⟩
  · generalize hn : zs.length = n at *
    have hN : Hid (zs.length = n) := hn
    clear hn
    go_enter Try.func36, Try.ntmps36
    go_wp2
    go_loop [3] (fun i => ∃ k : Nat, k ≤ n ∧ i = .int .i64 k ∧ ∀ j, k ≤ j → zs.getD j 0 = 0) (fun i => (intOf i).toNat)
    case atStart => exact ⟨n, Nat.le_refl _, rfl, hpast⟩
    case round =>
      obtain ⟨k, hk, rfl, hz⟩ := hrel
      have HZ : Hid (∀ j, k ≤ j → zs.getD j 0 = 0) := hz
      clear hz hpast
      cases k with
      | zero =>
        go_wp2
        go_ret
        exact ⟨rfl, 0, Nat.zero_le _, rfl, HZ.out, fun h => absurd rfl h⟩
      | succ k =>
        have hck := hcell k (by omega)
        clear hcell
        generalize hx : zs.getD k 0 = x at *
        have HX : Hid (zs.getD k 0 = x) := hx
        clear hx
        by_cases h0 : x = 0
        · subst h0
          go_wp2
          go_round
          case rel =>
            refine ⟨k, by omega, by go_num, fun j hj => ?_⟩
            by_cases e : j = k
            · subst e; exact HX.out
            · exact HZ.out j (by omega)
          case measure => simp [intOf]; try omega
        · have hb : (x == 0) = false := by simp [h0]
          go_wp2
          go_ret
          exact ⟨rfl, k + 1, hk, by go_num, HZ.out, fun _ => by have h := HX.out; simp only [List.getD_eq_getElem?_getD, Nat.add_sub_cancel] at h ⊢; rw [h]; exact h0⟩

end Go.Proofs.Ytcjmamlffbhnlaa
