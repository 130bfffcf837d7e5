import Derived.Test.YtiamdmfhkhlppaaDoorXE
namespace Go.Proofs.YtiamdmfhkhlppaaDoor
open Go.RowKit Go.Wd Go.Box
set_option linter.unusedVariables false
set_option maxRecDepth 3000
/-- A call's answer for the exact number s times 2 to the E, as it lies in w. -/
def Ans (w : World) (s E : Int) (n : Bool) (a : Option Addr) (k c : Nat) (ex code : Int) : Prop :=
  (s = 0 ∧ n = false ∧ a = none ∧ k = 0 ∧ c = 0 ∧ ex = 0 ∧ code = 0) ∨ (s ≠ 0 ∧ ∃ t : Nat, LowBit (s.natAbs : Int) t ∧
    ((-16777216 ≤ E + t ∧ E + t ≤ 16777216 ∧ n = decide (s < 0) ∧ ex = E + t ∧ code = 0 ∧ ∃ zs, k = zs.length ∧ Good zs ((s.natAbs : Int) / 2 ^ t) ∧ Lie w a zs) ∨
     (4294967296 ^ 4096 ≤ (s.natAbs : Int) / 2 ^ t ∧ n = false ∧ a = none ∧ k = 0 ∧ c = 0 ∧ ex = 0 ∧ code = 3) ∨
     ((s.natAbs : Int) / 2 ^ t < 4294967296 ^ 4096 ∧ (E + t < -16777216 ∨ 16777216 < E + t) ∧ n = false ∧ a = none ∧ k = 0 ∧ c = 0 ∧ ex = 0 ∧ code = 20)))
theorem DV.ans {w w' : World} {s E : Int} {n : Bool} {a : Option Addr} {k c : Nat} {ex code : Int} (h : DV w w' s E n a k c ex code) : Ans w' s E n a k c ex code := by
  rcases h.all with h | ⟨h0, t, ht, h⟩
  · exact .inl h
  · refine .inr ⟨h0, t, ht, ?_⟩
    rcases h with ⟨j1, j2, j3, j4, j5, zs, rfl, j6, j7⟩ | h | h
    · obtain ⟨a2, c2, he, _, _, hl⟩ := j7.lie
      simp only [Value.slice.injEq, true_and] at he
      obtain ⟨rfl, rfl⟩ := he
      exact .inl ⟨j1, j2, j3, j4, j5, zs, rfl, j6, hl⟩
    · exact .inr (.inl h)
    · exact .inr (.inr h)
theorem Ans.below {w w' : World} {s E : Int} {n : Bool} {a : Option Addr} {k c : Nat} {ex code : Int} (h : Ans w s E n a k c ex code) (hb : Below w.heap.size w w') : Ans w' s E n a k c ex code := by
  rcases h with h | ⟨h0, t, ht, h⟩
  · exact .inl h
  · refine .inr ⟨h0, t, ht, ?_⟩
    rcases h with ⟨j1, j2, j3, j4, j5, zs, j6, j7, j8⟩ | h | h
    · exact .inl ⟨j1, j2, j3, j4, j5, zs, j6, j7, j8.below hb (Nat.le_refl _)⟩
    · exact .inr (.inl h)
    · exact .inr (.inr h)
theorem same_noneX (w : World) : Calls Tryd.prog 28 #[noD, noD] w fun e w' => e = .returned (.bool true) ∧ Below w.heap.size w w' :=
  dsame40 false false none none 0 0 [] [] 0 0 w (zeroDG.lie (.inl rfl)) (zeroDG.lie (.inl rfl)) true rfl
/-- What a call answers for an exact number is what the reference's bound says of it. -/
theorem boundX {s E : Int} {n1 n2 : Bool} {a1 a2 : Option Addr} {k1 c1 c2 : Nat} {z2 : List Int} {x1 e2 code : Int} (w : World) (A : Ans w s E n1 a1 k1 c1 x1 code) (F : Fm s E n2 z2 e2) (l2 : Lie w a2 z2) :
    Calls Tryd.prog 39 #[dV n1 a1 k1 c1 x1, .int .i64 code, dV n2 a2 z2.length c2 e2] w fun e w' => e = .returned (.bool true) ∧ Below w.heap.size w w' := by
  rcases A with ⟨h0, rfl, rfl, rfl, rfl, rfl, rfl⟩ | ⟨h0, t, ht, h⟩
  · rcases F with ⟨_, rfl, rfl, rfl⟩ | ⟨f0, _⟩
    · exact bound_call false false false none a2 a2 0 0 0 c2 0 c2 0 0 0 0 w (fun W => rBound false a2 c2 0 0 (by decide) (by decide) (by decide) W)
        (fun W hW => dsame40 false false none a2 0 c2 [] [] 0 0 W (zeroDG.lie (.inl rfl)) (zeroDG.lie (.inl rfl)) true rfl)
    · exact absurd h0 f0
  · rcases F with ⟨f0, _⟩ | ⟨_, r, hr, rfl, rfl, fc, fv⟩
    · exact absurd f0 h0
    · obtain rfl := ht.unique hr
      rcases h with ⟨j1, j2, rfl, rfl, rfl, zs, rfl, j6, j7⟩ | ⟨j1, rfl, rfl, rfl, rfl, rfl, rfl⟩ | ⟨j0, j1, rfl, rfl, rfl, rfl, rfl, rfl⟩
      · obtain rfl : zs = z2 := Nt.can_unique j6.can fc (by rw [j6.val, fv])
        have hl := j6.len
        refine bound_call _ _ _ a1 a2 a2 zs.length c1 zs.length c2 zs.length c2 _ _ _ 0 w (fun W => rBound _ a2 c2 zs.length _ (by omega) j1 j2 W) (fun W hW => ?_)
        have hlen : zs.length ≤ maxLen := by unfold maxLen; omega
        exact dsame40 _ _ a1 a2 c1 c2 zs zs _ _ W ⟨j7.below hW (Nat.le_refl _), hlen, fc.1⟩ ⟨l2.below hW (Nat.le_refl _), hlen, fc.1⟩ true (decide_eq_true ⟨rfl, rfl, rfl⟩)
      · have hlen : (4096 : Int) < (z2.length : Int) := by
          by_cases c : z2.length ≤ 4096
          · have := (Nt.can_len fc 4096).2 c
            rw [fv] at this
            exact absurd this (Int.not_lt.2 j1)
          · omega
        exact bound_call _ _ _ none a2 none 0 0 z2.length c2 0 0 _ _ _ 3 w (fun W => rBound_long _ a2 c2 z2.length _ hlen W) (fun W hW => same_noneX W)
      · have hlen : (z2.length : Int) ≤ 4096 := by
          have := (Nt.can_len fc 4096).1 (by rw [fv]; exact j0)
          omega
        rcases j1 with j1 | j1
        · exact bound_call _ _ _ none a2 none 0 0 z2.length c2 0 0 _ _ _ 20 w (fun W => rBound_low _ a2 c2 z2.length _ hlen j1 W) (fun W hW => same_noneX W)
        · exact bound_call _ _ _ none a2 none 0 0 z2.length c2 0 0 _ _ _ 20 w (fun W => rBound_high _ a2 c2 z2.length _ hlen j1 W) (fun W hW => same_noneX W)
end Go.Proofs.YtiamdmfhkhlppaaDoor
