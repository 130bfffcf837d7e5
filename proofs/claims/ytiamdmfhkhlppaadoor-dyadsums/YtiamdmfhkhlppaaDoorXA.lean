import Derived.Test.YtiamdmfhkhlppaaDoorWH
namespace Go.Proofs.YtiamdmfhkhlppaaDoor
open Go.RowKit Go.Wd Go.Box
set_option linter.unusedVariables false
set_option maxRecDepth 3000
/-- The one form of s times 2 to the E, however long. -/
def Fm (s E : Int) (n : Bool) (zs : List Int) (ex : Int) : Prop :=
  (s = 0 ∧ n = false ∧ zs = [] ∧ ex = 0) ∨ (s ≠ 0 ∧ ∃ t : Nat, LowBit (s.natAbs : Int) t ∧ n = decide (s < 0) ∧ ex = E + t ∧ Nt.Can zs ∧ Nt.val zs = (s.natAbs : Int) / 2 ^ t)
def RF (w w' : World) (s E : Int) (e : Ending) : Prop :=
  ∃ n zs ex a c, e = .returned (dV n a zs.length c ex) ∧ Fm s E n zs ex ∧ Lie w' a zs ∧ Below w.heap.size w w'
theorem Fm.same {s E : Int} {n1 n2 : Bool} {z1 z2 : List Int} {e1 e2 : Int} (h : Fm s E n1 z1 e1) (k : Fm s E n2 z2 e2) : n1 = n2 ∧ e1 = e2 ∧ z1 = z2 := by
  rcases h with ⟨h0, rfl, rfl, rfl⟩ | ⟨h0, t, ht, rfl, rfl, hc, hv⟩ <;> rcases k with ⟨k0, rfl, rfl, rfl⟩ | ⟨k0, r, hr, rfl, rfl, kc, kv⟩
  · exact ⟨rfl, rfl, rfl⟩
  · exact absurd h0 k0
  · exact absurd k0 h0
  · obtain rfl := ht.unique hr
    exact ⟨rfl, rfl, Nt.can_unique hc kc (by rw [hv, kv])⟩
set_option maxHeartbeats 1000000 in
theorem formX1 (n : Bool) (a : Option Addr) (ca : Nat) (za : List Int) (ex : Int) (w : World) (ha : Lie w a za) (qa : Nt.Can za) (hm : za.length ≤ 10000) (hz : 0 < za.length) {t : Nat} (ht : LowBit (Nt.val za) t) (h0 : -9000000000000000000 ≤ ex) (h1 : ex ≤ 9000000000000000000) :
    Calls Tryd.prog 80 #[.bool n, .slice a za.length ca, .int .i64 ex] w fun e w' => ∃ zs a' c, e = .returned (dV n a' zs.length c (ex + t)) ∧ Nt.Can zs ∧ Nt.val zs = Nt.val za / 2 ^ t ∧ Lie w' a' zs ∧ Below w.heap.size w w' := by
  have B1 := (Bx.nil w).push (DO false none 0 0 0)
  have l1 := ha.below B1.bel (Nat.le_refl _)
  have HL := Hide.mk (refLow59 a ca za _ l1 qa hz (by omega))
  have Ht := Hide.mk ht
  have hne : ((za.length : Int) == 0) = false := beq_eq_false_iff_ne.2 (by omega)
  clear ha ht
  go_enter Tryd.func80, Tryd.ntmps80
  go_wp2_with fail
  refine HL.out.mono ?_
  rintro e w2 ⟨rfl, t2, rfl, ht2, htl⟩
  obtain rfl := ht2.unique Ht.out
  have HD := Hide.mk (refDown46 a ca za _ t2 (by omega) l1 qa hz (by omega))
  clear ht2 HL l1
  go_wp2_with fail
  refine HD.out.mono ?_
  rintro e w3 ⟨zs, a', c, rfl, hO, hC, hV, h3⟩
  have B3 := B1.keep h3
  obtain ⟨a2, c2, he, _, _, hl⟩ := hO.lie
  simp only [Value.slice.injEq, true_and] at he
  obtain ⟨rfl, rfl⟩ := he
  have H := Hide.mk (And.intro hC (And.intro hV hl))
  obtain ⟨⟨f0, f1, f2⟩, r0, r1, r2⟩ := cells3 B3 w.heap.size _ _ _ _ (.head _)
  clear hO hC hV h3 HD hl B1
  generalize decide (Nt.val za % 2 ^ t2 ≠ 0) = q at *
  generalize hu : (t2 : Int) = u at *
  have hu0 : 0 ≤ u := by omega
  have hu1 : u < 320000 := by omega
  have HU := Hide.mk hu
  clear hu htl
  have B4 := B3.fill3 (Nat.le_refl _) (by simp) (.bool n) (.slice a' zs.length c) (.int .i64 (ex + u))
  go_wp2
  refine bodyPost_ret (results_D1 rfl _ _ w.heap.size _ rfl ⟨B4.head, rfl⟩) rfl ?_
  have L := Live.set3 (g := w.heap.size) ⟨B3.head, rfl⟩ (.bool n) (.slice a' zs.length c) (.int .i64 (ex + u)) (Live.one H.out.2.2)
  exact ⟨zs, a', c, by rw [HU.out], H.out.1, H.out.2.1, L.all (a', zs) (.head _), B4.bel⟩
theorem formZ (n : Bool) (a : Option Addr) (ca : Nat) (ex : Int) (w : World) :
    Calls Tryd.prog 80 #[.bool n, .slice a 0 ca, .int .i64 ex] w fun e w' => e = .returned noD ∧ Below w.heap.size w w' := by
  go_enter Tryd.func80, Tryd.ntmps80
  go_wp2
  refine bodyPost_ret (results_D1 rfl _ _ w.heap.size _ rfl (dcell_new _ _ _ _)) rfl ?_
  exact ⟨rfl, below_alloc _ _⟩
/-- Form answers the one form. -/
theorem formX (n : Bool) (a : Option Addr) (ca : Nat) (za : List Int) (ex : Int) (w : World) (ha : Lie w a za) (qa : Nt.Can za) (hm : za.length ≤ 10000) (h0 : -9000000000000000000 ≤ ex) (h1 : ex ≤ 9000000000000000000) :
    Calls Tryd.prog 80 #[.bool n, .slice a za.length ca, .int .i64 ex] w fun e w' => RF w w' (sv n (Nt.val za)) ex e := by
  have hv0 := (Nt.val_bd qa.1).1
  by_cases hz : 0 < za.length
  · have hp : 0 < Nt.val za := by
      have h2 := can_ge qa hz
      have h3 := Nt.pw_pos (za.length - 1)
      omega
    obtain ⟨t, ht⟩ := low_ex hp
    refine (formX1 n a ca za ex w ha qa hm hz ht h0 h1).mono ?_
    rintro e w' ⟨zs, a', c, rfl, hC, hV, hl, hb⟩
    have habs : ((sv n (Nt.val za)).natAbs : Int) = Nt.val za := by
      cases n
      · rw [sv_f]; omega
      · rw [sv_t]; omega
    refine ⟨n, zs, ex + t, a', c, rfl, .inr ⟨?_, t, by rw [habs]; exact ht, ?_, rfl, hC, by rw [habs]; exact hV⟩, hl, hb⟩
    · cases n
      · rw [sv_f]; omega
      · rw [sv_t]; omega
    · cases n
      · rw [sv_f]; exact (decide_eq_false (by omega)).symm
      · rw [sv_t]; exact (decide_eq_true (by omega)).symm
  · obtain rfl : za = [] := List.length_eq_zero_iff.1 (by omega)
    refine (formZ n a ca ex w).mono ?_
    rintro e w' ⟨rfl, hb⟩
    refine ⟨false, [], 0, none, 0, rfl, .inl ⟨?_, rfl, rfl, rfl⟩, .inl rfl, hb⟩
    rw [Nt.val_nil]
    cases n <;> rfl
end Go.Proofs.YtiamdmfhkhlppaaDoor
