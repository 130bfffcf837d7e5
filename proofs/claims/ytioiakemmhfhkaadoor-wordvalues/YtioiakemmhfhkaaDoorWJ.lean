import Derived.Test.YtioiakemmhfhkaaDoorWI
namespace Go.Proofs.YtioiakemmhfhkaaDoor
open Go.RowKit Go.Wd Go.Box
set_option linter.unusedVariables false
set_option maxRecDepth 3000
theorem wOf_bad (f : Int) (hf : Bad f) (n : Bool) (a : Option Addr) (k c : Nat) (ex : Int) (w : World) :
    Calls Tryd.prog 87 #[.int .u8 f, dV n a k c ex] w fun e w' => e = .returned (.tuple #[.int .u64 0, .int .i64 4]) ∧ Below w.heap.size w w' := by
  have B1 := (Bx.nil w).push (DO n a k c ex)
  go_enter Tryd.func87, Tryd.ntmps87
  go_wp2_with fail
  refine (wShapeOf_bad f hf _).mono ?_
  rintro e w2 ⟨rfl, h2⟩
  have B2 := (B1.keep h2).push ZO
  clear h2 B1
  go_wp2
  go_ret2
  exact ⟨rfl, B2.bel⟩
theorem wOf_arg (b n : Bool) (a : Option Addr) (c : Nat) (zs : List Int) (ex : Int) (w : World) (u : DLie w a zs) (hm : dmayB n zs ex = false) :
    Calls Tryd.prog 87 #[.int .u8 (fm b), dV n a zs.length c ex] w fun e w' => e = .returned (.tuple #[.int .u64 0, .int .i64 2]) ∧ Below w.heap.size w w' := by
  have B1 := (Bx.nil w).push (DO n a zs.length c ex)
  go_enter Tryd.func87, Tryd.ntmps87
  go_wp2_with fail
  refine (wShapeOf b _).mono ?_
  rintro e w2 ⟨rfl, h2⟩
  have B2 := (B1.keep h2).push (SO b)
  have hlt : w.heap.size < w2.heap.size := (B1.keep h2).lt (.head _)
  obtain ⟨⟨f0, f1, f2⟩, _⟩ := cells3 (B1.keep h2) w.heap.size _ _ _ _ (.head _)
  clear h2 B1
  go_wp2_with fail
  refine (u.may n c ex false hm _ B2.bel).mono ?_
  rintro e w3 ⟨rfl, h3⟩
  have B3 := B2.keep h3
  clear h3 B2 f0 f1 f2 u
  go_wp2
  go_ret2
  exact ⟨rfl, B3.bel⟩
theorem wOf_zero (b : Bool) (a : Option Addr) (c : Nat) (w : World) :
    Calls Tryd.prog 87 #[.int .u8 (fm b), dV false a ([] : List Int).length c 0] w fun e w' => e = .returned (.tuple #[.int .u64 0, .int .i64 0]) ∧ Below w.heap.size w w' := by
  have B1 := (Bx.nil w).push (DO false a ([] : List Int).length c 0)
  have g := zeroDG
  have u : DLie w a [] := g.lie (.inl rfl)
  have D0 : DN false [] 0 0 := ⟨g, zero_dv _ _⟩
  go_enter Tryd.func87, Tryd.ntmps87
  go_wp2_with fail
  refine (wShapeOf b _).mono ?_
  rintro e w2 ⟨rfl, h2⟩
  have B2 := (B1.keep h2).push (SO b)
  have hlt : w.heap.size < w2.heap.size := (B1.keep h2).lt (.head _)
  obtain ⟨⟨f0, f1, f2⟩, _⟩ := cells3 (B1.keep h2) w.heap.size _ _ _ _ (.head _)
  clear h2 B1
  go_wp2_with fail
  refine (u.may false c 0 true g.may _ B2.bel).mono ?_
  rintro e w3 ⟨rfl, h3⟩
  have B3 := B2.keep h3
  obtain ⟨⟨f0, f1, f2⟩, _⟩ := cells3 B3 w.heap.size _ _ _ _ (.tail _ (.head _))
  clear h3 B2 u
  go_wp2_with fail
  refine (dsign49 false a c [] 0 0 _ (.inl rfl) D0 0 rfl).mono ?_
  rintro e w4 ⟨rfl, h4⟩
  have B4 := B3.keep h4
  clear h4 B3 f0 f1 f2
  go_wp2
  go_ret2
  exact ⟨rfl, B4.bel⟩
theorem sgn_dv {n : Bool} {zs : List Int} {ex : Int} (g : DG n zs ex) (hz : 0 < zs.length) : ∃ s, sgn (dv n zs ex) 0 = s ∧ (s == 0) = false := by
  refine ⟨_, rfl, ?_⟩
  have hp := g.pos hz
  have hq := pK_pos ex
  have h0 : 0 < Nt.val zs * pK ex := Int.mul_pos hp hq
  unfold dv
  cases n
  · rw [sv_f]
    generalize Nt.val zs * pK ex = X at *
    unfold sgn
    first | (simp; omega) | (split <;> first | rfl | omega)
  · rw [sv_t, Int.neg_mul]
    generalize Nt.val zs * pK ex = X at *
    unfold sgn
    first | (simp; omega) | (split <;> first | rfl | omega)
theorem wOf_call (b n : Bool) (a : Option Addr) (c : Nat) (zs : List Int) (ex : Int) (w : World) (hl : Lie w a zs) (g : DG n zs ex) (hz : 0 < zs.length) (y k : Int)
    (H : ∀ W, Lie W a zs → Calls Tryd.prog 148 #[S b, dV n a zs.length c ex] W fun e w' => e = .returned (.tuple #[.int .u64 y, .int .i64 k]) ∧ Below W.heap.size W w') :
    Calls Tryd.prog 87 #[.int .u8 (fm b), dV n a zs.length c ex] w fun e w' => e = .returned (.tuple #[.int .u64 y, .int .i64 k]) ∧ Below w.heap.size w w' := by
  have B1 := (Bx.nil w).push (DO n a zs.length c ex)
  have u := g.lie hl
  obtain ⟨s, hs, hs2⟩ := sgn_dv g hz
  have HS := Hide.mk hs
  have HH := Hide.mk H
  clear hs H
  go_enter Tryd.func87, Tryd.ntmps87
  go_wp2_with fail
  refine (wShapeOf b _).mono ?_
  rintro e w2 ⟨rfl, h2⟩
  have B2 := (B1.keep h2).push (SO b)
  have hlt : w.heap.size < w2.heap.size := (B1.keep h2).lt (.head _)
  obtain ⟨⟨f0, f1, f2⟩, _⟩ := cells3 (B1.keep h2) w.heap.size _ _ _ _ (.head _)
  clear h2 B1
  go_wp2_with fail
  refine (u.may n c ex true g.may _ B2.bel).mono ?_
  rintro e w3 ⟨rfl, h3⟩
  have B3 := B2.keep h3
  obtain ⟨⟨f0, f1, f2⟩, _⟩ := cells3 B3 w.heap.size _ _ _ _ (.tail _ (.head _))
  have l3 := hl.below B3.bel (Nat.le_refl _)
  clear h3 B2 u
  go_wp2_with fail
  refine (dsign49 n a c zs ex _ _ l3 ⟨g, rfl⟩ s HS.out).mono ?_
  rintro e w4 ⟨rfl, h4⟩
  have B4 := B3.keep h4
  obtain ⟨⟨f0, f1, f2⟩, _⟩ := cells3 B4 w.heap.size _ _ _ _ (.tail _ (.head _))
  obtain ⟨e0, e1, e2, e3⟩ := shape_cells B4 w2.heap.size b (.head _)
  have l4 := hl.below B4.bel (Nat.le_refl _)
  have H4 := Hide.mk (HH.out w4 l4)
  clear h4 B3 l3 HH HS l4
  go_wp2_with fail
  refine H4.out.mono ?_
  rintro e w5 ⟨rfl, h5⟩
  have B5 := B4.keep h5
  clear h5 B4 f0 f1 f2 e0 e1 e2 e3 H4
  go_wp2
  go_ret2
  exact ⟨rfl, B5.bel⟩
theorem wOf_no (b n : Bool) (a : Option Addr) (c : Nat) (zs : List Int) (ex : Int) (w : World) (hl : Lie w a zs) (g : DG n zs ex) (hz : 0 < zs.length) {B : Nat} (hB : BitLen (Nt.val zs) B) (hb : B ≤ 131072)
    (hc : tp b ≤ uu b (B + ex) - lo b + 1 ∨ ex < uu b (B + ex)) :
    Calls Tryd.prog 87 #[.int .u8 (fm b), dV n a zs.length c ex] w fun e w' => e = .returned (.tuple #[.int .u64 0, .int .i64 7]) ∧ Below w.heap.size w w' :=
  wOf_call b n a c zs ex w hl g hz 0 7 (fun W hW => wWordOf_no b n a c zs ex W hW g hB hb hc)
theorem wOf_ok (b n : Bool) (a : Option Addr) (c : Nat) (zs : List Int) (ex : Int) (w : World) (hl : Lie w a zs) (g : DG n zs ex) (hz : 0 < zs.length) {B : Nat} (hB : BitLen (Nt.val zs) B) (hb : B ≤ 131072)
    (hc1 : uu b (B + ex) - lo b + 1 < tp b) (hc2 : uu b (B + ex) ≤ ex) (k : Nat) (hk : (k : Int) = ex - uu b (B + ex)) :
    Calls Tryd.prog 87 #[.int .u8 (fm b), dV n a zs.length c ex] w fun e w' => e = .returned (.tuple #[.int .u64 (sd b ((uu b (B + ex) - lo b) * fr b + Nt.val zs * 2 ^ k) n), .int .i64 0]) ∧ Below w.heap.size w w' :=
  wOf_call b n a c zs ex w hl g hz _ 0 (fun W hW => wWordOf b n a c zs ex W hW g hB hb hc1 hc2 k hk)
end Go.Proofs.YtioiakemmhfhkaaDoor
