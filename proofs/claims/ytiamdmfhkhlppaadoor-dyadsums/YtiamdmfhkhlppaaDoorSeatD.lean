import Derived.Test.YtiamdmfhkhlppaaDoorSeat
import Derived.Lib.SmallJoins
namespace Go.Proofs.YtiamdmfhkhlppaaDoor
open Go.ChangeShapes Go.WideShapes Go.ChangeAt Go.RowKit
set_option linter.unusedVariables false
set_option maxRecDepth 3000
theorem cells44 : Tryd.prog.cellsOf 36 = 3 := by kernel_rfl
/-- A dyadic number that came in. -/
theorem open_dyad {H : Type} {enc : TypeId × Value → H} {W : World} {v : Value} {d : DataW H} {p : List MemPlace} {base b0 : Nat} {r : Reach}
    (hv : Value.okWide Tryd.prog W r b0 36 v) (h : DataW.Trod enc Tryd.prog W base (fun _ => true) true 36 v d p) :
    ∃ ng a len cap ex zs, v = .agg #[.bool ng, .slice a len cap, .int .i64 ex] ∧ IsRow .u32 W a len cap zs ∧ (Lit.int .i64 ex).wf = true := by
  obtain ⟨v0, v1, v2, y0, y1, y2, n, rfl, _, _, h0, h1, h2⟩ := Go.Joins.open_agg3 Tryd.underlying36 (by kernel_rfl) cells44 hv h
  obtain ⟨b, hb, _⟩ := DataW.trod_bool Tryd.underlying4 h0
  obtain ⟨x, hx, _, hw⟩ := DataW.trod_int Tryd.underlying3 h2
  simp only [List.cons.injEq, and_true] at hb hx
  subst hb hx
  rcases open_ints Tryd.underlying22 Tryd.underlying70 (by kernel_rfl) h1 with ⟨hcs, _⟩ | ⟨y, l, c, zs, hcs, _, hl, hm, hz, _, hcell, hwz⟩
  · simp only [List.cons.injEq, and_true] at hcs
    subst hcs
    exact ⟨b, none, 0, 0, x, [], rfl, .inl ⟨rfl, rfl, rfl, rfl⟩, hw⟩
  · simp only [List.cons.injEq, and_true] at hcs
    subst hcs
    exact ⟨b, _, _, _, x, zs, rfl, .inr ⟨_, rfl, hl, hm, by simpa using hz, hcell, hwz⟩, hw⟩
end Go.Proofs.YtiamdmfhkhlppaaDoor
