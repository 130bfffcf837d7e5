/-
  DERIVED. GIVEN WITH THE SEED: THE CARDS: each row of YtdnghibkagcbcaaGreatDoorRows.lean that lists a variable, with what it lists TIED to the program's text (the seventh form; the later family's looks); each row that meets fmt, with fmt's text TOLD by the authors' own Lean function (tested against real Go, not proved from fmt's source: count such statements apart). THE CARD IS WHAT COUNTS. Prove the row's statement (the work); the ties are given (YtdnghibkagcbcaaGreatDoorTie.lean); close each card by the builder's one call (the guide's Derived/Test/ToyasCard.lean, 'card_holds'). Laid BY PROGRAM, IN A SANDBOX (cutbox-door.mjs). By AI agents, Wed Nov 11 2026. No macro, syntax, notation, axiom, sorry.
-/
import Derived.Test.YtdnghibkagcbcaaGreatDoorRows
import GoSem.ClaimSeven
namespace Go.Proofs.YtdnghibkagcbcaaGreatDoor
namespace Rows

/-- THE TIED CARD OF 'cutplanelaw04.RoundExact'. -/
def roundExactCard : Claim7 := { stood := { row := roundExactRow, standIns := [], harness := (true, "636e7da69f9ad146ccd60fb840630d7f467407213fa0b62b568b7db8e00850d2"), looks := false }, kinds := [], alts := [], laidByText := true, laidKinds := [.data], laidTests := true, laidLooks := .later }
def RoundExactCardSaid : Prop := Claim7.holds Tryz.pinned (.plain (OpenSpec.ofChange roundExactSpec)) roundExactCard

/-- THE TIED CARD OF 'cutplanelaw04.RoundQuotients'. -/
def roundQuotientsCard : Claim7 := { stood := { row := roundQuotientsRow, standIns := [], harness := (true, "636e7da69f9ad146ccd60fb840630d7f467407213fa0b62b568b7db8e00850d2"), looks := false }, kinds := [], alts := [], laidByText := true, laidKinds := [.data], laidTests := true, laidLooks := .later }
def RoundQuotientsCardSaid : Prop := Claim7.holds Tryz.pinned (.plain (OpenSpec.ofChange roundQuotientsSpec)) roundQuotientsCard

/-- THE TIED CARD OF 'cutplanelaw04.RoundRoots'. -/
def roundRootsCard : Claim7 := { stood := { row := roundRootsRow, standIns := [], harness := (true, "636e7da69f9ad146ccd60fb840630d7f467407213fa0b62b568b7db8e00850d2"), looks := false }, kinds := [], alts := [], laidByText := true, laidKinds := [.data], laidTests := true, laidLooks := .later }
def RoundRootsCardSaid : Prop := Claim7.holds Tryz.pinned (.plain (OpenSpec.ofChange roundRootsSpec)) roundRootsCard

/-- THE TIED CARD OF 'cutplanelaw04.RoundBetween'. -/
def roundBetweenCard : Claim7 := { stood := { row := roundBetweenRow, standIns := [], harness := (true, "636e7da69f9ad146ccd60fb840630d7f467407213fa0b62b568b7db8e00850d2"), looks := false }, kinds := [], alts := [], laidByText := true, laidKinds := [.data], laidTests := true, laidLooks := .later }
def RoundBetweenCardSaid : Prop := Claim7.holds Tryz.pinned (.plain (OpenSpec.ofChange roundBetweenSpec)) roundBetweenCard

/-- THE TIED CARD OF 'cutplanelaw04.RoundNearest'. -/
def roundNearestCard : Claim7 := { stood := { row := roundNearestRow, standIns := [], harness := (true, "636e7da69f9ad146ccd60fb840630d7f467407213fa0b62b568b7db8e00850d2"), looks := false }, kinds := [], alts := [], laidByText := true, laidKinds := [.data], laidTests := true, laidLooks := .later }
def RoundNearestCardSaid : Prop := Claim7.holds Tryz.pinned (.plain (OpenSpec.ofChange roundNearestSpec)) roundNearestCard

/-- THE TIED CARD OF 'cutplanelaw04.RoundOrder'. -/
def roundOrderCard : Claim7 := { stood := { row := roundOrderRow, standIns := [], harness := (true, "636e7da69f9ad146ccd60fb840630d7f467407213fa0b62b568b7db8e00850d2"), looks := false }, kinds := [], alts := [], laidByText := true, laidKinds := [.data], laidTests := true, laidLooks := .later }
def RoundOrderCardSaid : Prop := Claim7.holds Tryz.pinned (.plain (OpenSpec.ofChange roundOrderSpec)) roundOrderCard

/-- THE TIED CARD OF 'cutplanelaw04.RoundMirror'. -/
def roundMirrorCard : Claim7 := { stood := { row := roundMirrorRow, standIns := [], harness := (true, "636e7da69f9ad146ccd60fb840630d7f467407213fa0b62b568b7db8e00850d2"), looks := false }, kinds := [], alts := [], laidByText := true, laidKinds := [.data], laidTests := true, laidLooks := .later }
def RoundMirrorCardSaid : Prop := Claim7.holds Tryz.pinned (.plain (OpenSpec.ofChange roundMirrorSpec)) roundMirrorCard

/-- THE TIED CARD OF 'cutplanelaw04.RoundSquares'. -/
def roundSquaresCard : Claim7 := { stood := { row := roundSquaresRow, standIns := [], harness := (true, "636e7da69f9ad146ccd60fb840630d7f467407213fa0b62b568b7db8e00850d2"), looks := false }, kinds := [], alts := [], laidByText := true, laidKinds := [.data], laidTests := true, laidLooks := .later }
def RoundSquaresCardSaid : Prop := Claim7.holds Tryz.pinned (.plain (OpenSpec.ofChange roundSquaresSpec)) roundSquaresCard

/-- THE SECOND FORM's CARD OF 'cutplanelaw04.RoundExact'. -/
def roundExactUptoCard : Claim7 := { stood := { row := roundExactUptoRow, standIns := [], harness := (true, "636e7da69f9ad146ccd60fb840630d7f467407213fa0b62b568b7db8e00850d2"), looks := false }, kinds := [], alts := [], laidByText := true, laidKinds := [.data], laidTests := true, laidLooks := .later }
def RoundExactUptoCardSaid : Prop := Claim7.holds Tryz.pinned (.plain (OpenSpec.upto roundExactSpec)) roundExactUptoCard

/-- THE SECOND FORM's CARD OF 'cutplanelaw04.RoundQuotients'. -/
def roundQuotientsUptoCard : Claim7 := { stood := { row := roundQuotientsUptoRow, standIns := [], harness := (true, "636e7da69f9ad146ccd60fb840630d7f467407213fa0b62b568b7db8e00850d2"), looks := false }, kinds := [], alts := [], laidByText := true, laidKinds := [.data], laidTests := true, laidLooks := .later }
def RoundQuotientsUptoCardSaid : Prop := Claim7.holds Tryz.pinned (.plain (OpenSpec.upto roundQuotientsSpec)) roundQuotientsUptoCard

/-- THE SECOND FORM's CARD OF 'cutplanelaw04.RoundRoots'. -/
def roundRootsUptoCard : Claim7 := { stood := { row := roundRootsUptoRow, standIns := [], harness := (true, "636e7da69f9ad146ccd60fb840630d7f467407213fa0b62b568b7db8e00850d2"), looks := false }, kinds := [], alts := [], laidByText := true, laidKinds := [.data], laidTests := true, laidLooks := .later }
def RoundRootsUptoCardSaid : Prop := Claim7.holds Tryz.pinned (.plain (OpenSpec.upto roundRootsSpec)) roundRootsUptoCard

/-- THE SECOND FORM's CARD OF 'cutplanelaw04.RoundBetween'. -/
def roundBetweenUptoCard : Claim7 := { stood := { row := roundBetweenUptoRow, standIns := [], harness := (true, "636e7da69f9ad146ccd60fb840630d7f467407213fa0b62b568b7db8e00850d2"), looks := false }, kinds := [], alts := [], laidByText := true, laidKinds := [.data], laidTests := true, laidLooks := .later }
def RoundBetweenUptoCardSaid : Prop := Claim7.holds Tryz.pinned (.plain (OpenSpec.upto roundBetweenSpec)) roundBetweenUptoCard

/-- THE SECOND FORM's CARD OF 'cutplanelaw04.RoundNearest'. -/
def roundNearestUptoCard : Claim7 := { stood := { row := roundNearestUptoRow, standIns := [], harness := (true, "636e7da69f9ad146ccd60fb840630d7f467407213fa0b62b568b7db8e00850d2"), looks := false }, kinds := [], alts := [], laidByText := true, laidKinds := [.data], laidTests := true, laidLooks := .later }
def RoundNearestUptoCardSaid : Prop := Claim7.holds Tryz.pinned (.plain (OpenSpec.upto roundNearestSpec)) roundNearestUptoCard

/-- THE SECOND FORM's CARD OF 'cutplanelaw04.RoundOrder'. -/
def roundOrderUptoCard : Claim7 := { stood := { row := roundOrderUptoRow, standIns := [], harness := (true, "636e7da69f9ad146ccd60fb840630d7f467407213fa0b62b568b7db8e00850d2"), looks := false }, kinds := [], alts := [], laidByText := true, laidKinds := [.data], laidTests := true, laidLooks := .later }
def RoundOrderUptoCardSaid : Prop := Claim7.holds Tryz.pinned (.plain (OpenSpec.upto roundOrderSpec)) roundOrderUptoCard

/-- THE SECOND FORM's CARD OF 'cutplanelaw04.RoundMirror'. -/
def roundMirrorUptoCard : Claim7 := { stood := { row := roundMirrorUptoRow, standIns := [], harness := (true, "636e7da69f9ad146ccd60fb840630d7f467407213fa0b62b568b7db8e00850d2"), looks := false }, kinds := [], alts := [], laidByText := true, laidKinds := [.data], laidTests := true, laidLooks := .later }
def RoundMirrorUptoCardSaid : Prop := Claim7.holds Tryz.pinned (.plain (OpenSpec.upto roundMirrorSpec)) roundMirrorUptoCard

/-- THE SECOND FORM's CARD OF 'cutplanelaw04.RoundSquares'. -/
def roundSquaresUptoCard : Claim7 := { stood := { row := roundSquaresUptoRow, standIns := [], harness := (true, "636e7da69f9ad146ccd60fb840630d7f467407213fa0b62b568b7db8e00850d2"), looks := false }, kinds := [], alts := [], laidByText := true, laidKinds := [.data], laidTests := true, laidLooks := .later }
def RoundSquaresUptoCardSaid : Prop := Claim7.holds Tryz.pinned (.plain (OpenSpec.upto roundSquaresSpec)) roundSquaresUptoCard
end Rows
end Go.Proofs.YtdnghibkagcbcaaGreatDoor
