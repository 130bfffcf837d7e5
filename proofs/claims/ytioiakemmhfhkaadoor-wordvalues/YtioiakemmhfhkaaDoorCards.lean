/-
  DERIVED. GIVEN WITH THE SEED: THE CARDS: each row of YtioiakemmhfhkaaDoorRows.lean that lists a variable, with what it lists TIED to the program's text (the seventh form; the later family's looks); each row that meets fmt, with fmt's text TOLD by the authors' own Lean function (tested against real Go, not proved from fmt's source: count such statements apart). THE CARD IS WHAT COUNTS. Prove the row's statement (the work); the ties are given (YtioiakemmhfhkaaDoorTie.lean); close each card by the builder's one call (the guide's Derived/Test/ToyasCard.lean, 'card_holds'). Laid BY PROGRAM, IN A SANDBOX (cutbox-door.mjs). By AI agents, Wed Nov 11 2026. No macro, syntax, notation, axiom, sorry.
-/
import Derived.Test.YtioiakemmhfhkaaDoorRows
import GoSem.ClaimSeven
namespace Go.Proofs.YtioiakemmhfhkaaDoor
namespace Rows

/-- THE TIED CARD OF 'cutplanelaw01.NatShifts'. -/
def natShiftsCard : Claim7 := { stood := { row := natShiftsRow, standIns := [], harness := (true, "5d0a6e809d86f027aa64787345be693bc5aa4c371b18fd12e0f361652e97dc97"), looks := false }, kinds := [], alts := [], laidByText := true, laidKinds := [.data], laidTests := true, laidLooks := .later }
def NatShiftsCardSaid : Prop := Claim7.holds Tryd.pinned (.plain (OpenSpec.ofChange natShiftsSpec)) natShiftsCard

/-- THE TIED CARD OF 'cutplanelaw01.NatTexts'. -/
def natTextsCard : Claim7 := { stood := { row := natTextsRow, standIns := [], harness := (true, "5d0a6e809d86f027aa64787345be693bc5aa4c371b18fd12e0f361652e97dc97"), looks := false }, kinds := [], alts := [], laidByText := true, laidKinds := [.data, .data, .data], laidTests := true, laidLooks := .later }
def NatTextsCardSaid : Prop := Claim7.holds Tryd.pinned (.plain (OpenSpec.ofChange natTextsSpec)) natTextsCard

/-- THE TIED CARD OF 'cutplanelaw01.NatReads'. -/
def natReadsCard : Claim7 := { stood := { row := natReadsRow, standIns := [], harness := (true, "5d0a6e809d86f027aa64787345be693bc5aa4c371b18fd12e0f361652e97dc97"), looks := false }, kinds := [], alts := [], laidByText := true, laidKinds := [.data, .data, .data], laidTests := true, laidLooks := .later }
def NatReadsCardSaid : Prop := Claim7.holds Tryd.pinned (.plain (OpenSpec.ofChange natReadsSpec)) natReadsCard

/-- THE TIED CARD OF 'cutplanelaw01.NatUpDown'. -/
def natUpDownCard : Claim7 := { stood := { row := natUpDownRow, standIns := [], harness := (true, "5d0a6e809d86f027aa64787345be693bc5aa4c371b18fd12e0f361652e97dc97"), looks := false }, kinds := [], alts := [], laidByText := true, laidKinds := [.data], laidTests := true, laidLooks := .later }
def NatUpDownCardSaid : Prop := Claim7.holds Tryd.pinned (.plain (OpenSpec.ofChange natUpDownSpec)) natUpDownCard

/-- THE TIED CARD OF 'cutplanelaw02.DyadMakes'. -/
def dyadMakesCard : Claim7 := { stood := { row := dyadMakesRow, standIns := [], harness := (true, "5d0a6e809d86f027aa64787345be693bc5aa4c371b18fd12e0f361652e97dc97"), looks := false }, kinds := [], alts := [], laidByText := true, laidKinds := [.data], laidTests := true, laidLooks := .later }
def DyadMakesCardSaid : Prop := Claim7.holds Tryd.pinned (.plain (OpenSpec.ofChange dyadMakesSpec)) dyadMakesCard

/-- THE TIED CARD OF 'cutplanelaw02.DyadInts'. -/
def dyadIntsCard : Claim7 := { stood := { row := dyadIntsRow, standIns := [], harness := (true, "5d0a6e809d86f027aa64787345be693bc5aa4c371b18fd12e0f361652e97dc97"), looks := false }, kinds := [], alts := [], laidByText := true, laidKinds := [.data], laidTests := true, laidLooks := .later }
def DyadIntsCardSaid : Prop := Claim7.holds Tryd.pinned (.plain (OpenSpec.ofChange dyadIntsSpec)) dyadIntsCard

/-- THE TIED CARD OF 'cutplanelaw02.DyadSums'. -/
def dyadSumsCard : Claim7 := { stood := { row := dyadSumsRow, standIns := [], harness := (true, "5d0a6e809d86f027aa64787345be693bc5aa4c371b18fd12e0f361652e97dc97"), looks := false }, kinds := [], alts := [], laidByText := true, laidKinds := [.data], laidTests := true, laidLooks := .later }
def DyadSumsCardSaid : Prop := Claim7.holds Tryd.pinned (.plain (OpenSpec.ofChange dyadSumsSpec)) dyadSumsCard

/-- THE TIED CARD OF 'cutplanelaw02.DyadCuts'. -/
def dyadCutsCard : Claim7 := { stood := { row := dyadCutsRow, standIns := [], harness := (true, "5d0a6e809d86f027aa64787345be693bc5aa4c371b18fd12e0f361652e97dc97"), looks := false }, kinds := [], alts := [], laidByText := true, laidKinds := [.data], laidTests := true, laidLooks := .later }
def DyadCutsCardSaid : Prop := Claim7.holds Tryd.pinned (.plain (OpenSpec.ofChange dyadCutsSpec)) dyadCutsCard

/-- THE TIED CARD OF 'cutplanelaw02.DyadQuotients'. -/
def dyadQuotientsCard : Claim7 := { stood := { row := dyadQuotientsRow, standIns := [], harness := (true, "5d0a6e809d86f027aa64787345be693bc5aa4c371b18fd12e0f361652e97dc97"), looks := false }, kinds := [], alts := [], laidByText := true, laidKinds := [.data], laidTests := true, laidLooks := .later }
def DyadQuotientsCardSaid : Prop := Claim7.holds Tryd.pinned (.plain (OpenSpec.ofChange dyadQuotientsSpec)) dyadQuotientsCard

/-- THE TIED CARD OF 'cutplanelaw02.DyadRing'. -/
def dyadRingCard : Claim7 := { stood := { row := dyadRingRow, standIns := [], harness := (true, "5d0a6e809d86f027aa64787345be693bc5aa4c371b18fd12e0f361652e97dc97"), looks := false }, kinds := [], alts := [], laidByText := true, laidKinds := [.data], laidTests := true, laidLooks := .later }
def DyadRingCardSaid : Prop := Claim7.holds Tryd.pinned (.plain (OpenSpec.ofChange dyadRingSpec)) dyadRingCard

/-- THE TIED CARD OF 'cutplanelaw02.DyadOrder'. -/
def dyadOrderCard : Claim7 := { stood := { row := dyadOrderRow, standIns := [], harness := (true, "5d0a6e809d86f027aa64787345be693bc5aa4c371b18fd12e0f361652e97dc97"), looks := false }, kinds := [], alts := [], laidByText := true, laidKinds := [.data], laidTests := true, laidLooks := .later }
def DyadOrderCardSaid : Prop := Claim7.holds Tryd.pinned (.plain (OpenSpec.ofChange dyadOrderSpec)) dyadOrderCard

/-- THE TIED CARD OF 'cutplanelaw02.DyadCloses'. -/
def dyadClosesCard : Claim7 := { stood := { row := dyadClosesRow, standIns := [], harness := (true, "5d0a6e809d86f027aa64787345be693bc5aa4c371b18fd12e0f361652e97dc97"), looks := false }, kinds := [], alts := [], laidByText := true, laidKinds := [.data], laidTests := true, laidLooks := .later }
def DyadClosesCardSaid : Prop := Claim7.holds Tryd.pinned (.plain (OpenSpec.ofChange dyadClosesSpec)) dyadClosesCard

/-- THE TIED CARD OF 'cutplanelaw02.DyadFloors'. -/
def dyadFloorsCard : Claim7 := { stood := { row := dyadFloorsRow, standIns := [], harness := (true, "5d0a6e809d86f027aa64787345be693bc5aa4c371b18fd12e0f361652e97dc97"), looks := false }, kinds := [], alts := [], laidByText := true, laidKinds := [.data], laidTests := true, laidLooks := .later }
def DyadFloorsCardSaid : Prop := Claim7.holds Tryd.pinned (.plain (OpenSpec.ofChange dyadFloorsSpec)) dyadFloorsCard

/-- THE TIED CARD OF 'cutplanelaw03.WordValues'. -/
def wordValuesCard : Claim7 := { stood := { row := wordValuesRow, standIns := [], harness := (true, "5d0a6e809d86f027aa64787345be693bc5aa4c371b18fd12e0f361652e97dc97"), looks := false }, kinds := [], alts := [], laidByText := true, laidKinds := [.data], laidTests := true, laidLooks := .later }
def WordValuesCardSaid : Prop := Claim7.holds Tryd.pinned (.plain (OpenSpec.ofChange wordValuesSpec)) wordValuesCard

/-- THE TIED CARD OF 'cutplanelaw03.WordBack'. -/
def wordBackCard : Claim7 := { stood := { row := wordBackRow, standIns := [], harness := (true, "5d0a6e809d86f027aa64787345be693bc5aa4c371b18fd12e0f361652e97dc97"), looks := false }, kinds := [], alts := [], laidByText := true, laidKinds := [.data], laidTests := true, laidLooks := .later }
def WordBackCardSaid : Prop := Claim7.holds Tryd.pinned (.plain (OpenSpec.ofChange wordBackSpec)) wordBackCard

/-- THE TIED CARD OF 'cutplanelaw03.WordNext'. -/
def wordNextCard : Claim7 := { stood := { row := wordNextRow, standIns := [], harness := (true, "5d0a6e809d86f027aa64787345be693bc5aa4c371b18fd12e0f361652e97dc97"), looks := false }, kinds := [], alts := [], laidByText := true, laidKinds := [.data], laidTests := true, laidLooks := .later }
def WordNextCardSaid : Prop := Claim7.holds Tryd.pinned (.plain (OpenSpec.ofChange wordNextSpec)) wordNextCard

/-- THE SECOND FORM's CARD OF 'cutplanelaw01.NatShifts'. -/
def natShiftsUptoCard : Claim7 := { stood := { row := natShiftsUptoRow, standIns := [], harness := (true, "5d0a6e809d86f027aa64787345be693bc5aa4c371b18fd12e0f361652e97dc97"), looks := false }, kinds := [], alts := [], laidByText := true, laidKinds := [.data], laidTests := true, laidLooks := .later }
def NatShiftsUptoCardSaid : Prop := Claim7.holds Tryd.pinned (.plain (OpenSpec.upto natShiftsSpec)) natShiftsUptoCard

/-- THE SECOND FORM's CARD OF 'cutplanelaw01.NatTexts'. -/
def natTextsUptoCard : Claim7 := { stood := { row := natTextsUptoRow, standIns := [], harness := (true, "5d0a6e809d86f027aa64787345be693bc5aa4c371b18fd12e0f361652e97dc97"), looks := false }, kinds := [], alts := [], laidByText := true, laidKinds := [.data, .data, .data], laidTests := true, laidLooks := .later }
def NatTextsUptoCardSaid : Prop := Claim7.holds Tryd.pinned (.plain (OpenSpec.upto natTextsSpec)) natTextsUptoCard

/-- THE SECOND FORM's CARD OF 'cutplanelaw01.NatReads'. -/
def natReadsUptoCard : Claim7 := { stood := { row := natReadsUptoRow, standIns := [], harness := (true, "5d0a6e809d86f027aa64787345be693bc5aa4c371b18fd12e0f361652e97dc97"), looks := false }, kinds := [], alts := [], laidByText := true, laidKinds := [.data, .data, .data], laidTests := true, laidLooks := .later }
def NatReadsUptoCardSaid : Prop := Claim7.holds Tryd.pinned (.plain (OpenSpec.upto natReadsSpec)) natReadsUptoCard

/-- THE SECOND FORM's CARD OF 'cutplanelaw01.NatUpDown'. -/
def natUpDownUptoCard : Claim7 := { stood := { row := natUpDownUptoRow, standIns := [], harness := (true, "5d0a6e809d86f027aa64787345be693bc5aa4c371b18fd12e0f361652e97dc97"), looks := false }, kinds := [], alts := [], laidByText := true, laidKinds := [.data], laidTests := true, laidLooks := .later }
def NatUpDownUptoCardSaid : Prop := Claim7.holds Tryd.pinned (.plain (OpenSpec.upto natUpDownSpec)) natUpDownUptoCard

/-- THE SECOND FORM's CARD OF 'cutplanelaw02.DyadMakes'. -/
def dyadMakesUptoCard : Claim7 := { stood := { row := dyadMakesUptoRow, standIns := [], harness := (true, "5d0a6e809d86f027aa64787345be693bc5aa4c371b18fd12e0f361652e97dc97"), looks := false }, kinds := [], alts := [], laidByText := true, laidKinds := [.data], laidTests := true, laidLooks := .later }
def DyadMakesUptoCardSaid : Prop := Claim7.holds Tryd.pinned (.plain (OpenSpec.upto dyadMakesSpec)) dyadMakesUptoCard

/-- THE SECOND FORM's CARD OF 'cutplanelaw02.DyadInts'. -/
def dyadIntsUptoCard : Claim7 := { stood := { row := dyadIntsUptoRow, standIns := [], harness := (true, "5d0a6e809d86f027aa64787345be693bc5aa4c371b18fd12e0f361652e97dc97"), looks := false }, kinds := [], alts := [], laidByText := true, laidKinds := [.data], laidTests := true, laidLooks := .later }
def DyadIntsUptoCardSaid : Prop := Claim7.holds Tryd.pinned (.plain (OpenSpec.upto dyadIntsSpec)) dyadIntsUptoCard

/-- THE SECOND FORM's CARD OF 'cutplanelaw02.DyadSums'. -/
def dyadSumsUptoCard : Claim7 := { stood := { row := dyadSumsUptoRow, standIns := [], harness := (true, "5d0a6e809d86f027aa64787345be693bc5aa4c371b18fd12e0f361652e97dc97"), looks := false }, kinds := [], alts := [], laidByText := true, laidKinds := [.data], laidTests := true, laidLooks := .later }
def DyadSumsUptoCardSaid : Prop := Claim7.holds Tryd.pinned (.plain (OpenSpec.upto dyadSumsSpec)) dyadSumsUptoCard

/-- THE SECOND FORM's CARD OF 'cutplanelaw02.DyadCuts'. -/
def dyadCutsUptoCard : Claim7 := { stood := { row := dyadCutsUptoRow, standIns := [], harness := (true, "5d0a6e809d86f027aa64787345be693bc5aa4c371b18fd12e0f361652e97dc97"), looks := false }, kinds := [], alts := [], laidByText := true, laidKinds := [.data], laidTests := true, laidLooks := .later }
def DyadCutsUptoCardSaid : Prop := Claim7.holds Tryd.pinned (.plain (OpenSpec.upto dyadCutsSpec)) dyadCutsUptoCard

/-- THE SECOND FORM's CARD OF 'cutplanelaw02.DyadQuotients'. -/
def dyadQuotientsUptoCard : Claim7 := { stood := { row := dyadQuotientsUptoRow, standIns := [], harness := (true, "5d0a6e809d86f027aa64787345be693bc5aa4c371b18fd12e0f361652e97dc97"), looks := false }, kinds := [], alts := [], laidByText := true, laidKinds := [.data], laidTests := true, laidLooks := .later }
def DyadQuotientsUptoCardSaid : Prop := Claim7.holds Tryd.pinned (.plain (OpenSpec.upto dyadQuotientsSpec)) dyadQuotientsUptoCard

/-- THE SECOND FORM's CARD OF 'cutplanelaw02.DyadRing'. -/
def dyadRingUptoCard : Claim7 := { stood := { row := dyadRingUptoRow, standIns := [], harness := (true, "5d0a6e809d86f027aa64787345be693bc5aa4c371b18fd12e0f361652e97dc97"), looks := false }, kinds := [], alts := [], laidByText := true, laidKinds := [.data], laidTests := true, laidLooks := .later }
def DyadRingUptoCardSaid : Prop := Claim7.holds Tryd.pinned (.plain (OpenSpec.upto dyadRingSpec)) dyadRingUptoCard

/-- THE SECOND FORM's CARD OF 'cutplanelaw02.DyadOrder'. -/
def dyadOrderUptoCard : Claim7 := { stood := { row := dyadOrderUptoRow, standIns := [], harness := (true, "5d0a6e809d86f027aa64787345be693bc5aa4c371b18fd12e0f361652e97dc97"), looks := false }, kinds := [], alts := [], laidByText := true, laidKinds := [.data], laidTests := true, laidLooks := .later }
def DyadOrderUptoCardSaid : Prop := Claim7.holds Tryd.pinned (.plain (OpenSpec.upto dyadOrderSpec)) dyadOrderUptoCard

/-- THE SECOND FORM's CARD OF 'cutplanelaw02.DyadCloses'. -/
def dyadClosesUptoCard : Claim7 := { stood := { row := dyadClosesUptoRow, standIns := [], harness := (true, "5d0a6e809d86f027aa64787345be693bc5aa4c371b18fd12e0f361652e97dc97"), looks := false }, kinds := [], alts := [], laidByText := true, laidKinds := [.data], laidTests := true, laidLooks := .later }
def DyadClosesUptoCardSaid : Prop := Claim7.holds Tryd.pinned (.plain (OpenSpec.upto dyadClosesSpec)) dyadClosesUptoCard

/-- THE SECOND FORM's CARD OF 'cutplanelaw02.DyadFloors'. -/
def dyadFloorsUptoCard : Claim7 := { stood := { row := dyadFloorsUptoRow, standIns := [], harness := (true, "5d0a6e809d86f027aa64787345be693bc5aa4c371b18fd12e0f361652e97dc97"), looks := false }, kinds := [], alts := [], laidByText := true, laidKinds := [.data], laidTests := true, laidLooks := .later }
def DyadFloorsUptoCardSaid : Prop := Claim7.holds Tryd.pinned (.plain (OpenSpec.upto dyadFloorsSpec)) dyadFloorsUptoCard

/-- THE SECOND FORM's CARD OF 'cutplanelaw03.WordValues'. -/
def wordValuesUptoCard : Claim7 := { stood := { row := wordValuesUptoRow, standIns := [], harness := (true, "5d0a6e809d86f027aa64787345be693bc5aa4c371b18fd12e0f361652e97dc97"), looks := false }, kinds := [], alts := [], laidByText := true, laidKinds := [.data], laidTests := true, laidLooks := .later }
def WordValuesUptoCardSaid : Prop := Claim7.holds Tryd.pinned (.plain (OpenSpec.upto wordValuesSpec)) wordValuesUptoCard

/-- THE SECOND FORM's CARD OF 'cutplanelaw03.WordBack'. -/
def wordBackUptoCard : Claim7 := { stood := { row := wordBackUptoRow, standIns := [], harness := (true, "5d0a6e809d86f027aa64787345be693bc5aa4c371b18fd12e0f361652e97dc97"), looks := false }, kinds := [], alts := [], laidByText := true, laidKinds := [.data], laidTests := true, laidLooks := .later }
def WordBackUptoCardSaid : Prop := Claim7.holds Tryd.pinned (.plain (OpenSpec.upto wordBackSpec)) wordBackUptoCard

/-- THE SECOND FORM's CARD OF 'cutplanelaw03.WordNext'. -/
def wordNextUptoCard : Claim7 := { stood := { row := wordNextUptoRow, standIns := [], harness := (true, "5d0a6e809d86f027aa64787345be693bc5aa4c371b18fd12e0f361652e97dc97"), looks := false }, kinds := [], alts := [], laidByText := true, laidKinds := [.data], laidTests := true, laidLooks := .later }
def WordNextUptoCardSaid : Prop := Claim7.holds Tryd.pinned (.plain (OpenSpec.upto wordNextSpec)) wordNextUptoCard
end Rows
end Go.Proofs.YtioiakemmhfhkaaDoor
