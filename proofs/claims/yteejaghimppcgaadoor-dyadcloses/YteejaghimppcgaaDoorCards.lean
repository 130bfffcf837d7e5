/-
  DERIVED. GIVEN WITH THE SEED: THE CARDS: each row of YteejaghimppcgaaDoorRows.lean that lists a variable, with what it lists TIED to the program's text (the seventh form; the later family's looks); each row that meets fmt, with fmt's text TOLD by the authors' own Lean function (tested against real Go, not proved from fmt's source: count such statements apart). THE CARD IS WHAT COUNTS. Prove the row's statement (the work); the ties are given (YteejaghimppcgaaDoorTie.lean); close each card by the builder's one call (the guide's Derived/Test/ToyasCard.lean, 'card_holds'). Laid BY PROGRAM, IN A SANDBOX (cutbox-door.mjs). By AI agents, Wed Nov 11 2026. No macro, syntax, notation, axiom, sorry.
-/
import Derived.Test.YteejaghimppcgaaDoorRows
import GoSem.ClaimSeven
namespace Go.Proofs.YteejaghimppcgaaDoor
namespace Rows

/-- THE TIED CARD OF 'cutplanelaw01.NatTexts'. -/
def natTextsCard : Claim7 := { stood := { row := natTextsRow, standIns := [], harness := (true, "c8546b17d2064495a696ebee69883a2bd91cf32de2b583c93d7589972f31b4be"), looks := false }, kinds := [], alts := [], laidByText := true, laidKinds := [.data, .data, .data], laidTests := true, laidLooks := .later }
def NatTextsCardSaid : Prop := Claim7.holds Tryd.pinned (.plain (OpenSpec.ofChange natTextsSpec)) natTextsCard

/-- THE TIED CARD OF 'cutplanelaw01.NatReads'. -/
def natReadsCard : Claim7 := { stood := { row := natReadsRow, standIns := [], harness := (true, "c8546b17d2064495a696ebee69883a2bd91cf32de2b583c93d7589972f31b4be"), looks := false }, kinds := [], alts := [], laidByText := true, laidKinds := [.data, .data, .data], laidTests := true, laidLooks := .later }
def NatReadsCardSaid : Prop := Claim7.holds Tryd.pinned (.plain (OpenSpec.ofChange natReadsSpec)) natReadsCard

/-- THE TIED CARD OF 'cutplanelaw02.DyadSums'. -/
def dyadSumsCard : Claim7 := { stood := { row := dyadSumsRow, standIns := [], harness := (true, "c8546b17d2064495a696ebee69883a2bd91cf32de2b583c93d7589972f31b4be"), looks := false }, kinds := [], alts := [], laidByText := true, laidKinds := [.data], laidTests := true, laidLooks := .later }
def DyadSumsCardSaid : Prop := Claim7.holds Tryd.pinned (.plain (OpenSpec.ofChange dyadSumsSpec)) dyadSumsCard

/-- THE TIED CARD OF 'cutplanelaw02.DyadCuts'. -/
def dyadCutsCard : Claim7 := { stood := { row := dyadCutsRow, standIns := [], harness := (true, "c8546b17d2064495a696ebee69883a2bd91cf32de2b583c93d7589972f31b4be"), looks := false }, kinds := [], alts := [], laidByText := true, laidKinds := [.data], laidTests := true, laidLooks := .later }
def DyadCutsCardSaid : Prop := Claim7.holds Tryd.pinned (.plain (OpenSpec.ofChange dyadCutsSpec)) dyadCutsCard

/-- THE TIED CARD OF 'cutplanelaw02.DyadQuotients'. -/
def dyadQuotientsCard : Claim7 := { stood := { row := dyadQuotientsRow, standIns := [], harness := (true, "c8546b17d2064495a696ebee69883a2bd91cf32de2b583c93d7589972f31b4be"), looks := false }, kinds := [], alts := [], laidByText := true, laidKinds := [.data], laidTests := true, laidLooks := .later }
def DyadQuotientsCardSaid : Prop := Claim7.holds Tryd.pinned (.plain (OpenSpec.ofChange dyadQuotientsSpec)) dyadQuotientsCard

/-- THE TIED CARD OF 'cutplanelaw02.DyadCloses'. -/
def dyadClosesCard : Claim7 := { stood := { row := dyadClosesRow, standIns := [], harness := (true, "c8546b17d2064495a696ebee69883a2bd91cf32de2b583c93d7589972f31b4be"), looks := false }, kinds := [], alts := [], laidByText := true, laidKinds := [.data], laidTests := true, laidLooks := .later }
def DyadClosesCardSaid : Prop := Claim7.holds Tryd.pinned (.plain (OpenSpec.ofChange dyadClosesSpec)) dyadClosesCard

/-- THE TIED CARD OF 'cutplanelaw03.WordNext'. -/
def wordNextCard : Claim7 := { stood := { row := wordNextRow, standIns := [], harness := (true, "c8546b17d2064495a696ebee69883a2bd91cf32de2b583c93d7589972f31b4be"), looks := false }, kinds := [], alts := [], laidByText := true, laidKinds := [.data], laidTests := true, laidLooks := .later }
def WordNextCardSaid : Prop := Claim7.holds Tryd.pinned (.plain (OpenSpec.ofChange wordNextSpec)) wordNextCard

/-- THE SECOND FORM's CARD OF 'cutplanelaw01.NatTexts'. -/
def natTextsUptoCard : Claim7 := { stood := { row := natTextsUptoRow, standIns := [], harness := (true, "c8546b17d2064495a696ebee69883a2bd91cf32de2b583c93d7589972f31b4be"), looks := false }, kinds := [], alts := [], laidByText := true, laidKinds := [.data, .data, .data], laidTests := true, laidLooks := .later }
def NatTextsUptoCardSaid : Prop := Claim7.holds Tryd.pinned (.plain (OpenSpec.upto natTextsSpec)) natTextsUptoCard

/-- THE SECOND FORM's CARD OF 'cutplanelaw01.NatReads'. -/
def natReadsUptoCard : Claim7 := { stood := { row := natReadsUptoRow, standIns := [], harness := (true, "c8546b17d2064495a696ebee69883a2bd91cf32de2b583c93d7589972f31b4be"), looks := false }, kinds := [], alts := [], laidByText := true, laidKinds := [.data, .data, .data], laidTests := true, laidLooks := .later }
def NatReadsUptoCardSaid : Prop := Claim7.holds Tryd.pinned (.plain (OpenSpec.upto natReadsSpec)) natReadsUptoCard

/-- THE SECOND FORM's CARD OF 'cutplanelaw02.DyadSums'. -/
def dyadSumsUptoCard : Claim7 := { stood := { row := dyadSumsUptoRow, standIns := [], harness := (true, "c8546b17d2064495a696ebee69883a2bd91cf32de2b583c93d7589972f31b4be"), looks := false }, kinds := [], alts := [], laidByText := true, laidKinds := [.data], laidTests := true, laidLooks := .later }
def DyadSumsUptoCardSaid : Prop := Claim7.holds Tryd.pinned (.plain (OpenSpec.upto dyadSumsSpec)) dyadSumsUptoCard

/-- THE SECOND FORM's CARD OF 'cutplanelaw02.DyadCuts'. -/
def dyadCutsUptoCard : Claim7 := { stood := { row := dyadCutsUptoRow, standIns := [], harness := (true, "c8546b17d2064495a696ebee69883a2bd91cf32de2b583c93d7589972f31b4be"), looks := false }, kinds := [], alts := [], laidByText := true, laidKinds := [.data], laidTests := true, laidLooks := .later }
def DyadCutsUptoCardSaid : Prop := Claim7.holds Tryd.pinned (.plain (OpenSpec.upto dyadCutsSpec)) dyadCutsUptoCard

/-- THE SECOND FORM's CARD OF 'cutplanelaw02.DyadQuotients'. -/
def dyadQuotientsUptoCard : Claim7 := { stood := { row := dyadQuotientsUptoRow, standIns := [], harness := (true, "c8546b17d2064495a696ebee69883a2bd91cf32de2b583c93d7589972f31b4be"), looks := false }, kinds := [], alts := [], laidByText := true, laidKinds := [.data], laidTests := true, laidLooks := .later }
def DyadQuotientsUptoCardSaid : Prop := Claim7.holds Tryd.pinned (.plain (OpenSpec.upto dyadQuotientsSpec)) dyadQuotientsUptoCard

/-- THE SECOND FORM's CARD OF 'cutplanelaw02.DyadCloses'. -/
def dyadClosesUptoCard : Claim7 := { stood := { row := dyadClosesUptoRow, standIns := [], harness := (true, "c8546b17d2064495a696ebee69883a2bd91cf32de2b583c93d7589972f31b4be"), looks := false }, kinds := [], alts := [], laidByText := true, laidKinds := [.data], laidTests := true, laidLooks := .later }
def DyadClosesUptoCardSaid : Prop := Claim7.holds Tryd.pinned (.plain (OpenSpec.upto dyadClosesSpec)) dyadClosesUptoCard

/-- THE SECOND FORM's CARD OF 'cutplanelaw03.WordNext'. -/
def wordNextUptoCard : Claim7 := { stood := { row := wordNextUptoRow, standIns := [], harness := (true, "c8546b17d2064495a696ebee69883a2bd91cf32de2b583c93d7589972f31b4be"), looks := false }, kinds := [], alts := [], laidByText := true, laidKinds := [.data], laidTests := true, laidLooks := .later }
def WordNextUptoCardSaid : Prop := Claim7.holds Tryd.pinned (.plain (OpenSpec.upto wordNextSpec)) wordNextUptoCard
end Rows
end Go.Proofs.YteejaghimppcgaaDoor
