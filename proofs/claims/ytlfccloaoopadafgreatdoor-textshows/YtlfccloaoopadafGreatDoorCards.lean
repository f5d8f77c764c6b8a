/-
  DERIVED. GIVEN WITH THE SEED: THE CARDS: each row of YtlfccloaoopadafGreatDoorRows.lean that lists a variable, with what it lists TIED to the program's text (the seventh form; the later family's looks); each row that meets fmt, with fmt's text TOLD by the authors' own Lean function (tested against real Go, not proved from fmt's source: count such statements apart). THE CARD IS WHAT COUNTS. Prove the row's statement (the work); the ties are given (YtlfccloaoopadafGreatDoorTie.lean); close each card by the builder's one call (the guide's Derived/Test/ToyasCard.lean, 'card_holds'). Laid BY PROGRAM, IN A SANDBOX (cutbox-door.mjs). By AI agents, Wed Nov 11 2026. No macro, syntax, notation, axiom, sorry.
-/
import Derived.Test.YtlfccloaoopadafGreatDoorRows
import GoSem.ClaimSeven
namespace Go.Proofs.YtlfccloaoopadafGreatDoor
namespace Rows

/-- THE TIED CARD OF 'treillagelaw.TextShows'. -/
def textShowsCard : Claim7 := { stood := { row := textShowsRow, standIns := [], harness := (true, "820a14ff29f0e37e504345482d900098bbdc709ca8f8496dd67848ea4a54d89b"), looks := true }, kinds := [], alts := [], laidByText := true, laidKinds := [.data, .data, .data, .sentinel, .sentinel], laidTests := true, laidLooks := .later }
def TextShowsCardSaid : Prop := Claim7.holds Tryz.pinned (.plain (OpenSpec.ofChange textShowsSpec)) textShowsCard

/-- THE TIED CARD OF 'treillagelaw.TextFacts'. -/
def textFactsCard : Claim7 := { stood := { row := textFactsRow, standIns := [], harness := (true, "820a14ff29f0e37e504345482d900098bbdc709ca8f8496dd67848ea4a54d89b"), looks := true }, kinds := [], alts := [], laidByText := true, laidKinds := [.data, .data, .data, .sentinel, .sentinel], laidTests := true, laidLooks := .later }
def TextFactsCardSaid : Prop := Claim7.holds Tryz.pinned (.plain (OpenSpec.ofChange textFactsSpec)) textFactsCard

/-- THE TIED CARD OF 'treillagelaw.TextBack'. -/
def textBackCard : Claim7 := { stood := { row := textBackRow, standIns := [], harness := (true, "820a14ff29f0e37e504345482d900098bbdc709ca8f8496dd67848ea4a54d89b"), looks := true }, kinds := [], alts := [], laidByText := true, laidKinds := [.data, .data, .data, .sentinel, .sentinel], laidTests := true, laidLooks := .later }
def TextBackCardSaid : Prop := Claim7.holds Tryz.pinned (.plain (OpenSpec.ofChange textBackSpec)) textBackCard

/-- THE SECOND FORM's CARD OF 'treillagelaw.TextShows'. -/
def textShowsUptoCard : Claim7 := { stood := { row := textShowsUptoRow, standIns := [], harness := (true, "820a14ff29f0e37e504345482d900098bbdc709ca8f8496dd67848ea4a54d89b"), looks := true }, kinds := [], alts := [], laidByText := true, laidKinds := [.data, .data, .data, .sentinel, .sentinel], laidTests := true, laidLooks := .later }
def TextShowsUptoCardSaid : Prop := Claim7.holds Tryz.pinned (.plain (OpenSpec.upto textShowsSpec)) textShowsUptoCard

/-- THE SECOND FORM's CARD OF 'treillagelaw.TextFacts'. -/
def textFactsUptoCard : Claim7 := { stood := { row := textFactsUptoRow, standIns := [], harness := (true, "820a14ff29f0e37e504345482d900098bbdc709ca8f8496dd67848ea4a54d89b"), looks := true }, kinds := [], alts := [], laidByText := true, laidKinds := [.data, .data, .data, .sentinel, .sentinel], laidTests := true, laidLooks := .later }
def TextFactsUptoCardSaid : Prop := Claim7.holds Tryz.pinned (.plain (OpenSpec.upto textFactsSpec)) textFactsUptoCard

/-- THE SECOND FORM's CARD OF 'treillagelaw.TextBack'. -/
def textBackUptoCard : Claim7 := { stood := { row := textBackUptoRow, standIns := [], harness := (true, "820a14ff29f0e37e504345482d900098bbdc709ca8f8496dd67848ea4a54d89b"), looks := true }, kinds := [], alts := [], laidByText := true, laidKinds := [.data, .data, .data, .sentinel, .sentinel], laidTests := true, laidLooks := .later }
def TextBackUptoCardSaid : Prop := Claim7.holds Tryz.pinned (.plain (OpenSpec.upto textBackSpec)) textBackUptoCard
end Rows
end Go.Proofs.YtlfccloaoopadafGreatDoor
