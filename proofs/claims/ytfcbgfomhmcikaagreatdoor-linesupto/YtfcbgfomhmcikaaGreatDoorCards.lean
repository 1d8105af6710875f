/-
  DERIVED. GIVEN WITH THE SEED: THE CARDS: each row of YtfcbgfomhmcikaaGreatDoorRows.lean that lists a variable, with what it lists TIED to the program's text (the seventh form; the later family's looks); each row that meets fmt, with fmt's text TOLD by the authors' own Lean function (tested against real Go, not proved from fmt's source: count such statements apart). THE CARD IS WHAT COUNTS. Prove the row's statement (the work); the ties are given (YtfcbgfomhmcikaaGreatDoorTie.lean); close each card by the builder's one call (the guide's Derived/Test/ToyasCard.lean, 'card_holds'). Laid BY PROGRAM, IN A SANDBOX (cutbox-door.mjs). By AI agents, Wed Nov 11 2026. No macro, syntax, notation, axiom, sorry.
-/
import Derived.Test.YtfcbgfomhmcikaaGreatDoorRows
import GoSem.ClaimSeven
namespace Go.Proofs.YtfcbgfomhmcikaaGreatDoor
namespace Rows

/-- THE TIED CARD OF 'bleachlaw.Texts'. -/
def textsCard : Claim7 := { stood := { row := textsRow, standIns := [], harness := (true, "0f1237c9d19ad5bd689af19c691fb09a0ea3c01483ff51c0c572c8865d80bbee"), looks := true }, kinds := [], alts := [], laidByText := true, laidKinds := [.data, .data, .data, .data, .sentinel, .sentinel, .data, .data, .pinned], laidTests := true, laidLooks := .later }
def TextsCardSaid : Prop := Claim7.holds Tryz.pinned (.plain (OpenSpec.ofChange textsSpec)) textsCard

/-- THE TIED CARD OF 'bleachlaw.Strands'. -/
def strandsCard : Claim7 := { stood := { row := strandsRow, standIns := [], harness := (true, "0f1237c9d19ad5bd689af19c691fb09a0ea3c01483ff51c0c572c8865d80bbee"), looks := true }, kinds := [], alts := [], laidByText := true, laidKinds := [.data, .data, .data, .data, .sentinel, .sentinel, .data, .data, .pinned], laidTests := true, laidLooks := .later }
def StrandsCardSaid : Prop := Claim7.holds Tryz.pinned (.plain (OpenSpec.ofChange strandsSpec)) strandsCard

/-- THE TIED CARD OF 'bleachlaw.Searches'. -/
def searchesCard : Claim7 := { stood := { row := searchesRow, standIns := [], harness := (true, "0f1237c9d19ad5bd689af19c691fb09a0ea3c01483ff51c0c572c8865d80bbee"), looks := true }, kinds := [], alts := [], laidByText := true, laidKinds := [.data, .data, .data, .data, .sentinel, .sentinel, .data, .data, .pinned], laidTests := true, laidLooks := .later }
def SearchesCardSaid : Prop := Claim7.holds Tryz.pinned (.plain (OpenSpec.ofChange searchesSpec)) searchesCard

/-- THE TIED CARD OF 'bleachlaw.Lines'. -/
def linesCard : Claim7 := { stood := { row := linesRow, standIns := [], harness := (true, "0f1237c9d19ad5bd689af19c691fb09a0ea3c01483ff51c0c572c8865d80bbee"), looks := true }, kinds := [], alts := [], laidByText := true, laidKinds := [.data, .data, .data, .data, .sentinel, .sentinel, .data, .data, .pinned], laidTests := true, laidLooks := .later }
def LinesCardSaid : Prop := Claim7.holds Tryz.pinned (.plain (OpenSpec.ofChange linesSpec)) linesCard

/-- THE TIED CARD OF 'bleachlaw.Aligns'. -/
def alignsCard : Claim7 := { stood := { row := alignsRow, standIns := [], harness := (true, "0f1237c9d19ad5bd689af19c691fb09a0ea3c01483ff51c0c572c8865d80bbee"), looks := true }, kinds := [], alts := [], laidByText := true, laidKinds := [.data, .data, .data, .data, .sentinel, .sentinel, .data, .data, .pinned], laidTests := true, laidLooks := .later }
def AlignsCardSaid : Prop := Claim7.holds Tryz.pinned (.plain (OpenSpec.ofChange alignsSpec)) alignsCard

/-- THE SECOND FORM's CARD OF 'bleachlaw.Texts'. -/
def textsUptoCard : Claim7 := { stood := { row := textsUptoRow, standIns := [], harness := (true, "0f1237c9d19ad5bd689af19c691fb09a0ea3c01483ff51c0c572c8865d80bbee"), looks := true }, kinds := [], alts := [], laidByText := true, laidKinds := [.data, .data, .data, .data, .sentinel, .sentinel, .data, .data, .pinned], laidTests := true, laidLooks := .later }
def TextsUptoCardSaid : Prop := Claim7.holds Tryz.pinned (.plain (OpenSpec.upto textsSpec)) textsUptoCard

/-- THE SECOND FORM's CARD OF 'bleachlaw.Strands'. -/
def strandsUptoCard : Claim7 := { stood := { row := strandsUptoRow, standIns := [], harness := (true, "0f1237c9d19ad5bd689af19c691fb09a0ea3c01483ff51c0c572c8865d80bbee"), looks := true }, kinds := [], alts := [], laidByText := true, laidKinds := [.data, .data, .data, .data, .sentinel, .sentinel, .data, .data, .pinned], laidTests := true, laidLooks := .later }
def StrandsUptoCardSaid : Prop := Claim7.holds Tryz.pinned (.plain (OpenSpec.upto strandsSpec)) strandsUptoCard

/-- THE SECOND FORM's CARD OF 'bleachlaw.Searches'. -/
def searchesUptoCard : Claim7 := { stood := { row := searchesUptoRow, standIns := [], harness := (true, "0f1237c9d19ad5bd689af19c691fb09a0ea3c01483ff51c0c572c8865d80bbee"), looks := true }, kinds := [], alts := [], laidByText := true, laidKinds := [.data, .data, .data, .data, .sentinel, .sentinel, .data, .data, .pinned], laidTests := true, laidLooks := .later }
def SearchesUptoCardSaid : Prop := Claim7.holds Tryz.pinned (.plain (OpenSpec.upto searchesSpec)) searchesUptoCard

/-- THE SECOND FORM's CARD OF 'bleachlaw.Lines'. -/
def linesUptoCard : Claim7 := { stood := { row := linesUptoRow, standIns := [], harness := (true, "0f1237c9d19ad5bd689af19c691fb09a0ea3c01483ff51c0c572c8865d80bbee"), looks := true }, kinds := [], alts := [], laidByText := true, laidKinds := [.data, .data, .data, .data, .sentinel, .sentinel, .data, .data, .pinned], laidTests := true, laidLooks := .later }
def LinesUptoCardSaid : Prop := Claim7.holds Tryz.pinned (.plain (OpenSpec.upto linesSpec)) linesUptoCard

/-- THE SECOND FORM's CARD OF 'bleachlaw.Aligns'. -/
def alignsUptoCard : Claim7 := { stood := { row := alignsUptoRow, standIns := [], harness := (true, "0f1237c9d19ad5bd689af19c691fb09a0ea3c01483ff51c0c572c8865d80bbee"), looks := true }, kinds := [], alts := [], laidByText := true, laidKinds := [.data, .data, .data, .data, .sentinel, .sentinel, .data, .data, .pinned], laidTests := true, laidLooks := .later }
def AlignsUptoCardSaid : Prop := Claim7.holds Tryz.pinned (.plain (OpenSpec.upto alignsSpec)) alignsUptoCard
end Rows
end Go.Proofs.YtfcbgfomhmcikaaGreatDoor
