/-
  DERIVED. GIVEN WITH THE SEED: THE CARDS: each row of YtjebhbopmfcopaaGreatDoorRows.lean that lists a variable, with what it lists TIED to the program's text (the seventh form; the later family's looks); each row that meets fmt, with fmt's text TOLD by the authors' own Lean function (tested against real Go, not proved from fmt's source: count such statements apart). THE CARD IS WHAT COUNTS. Prove the row's statement (the work); the ties are given (YtjebhbopmfcopaaGreatDoorTie.lean); close each card by the builder's one call (the guide's Derived/Test/ToyasCard.lean, 'card_holds'). Laid BY PROGRAM, IN A SANDBOX (cutbox-door.mjs). By AI agents, Wed Nov 11 2026. No macro, syntax, notation, axiom, sorry.
-/
import Derived.Test.YtjebhbopmfcopaaGreatDoorRows
import GoSem.ClaimSeven
namespace Go.Proofs.YtjebhbopmfcopaaGreatDoor
namespace Rows

/-- THE TIED CARD OF 'bleachlaw.Texts'. -/
def textsCard : Claim7 := { stood := { row := textsRow, standIns := [], harness := (true, "bc3493b8204ce5fae6f090d78fc24e111facccb2876da68c23a6012a6254ba70"), looks := true }, kinds := [], alts := [], goes := true, laidByText := true, laidKinds := [.data, .data, .data, .data, .sentinel, .sentinel, .data, .data, .pinned], laidTests := true, laidLooks := .later }
def TextsCardSaid : Prop := Claim7.holds Tryz.pinned (.plain (OpenSpec.ofChange textsSpec)) textsCard

/-- THE TIED CARD OF 'bleachlaw.Strands'. -/
def strandsCard : Claim7 := { stood := { row := strandsRow, standIns := [], harness := (true, "bc3493b8204ce5fae6f090d78fc24e111facccb2876da68c23a6012a6254ba70"), looks := true }, kinds := [], alts := [], goes := true, laidByText := true, laidKinds := [.data, .data, .data, .data, .sentinel, .sentinel, .data, .data, .pinned], laidTests := true, laidLooks := .later }
def StrandsCardSaid : Prop := Claim7.holds Tryz.pinned (.plain (OpenSpec.ofChange strandsSpec)) strandsCard

/-- THE TIED CARD OF 'bleachlaw.Searches'. -/
def searchesCard : Claim7 := { stood := { row := searchesRow, standIns := [], harness := (true, "bc3493b8204ce5fae6f090d78fc24e111facccb2876da68c23a6012a6254ba70"), looks := true }, kinds := [], alts := [], goes := true, laidByText := true, laidKinds := [.data, .data, .data, .data, .sentinel, .sentinel, .data, .data, .pinned], laidTests := true, laidLooks := .later }
def SearchesCardSaid : Prop := Claim7.holds Tryz.pinned (.plain (OpenSpec.ofChange searchesSpec)) searchesCard

/-- THE TIED CARD OF 'bleachlaw.Lines'. -/
def linesCard : Claim7 := { stood := { row := linesRow, standIns := [], harness := (true, "bc3493b8204ce5fae6f090d78fc24e111facccb2876da68c23a6012a6254ba70"), looks := true }, kinds := [], alts := [], goes := true, laidByText := true, laidKinds := [.data, .data, .data, .data, .sentinel, .sentinel, .data, .data, .pinned], laidTests := true, laidLooks := .later }
def LinesCardSaid : Prop := Claim7.holds Tryz.pinned (.plain (OpenSpec.ofChange linesSpec)) linesCard

/-- THE TIED CARD OF 'bleachlaw.Aligns'. -/
def alignsCard : Claim7 := { stood := { row := alignsRow, standIns := [], harness := (true, "bc3493b8204ce5fae6f090d78fc24e111facccb2876da68c23a6012a6254ba70"), looks := true }, kinds := [], alts := [], goes := true, laidByText := true, laidKinds := [.data, .data, .data, .data, .sentinel, .sentinel, .data, .data, .pinned], laidTests := true, laidLooks := .later }
def AlignsCardSaid : Prop := Claim7.holds Tryz.pinned (.plain (OpenSpec.ofChange alignsSpec)) alignsCard

/-- THE TIED CARD OF 'bleachlaw.Runs'. -/
def runsCard : Claim7 := { stood := { row := runsRow, standIns := [], harness := (true, "bc3493b8204ce5fae6f090d78fc24e111facccb2876da68c23a6012a6254ba70"), looks := true }, kinds := [], alts := [], goes := true, laidByText := true, laidKinds := [.data, .data, .data, .data, .sentinel, .sentinel, .data, .data, .pinned], laidTests := true, laidLooks := .later }
def RunsCardSaid : Prop := Claim7.holds Tryz.pinned (.plain (OpenSpec.ofChange runsSpec)) runsCard

/-- THE TIED CARD OF 'bleachkeep.Agree'. -/
def agreeCard : Claim7 := { stood := { row := agreeRow, standIns := [], harness := (true, "bc3493b8204ce5fae6f090d78fc24e111facccb2876da68c23a6012a6254ba70"), looks := true }, kinds := [], alts := [], goes := true, laidByText := true, laidKinds := [.data, .data, .data, .data, .sentinel, .sentinel, .data, .data, .pinned], laidTests := true, laidLooks := .later }
def AgreeCardSaid : Prop := Claim7.holds Tryz.pinned (.plain (OpenSpec.ofChange agreeSpec)) agreeCard
end Rows
end Go.Proofs.YtjebhbopmfcopaaGreatDoor
