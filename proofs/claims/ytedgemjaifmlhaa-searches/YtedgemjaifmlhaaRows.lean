/-
  No cell of these rows narrows 'for every input' (looked for: loops, veiled, ifaces, maps, wideKeys, modest, calm, conditions, laid).
  DERIVED. THE GIVEN ROWS OF THIS SEAT. 4 by the template 'for every input the law returns true; each argument reads behind the call as it read before'; 0 by the template 'total and deterministic' (their statements: YtedgemjaifmlhaaTotals.lean).
  GIVEN WITH THE SEED: the statements are not yours to turn. If you find one false, say at which input.
  Laid BY PROGRAM, IN A SANDBOX (cutbox-rows.mjs): the forced cells as the released guide's own fill.sh prints them over the translation c4b3214c971a5b97… (all of the seat's roots in one cut). By AI agents, Wed Nov 11 2026. No macro, syntax, notation, axiom, sorry.
-/
import Derived.Test.YtedgemjaifmlhaaChecked
import GoSem.Claim
import GoSem.ClaimJoined
import GoSem.ClaimMapViews
import Derived.JoinedTies
import Derived.KernelRfl
namespace Go.Proofs.Ytedgemjaifmlhaa
/- THE CELL 'sum', in the pinned program and in every row, IS THE sha256 OF THE DUMP (.gsa) THAT YtedgemjaifmlhaaProg.lean LOADS. Nothing in Lean hashes anything: it is a label: what it is worth is what the hold of that sum in a sandbox is worth. -/
noncomputable def Try.pinned : Pinned := { name := "ytedgemjaifmlhaa", sum := "c4b3214c971a5b97f6e8d6cef63a647094e9b84f3fcf1228a8dc6b40034ddd64", checked := Try.checked }
namespace Rows
def none {H : Type} : Left H := { results := [], args := [] }

/-- 'bleachlaw.Texts': WHATEVER THE INPUT: true; the input reads as it did. -/
def textsSpec : ChangeSpec := { name := "texts", fn := fun _ => fun
  | [d1, d2] => { results := [.lit (.bool true)], args := [d1, d2] }
  | _ => none }
def textsRow : OpenClaim := { program := "ytedgemjaifmlhaa", sum := "c4b3214c971a5b97f6e8d6cef63a647094e9b84f3fcf1228a8dc6b40034ddd64", func := "bleach/bleachlaw.Texts", spec := "texts", recurses := true, apart := false }
def TextsSaid : Prop := textsRow.holds Try.pinned (OpenSpec.ofChange textsSpec)

/-- ITS FALSE NEIGHBOUR: 'it returns false'. Refute it at one input. -/
def textsWrong : ChangeSpec := { name := "texts", fn := fun _ => fun
  | [d1, d2] => { results := [.lit (.bool false)], args := [d1, d2] }
  | _ => none }
def TextsWrongFalsely : Prop := textsRow.holds Try.pinned (OpenSpec.ofChange textsWrong)

/-- 'bleachlaw.Strands': WHATEVER THE INPUT: true; the input reads as it did. -/
def strandsSpec : ChangeSpec := { name := "strands", fn := fun _ => fun
  | [d1, d2] => { results := [.lit (.bool true)], args := [d1, d2] }
  | _ => none }
def strandsRow : OpenClaim := { program := "ytedgemjaifmlhaa", sum := "c4b3214c971a5b97f6e8d6cef63a647094e9b84f3fcf1228a8dc6b40034ddd64", func := "bleach/bleachlaw.Strands", spec := "strands", recurses := true, apart := false }
def StrandsSaid : Prop := strandsRow.holds Try.pinned (OpenSpec.ofChange strandsSpec)

/-- ITS FALSE NEIGHBOUR: 'it returns false'. Refute it at one input. -/
def strandsWrong : ChangeSpec := { name := "strands", fn := fun _ => fun
  | [d1, d2] => { results := [.lit (.bool false)], args := [d1, d2] }
  | _ => none }
def StrandsWrongFalsely : Prop := strandsRow.holds Try.pinned (OpenSpec.ofChange strandsWrong)

/-- 'bleachkeep.Turns': WHATEVER THE INPUT: true; the input reads as it did. -/
def turnsSpec : ChangeSpec := { name := "turns", fn := fun _ => fun
  | [d] => { results := [.lit (.bool true)], args := [d] }
  | _ => none }
def turnsRow : OpenClaim := { program := "ytedgemjaifmlhaa", sum := "c4b3214c971a5b97f6e8d6cef63a647094e9b84f3fcf1228a8dc6b40034ddd64", func := "bleach/bleachkeep.Turns", spec := "turns", apart := false }
def TurnsSaid : Prop := turnsRow.holds Try.pinned (OpenSpec.ofChange turnsSpec)

/-- ITS FALSE NEIGHBOUR: 'it returns false'. Refute it at one input. -/
def turnsWrong : ChangeSpec := { name := "turns", fn := fun _ => fun
  | [d] => { results := [.lit (.bool false)], args := [d] }
  | _ => none }
def TurnsWrongFalsely : Prop := turnsRow.holds Try.pinned (OpenSpec.ofChange turnsWrong)

/-- 'bleachlaw.Searches': WHATEVER THE INPUT: true; the input reads as it did. -/
def searchesSpec : ChangeSpec := { name := "searches", fn := fun _ => fun
  | [d1, d2] => { results := [.lit (.bool true)], args := [d1, d2] }
  | _ => none }
def searchesRow : OpenClaim := { program := "ytedgemjaifmlhaa", sum := "c4b3214c971a5b97f6e8d6cef63a647094e9b84f3fcf1228a8dc6b40034ddd64", func := "bleach/bleachlaw.Searches", spec := "searches", recurses := true, apart := false }
def SearchesSaid : Prop := searchesRow.holds Try.pinned (OpenSpec.ofChange searchesSpec)

/-- ITS FALSE NEIGHBOUR: 'it returns false'. Refute it at one input. -/
def searchesWrong : ChangeSpec := { name := "searches", fn := fun _ => fun
  | [d1, d2] => { results := [.lit (.bool false)], args := [d1, d2] }
  | _ => none }
def SearchesWrongFalsely : Prop := searchesRow.holds Try.pinned (OpenSpec.ofChange searchesWrong)

/- THE SECOND FORM. 'bulk': how many values and letters a reading holds, each counted each time it is reached (what is shared counts as often as it is met; a slice's spare places count too). A statement '..UptoSaid' is the law's where the arguments, and the package variables that the reading takes, are together of bulk at most 1048576: NARROWER than '..Said'. Prove '..Said' where nothing that the law and all that it calls make is longer than what came in: it says more and counts as full. Else prove '..UptoSaid'. A law counts once. -/
mutual
def uptoBulk {H : Type} : DataW H → Nat
  | .lit (.string bytes) => bytes.length + 1
  | .lit _ => 1
  | .nil => 1
  | .ptr d => uptoBulk d + 1
  | .slice elems spare => uptoBulkAll elems + uptoBulkAll spare + 1
  | .agg parts => uptoBulkAll parts + 1
  | .iface _ d => uptoBulk d + 1
  | .map entries => uptoBulkEntries entries + 1
  | .held _ => 1
def uptoBulkAll {H : Type} : List (DataW H) → Nat
  | [] => 0
  | d :: r => uptoBulk d + uptoBulkAll r
def uptoBulkEntries {H : Type} : List (Lit × DataW H) → Nat
  | [] => 0
  | x :: r => uptoBulkEntry x + uptoBulkEntries r
def uptoBulkEntry {H : Type} : Lit × DataW H → Nat
  | (.string bytes, d) => bytes.length + uptoBulk d + 1
  | (_, d) => uptoBulk d + 1
 end
def uptoSmall : (H : Type) → List (DataW H) → Bool := fun _ ds => decide (uptoBulkAll ds ≤ 1048576)
def OpenSpec.upto (s : _root_.Go.ChangeSpec) : _root_.Go.OpenSpec := { _root_.Go.OpenSpec.ofChange s with cond := some uptoSmall }

/-- 'bleachlaw.Texts', WHERE WHAT IT READS IS OF BULK AT MOST 1048576: true; the input reads as it did. -/
def textsUptoRow : OpenClaim := { program := "ytedgemjaifmlhaa", sum := "c4b3214c971a5b97f6e8d6cef63a647094e9b84f3fcf1228a8dc6b40034ddd64", func := "bleach/bleachlaw.Texts", spec := "texts", recurses := true, apart := false, narrowed := true }
def TextsUptoSaid : Prop := textsUptoRow.holds Try.pinned (OpenSpec.upto textsSpec)

/-- 'bleachlaw.Strands', WHERE WHAT IT READS IS OF BULK AT MOST 1048576: true; the input reads as it did. -/
def strandsUptoRow : OpenClaim := { program := "ytedgemjaifmlhaa", sum := "c4b3214c971a5b97f6e8d6cef63a647094e9b84f3fcf1228a8dc6b40034ddd64", func := "bleach/bleachlaw.Strands", spec := "strands", recurses := true, apart := false, narrowed := true }
def StrandsUptoSaid : Prop := strandsUptoRow.holds Try.pinned (OpenSpec.upto strandsSpec)

/-- 'bleachkeep.Turns', WHERE WHAT IT READS IS OF BULK AT MOST 1048576: true; the input reads as it did. -/
def turnsUptoRow : OpenClaim := { program := "ytedgemjaifmlhaa", sum := "c4b3214c971a5b97f6e8d6cef63a647094e9b84f3fcf1228a8dc6b40034ddd64", func := "bleach/bleachkeep.Turns", spec := "turns", apart := false, narrowed := true }
def TurnsUptoSaid : Prop := turnsUptoRow.holds Try.pinned (OpenSpec.upto turnsSpec)

/-- 'bleachlaw.Searches', WHERE WHAT IT READS IS OF BULK AT MOST 1048576: true; the input reads as it did. -/
def searchesUptoRow : OpenClaim := { program := "ytedgemjaifmlhaa", sum := "c4b3214c971a5b97f6e8d6cef63a647094e9b84f3fcf1228a8dc6b40034ddd64", func := "bleach/bleachlaw.Searches", spec := "searches", recurses := true, apart := false, narrowed := true }
def SearchesUptoSaid : Prop := searchesUptoRow.holds Try.pinned (OpenSpec.upto searchesSpec)

end Rows
end Go.Proofs.Ytedgemjaifmlhaa
