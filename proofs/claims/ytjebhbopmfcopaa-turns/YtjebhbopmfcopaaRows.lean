/-
  No cell of these rows narrows 'for every input' (looked for: loops, veiled, ifaces, maps, wideKeys, modest, calm, conditions, laid).
  DERIVED. THE GIVEN ROWS OF THIS SEAT. 5 by the template 'for every input the law returns true; each argument reads behind the call as it read before'; 0 by the template 'total and deterministic' (their statements: YtjebhbopmfcopaaTotals.lean).
  GIVEN WITH THE SEED: the statements are not yours to turn. If you find one false, say at which input.
  Laid BY PROGRAM, IN A SANDBOX (cutbox-rows.mjs): the forced cells as the released guide's own fill.sh prints them over the translation 04d2abcb14264bbd… (all of the seat's roots in one cut). By AI agents, Wed Nov 11 2026. No macro, syntax, notation, axiom, sorry.
-/
import Derived.Test.YtjebhbopmfcopaaChecked
import GoSem.Claim
import GoSem.ClaimJoined
import GoSem.ClaimMapViews
import Derived.JoinedTies
import Derived.KernelRfl
namespace Go.Proofs.Ytjebhbopmfcopaa
/- THE CELL 'sum', in the pinned program and in every row, IS THE sha256 OF THE DUMP (.gsa) THAT YtjebhbopmfcopaaProg.lean LOADS. Nothing in Lean hashes anything: it is a label: what it is worth is what the hold of that sum in a sandbox is worth. -/
noncomputable def Try.pinned : Pinned := { name := "ytjebhbopmfcopaa", sum := "04d2abcb14264bbdbb801b118d33f6ed04889d397a448cca23c248c932167403", checked := Try.checked }
namespace Rows
def none {H : Type} : Left H := { results := [], args := [] }

/-- 'bleachkeep.Turns': WHATEVER THE INPUT: true; the input reads as it did. -/
def turnsSpec : ChangeSpec := { name := "turns", fn := fun _ => fun
  | [d] => { results := [.lit (.bool true)], args := [d] }
  | _ => none }
def turnsRow : OpenClaim := { program := "ytjebhbopmfcopaa", sum := "04d2abcb14264bbdbb801b118d33f6ed04889d397a448cca23c248c932167403", func := "bleach/bleachkeep.Turns", spec := "turns", apart := false }
def TurnsSaid : Prop := turnsRow.holds Try.pinned (OpenSpec.ofChange turnsSpec)

/-- ITS FALSE NEIGHBOUR: 'it returns false'. Refute it at one input. -/
def turnsWrong : ChangeSpec := { name := "turns", fn := fun _ => fun
  | [d] => { results := [.lit (.bool false)], args := [d] }
  | _ => none }
def TurnsWrongFalsely : Prop := turnsRow.holds Try.pinned (OpenSpec.ofChange turnsWrong)

/-- 'bleachkeep.Planted': WHATEVER THE INPUT: true; the input reads as it did. -/
def plantedSpec : ChangeSpec := { name := "planted", fn := fun _ => fun
  | [d1, d2, d3] => { results := [.lit (.bool true)], args := [d1, d2, d3] }
  | _ => none }
def plantedRow : OpenClaim := { program := "ytjebhbopmfcopaa", sum := "04d2abcb14264bbdbb801b118d33f6ed04889d397a448cca23c248c932167403", func := "bleach/bleachkeep.Planted", spec := "planted", apart := false }
def PlantedSaid : Prop := plantedRow.holds Try.pinned (OpenSpec.ofChange plantedSpec)

/-- ITS FALSE NEIGHBOUR: 'it returns false'. Refute it at one input. -/
def plantedWrong : ChangeSpec := { name := "planted", fn := fun _ => fun
  | [d1, d2, d3] => { results := [.lit (.bool false)], args := [d1, d2, d3] }
  | _ => none }
def PlantedWrongFalsely : Prop := plantedRow.holds Try.pinned (OpenSpec.ofChange plantedWrong)

/-- 'bleachkeep.Missed': WHATEVER THE INPUT: true; the input reads as it did. -/
def missedSpec : ChangeSpec := { name := "missed", fn := fun _ => fun
  | [d1, d2, d3] => { results := [.lit (.bool true)], args := [d1, d2, d3] }
  | _ => none }
def missedRow : OpenClaim := { program := "ytjebhbopmfcopaa", sum := "04d2abcb14264bbdbb801b118d33f6ed04889d397a448cca23c248c932167403", func := "bleach/bleachkeep.Missed", spec := "missed", apart := false }
def MissedSaid : Prop := missedRow.holds Try.pinned (OpenSpec.ofChange missedSpec)

/-- ITS FALSE NEIGHBOUR: 'it returns false'. Refute it at one input. -/
def missedWrong : ChangeSpec := { name := "missed", fn := fun _ => fun
  | [d1, d2, d3] => { results := [.lit (.bool false)], args := [d1, d2, d3] }
  | _ => none }
def MissedWrongFalsely : Prop := missedRow.holds Try.pinned (OpenSpec.ofChange missedWrong)

/-- 'bleachkeep.Mirrored': WHATEVER THE INPUT: true; the input reads as it did. -/
def mirroredSpec : ChangeSpec := { name := "mirrored", fn := fun _ => fun
  | [d1, d2, d3, d4, d5] => { results := [.lit (.bool true)], args := [d1, d2, d3, d4, d5] }
  | _ => none }
def mirroredRow : OpenClaim := { program := "ytjebhbopmfcopaa", sum := "04d2abcb14264bbdbb801b118d33f6ed04889d397a448cca23c248c932167403", func := "bleach/bleachkeep.Mirrored", spec := "mirrored", apart := false }
def MirroredSaid : Prop := mirroredRow.holds Try.pinned (OpenSpec.ofChange mirroredSpec)

/-- ITS FALSE NEIGHBOUR: 'it returns false'. Refute it at one input. -/
def mirroredWrong : ChangeSpec := { name := "mirrored", fn := fun _ => fun
  | [d1, d2, d3, d4, d5] => { results := [.lit (.bool false)], args := [d1, d2, d3, d4, d5] }
  | _ => none }
def MirroredWrongFalsely : Prop := mirroredRow.holds Try.pinned (OpenSpec.ofChange mirroredWrong)

/-- 'bleachkeep.Called': WHATEVER THE INPUT: true; the input reads as it did. -/
def calledSpec : ChangeSpec := { name := "called", fn := fun _ => fun
  | [d1, d2, d3, d4, d5] => { results := [.lit (.bool true)], args := [d1, d2, d3, d4, d5] }
  | _ => none }
def calledRow : OpenClaim := { program := "ytjebhbopmfcopaa", sum := "04d2abcb14264bbdbb801b118d33f6ed04889d397a448cca23c248c932167403", func := "bleach/bleachkeep.Called", spec := "called", apart := false }
def CalledSaid : Prop := calledRow.holds Try.pinned (OpenSpec.ofChange calledSpec)

/-- ITS FALSE NEIGHBOUR: 'it returns false'. Refute it at one input. -/
def calledWrong : ChangeSpec := { name := "called", fn := fun _ => fun
  | [d1, d2, d3, d4, d5] => { results := [.lit (.bool false)], args := [d1, d2, d3, d4, d5] }
  | _ => none }
def CalledWrongFalsely : Prop := calledRow.holds Try.pinned (OpenSpec.ofChange calledWrong)

/- THE SECOND FORM. 'bulk': how many values and letters a reading holds, each counted each time it is reached (what is shared counts as often as it is met; a slice's spare places count too). A statement '..UptoSaid' is the law's where the arguments, and the package variables that the reading takes, are together of bulk at most 1048576: NARROWER than '..Said'. Prove '..Said' where nothing that the law and all that it calls make is longer than what came in: it says more and counts as full. Else prove '..UptoSaid'. A law counts once. -/
mutual
def uptoBulk {H : Type} : DataW H → Nat
  | .lit (.string bytes) => bytes.length + 1
  | .lit _ => 1
  | .nil => 1
  | .ptr d => uptoBulk d + 1
  | .slice elems spare => uptoBulkAll elems + uptoBulkAll spare + 1
  | .agg parts => uptoBulkAll parts + 1
  | .iface _ d => uptoBulk d + 1
  | .map entries => uptoBulkEntries entries + 1
  | .held _ => 1
def uptoBulkAll {H : Type} : List (DataW H) → Nat
  | [] => 0
  | d :: r => uptoBulk d + uptoBulkAll r
def uptoBulkEntries {H : Type} : List (Lit × DataW H) → Nat
  | [] => 0
  | x :: r => uptoBulkEntry x + uptoBulkEntries r
def uptoBulkEntry {H : Type} : Lit × DataW H → Nat
  | (.string bytes, d) => bytes.length + uptoBulk d + 1
  | (_, d) => uptoBulk d + 1
 end
def uptoSmall : (H : Type) → List (DataW H) → Bool := fun _ ds => decide (uptoBulkAll ds ≤ 1048576)
def OpenSpec.upto (s : _root_.Go.ChangeSpec) : _root_.Go.OpenSpec := { _root_.Go.OpenSpec.ofChange s with cond := some uptoSmall }

/-- 'bleachkeep.Turns', WHERE WHAT IT READS IS OF BULK AT MOST 1048576: true; the input reads as it did. -/
def turnsUptoRow : OpenClaim := { program := "ytjebhbopmfcopaa", sum := "04d2abcb14264bbdbb801b118d33f6ed04889d397a448cca23c248c932167403", func := "bleach/bleachkeep.Turns", spec := "turns", apart := false, narrowed := true }
def TurnsUptoSaid : Prop := turnsUptoRow.holds Try.pinned (OpenSpec.upto turnsSpec)

/-- 'bleachkeep.Planted', WHERE WHAT IT READS IS OF BULK AT MOST 1048576: true; the input reads as it did. -/
def plantedUptoRow : OpenClaim := { program := "ytjebhbopmfcopaa", sum := "04d2abcb14264bbdbb801b118d33f6ed04889d397a448cca23c248c932167403", func := "bleach/bleachkeep.Planted", spec := "planted", apart := false, narrowed := true }
def PlantedUptoSaid : Prop := plantedUptoRow.holds Try.pinned (OpenSpec.upto plantedSpec)

/-- 'bleachkeep.Missed', WHERE WHAT IT READS IS OF BULK AT MOST 1048576: true; the input reads as it did. -/
def missedUptoRow : OpenClaim := { program := "ytjebhbopmfcopaa", sum := "04d2abcb14264bbdbb801b118d33f6ed04889d397a448cca23c248c932167403", func := "bleach/bleachkeep.Missed", spec := "missed", apart := false, narrowed := true }
def MissedUptoSaid : Prop := missedUptoRow.holds Try.pinned (OpenSpec.upto missedSpec)

/-- 'bleachkeep.Mirrored', WHERE WHAT IT READS IS OF BULK AT MOST 1048576: true; the input reads as it did. -/
def mirroredUptoRow : OpenClaim := { program := "ytjebhbopmfcopaa", sum := "04d2abcb14264bbdbb801b118d33f6ed04889d397a448cca23c248c932167403", func := "bleach/bleachkeep.Mirrored", spec := "mirrored", apart := false, narrowed := true }
def MirroredUptoSaid : Prop := mirroredUptoRow.holds Try.pinned (OpenSpec.upto mirroredSpec)

/-- 'bleachkeep.Called', WHERE WHAT IT READS IS OF BULK AT MOST 1048576: true; the input reads as it did. -/
def calledUptoRow : OpenClaim := { program := "ytjebhbopmfcopaa", sum := "04d2abcb14264bbdbb801b118d33f6ed04889d397a448cca23c248c932167403", func := "bleach/bleachkeep.Called", spec := "called", apart := false, narrowed := true }
def CalledUptoSaid : Prop := calledUptoRow.holds Try.pinned (OpenSpec.upto calledSpec)

end Rows
end Go.Proofs.Ytjebhbopmfcopaa
