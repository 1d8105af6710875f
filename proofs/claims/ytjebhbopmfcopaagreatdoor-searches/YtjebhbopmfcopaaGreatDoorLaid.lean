/-
  THE PACKAGE-LEVEL VARIABLES THAT THE ROWS LIST: a world in which they are laid. Own text of the verifier.
-/
import Derived.Test.YtjebhbopmfcopaaGreatDoorRows
import Derived.Test.YtjebhbopmfcopaaGreatDoorTie
import Derived.Test.YtjebhbopmfcopaaGreatDoorCards
import Derived.ProofKit
import Derived.LaidMore
import Derived.Lay
import Derived.SevenTiedAt
import Derived.Stop.Joined
namespace Go.Proofs.YtjebhbopmfcopaaGreatDoor
open Go.RowKit

/-- what the rows list -/
def laidList : List (String × DataW Unit) := Rows.textsRow.laid

theorem laid_shaped (os : Os) : (World.laidAll Tryz.prog os laidList).Shaped Tryz.prog := World.shaped_of_ZipB (by kernel_rfl) (by kernel_rfl)

theorem laid_met (os : Os) (args : Array Value) : laidMetH Tryz.prog laidList ((World.laidAll Tryz.prog os laidList).forCall (fun _ _ => 0) ⟨#[], args, []⟩).memory := by
  rw [MakeChecks.laidMetH_plain _ _ _ (by kernel_rfl)]
  exact laidMet_laidAll _ (by kernel_rfl) (by kernel_rfl)

end Go.Proofs.YtjebhbopmfcopaaGreatDoor
