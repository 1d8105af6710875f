/-
  THE WALK of 'pick'. Own text of the verifier.
-/
import Derived.Test.YtjebhbopmfcopaaGreatDoorSeFound
import Derived.Deep.RegionWith
namespace Go.Proofs.YtjebhbopmfcopaaGreatDoor
open Go.RowKit

/-- which of n things the raw number c speaks of -/
def pickV (c : Int) (n : Nat) : Int := (if c < 0 then -(c + 1) else c).tmod (n : Int)

theorem pickV_in (c : Int) (n : Nat) (hn : 0 < n) : ∃ j : Nat, j < n ∧ pickV c n = (j : Int) := by
  have h0 : 0 ≤ (if c < 0 then -(c + 1) else c) := by split <;> omega
  refine ⟨(pickV c n).toNat, ?_, ?_⟩
  · have h1 := Int.tmod_lt_of_pos (if c < 0 then -(c + 1) else c) (show (0 : Int) < n by omega)
    unfold pickV
    omega
  · have h2 := Int.tmod_nonneg (n : Int) h0
    unfold pickV
    omega

set_option maxRecDepth 100000 in
set_option maxHeartbeats 400000 in
theorem pick_any (c : Int) (n : Nat) (w : World) (h1 : -9223372036854775808 ≤ c) (h2 : c ≤ 9223372036854775807) (hn : 0 < n) (hn2 : n ≤ 140737488355328) :
    Calls Tryz.prog 54 #[.int .i64 c, .int .i64 (n : Int)] w fun e w' => e = .returned (.int .i64 (pickV c n)) ∧ w' = w := by
  have hn0 : ((n : Int) == 0) = false := by rw [beq_eq_false_iff_ne]; omega
  have hn1 : ¬ (n : Int) = 0 := by omega
  have hn3 : ((n : Int) == -1) = false := by rw [beq_eq_false_iff_ne]; omega
  by_cases h0 : c < 0
  · have HM : Hid (pickV c n = (-(c + 1)).tmod (n : Int)) := by show _ = _; rw [pickV, if_pos h0]
    go_enter Tryz.func54, Tryz.ntmps54
    go_wp2
    go_ret
    exact ⟨ret_int (by rw [HM.out, Int.neg_tmod]), rfl⟩
  · have HM : Hid (pickV c n = c.tmod (n : Int)) := by show _ = _; rw [pickV, if_neg h0]
    go_enter Tryz.func54, Tryz.ntmps54
    go_wp2
    go_ret
    exact ⟨ret_int (by rw [HM.out, Int.tmod_eq_emod_of_nonneg (by omega)]), rfl⟩

end Go.Proofs.YtjebhbopmfcopaaGreatDoor
