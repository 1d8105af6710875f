/-
  THE WALK of 'among': does a number stand in a list? Own text of the verifier.
-/
import Derived.Test.YtjebhbopmfcopaaGreatDoorBytes
namespace Go.Proofs.YtjebhbopmfcopaaGreatDoor
open Go.RowKit

/-- does k stand in the list? -/
def inL (pl : List Int) (k : Int) : Bool := pl.any (· == k)

theorem inL_stop (pl : List Int) (k : Int) (j : Nat) (h : j < pl.length) (he : (pl[j] == k) = true) : inL pl k = true := by
  rw [inL, List.any_eq_true]
  exact ⟨pl[j], List.getElem_mem _, he⟩
theorem inL_snoc (pl : List Int) (k : Int) (j : Nat) (h : j < pl.length) (h0 : inL (pl.take j) k = false) (he : (pl[j] == k) = false) : inL (pl.take (j + 1)) k = false := by
  rw [List.take_succ_eq_append_getElem h]
  simp only [inL, List.any_append, List.any_cons, List.any_nil, Bool.or_false] at *
  rw [h0, he]; rfl
theorem inL_whole (pl : List Int) (k : Int) (j : Nat) (h : ¬ j < pl.length) (h0 : inL (pl.take j) k = false) : inL pl k = false := by
  rwa [List.take_of_length_le (by omega)] at h0

set_option maxRecDepth 100000 in
set_option maxHeartbeats 800000 in
theorem among_any (pl : List Int) (b n : Nat) (k : Int) (w : World) (hn : pl.length = n) (h10 : n ≤ 100) (hc : ∀ j (h : j < pl.length), w.cell? ⟨b, j, none⟩ = some (.int .i64 pl[j])) :
    Calls Tryz.prog 22 #[.slice (some ⟨b, 0, none⟩) n n, .int .i64 k] w fun e w' => e = .returned (.bool (inL pl k)) ∧ w' = w := by
  have HN : Hid (pl.length = n) := hn
  have HC : Hid (∀ j (h : j < pl.length), w.cell? ⟨b, j, none⟩ = some (.int .i64 pl[j])) := hc
  clear hn hc
  go_enter Tryz.func22, Tryz.ntmps22
  go_wp2
  go_loop [5] (fun i => ∃ j : Nat, j ≤ n ∧ i = .int .i64 j ∧ Hid (inL (pl.take j) k = false)) (fun i => n - (intOf i).toNat)
  case atStart => exact ⟨0, Nat.zero_le _, rfl, rfl⟩
  case round =>
    obtain ⟨j, hj, rfl, HI⟩ := hrel
    by_cases hlt : j < n
    · have hl : j < pl.length := by rw [HN.out]; exact hlt
      have hcell := HC.out j hl
      cases he : (pl[j] == k) with
      | true =>
        have HF : Hid (inL pl k = true) := inL_stop pl k j hl he
        clear HI
        go_wp2
        go_ret
        exact ⟨ret_bool HF.out.symm, rfl⟩
      | false =>
        have HF : Hid (inL (pl.take (j + 1)) k = false) := inL_snoc pl k j hl HI.out he
        clear HI
        go_wp2
        go_round
        case rel => exact ⟨j + 1, by omega, by go_num, HF⟩
        case measure => simp [intOf]; omega
    · have HF : Hid (inL pl k = false) := inL_whole pl k j (by rw [HN.out]; exact hlt) HI.out
      clear HI
      go_wp2
      go_ret
      exact ⟨ret_bool HF.out.symm, rfl⟩

end Go.Proofs.YtjebhbopmfcopaaGreatDoor
