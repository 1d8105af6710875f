/-
  THE WALKS of the small functions of letters: IsLetter, Complement, turned, areLetters of the program. Own text of the verifier.
-/
import Derived.Test.YtjebhbopmfcopaaGreatDoorRows
import Derived.Test.YtjebhbopmfcopaaGreatDoorLetters
import Derived.WalkKit
import Derived.WalkSpells
import Derived.WalkLawsBesides
namespace Go.Proofs.YtjebhbopmfcopaaGreatDoor
open Go.RowKit

theorem ret_bool {a b : Bool} (h : a = b) : Ending.returned (.bool a) = .returned (.bool b) := by rw [h]
theorem ret_int {k : IntKind} {a b : Int} (h : a = b) : Ending.returned (.int k a) = .returned (.int k b) := by rw [h]

set_option maxHeartbeats 400000 in
theorem isLetter_any (c : UInt8) (w : World) :
    Calls Tryz.prog 120 #[.int .u8 (c.toNat : Int)] w fun e w' => e = .returned (.bool (Lt.isL c)) ∧ w' = w := by
  go_enter Tryz.func120, Tryz.ntmps120
  go_wp2
  all_goals go_ret
  all_goals exact ⟨ret_bool (by rw [Lt.isL_int]; simp only [*, Bool.or_true, Bool.true_or, Bool.or_false]), rfl⟩

set_option maxHeartbeats 400000 in
theorem complement_any (c : UInt8) (w : World) :
    Calls Tryz.prog 99 #[.int .u8 (c.toNat : Int)] w fun e w' => e = .returned (.int .u8 ((Lt.comp c).toNat : Int)) ∧ w' = w := by
  go_enter Tryz.func99, Tryz.ntmps99
  go_wp2
  all_goals go_ret
  all_goals exact ⟨ret_int (by rw [Lt.comp_int]; simp only [*, if_true, if_false, Bool.false_eq_true]), rfl⟩

set_option maxHeartbeats 400000 in
theorem strIs_any (n : Int) (w : World) :
    Calls Tryz.prog 77 #[.int .i64 n] w fun e w' => e = .returned (.bool (Lt.strandB n)) ∧ w' = w := by
  go_enter Tryz.func77, Tryz.ntmps77
  go_wp2
  all_goals go_ret
  all_goals exact ⟨ret_bool (by rw [Lt.strandB_int]; simp only [*, Bool.or_true, Bool.true_or, Bool.or_false]), rfl⟩

set_option maxHeartbeats 400000 in
theorem strTop_any (n : Int) (w : World) :
    Calls Tryz.prog 157 #[.int .i64 n] w fun e w' => e = .returned (.bool (Lt.topB n)) ∧ w' = w := by
  go_enter Tryz.func157, Tryz.ntmps157
  go_wp2
  all_goals go_ret
  all_goals exact ⟨ret_bool (by unfold Lt.topB; simp [*]), rfl⟩

set_option maxHeartbeats 400000 in
theorem turned_any (n : Int) (w : World) :
    Calls Tryz.prog 102 #[.int .i64 n] w fun e w' => e = .returned (.tuple #[.int .u8 ((Lt.frm n).toNat : Int), .int .u8 ((Lt.tow n).toNat : Int)]) ∧ w' = w := by
  cases hS : Lt.strandB n with
  | false =>
    have HS : Hid _ := hS
    rw [(Lt.frm_tow_none hS).1, (Lt.frm_tow_none hS).2]
    clear hS
    go_enter Tryz.func102, Tryz.ntmps102
    go_wp2_with (go_at_call 77; refine (strIs_any _ _).mono ?_; rintro e w' ⟨rfl, hw⟩; subst w'; rw [HS.out])
    go_ret2
    exact ⟨rfl, rfl⟩
  | true =>
    have HS : Hid _ := hS
    cases hT : Lt.topB n with
    | true =>
      have HT : Hid _ := hT
      rw [(Lt.frm_tow_top hT).1, (Lt.frm_tow_top hT).2]
      clear hS hT
      go_enter Tryz.func102, Tryz.ntmps102
      go_wp2_with (first
        | (go_at_call 77; refine (strIs_any _ _).mono ?_; rintro e w' ⟨rfl, hw⟩; subst w'; rw [HS.out])
        | (go_at_call 157; refine (strTop_any _ _).mono ?_; rintro e w' ⟨rfl, hw⟩; subst w'; rw [HT.out]))
      go_ret2
      exact ⟨rfl, rfl⟩
    | false =>
      have HT : Hid _ := hT
      rw [(Lt.frm_tow_bot hT hS).1, (Lt.frm_tow_bot hT hS).2]
      clear hS hT
      go_enter Tryz.func102, Tryz.ntmps102
      go_wp2_with (first
        | (go_at_call 77; refine (strIs_any _ _).mono ?_; rintro e w' ⟨rfl, hw⟩; subst w'; rw [HS.out])
        | (go_at_call 157; refine (strTop_any _ _).mono ?_; rintro e w' ⟨rfl, hw⟩; subst w'; rw [HT.out]))
      go_ret2
      exact ⟨rfl, rfl⟩

set_option maxHeartbeats 400000 in
theorem areLetters_any (s : ByteArray) (w : World) (hs : s.size ≤ maxLen) :
    Calls Tryz.prog 98 #[.string s] w fun e w' => e = .returned (.bool (Lt.allL s.data.toList)) ∧ w' = w := by
  unfold maxLen at hs
  go_enter Tryz.func98, Tryz.ntmps98
  go_wp2
  go_loop [6] (fun i => ∃ k : Nat, k ≤ s.size ∧ i = .int .i64 k ∧ Hid (Lt.allL (s.data.toList.take k) = true)) (fun i => s.size - (intOf i).toNat)
  case atStart => exact ⟨0, Nat.zero_le _, rfl, rfl⟩
  case round =>
    obtain ⟨k, hk, rfl, HA⟩ := hrel
    by_cases hlt : k < s.size
    · cases hL : Lt.isL s[k] with
      | true =>
        have HS := Lt.allL_take_succ s k hlt
        rw [HA.out, hL, Bool.and_self] at HS
        have HT : Hid (Lt.allL (s.data.toList.take (k + 1)) = true) := HS
        clear HS HA
        have HL : Hid (Lt.isL s[k] = true) := hL
        clear hL
        go_wp2_with (go_at_call 120; refine (isLetter_any _ _).mono ?_; rintro e w' ⟨rfl, rfl⟩; rw [HL.out])
        go_round
        case rel => exact ⟨k + 1, by omega, by go_num, HT⟩
        case measure => simp [intOf]; omega
      | false =>
        have HF : Hid (Lt.allL s.data.toList = false) := Lt.allL_stop s k hlt hL
        have HL : Hid (Lt.isL s[k] = false) := hL
        clear hL HA
        go_wp2_with (go_at_call 120; refine (isLetter_any _ _).mono ?_; rintro e w' ⟨rfl, rfl⟩; rw [HL.out])
        go_ret
        exact ⟨ret_bool HF.out.symm, rfl⟩
    · have HF : Hid (Lt.allL s.data.toList = true) := Lt.allL_whole s k hlt HA.out
      clear HA
      go_wp2
      go_ret
      exact ⟨ret_bool HF.out.symm, rfl⟩

end Go.Proofs.YtjebhbopmfcopaaGreatDoor
