/-
  THE WALKS of the readers' small functions: bytes of names, letters in capitals, qualities; the byte at a place; where a name ends. Own text of the verifier.
-/
import Derived.Test.YtjebhbopmfcopaaGreatDoorTxSpec
import Derived.Test.YtjebhbopmfcopaaGreatDoorRefStrand
namespace Go.Proofs.YtjebhbopmfcopaaGreatDoor
open Go.RowKit

theorem nb_ranges (a : Int) : a < 45 ∨ a = 45 ∨ a = 46 ∨ a = 47 ∨ (48 ≤ a ∧ a ≤ 57) ∨ (58 ≤ a ∧ a ≤ 64) ∨ (65 ≤ a ∧ a ≤ 90) ∨ (91 ≤ a ∧ a ≤ 94) ∨ a = 95 ∨ a = 96 ∨ (97 ≤ a ∧ a ≤ 122) ∨ 123 ≤ a := by omega

set_option maxRecDepth 100000 in
set_option maxHeartbeats 4000000 in
theorem isNameByte_int (a : Int) (w : World) :
    Calls Tryz.prog 119 #[.int .u8 a] w fun e w' => e = .returned (.bool (Tx.nbI a)) ∧ w' = w := by
  obtain ⟨r, hr⟩ : ∃ r, r = Tx.nbI a := ⟨_, rfl⟩
  have HR : Hid (r = Tx.nbI a) := hr
  rw [← hr]
  clear hr
  rcases nb_ranges a with h | h | h | h | h | h | h | h | h | h | h | h
  all_goals
    obtain hv | hv : r = true ∨ r = false := by cases r <;> simp
    all_goals
      have hn := HR.out
      simp only [Tx.nbI] at hn
      rw [hv] at hn
      first
        | (exfalso; have hn2 := of_decide_eq_true hn.symm; omega)
        | (exfalso; have hn2 := of_decide_eq_false hn.symm; omega)
        | skip
  all_goals
    clear hn HR
    subst hv
  all_goals
    first
      | (obtain ⟨h1, h2⟩ := h)
      | skip
  all_goals
    go_enter Tryz.func119, Tryz.ntmps119
    go_wp2
    go_ret
    refine ⟨ret_bool ?_, rfl⟩
    first | rfl | (simp; omega)

theorem isNameByte_any (c : UInt8) (w : World) :
    Calls Tryz.prog 119 #[.int .u8 (c.toNat : Int)] w fun e w' => e = .returned (.bool (Tx.nb c)) ∧ w' = w :=
  isNameByte_int _ w

set_option maxRecDepth 100000 in
set_option maxHeartbeats 4000000 in
theorem inName_int (a : Int) (w : World) :
    Calls Tryz.prog 193 #[.int .u8 a] w fun e w' => e = .returned (.bool (Tx.nbI a)) ∧ w' = w := by
  obtain ⟨r, hr⟩ : ∃ r, r = Tx.nbI a := ⟨_, rfl⟩
  have HR : Hid (r = Tx.nbI a) := hr
  rw [← hr]
  clear hr
  rcases nb_ranges a with h | h | h | h | h | h | h | h | h | h | h | h
  all_goals
    obtain hv | hv : r = true ∨ r = false := by cases r <;> simp
    all_goals
      have hn := HR.out
      simp only [Tx.nbI] at hn
      rw [hv] at hn
      first
        | (exfalso; have hn2 := of_decide_eq_true hn.symm; omega)
        | (exfalso; have hn2 := of_decide_eq_false hn.symm; omega)
        | skip
  all_goals
    clear hn HR
    subst hv
  all_goals
    first
      | (obtain ⟨h1, h2⟩ := h)
      | skip
  all_goals
    go_enter Tryz.func193, Tryz.ntmps193
    go_wp2
    go_ret
    refine ⟨ret_bool ?_, rfl⟩
    first | rfl | (simp; omega)

theorem inName_any (c : UInt8) (w : World) :
    Calls Tryz.prog 193 #[.int .u8 (c.toNat : Int)] w fun e w' => e = .returned (.bool (Tx.nb c)) ∧ w' = w :=
  inName_int _ w


theorem capital_tx (c : UInt8) (w : World) :
    Calls Tryz.prog 155 #[.int .u8 (c.toNat : Int)] w fun e w' => e = .returned (.int .u8 ((Tx.cap c).toNat : Int)) ∧ w' = w := capital_any c w

/-- what the program's Capital takes: small letters raised, all others left -/
theorem cap_up {c : UInt8} (h1 : 97 ≤ (c.toNat : Int)) (h2 : (c.toNat : Int) ≤ 122) : Tx.cap c = (if Lt.isL (c - 32) then c - 32 else 0) ∧ ((c - 32).toNat : Int) = (c.toNat : Int) - 32 := by
  have h := Lt.every (p := fun c => 97 ≤ (c.toNat : Int) → (c.toNat : Int) ≤ 122 → Tx.cap c = (if Lt.isL (c - 32) then c - 32 else 0) ∧ ((c - 32).toNat : Int) = (c.toNat : Int) - 32) (by decide +kernel) c
  exact h h1 h2
theorem cap_low {c : UInt8} (h : (c.toNat : Int) < 97 ∨ 122 < (c.toNat : Int)) : Tx.cap c = (if Lt.isL c then c else 0) := by
  have h' := Lt.every (p := fun c => ((c.toNat : Int) < 97 ∨ 122 < (c.toNat : Int)) → Tx.cap c = (if Lt.isL c then c else 0)) (by decide +kernel) c
  exact h' h

set_option maxRecDepth 100000 in
set_option maxHeartbeats 1600000 in
theorem Capital_any (c : UInt8) (w : World) :
    Calls Tryz.prog 66 #[.int .u8 (c.toNat : Int)] w fun e w' => e = .returned (.int .u8 ((Tx.cap c).toNat : Int)) ∧ w' = w := by
  by_cases hr : 97 ≤ (c.toNat : Int) ∧ (c.toNat : Int) ≤ 122
  · obtain ⟨h1, h2⟩ := hr
    obtain ⟨e1, e2⟩ := cap_up h1 h2
    have e3 : (c.toNat : Int) - 97 + 65 = ((c - 32).toNat : Int) := by omega
    cases hL : Lt.isL (c - 32)
    all_goals
      rw [hL] at e1
      have HL : Hid _ := hL
      have HE : Hid _ := e1
      have HE3 : Hid _ := e3
      clear hL e1 e2 e3
      go_enter Tryz.func66, Tryz.ntmps66
      go_wp2_with fail
      rw [HE3.out]
      refine (isLetter_any _ _).mono ?_
      rintro e w' ⟨rfl, hw⟩
      subst w'
      rw [HL.out]
      go_wp2
      go_ret
      exact ⟨ret_int (by rw [HE.out]; rfl), rfl⟩
  · have hr' : (c.toNat : Int) < 97 ∨ 122 < (c.toNat : Int) := by omega
    have e1 := cap_low hr'
    clear hr
    cases hL : Lt.isL c
    all_goals
      rw [hL] at e1
      have HL : Hid _ := hL
      have HE : Hid _ := e1
      clear hL e1
      rcases hr' with hr' | hr'
      all_goals
        go_enter Tryz.func66, Tryz.ntmps66
        go_wp2_with (go_at_call 120; refine (isLetter_any _ _).mono ?_; rintro e w' ⟨rfl, hw⟩; subst w'; rw [HL.out])
        go_ret
        exact ⟨ret_int (by rw [HE.out]; rfl), rfl⟩

set_option maxRecDepth 100000 in
set_option maxHeartbeats 1600000 in
theorem isQuality_any (c : UInt8) (w : World) :
    Calls Tryz.prog 67 #[.int .u8 (c.toNat : Int)] w fun e w' => e = .returned (.bool (Tx.ql c)) ∧ w' = w := by
  by_cases h1 : 33 ≤ (c.toNat : Int) <;> by_cases h2 : (c.toNat : Int) ≤ 126
  all_goals
    have HQ : Hid (Tx.ql c = decide (33 ≤ (c.toNat : Int) ∧ (c.toNat : Int) ≤ 126)) := rfl
    go_enter Tryz.func67, Tryz.ntmps67
    go_wp2
    go_ret
    refine ⟨ret_bool ?_, rfl⟩
    rw [HQ.out]
    simp [h1, h2]

end Go.Proofs.YtjebhbopmfcopaaGreatDoor
