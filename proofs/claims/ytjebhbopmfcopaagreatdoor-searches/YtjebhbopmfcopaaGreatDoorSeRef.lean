/-
  THE DOCUMENT'S SEARCH, its small walks: the three-letter mismatches, the error of a read's letters. Own text of the verifier.
-/
import Derived.Test.YtjebhbopmfcopaaGreatDoorTxRefFq
import Derived.Test.YtjebhbopmfcopaaGreatDoorRefStrand
import Derived.BigQuiet
namespace Go.Proofs.YtjebhbopmfcopaaGreatDoor
open Go.RowKit

/-- two letters that do not stand for one another, on a strand -/
def Se.off (n : Int) (a b : UInt8) : Bool := a == 78 || b == 78 || Lt.trn a n != Lt.trn b n
/-- the three-letter mismatches -/
def Se.three (n : Int) : List UInt8 → List UInt8 → Nat
  | a :: s, b :: t => (if Se.off n a b then 1 else 0) + Se.three n s t
  | _, _ => 0

theorem Se.three_take (n : Int) : ∀ (s t : List UInt8) (k : Nat) (h1 : k < s.length) (h2 : k < t.length), Se.three n (s.take (k + 1)) (t.take (k + 1)) = Se.three n (s.take k) (t.take k) + (if Se.off n s[k] t[k] then 1 else 0) := by
  intro s
  induction s with
  | nil => intro t k h1; simp at h1
  | cons a s ih =>
    intro t k h1 h2
    cases t with
    | nil => simp at h2
    | cons b t =>
      cases k with
      | zero => simp [Se.three]
      | succ k =>
        have := ih t k (by simpa using h1) (by simpa using h2)
        simp only [List.take_succ_cons, Se.three, List.getElem_cons_succ] at this ⊢
        omega

theorem Se.three_le (n : Int) : ∀ (s t : List UInt8), Se.three n s t ≤ s.length := by
  intro s
  induction s with
  | nil => intro t; simp [Se.three]
  | cons a s ih =>
    intro t
    cases t with
    | nil => simp [Se.three]
    | cons b t => have := ih t; simp only [Se.three, List.length_cons]; split <;> omega

theorem Se.three_whole (n : Int) : ∀ (s t : List UInt8) (k : Nat), s.length ≤ k → Se.three n (s.take k) (t.take k) = Se.three n s t := by
  intro s
  induction s with
  | nil => intro t k _; simp [Se.three]
  | cons a s ih =>
    intro t k h
    obtain ⟨k, rfl⟩ : ∃ j, k = j + 1 := ⟨k - 1, by simp at h; omega⟩
    cases t with
    | nil => simp [Se.three]
    | cons b t => simp only [List.take_succ_cons, Se.three]; rw [ih t k (by simpa using h)]

theorem u8_is78 (c : UInt8) : (c == 78) = ((c.toNat : Int) == 78) := u8_beq c 78 (by omega)
theorem u8_bne (a b : UInt8) : (a != b) = ((a.toNat : Int) != (b.toNat : Int)) := by
  rw [Bool.eq_iff_iff, bne_iff_ne, bne_iff_ne]
  constructor
  · intro h h2; exact h (UInt8.toNat_inj.1 (by omega))
  · intro h h2; exact h (by rw [h2])

theorem drewN_more (w : World) (a b : Nat) : (w.drewN a).drewN b = w.drewN (a + b) := by simp [World.drewN, Nat.add_assoc]

set_option maxRecDepth 100000 in
set_option maxHeartbeats 1600000 in
theorem three_any (s t : ByteArray) (n : Int) (w : World) (hs : s.size ≤ 1000000) (ht : s.size ≤ t.size) (htm : t.size ≤ 140737488355327) :
    Calls Tryz.prog 201 #[.string s, .string t, .int .i64 n] w fun e w' => e = .returned (.int .i64 (Se.three n s.data.toList t.data.toList : Nat)) ∧ ∃ m, w' = w.drewN m := by
  go_enter Tryz.func201, Tryz.ntmps201
  go_wp2
  go_loopw [7, 8] (fun m i wr => ∃ k j : Nat, k ≤ s.size ∧ i = .int .i64 (k : Int) ∧ m = .int .i64 (j : Int) ∧ j ≤ k ∧ Hid (j = Se.three n (s.data.toList.take k) (t.data.toList.take k)) ∧ Hid (∃ q, wr = w.drewN q)) (fun _ i _ => s.size - (intOf i).toNat)
  case atStart => exact ⟨0, 0, Nat.zero_le _, rfl, rfl, Nat.le_refl _, by simp [Se.three, Hid], ⟨0, rfl⟩⟩
  case round =>
    obtain ⟨k, j, hk, rfl, rfl, hjk, HJ, HW⟩ := hrel
    by_cases hlt : k < s.size
    · have hlt2 : k < t.size := by omega
      have HT : Hid _ := Se.three_take n s.data.toList t.data.toList k (by simpa using hlt) (by simpa using hlt2)
      have hi1 := ix_str s k hlt (k : Int) rfl
      have hi2 := ix_str t k hlt2 (k : Int) rfl
      have hlt' : (k : Int) < (s.size : Int) := by omega
      have hlt2' : (k : Int) < (t.size : Int) := by omega
      have ho : Se.off n s[k] t[k] = (((s[k].toNat : Int) == 78) || ((t[k].toNat : Int) == 78) || (((Lt.trn s[k] n).toNat : Int) != ((Lt.trn t[k] n).toNat : Int))) := by
        unfold Se.off
        rw [u8_is78, u8_is78, u8_bne]
      have HO : Hid _ := ho
      clear ho
      cases h1 : ((s[k].toNat : Int) == 78) <;> cases h2 : ((t[k].toNat : Int) == 78) <;> cases h3 : (((Lt.trn s[k] n).toNat : Int) != ((Lt.trn t[k] n).toNat : Int))
      all_goals
        have HOF : Hid _ := HO.out
        rw [h1, h2, h3] at HOF
        clear HO
        go_wp2_with fail
        go_quiet (first | (go_at_call 104; refine Calls.quiet_of_same (refTurned_any _ _ _)))
        go_wp2
        go_roundw
        case rel =>
          have e1 : Se.off n s[k] t[k] = _ := HOF.out
          simp only [Bool.or_false, Bool.or_true, Bool.or_self] at e1
          refine ⟨k + 1, j + (if Se.off n s[k] t[k] then 1 else 0), by omega, by go_num, ?_, ?_, ?_, ?_⟩
          · rw [e1]; first | rfl | go_num
          · rw [e1]; simp; try omega
          · show j + _ = _
            rw [HT.out, ← HJ.out]
            rfl
          · obtain ⟨q, rfl⟩ := HW.out
            exact ⟨q + nq, by rw [drewN_more]⟩
        case measure => simp [intOf]; omega
    · have HF : Hid _ := Se.three_whole n s.data.toList t.data.toList k (by simp; omega)
      have hlt' : ¬ (k : Int) < (s.size : Int) := by omega
      go_wp2
      go_ret
      exact ⟨ret_int (by rw [HJ.out, HF.out]), HW.out⟩

/-- the error of a read's letters -/
def Se.lettersErr (l : List UInt8) : Int := if Lt.allL l = false then 8 else if l.length = 0 then 8 else if 128 < l.length then 7 else 0

set_option maxRecDepth 100000 in
set_option maxHeartbeats 1600000 in
theorem refLetters_any (s : ByteArray) (w : World) (hs : s.size ≤ 140737488355327) :
    Calls Tryz.prog 164 #[.string s] w fun e w' => e = .returned (.int .i64 (Se.lettersErr s.data.toList)) ∧ w' = w := by
  have hsm : s.size ≤ maxLen := by unfold maxLen; omega
  have hsz : s.data.toList.length = s.size := by simp
  have hE : (s.toList = []) ↔ s.size = 0 := by
    rw [ByteArray.toList_eq, List.eq_nil_iff_length_eq_zero, hsz]
  cases hL : Lt.allL s.data.toList with
  | false =>
    have HR : Hid (Se.lettersErr s.data.toList = 8) := by show _ = _; rw [Se.lettersErr, if_pos hL]
    have HL : Hid _ := hL
    clear hL hE hsz
    go_enter Tryz.func164, Tryz.ntmps164
    go_wp2_with (go_at_call 100; refine (plain_any _ _ hsm).mono ?_; rintro e w' ⟨rfl, hw⟩; subst w'; rw [HL.out])
    go_ret
    exact ⟨ret_int HR.out.symm, rfl⟩
  | true =>
    have HL : Hid _ := hL
    by_cases h0 : s.size = 0
    · have HR : Hid (Se.lettersErr s.data.toList = 8) := by show _ = _; rw [Se.lettersErr, if_neg (by simp [hL]), if_pos (by omega)]
      have h0' := hE.2 h0
      clear hL hE hsz h0
      go_enter Tryz.func164, Tryz.ntmps164
      go_wp2_with (go_at_call 100; refine (plain_any _ _ hsm).mono ?_; rintro e w' ⟨rfl, hw⟩; subst w'; rw [HL.out])
      go_ret
      exact ⟨ret_int HR.out.symm, rfl⟩
    · have h0' : s.toList.isEmpty = false := by rw [List.isEmpty_eq_false_iff]; exact fun h => h0 (hE.1 h)
      have HR : Hid (Se.lettersErr s.data.toList = if 128 < s.size then 7 else 0) := by show _ = _; rw [Se.lettersErr, if_neg (by simp [hL]), if_neg (by omega), hsz]
      clear hL hE hsz
      by_cases h1 : 128 < s.size
      · have h1' : (128 : Int) < (s.size : Int) := by omega
        go_enter Tryz.func164, Tryz.ntmps164
        go_wp2_with (go_at_call 100; refine (plain_any _ _ hsm).mono ?_; rintro e w' ⟨rfl, hw⟩; subst w'; rw [HL.out])
        go_ret
        exact ⟨ret_int (by rw [HR.out, if_pos h1]), rfl⟩
      · have h1' : ¬ (128 : Int) < (s.size : Int) := by omega
        go_enter Tryz.func164, Tryz.ntmps164
        go_wp2_with (go_at_call 100; refine (plain_any _ _ hsm).mono ?_; rintro e w' ⟨rfl, hw⟩; subst w'; rw [HL.out])
        go_ret
        exact ⟨ret_int (by rw [HR.out, if_neg h1]), rfl⟩

end Go.Proofs.YtjebhbopmfcopaaGreatDoor
