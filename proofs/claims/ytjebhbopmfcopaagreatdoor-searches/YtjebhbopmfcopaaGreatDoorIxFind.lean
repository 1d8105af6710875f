/-
  THE WALKS of the program's search: stands, places, the strand's contigs, convert, Find. Own text of the verifier.
-/
import Derived.Test.YtjebhbopmfcopaaGreatDoorIxMath
import Derived.Test.YtjebhbopmfcopaaGreatDoorConvert
import Derived.BigQuiet
namespace Go.Proofs.YtjebhbopmfcopaaGreatDoor
open Go.RowKit

set_option maxRecDepth 100000 in
set_option maxHeartbeats 1600000 in
theorem stands_any (s t : ByteArray) (b : Int) (w : World) (ht : s.size ≤ t.size) (htm : t.size ≤ 140737488355327) (hb0 : 0 ≤ b) (hb3 : b ≤ 3) :
    Calls Tryz.prog 190 #[.string s, .string t, .int .i64 b] w fun e w' => e = .returned (.bool (decide ((Ix.miss s.data.toList t.data.toList : Int) ≤ b))) ∧ ∃ m, w' = w.drewN m := by
  go_enter Tryz.func190, Tryz.ntmps190
  go_wp2
  go_loopw [2, 10] (fun v i wr => ∃ k j : Nat, k ≤ s.size ∧ i = .int .i64 (k : Int) ∧ v = .int .i64 (b - (j : Int)) ∧ (j : Int) ≤ b ∧ Hid (j = Ix.miss (s.data.toList.take k) (t.data.toList.take k)) ∧ Hid (∃ q, wr = w.drewN q)) (fun _ i _ => s.size - (intOf i).toNat)
  case atStart => exact ⟨0, 0, Nat.zero_le _, rfl, by simp, by simpa using hb0, by simp [Ix.miss, Hid], ⟨0, rfl⟩⟩
  case round =>
    obtain ⟨k, j, hk, rfl, rfl, hjb, HJ, HW⟩ := hrel
    by_cases hlt : k < s.size
    · have hlt2 : k < t.size := by omega
      have HT : Hid _ := Ix.miss_take s.data.toList t.data.toList k (by simpa using hlt) (by simpa using hlt2)
      have HP : Hid _ := Ix.miss_part s.data.toList t.data.toList (k + 1)
      have hi1 := ix_str s k hlt (k : Int) rfl
      have hi2 := ix_str t k hlt2 (k : Int) rfl
      have hlt' : (k : Int) < (s.size : Int) := by omega
      have hlt2' : (k : Int) < (t.size : Int) := by omega
      have ho : (s[k] == t[k] && s[k] != 78) = (((s[k].toNat : Int) == (t[k].toNat : Int)) && ((s[k].toNat : Int) != 78)) := by
        have e1 := u8_bne s[k] t[k]
        have e2 := u8_bne s[k] 78
        have e3 : (s[k] == t[k]) = ((s[k].toNat : Int) == (t[k].toNat : Int)) := by
          simp only [bne] at e1
          exact Bool.not_inj e1
        rw [e3, e2]
        rfl
      have HO : Hid _ := ho
      clear ho
      cases h1 : ((s[k].toNat : Int) == (t[k].toNat : Int)) <;> cases h2 : ((s[k].toNat : Int) != 78) <;> cases h3 : (b - (j : Int) == 0)
      all_goals
        have HOF : Hid _ := HO.out
        rw [h1, h2] at HOF
        clear HO
        go_wp2_with fail
        go_quiet (fail)
        go_wp2
        first
          | (go_roundw
             case rel =>
               have e1 : (s[k] == t[k] && s[k] != 78) = _ := HOF.out
               simp only [Bool.and_false, Bool.and_true, Bool.and_self] at e1
               have e2 : Ix.miss (s.data.toList.take (k + 1)) (t.data.toList.take (k + 1)) = Ix.miss (s.data.toList.take k) (t.data.toList.take k) + (if s[k] == t[k] && s[k] != 78 then 0 else 1) := HT.out
               rw [e1] at e2
               refine ⟨k + 1, _, by omega, by go_num, ?_, ?_, e2.symm, ?_⟩
               · rw [← HJ.out]; first | rfl | (simp; done) | go_num
               · rw [← HJ.out]
                 have h3' : _ := h3
                 simp only [beq_eq_false_iff_ne, beq_iff_eq] at h3'
                 simp
                 omega
               · obtain ⟨q, rfl⟩ := HW.out
                 exact ⟨q + nq, by rw [drewN_more]⟩
             case measure => simp [intOf]; omega)
          | (go_ret
             refine ⟨ret_bool ?_, ?_⟩
             · have e1 : (s[k] == t[k] && s[k] != 78) = _ := HOF.out
               simp only [Bool.and_false, Bool.and_true, Bool.and_self] at e1
               have e2 : Ix.miss (s.data.toList.take (k + 1)) (t.data.toList.take (k + 1)) = Ix.miss (s.data.toList.take k) (t.data.toList.take k) + (if s[k] == t[k] && s[k] != 78 then 0 else 1) := HT.out
               rw [e1, ← HJ.out] at e2
               have e3 := HP.out
               simp only [beq_iff_eq] at h3
               simp at e2
               symm
               rw [decide_eq_false_iff_not]
               omega
             · obtain ⟨q, rfl⟩ := HW.out
               exact ⟨q + nq, by rw [drewN_more]⟩)
    · have HF : Hid _ := Ix.miss_whole s.data.toList t.data.toList k (by simp; omega)
      have hlt' : ¬ (k : Int) < (s.size : Int) := by omega
      go_wp2
      go_ret
      refine ⟨ret_bool ?_, HW.out⟩
      symm
      rw [decide_eq_true_iff, ← HF.out, ← HJ.out]
      exact hjb

end Go.Proofs.YtjebhbopmfcopaaGreatDoor
