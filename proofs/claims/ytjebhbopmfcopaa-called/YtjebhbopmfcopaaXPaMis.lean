/-
  THE PROGRAM'S Align: mismatches, letters along the reference, places that lie in the contigs, the calls. Own text of the verifier.
-/
import Derived.Test.YtjebhbopmfcopaaBun4
import Derived.Test.YtjebhbopmfcopaaBun6
namespace Go.Proofs.Ytjebhbopmfcopaa
open Go.RowKit

theorem Pa.mm_eq {n : Int} (hn : Lt.strandB n = true) (a b : UInt8) : Al.mm n a b = (!(a == b && a != 78) && !(a == Lt.tow n && b == Lt.frm n)) := by
  unfold Al.mm
  cases hT : Lt.topB n with
  | true => rw [(Lt.frm_tow_top hT).1, (Lt.frm_tow_top hT).2]; cases (b == 67) <;> cases (a == 84) <;> simp
  | false => rw [(Lt.frm_tow_bot hT hn).1, (Lt.frm_tow_bot hT hn).2]; cases (b == 71) <;> cases (a == 65) <;> simp

theorem Pa.mm_int {n : Int} (hn : Lt.strandB n = true) (a b : UInt8) : Al.mm n a b = (!(((a.toNat : Int) == (b.toNat : Int)) && ((a.toNat : Int) != 78)) && !(((a.toNat : Int) == ((Lt.tow n).toNat : Int)) && ((b.toNat : Int) == ((Lt.frm n).toNat : Int)))) := by
  rw [Pa.mm_eq hn, u8_eqI a b, u8_bne a 78, u8_eqI a (Lt.tow n), u8_eqI b (Lt.frm n)]
  rfl

set_option maxRecDepth 100000 in
set_option maxHeartbeats 3200000 in
theorem pmis_any (s t : ByteArray) (n : Int) (w : World) (hn : Lt.strandB n = true) (hs : s.size ≤ 1000000) (ht : s.size ≤ t.size) (htm : t.size ≤ 140737488355327) :
    Calls Try.prog 45 #[.string s, .string t, .int .i64 n] w fun e w' => e = .returned (.int .i64 (Al.mis n s.data.toList t.data.toList : Nat)) ∧ ∃ m, w' = w.drewN m := by
  have HMM : Hid _ := fun a b => Pa.mm_int hn a b
  obtain ⟨ba, hba⟩ : ∃ x, x = Lt.frm n := ⟨_, rfl⟩
  obtain ⟨go, hgo⟩ : ∃ x, x = Lt.tow n := ⟨_, rfl⟩
  have HTC : Hid (∀ W : World, Calls Try.prog 26 #[.int .i64 n] W fun e w' => e = .returned (.tuple #[.int .u8 (ba.toNat : Int), .int .u8 (go.toNat : Int)]) ∧ w' = W) := fun W => by
    rw [hba, hgo]; exact turned_any n W
  rw [← hba, ← hgo] at HMM
  clear hba hgo hn
  go_enter Try.func45, Try.ntmps45
  go_wp2_with (go_at_call 26; refine (HTC.out _).mono ?_; rintro e w' ⟨rfl, hw⟩; subst w')
  go_loopw [9, 20] (fun m i wr => ∃ k j : Nat, k ≤ s.size ∧ i = .int .i64 (k : Int) ∧ m = .int .i64 (j : Int) ∧ j ≤ k ∧ Hid (j = Al.mis n (s.data.toList.take k) (t.data.toList.take k)) ∧ Hid (∃ q, wr = w.drewN q)) (fun _ i _ => s.size - (intOf i).toNat)
  case atStart => exact ⟨0, 0, Nat.zero_le _, rfl, rfl, Nat.le_refl _, by simp [Al.mis, Hid], ⟨0, rfl⟩⟩
  case round =>
    obtain ⟨k, j, hk, rfl, rfl, hjk, HJ, HW⟩ := hrel
    by_cases hlt : k < s.size
    · have hlt2 : k < t.size := by omega
      have HT : Hid _ := Al.mis_take n s.data.toList t.data.toList k (by simpa using hlt) (by simpa using hlt2)
      have hi1 := ix_str s k hlt (k : Int) rfl
      have hi2 := ix_str t k hlt2 (k : Int) rfl
      have hlt' : (k : Int) < (s.size : Int) := by omega
      have hlt2' : (k : Int) < (t.size : Int) := by omega
      have HO : Hid _ := HMM.out s[k] t[k]
      cases h1 : ((s[k].toNat : Int) == (t[k].toNat : Int)) <;> cases h2 : ((s[k].toNat : Int) != 78) <;> cases h3 : ((s[k].toNat : Int) == (go.toNat : Int)) <;> cases h4 : ((t[k].toNat : Int) == (ba.toNat : Int))
      all_goals
        have HOF : Hid _ := HO.out
        rw [h1, h2, h3, h4] at HOF
        clear HO
        go_wp2_with fail
        go_quiet (fail)
        go_wp2
        all_goals try (go_quiet (fail); go_wp2)
        all_goals try (go_quiet (fail); go_wp2)
        all_goals
          go_roundw
          case rel =>
            have e1 : Al.mm n s[k] t[k] = _ := HOF.out
            refine ⟨k + 1, j + (if Al.mm n s[k] t[k] then 1 else 0), by omega, by go_num, ?_, ?_, ?_, ?_⟩
            · rw [e1]; simp [*]
            · rw [e1]; split <;> omega
            · show j + _ = _
              rw [HT.out, ← HJ.out]
              rfl
            · obtain ⟨q, rfl⟩ := HW.out
              first | exact ⟨_, by rw [drewN_more]⟩ | exact ⟨_, by rw [drewN_more, drewN_more]⟩ | exact ⟨_, by rw [drewN_more, drewN_more, drewN_more]⟩
          case measure => simp [intOf]; omega
    · have HF : Hid _ := Al.mis_whole n s.data.toList t.data.toList k (by simp; omega)
      have hlt' : ¬ (k : Int) < (s.size : Int) := by omega
      go_wp2
      go_ret
      exact ⟨ret_int (by rw [HJ.out, HF.out]), HW.out⟩

end Go.Proofs.Ytjebhbopmfcopaa
