/-
  THE WALK of 'apart': how letters differ from a contig's. Own text of the verifier.
-/
import Derived.Test.YtjebhbopmfcopaaBun11
namespace Go.Proofs.Ytjebhbopmfcopaa
open Go.RowKit

theorem Kp.five {c : UInt8} (h : Lt.isL c = true) : (c.toNat : Int) = 65 ∨ (c.toNat : Int) = 67 ∨ (c.toNat : Int) = 71 ∨ (c.toNat : Int) = 84 ∨ (c.toNat : Int) = 78 := by
  rcases Pa.isL_cases h with h | h | h | h | h <;> (rw [h]; simp)
theorem Kp.of_nat {c : UInt8} {k : Nat} (hk : k < 256) (h : (c.toNat : Int) = (k : Int)) : c = UInt8.ofNat k := (Lt.toNat_inj hk).1 (by omega)

theorem Kp.count {x : Nat} {b : Bool} {v : Int} (h : v = (x : Int) + (if b then 1 else 0)) : Value.int .i64 v = .int .i64 ((x + (if b then 1 else 0) : Nat) : Int) := by
  rw [h]
  cases b <;> simp

set_option maxRecDepth 100000 in
set_option maxHeartbeats 6400000 in
theorem kapart_1 (s t : ByteArray) (n : Int) (w : World) (n1 : (n == 1) = true) (hTB : Lt.topB n = true) (hs : s.size ≤ 1000000) (ht : s.size ≤ t.size) (htm : t.size ≤ 140737488355327) (hL : Lt.allL s.data.toList = true) (hM : Lt.allL t.data.toList = true) :
    Calls Try.prog 20 #[.string s, .string t, .int .i64 n] w fun e w' => e = .returned (.tuple #[.int .i64 (Se.three n s.data.toList t.data.toList : Nat), .int .i64 (Al.mis n s.data.toList t.data.toList : Nat)]) ∧ w' = w := by
  have HL : Hid _ := hL
  have HM : Hid _ := hM
  have HTB : Hid _ := hTB
  clear hL hM hTB
  go_enter Try.func20, Try.ntmps20
  go_wp2
  go_loop [8, 9, 10] (fun m q i => ∃ k x y : Nat, k ≤ s.size ∧ i = .int .i64 (k : Int) ∧ m = .int .i64 (x : Int) ∧ q = .int .i64 (y : Int) ∧ x ≤ k ∧ y ≤ k ∧ Hid (x = Se.three n (s.data.toList.take k) (t.data.toList.take k) ∧ y = Al.mis n (s.data.toList.take k) (t.data.toList.take k))) (fun _ _ i => s.size - (intOf i).toNat)
  case atStart => exact ⟨0, 0, 0, Nat.zero_le _, rfl, rfl, rfl, Nat.le_refl _, Nat.le_refl _, by simp [Al.mis, Se.three, Hid]⟩
  case round =>
    obtain ⟨k, x, y, hk, rfl, rfl, rfl, hxk, hyk, HJ⟩ := hrel
    by_cases hlt : k < s.size
    · have hlt2 : k < t.size := by omega
      have HT1 : Hid _ := Se.three_take n s.data.toList t.data.toList k (by simpa using hlt) (by simpa using hlt2)
      have HT2 : Hid _ := Al.mis_take n s.data.toList t.data.toList k (by simpa using hlt) (by simpa using hlt2)
      have hi1 := ix_str s k hlt (k : Int) rfl
      have hi2 := ix_str t k hlt2 (k : Int) rfl
      have hlt' : (k : Int) < (s.size : Int) := by omega
      have hlt2' : (k : Int) < (t.size : Int) := by omega
      have ha := Kp.five (Pa.allL_at HL.out (k := k) (by simpa using hlt))
      have hb := Kp.five (Pa.allL_at HM.out (k := k) (by simpa using hlt2))
      have HNX : Hid (x + (if Se.off n s[k] t[k] then 1 else 0) = Se.three n (s.data.toList.take (k + 1)) (t.data.toList.take (k + 1)) ∧ y + (if Al.mm n s[k] t[k] then 1 else 0) = Al.mis n (s.data.toList.take (k + 1)) (t.data.toList.take (k + 1))) := ⟨by rw [HT1.out, ← HJ.out.1]; rfl, by rw [HT2.out, ← HJ.out.2]; rfl⟩
      clear HT1 HT2 HJ HL HM
      have ha' : (s[k].toNat : Int) = 65 ∨ (s[k].toNat : Int) = 67 ∨ (s[k].toNat : Int) = 71 ∨ (s[k].toNat : Int) = 84 ∨ (s[k].toNat : Int) = 78 := ha
      have hb' : (t[k].toNat : Int) = 65 ∨ (t[k].toNat : Int) = 67 ∨ (t[k].toNat : Int) = 71 ∨ (t[k].toNat : Int) = 84 ∨ (t[k].toNat : Int) = 78 := hb
      clear ha hb
      generalize s[k] = a at *
      generalize t[k] = b at *
      rcases ha' with ha | ha | ha | ha | ha <;> rcases hb' with hb | hb | hb | hb | hb
      all_goals
        rw [ha] at hi1
        rw [hb] at hi2
        have HA : Hid _ := ha
        have HB : Hid _ := hb
        clear ha hb
        go_wp2
        go_round
        case rel =>
          refine ⟨k + 1, _, _, by omega, by go_num, Kp.count (b := Se.off n a b) ?_, Kp.count (b := Al.mm n a b) ?_, ?_, ?_, HNX.out⟩
          · rw [Kp.of_nat (k := _) (by decide) HA.out, Kp.of_nat (k := _) (by decide) HB.out]
            simp [Se.off, Lt.trn, HTB.out]
          · rw [Kp.of_nat (k := _) (by decide) HA.out, Kp.of_nat (k := _) (by decide) HB.out]
            simp [Al.mm, HTB.out]
          · split <;> omega
          · split <;> omega
        case measure => simp [intOf]; omega
    · have HF1 : Hid _ := Se.three_whole n s.data.toList t.data.toList k (by simp; omega)
      have HF2 : Hid _ := Al.mis_whole n s.data.toList t.data.toList k (by simp; omega)
      have hlt' : ¬ (k : Int) < (s.size : Int) := by omega
      go_wp2
      go_ret2
      exact ⟨by rw [HJ.out.1, HJ.out.2, HF1.out, HF2.out]; rfl, rfl⟩

set_option maxRecDepth 100000 in
set_option maxHeartbeats 6400000 in
theorem kapart_3 (s t : ByteArray) (n : Int) (w : World) (n1 : (n == 1) = false) (n3 : (n == 3) = true) (hTB : Lt.topB n = true) (hs : s.size ≤ 1000000) (ht : s.size ≤ t.size) (htm : t.size ≤ 140737488355327) (hL : Lt.allL s.data.toList = true) (hM : Lt.allL t.data.toList = true) :
    Calls Try.prog 20 #[.string s, .string t, .int .i64 n] w fun e w' => e = .returned (.tuple #[.int .i64 (Se.three n s.data.toList t.data.toList : Nat), .int .i64 (Al.mis n s.data.toList t.data.toList : Nat)]) ∧ w' = w := by
  have HL : Hid _ := hL
  have HM : Hid _ := hM
  have HTB : Hid _ := hTB
  clear hL hM hTB
  go_enter Try.func20, Try.ntmps20
  go_wp2
  go_loop [8, 9, 10] (fun m q i => ∃ k x y : Nat, k ≤ s.size ∧ i = .int .i64 (k : Int) ∧ m = .int .i64 (x : Int) ∧ q = .int .i64 (y : Int) ∧ x ≤ k ∧ y ≤ k ∧ Hid (x = Se.three n (s.data.toList.take k) (t.data.toList.take k) ∧ y = Al.mis n (s.data.toList.take k) (t.data.toList.take k))) (fun _ _ i => s.size - (intOf i).toNat)
  case atStart => exact ⟨0, 0, 0, Nat.zero_le _, rfl, rfl, rfl, Nat.le_refl _, Nat.le_refl _, by simp [Al.mis, Se.three, Hid]⟩
  case round =>
    obtain ⟨k, x, y, hk, rfl, rfl, rfl, hxk, hyk, HJ⟩ := hrel
    by_cases hlt : k < s.size
    · have hlt2 : k < t.size := by omega
      have HT1 : Hid _ := Se.three_take n s.data.toList t.data.toList k (by simpa using hlt) (by simpa using hlt2)
      have HT2 : Hid _ := Al.mis_take n s.data.toList t.data.toList k (by simpa using hlt) (by simpa using hlt2)
      have hi1 := ix_str s k hlt (k : Int) rfl
      have hi2 := ix_str t k hlt2 (k : Int) rfl
      have hlt' : (k : Int) < (s.size : Int) := by omega
      have hlt2' : (k : Int) < (t.size : Int) := by omega
      have ha := Kp.five (Pa.allL_at HL.out (k := k) (by simpa using hlt))
      have hb := Kp.five (Pa.allL_at HM.out (k := k) (by simpa using hlt2))
      have HNX : Hid (x + (if Se.off n s[k] t[k] then 1 else 0) = Se.three n (s.data.toList.take (k + 1)) (t.data.toList.take (k + 1)) ∧ y + (if Al.mm n s[k] t[k] then 1 else 0) = Al.mis n (s.data.toList.take (k + 1)) (t.data.toList.take (k + 1))) := ⟨by rw [HT1.out, ← HJ.out.1]; rfl, by rw [HT2.out, ← HJ.out.2]; rfl⟩
      clear HT1 HT2 HJ HL HM
      have ha' : (s[k].toNat : Int) = 65 ∨ (s[k].toNat : Int) = 67 ∨ (s[k].toNat : Int) = 71 ∨ (s[k].toNat : Int) = 84 ∨ (s[k].toNat : Int) = 78 := ha
      have hb' : (t[k].toNat : Int) = 65 ∨ (t[k].toNat : Int) = 67 ∨ (t[k].toNat : Int) = 71 ∨ (t[k].toNat : Int) = 84 ∨ (t[k].toNat : Int) = 78 := hb
      clear ha hb
      generalize s[k] = a at *
      generalize t[k] = b at *
      rcases ha' with ha | ha | ha | ha | ha <;> rcases hb' with hb | hb | hb | hb | hb
      all_goals
        rw [ha] at hi1
        rw [hb] at hi2
        have HA : Hid _ := ha
        have HB : Hid _ := hb
        clear ha hb
        go_wp2
        go_round
        case rel =>
          refine ⟨k + 1, _, _, by omega, by go_num, Kp.count (b := Se.off n a b) ?_, Kp.count (b := Al.mm n a b) ?_, ?_, ?_, HNX.out⟩
          · rw [Kp.of_nat (k := _) (by decide) HA.out, Kp.of_nat (k := _) (by decide) HB.out]
            simp [Se.off, Lt.trn, HTB.out]
          · rw [Kp.of_nat (k := _) (by decide) HA.out, Kp.of_nat (k := _) (by decide) HB.out]
            simp [Al.mm, HTB.out]
          · split <;> omega
          · split <;> omega
        case measure => simp [intOf]; omega
    · have HF1 : Hid _ := Se.three_whole n s.data.toList t.data.toList k (by simp; omega)
      have HF2 : Hid _ := Al.mis_whole n s.data.toList t.data.toList k (by simp; omega)
      have hlt' : ¬ (k : Int) < (s.size : Int) := by omega
      go_wp2
      go_ret2
      exact ⟨by rw [HJ.out.1, HJ.out.2, HF1.out, HF2.out]; rfl, rfl⟩

set_option maxRecDepth 100000 in
set_option maxHeartbeats 6400000 in
theorem kapart_2 (s t : ByteArray) (n : Int) (w : World) (n1 : (n == 1) = false) (n3 : (n == 3) = false) (hTB : Lt.topB n = false) (hs : s.size ≤ 1000000) (ht : s.size ≤ t.size) (htm : t.size ≤ 140737488355327) (hL : Lt.allL s.data.toList = true) (hM : Lt.allL t.data.toList = true) :
    Calls Try.prog 20 #[.string s, .string t, .int .i64 n] w fun e w' => e = .returned (.tuple #[.int .i64 (Se.three n s.data.toList t.data.toList : Nat), .int .i64 (Al.mis n s.data.toList t.data.toList : Nat)]) ∧ w' = w := by
  have HL : Hid _ := hL
  have HM : Hid _ := hM
  have HTB : Hid _ := hTB
  clear hL hM hTB
  go_enter Try.func20, Try.ntmps20
  go_wp2
  go_loop [8, 9, 10] (fun m q i => ∃ k x y : Nat, k ≤ s.size ∧ i = .int .i64 (k : Int) ∧ m = .int .i64 (x : Int) ∧ q = .int .i64 (y : Int) ∧ x ≤ k ∧ y ≤ k ∧ Hid (x = Se.three n (s.data.toList.take k) (t.data.toList.take k) ∧ y = Al.mis n (s.data.toList.take k) (t.data.toList.take k))) (fun _ _ i => s.size - (intOf i).toNat)
  case atStart => exact ⟨0, 0, 0, Nat.zero_le _, rfl, rfl, rfl, Nat.le_refl _, Nat.le_refl _, by simp [Al.mis, Se.three, Hid]⟩
  case round =>
    obtain ⟨k, x, y, hk, rfl, rfl, rfl, hxk, hyk, HJ⟩ := hrel
    by_cases hlt : k < s.size
    · have hlt2 : k < t.size := by omega
      have HT1 : Hid _ := Se.three_take n s.data.toList t.data.toList k (by simpa using hlt) (by simpa using hlt2)
      have HT2 : Hid _ := Al.mis_take n s.data.toList t.data.toList k (by simpa using hlt) (by simpa using hlt2)
      have hi1 := ix_str s k hlt (k : Int) rfl
      have hi2 := ix_str t k hlt2 (k : Int) rfl
      have hlt' : (k : Int) < (s.size : Int) := by omega
      have hlt2' : (k : Int) < (t.size : Int) := by omega
      have ha := Kp.five (Pa.allL_at HL.out (k := k) (by simpa using hlt))
      have hb := Kp.five (Pa.allL_at HM.out (k := k) (by simpa using hlt2))
      have HNX : Hid (x + (if Se.off n s[k] t[k] then 1 else 0) = Se.three n (s.data.toList.take (k + 1)) (t.data.toList.take (k + 1)) ∧ y + (if Al.mm n s[k] t[k] then 1 else 0) = Al.mis n (s.data.toList.take (k + 1)) (t.data.toList.take (k + 1))) := ⟨by rw [HT1.out, ← HJ.out.1]; rfl, by rw [HT2.out, ← HJ.out.2]; rfl⟩
      clear HT1 HT2 HJ HL HM
      have ha' : (s[k].toNat : Int) = 65 ∨ (s[k].toNat : Int) = 67 ∨ (s[k].toNat : Int) = 71 ∨ (s[k].toNat : Int) = 84 ∨ (s[k].toNat : Int) = 78 := ha
      have hb' : (t[k].toNat : Int) = 65 ∨ (t[k].toNat : Int) = 67 ∨ (t[k].toNat : Int) = 71 ∨ (t[k].toNat : Int) = 84 ∨ (t[k].toNat : Int) = 78 := hb
      clear ha hb
      generalize s[k] = a at *
      generalize t[k] = b at *
      rcases ha' with ha | ha | ha | ha | ha <;> rcases hb' with hb | hb | hb | hb | hb
      all_goals
        rw [ha] at hi1
        rw [hb] at hi2
        have HA : Hid _ := ha
        have HB : Hid _ := hb
        clear ha hb
        go_wp2
        go_round
        case rel =>
          refine ⟨k + 1, _, _, by omega, by go_num, Kp.count (b := Se.off n a b) ?_, Kp.count (b := Al.mm n a b) ?_, ?_, ?_, HNX.out⟩
          · rw [Kp.of_nat (k := _) (by decide) HA.out, Kp.of_nat (k := _) (by decide) HB.out]
            simp [Se.off, Lt.trn, HTB.out]
          · rw [Kp.of_nat (k := _) (by decide) HA.out, Kp.of_nat (k := _) (by decide) HB.out]
            simp [Al.mm, HTB.out]
          · split <;> omega
          · split <;> omega
        case measure => simp [intOf]; omega
    · have HF1 : Hid _ := Se.three_whole n s.data.toList t.data.toList k (by simp; omega)
      have HF2 : Hid _ := Al.mis_whole n s.data.toList t.data.toList k (by simp; omega)
      have hlt' : ¬ (k : Int) < (s.size : Int) := by omega
      go_wp2
      go_ret2
      exact ⟨by rw [HJ.out.1, HJ.out.2, HF1.out, HF2.out]; rfl, rfl⟩

theorem kapart_any (s t : ByteArray) (n : Int) (w : World) (hn : Lt.strandB n = true) (hs : s.size ≤ 1000000) (ht : s.size ≤ t.size) (htm : t.size ≤ 140737488355327) (hL : Lt.allL s.data.toList = true) (hM : Lt.allL t.data.toList = true) :
    Calls Try.prog 20 #[.string s, .string t, .int .i64 n] w fun e w' => e = .returned (.tuple #[.int .i64 (Se.three n s.data.toList t.data.toList : Nat), .int .i64 (Al.mis n s.data.toList t.data.toList : Nat)]) ∧ w' = w := by
  rcases Pa.strand_cases hn with h | h | h | h
  · exact kapart_1 s t n w (by rw [h]; rfl) (by rw [h]; rfl) hs ht htm hL hM
  · exact kapart_2 s t n w (by rw [h]; rfl) (by rw [h]; rfl) (by rw [h]; rfl) hs ht htm hL hM
  · exact kapart_3 s t n w (by rw [h]; rfl) (by rw [h]; rfl) (by rw [h]; rfl) hs ht htm hL hM
  · exact kapart_2 s t n w (by rw [h]; rfl) (by rw [h]; rfl) (by rw [h]; rfl) hs ht htm hL hM

end Go.Proofs.Ytjebhbopmfcopaa
