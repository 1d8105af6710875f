/-
  THE WALKS of the document's own Reverse and Convert (bleachref), and of what they call. Own text of the verifier.
-/
import Derived.Test.YtjebhbopmfcopaaGreatDoorConvert
import Derived.Test.YtjebhbopmfcopaaGreatDoorStrand
namespace Go.Proofs.YtjebhbopmfcopaaGreatDoor
open Go.RowKit

/-- a letter in capitals; 0: it is none -/
def Lt.cap (c : UInt8) : UInt8 := if isL c then c else if c == 97 || c == 99 || c == 103 || c == 116 || c == 110 then c - 32 else 0

theorem Lt.cap_int (c : UInt8) : ((Lt.cap c).toNat : Int) =
    if ((c.toNat : Int) == 65) = true then (c.toNat : Int) else if ((c.toNat : Int) == 67) = true then (c.toNat : Int) else if ((c.toNat : Int) == 71) = true then (c.toNat : Int) else if ((c.toNat : Int) == 84) = true then (c.toNat : Int) else if ((c.toNat : Int) == 78) = true then (c.toNat : Int) else
    if ((c.toNat : Int) == 97) = true then ((c.toNat : Int) - 32) % 256 else if ((c.toNat : Int) == 99) = true then ((c.toNat : Int) - 32) % 256 else if ((c.toNat : Int) == 103) = true then ((c.toNat : Int) - 32) % 256 else if ((c.toNat : Int) == 116) = true then ((c.toNat : Int) - 32) % 256 else if ((c.toNat : Int) == 110) = true then ((c.toNat : Int) - 32) % 256 else 0 :=
  Lt.every (p := fun c => ((Lt.cap c).toNat : Int) =
    if ((c.toNat : Int) == 65) = true then (c.toNat : Int) else if ((c.toNat : Int) == 67) = true then (c.toNat : Int) else if ((c.toNat : Int) == 71) = true then (c.toNat : Int) else if ((c.toNat : Int) == 84) = true then (c.toNat : Int) else if ((c.toNat : Int) == 78) = true then (c.toNat : Int) else
    if ((c.toNat : Int) == 97) = true then ((c.toNat : Int) - 32) % 256 else if ((c.toNat : Int) == 99) = true then ((c.toNat : Int) - 32) % 256 else if ((c.toNat : Int) == 103) = true then ((c.toNat : Int) - 32) % 256 else if ((c.toNat : Int) == 116) = true then ((c.toNat : Int) - 32) % 256 else if ((c.toNat : Int) == 110) = true then ((c.toNat : Int) - 32) % 256 else 0) (by decide +kernel) c

set_option maxRecDepth 100000 in
set_option maxHeartbeats 800000 in
theorem capital_any (c : UInt8) (w : World) :
    Calls Tryz.prog 155 #[.int .u8 (c.toNat : Int)] w fun e w' => e = .returned (.int .u8 ((Lt.cap c).toNat : Int)) ∧ w' = w := by
  go_enter Tryz.func155, Tryz.ntmps155
  go_wp2
  all_goals go_ret
  all_goals refine ⟨ret_int ?_, rfl⟩
  all_goals rw [Lt.cap_int]
  all_goals simp only [*, if_true, if_false, Bool.false_eq_true]

set_option maxHeartbeats 400000 in
theorem other_any (c : UInt8) (w : World) :
    Calls Tryz.prog 156 #[.int .u8 (c.toNat : Int)] w fun e w' => e = .returned (.int .u8 ((Lt.comp c).toNat : Int)) ∧ w' = w := by
  go_enter Tryz.func156, Tryz.ntmps156
  go_wp2
  all_goals go_ret
  all_goals exact ⟨ret_int (by rw [Lt.comp_int]; simp only [*, if_true, if_false, Bool.false_eq_true]), rfl⟩


set_option maxHeartbeats 400000 in
theorem top_any (n : Int) (w : World) :
    Calls Tryz.prog 158 #[.int .i64 n] w fun e w' => e = .returned (.bool (Lt.topB n)) ∧ w' = w := by
  cases h1 : (n == 1) <;> cases h3 : (n == 3)
  all_goals
    go_enter Tryz.func158, Tryz.ntmps158
    go_wp2
    go_ret
    exact ⟨ret_bool (by simp [Lt.topB, h1, h3]), rfl⟩

set_option maxHeartbeats 400000 in
theorem strand_any (n : Int) (w : World) :
    Calls Tryz.prog 103 #[.int .i64 n] w fun e w' => e = .returned (.bool (Lt.strandB n)) ∧ w' = w := by
  by_cases h1 : 1 ≤ n <;> by_cases h4 : n ≤ 4
  all_goals
    go_enter Tryz.func103, Tryz.ntmps103
    go_wp2
    go_ret
    exact ⟨ret_bool (by simp [Lt.strandB, h1, h4]), rfl⟩

/-- the document's 'turned': one letter -/
def Lt.trn (c : UInt8) (n : Int) : UInt8 := if Lt.topB n then (if c == 67 then 84 else c) else (if c == 71 then 65 else c)

theorem u8_beq (c : UInt8) (n : Nat) (hn : n < 256) : (c == UInt8.ofNat n) = ((c.toNat : Int) == (n : Int)) := by
  rw [Bool.eq_iff_iff, beq_iff_eq, beq_iff_eq, ← Lt.toNat_inj hn]
  omega

theorem Lt.trn_int (c : UInt8) (n : Int) : ((Lt.trn c n).toNat : Int) = if Lt.topB n = true then (if ((c.toNat : Int) == 67) = true then 84 else (c.toNat : Int)) else (if ((c.toNat : Int) == 71) = true then 65 else (c.toNat : Int)) := by
  have h1 := u8_beq c 67 (by omega)
  have h2 := u8_beq c 71 (by omega)
  have h3 : (c == 67) = ((c.toNat : Int) == 67) := h1
  have h4 : (c == 71) = ((c.toNat : Int) == 71) := h2
  unfold Lt.trn
  rw [h3, h4]
  split <;> split <;> first | rfl | simp_all

set_option maxHeartbeats 800000 in
theorem refTurned_any (c : UInt8) (n : Int) (w : World) :
    Calls Tryz.prog 104 #[.int .u8 (c.toNat : Int), .int .i64 n] w fun e w' => e = .returned (.int .u8 ((Lt.trn c n).toNat : Int)) ∧ w' = w := by
  cases ht : Lt.topB n
  all_goals
    have HT : Hid (Lt.topB n = _) := ht
    clear ht
    have HI : Hid (_ = _) := Lt.trn_int c n
    cases h1 : ((c.toNat : Int) == 67) <;> cases h2 : ((c.toNat : Int) == 71)
    all_goals
      go_enter Tryz.func104, Tryz.ntmps104
      go_wp2_with (go_at_call 158; refine (top_any _ _).mono ?_; rintro e w' ⟨rfl, hw⟩; subst w'; rw [HT.out])
      go_ret
      exact ⟨ret_int (by rw [HI.out, HT.out, h1, h2]; rfl), rfl⟩

theorem cap_bad {c : UInt8} (h : Lt.isL c = false) : ((Lt.cap c).toNat : Int) = 0 ∨ ((Lt.cap c).toNat : Int) ≠ (c.toNat : Int) :=
  Lt.every (p := fun c => Lt.isL c = false → ((Lt.cap c).toNat : Int) = 0 ∨ ((Lt.cap c).toNat : Int) ≠ (c.toNat : Int)) (by decide +kernel) c h

theorem cap_good {c : UInt8} (h : Lt.isL c = true) : Lt.cap c = c := by simp [Lt.cap, h]
theorem isL_pos {c : UInt8} (h : Lt.isL c = true) : 65 ≤ (c.toNat : Int) :=
  Lt.every (p := fun c => Lt.isL c = true → 65 ≤ (c.toNat : Int)) (by decide +kernel) c h

set_option maxRecDepth 100000 in
set_option maxHeartbeats 800000 in
theorem plain_any (s : ByteArray) (w : World) (hs : s.size ≤ maxLen) :
    Calls Tryz.prog 100 #[.string s] w fun e w' => e = .returned (.bool (Lt.allL s.data.toList)) ∧ w' = w := by
  unfold maxLen at hs
  go_enter Tryz.func100, Tryz.ntmps100
  go_wp2
  go_loop [3] (fun i => ∃ k : Nat, k ≤ s.size ∧ i = .int .i64 k ∧ Hid (Lt.allL (s.data.toList.take k) = true)) (fun i => s.size - (intOf i).toNat)
  case atStart => exact ⟨0, Nat.zero_le _, rfl, rfl⟩
  case round =>
    obtain ⟨k, hk, rfl, HA⟩ := hrel
    by_cases hlt : k < s.size
    · cases hL : Lt.isL s[k] with
      | true =>
        have HS := Lt.allL_take_succ s k hlt
        rw [HA.out, hL, Bool.and_self] at HS
        have HT : Hid (Lt.allL (s.data.toList.take (k + 1)) = true) := HS
        clear HS HA
        have HC : Hid (Lt.cap s[k] = s[k]) := cap_good hL
        have h0 : ((s[k].toNat : Int) == 0) = false := by rw [beq_eq_false_iff_ne]; have := isL_pos hL; omega
        clear hL
        go_wp2_with (go_at_call 155; refine (capital_any _ _).mono ?_; rintro e w' ⟨rfl, hw⟩; subst w'; rw [HC.out])
        go_round
        case rel => exact ⟨k + 1, by omega, by go_num, HT⟩
        case measure => simp [intOf]; omega
      | false =>
        have HF : Hid (Lt.allL s.data.toList = false) := Lt.allL_stop s k hlt hL
        rcases cap_bad hL with h0 | h0
        · have h1 : (((Lt.cap s[k]).toNat : Int) == 0) = true := by rw [beq_iff_eq]; exact h0
          clear hL HA h0
          go_wp2_with (go_at_call 155; refine (capital_any _ _).mono ?_; rintro e w' ⟨rfl, hw⟩; subst w')
          go_ret
          exact ⟨ret_bool HF.out.symm, rfl⟩
        · have h2 : (((Lt.cap s[k]).toNat : Int) != (s[k].toNat : Int)) = true := by rw [bne_iff_ne]; exact h0
          clear hL HA h0
          cases h1 : (((Lt.cap s[k]).toNat : Int) == 0)
          all_goals
            go_wp2_with (go_at_call 155; refine (capital_any _ _).mono ?_; rintro e w' ⟨rfl, hw⟩; subst w')
            go_ret
            exact ⟨ret_bool HF.out.symm, rfl⟩
    · have HF : Hid (Lt.allL s.data.toList = true) := Lt.allL_whole s k hlt HA.out
      clear HA
      go_wp2
      go_ret
      exact ⟨ret_bool HF.out.symm, rfl⟩

/-- the last k bytes turned round -/
theorem rev_drop (s : ByteArray) (k : Nat) (h : k < s.size) : Lt.rev (s.data.toList.drop k) = Lt.rev (s.data.toList.drop (k + 1)) ++ [Lt.comp s[k]] := by
  rw [List.drop_eq_getElem_cons (by simpa using h)]
  simp only [Lt.rev, List.map_cons, List.reverse_cons]
  rfl

set_option maxRecDepth 100000 in
set_option maxHeartbeats 800000 in
theorem refReverse_any (s : ByteArray) (w : World) (hs : s.size ≤ 140737488355327) :
    Calls Tryz.prog 101 #[.string s] w fun e w' => e = .returned (.string ⟨(Lt.rev s.data.toList).toArray⟩) ∧ Below w.heap.size w w' := by
  go_enter Tryz.func101, Tryz.ntmps101
  go_wp2
  go_loopw [3, 4] (fun v i wr => ∃ k : Nat, k ≤ s.size ∧ i = .int .i64 ((k : Int) - 1) ∧ wr.ownsRow w.heap.size 5 1 v (Lt.rev (s.data.toList.drop k)).length (Bys (Lt.rev (s.data.toList.drop k))) ∧ Below w.heap.size w wr)
    (fun _ i _ => (intOf i + 1).toNat)
  case atStart => exact ⟨s.size, Nat.le_refl _, rfl, by rw [List.drop_of_length_le (by simp)]; exact World.ownsRow_nil _ _ _ _, Below.refl _ _⟩
  case round =>
    obtain ⟨k, hk, rfl, hown, hbel⟩ := hrel
    have hsz := hbel.size
    by_cases h0 : 0 < k
    · obtain ⟨j, rfl⟩ : ∃ j, k = j + 1 := ⟨k - 1, by omega⟩
      have HR : Hid (_ = _) := rev_drop s j (by omega)
      have HN : Hid ((Lt.rev (s.data.toList.drop (j + 1))).length ≤ s.size) := by show _ ≤ _; rw [Lt.rev_length, List.length_drop]; simp
      have hjs : j < s.size := by omega
      have e1 : (((j + 1 : Nat) : Int) - 1) = (j : Int) := by omega
      rw [e1]
      clear e1
      go_wp2_with (first
        | (go_at_call 156; refine (other_any _ _).mono ?_; rintro e w' ⟨rfl, hw⟩; subst w')
        | (at_builtin; refine app_byte rfl _ _ rfl w.heap.size _ (Lt.rev (s.data.toList.drop (j + 1))) (Lt.comp s[j]) rfl rfl (by exact hown) hbel (by omega) (by have := HN.out; omega) ?_; intro v' w1 hown1 hbel1 hsz1))
      rw [← HR.out] at hown1
      go_roundw
      case rel => exact ⟨j, by omega, by go_num, hown1, hbel1⟩
      case measure => simp [intOf]
    · have hk0 : k = 0 := by omega
      subst hk0
      rw [List.drop_zero] at hown
      have hback := back_own hown
      go_wp2
      go_ret
      exact ⟨rfl, hbel⟩

set_option maxRecDepth 100000 in
set_option maxHeartbeats 800000 in
theorem refRev_bad (s : ByteArray) (w : World) (hs : s.size ≤ maxLen) (hL : Lt.allL s.data.toList = false) :
    Calls Tryz.prog 47 #[.string s] w fun e w' => e = .returned (.tuple #[.string ⟨#[]⟩, .int .i64 8]) ∧ w' = w := by
  have HL : Hid (Lt.allL s.data.toList = false) := hL
  clear hL
  go_enter Tryz.func47, Tryz.ntmps47
  go_wp2_with (go_at_call 100; refine (plain_any _ _ hs).mono ?_; rintro e w' ⟨rfl, hw⟩; subst w'; rw [HL.out])
  go_ret2
  exact ⟨rfl, rfl⟩

set_option maxRecDepth 100000 in
set_option maxHeartbeats 800000 in
theorem refRev_good (s : ByteArray) (w : World) (hs : s.size ≤ 140737488355327) (hL : Lt.allL s.data.toList = true) :
    Calls Tryz.prog 47 #[.string s] w fun e w' => e = .returned (.tuple #[.string ⟨(Lt.rev s.data.toList).toArray⟩, .int .i64 0]) ∧ Below w.heap.size w w' := by
  have HL : Hid (Lt.allL s.data.toList = true) := hL
  clear hL
  have hsm : s.size ≤ maxLen := by unfold maxLen; omega
  go_enter Tryz.func47, Tryz.ntmps47
  go_wp2_with (first
    | (go_at_call 100; refine (plain_any _ _ hsm).mono ?_; rintro e w' ⟨rfl, hw⟩; subst w'; rw [HL.out])
    | (go_at_call 101; refine (refReverse_any _ _ hs).mono ?_; rintro e w' ⟨rfl, hbel⟩))
  go_ret2
  exact ⟨rfl, by assumption⟩

theorem trn_frm {n : Int} (h : Lt.strandB n = true) : Lt.frm n ≠ 0 ∧ ∀ c, Lt.trn c n = Lt.sub (Lt.frm n) (Lt.tow n) c := by
  simp only [Lt.strandB, Bool.and_eq_true, decide_eq_true_eq] at h
  have h4 : n = 1 ∨ n = 2 ∨ n = 3 ∨ n = 4 := by omega
  rcases h4 with rfl | rfl | rfl | rfl
  all_goals
    refine ⟨by decide, fun c => ?_⟩
    simp [Lt.trn, Lt.topB, Lt.sub, Lt.frm, Lt.tow]

theorem frm_none {n : Int} (h : Lt.strandB n = false) : Lt.frm n = 0 := by
  simp only [Lt.strandB, Bool.and_eq_false_iff, decide_eq_false_iff_not] at h
  have h1 : (n == 1) = false := by rw [beq_eq_false_iff_ne]; omega
  have h2 : (n == 2) = false := by rw [beq_eq_false_iff_ne]; omega
  have h3 : (n == 3) = false := by rw [beq_eq_false_iff_ne]; omega
  have h4 : (n == 4) = false := by rw [beq_eq_false_iff_ne]; omega
  simp [Lt.frm, h1, h2, h3, h4]

set_option maxRecDepth 100000 in
set_option maxHeartbeats 800000 in
theorem refConv_bad (s : ByteArray) (n : Int) (w : World) (hs : s.size ≤ maxLen) (hL : Lt.allL s.data.toList = false) :
    Calls Tryz.prog 49 #[.string s, .int .i64 n] w fun e w' => e = .returned (.tuple #[.string ⟨#[]⟩, .int .i64 8]) ∧ w' = w := by
  have HL : Hid (Lt.allL s.data.toList = false) := hL
  clear hL
  go_enter Tryz.func49, Tryz.ntmps49
  go_wp2_with (go_at_call 100; refine (plain_any _ _ hs).mono ?_; rintro e w' ⟨rfl, hw⟩; subst w'; rw [HL.out])
  go_ret2
  exact ⟨rfl, rfl⟩

set_option maxRecDepth 100000 in
set_option maxHeartbeats 800000 in
theorem refConv_none (s : ByteArray) (n : Int) (w : World) (hs : s.size ≤ maxLen) (hL : Lt.allL s.data.toList = true) (hn : Lt.strandB n = false) :
    Calls Tryz.prog 49 #[.string s, .int .i64 n] w fun e w' => e = .returned (.tuple #[.string ⟨#[]⟩, .int .i64 1]) ∧ w' = w := by
  have HL : Hid (Lt.allL s.data.toList = true) := hL
  have HN : Hid (Lt.strandB n = false) := hn
  clear hL hn
  go_enter Tryz.func49, Tryz.ntmps49
  go_wp2_with (first
    | (go_at_call 100; refine (plain_any _ _ hs).mono ?_; rintro e w' ⟨rfl, hw⟩; subst w'; rw [HL.out])
    | (go_at_call 103; refine (strand_any _ _).mono ?_; rintro e w' ⟨rfl, hw⟩; subst w'; rw [HN.out]))
  go_ret2
  exact ⟨rfl, rfl⟩

theorem conv_take (f t : UInt8) (s : ByteArray) (k : Nat) (h : k < s.size) : Lt.conv f t (s.data.toList.take (k + 1)) = Lt.conv f t (s.data.toList.take k) ++ [Lt.sub f t s[k]] := by
  rw [Lt.take_snoc s k h, Lt.conv, List.map_append]
  rfl

set_option maxRecDepth 100000 in
set_option maxHeartbeats 800000 in
theorem refConv_good (s : ByteArray) (n : Int) (w : World) (hs : s.size ≤ 140737488355327) (hL : Lt.allL s.data.toList = true) (hn : Lt.strandB n = true) :
    Calls Tryz.prog 49 #[.string s, .int .i64 n] w fun e w' => e = .returned (.tuple #[.string ⟨(Lt.conv (Lt.frm n) (Lt.tow n) s.data.toList).toArray⟩, .int .i64 0]) ∧ Below w.heap.size w w' := by
  have HL : Hid (Lt.allL s.data.toList = true) := hL
  have HN : Hid (Lt.strandB n = true) := hn
  have HT : Hid (∀ c, Lt.trn c n = Lt.sub (Lt.frm n) (Lt.tow n) c) := (trn_frm hn).2
  clear hL hn
  have hsm : s.size ≤ maxLen := by unfold maxLen; omega
  generalize Lt.frm n = f at *
  generalize Lt.tow n = t at *
  go_enter Tryz.func49, Tryz.ntmps49
  go_wp2_with (first
    | (go_at_call 100; refine (plain_any _ _ hsm).mono ?_; rintro e w' ⟨rfl, hw⟩; subst w'; rw [HL.out])
    | (go_at_call 103; refine (strand_any _ _).mono ?_; rintro e w' ⟨rfl, hw⟩; subst w'; rw [HN.out]))
  go_loopw [7, 8] (fun v i wr => ∃ k : Nat, k ≤ s.size ∧ i = .int .i64 k ∧ wr.ownsRow w.heap.size 5 1 v (Lt.conv f t (s.data.toList.take k)).length (Bys (Lt.conv f t (s.data.toList.take k))) ∧ Below w.heap.size w wr)
    (fun _ i _ => s.size - (intOf i).toNat)
  case atStart => exact ⟨0, Nat.zero_le _, rfl, World.ownsRow_nil _ _ _ _, Below.refl _ _⟩
  case round =>
    obtain ⟨k, hk, rfl, hown, hbel⟩ := hrel
    have hsz := hbel.size
    by_cases hlt : k < s.size
    · have HR : Hid (_ = _) := conv_take f t s k hlt
      have HC : Hid ((Lt.conv f t (s.data.toList.take k)).length ≤ s.size) := by show _ ≤ _; rw [Lt.conv_length, List.length_take]; omega
      go_wp2_with (first
        | (go_at_call 104; refine (refTurned_any _ _ _).mono ?_; rintro e w' ⟨rfl, hw⟩; subst w'; rw [HT.out])
        | (at_builtin; refine app_byte rfl _ _ rfl w.heap.size _ (Lt.conv f t (s.data.toList.take k)) (Lt.sub f t s[k]) rfl rfl (by exact hown) hbel (by omega) (by have := HC.out; omega) ?_; intro v' w1 hown1 hbel1 hsz1))
      rw [← HR.out] at hown1
      go_roundw
      case rel => exact ⟨k + 1, by omega, by go_num, hown1, hbel1⟩
      case measure => simp [intOf]; omega
    · rw [List.take_of_length_le (by simp; omega)] at hown
      have hback := back_own hown
      go_wp2
      go_ret2
      exact ⟨rfl, hbel⟩

end Go.Proofs.YtjebhbopmfcopaaGreatDoor
