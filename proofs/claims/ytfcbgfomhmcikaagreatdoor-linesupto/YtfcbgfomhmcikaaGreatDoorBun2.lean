/-
  THE WALKS of the document's own Reverse and Convert (bleachref), and of what they call. Own text of the verifier.
  THE WALKS of the readers' small functions: bytes of names, letters in capitals, qualities; the byte at a place; where a name ends. Own text of the verifier.
  THE WALKS: the byte at a place, where a name ends (the program's and the document's), letters of a line (the document's), a name among contigs. Own text of the verifier.
-/
import Derived.Test.YtfcbgfomhmcikaaGreatDoorBun1
namespace Go.Proofs.YtfcbgfomhmcikaaGreatDoor
open Go.RowKit

/-- a letter in capitals; 0: it is none -/
def Lt.cap (c : UInt8) : UInt8 := if isL c then c else if c == 97 || c == 99 || c == 103 || c == 116 || c == 110 then c - 32 else 0

theorem Lt.cap_int (c : UInt8) : ((Lt.cap c).toNat : Int) =
    if ((c.toNat : Int) == 65) = true then (c.toNat : Int) else if ((c.toNat : Int) == 67) = true then (c.toNat : Int) else if ((c.toNat : Int) == 71) = true then (c.toNat : Int) else if ((c.toNat : Int) == 84) = true then (c.toNat : Int) else if ((c.toNat : Int) == 78) = true then (c.toNat : Int) else
    if ((c.toNat : Int) == 97) = true then ((c.toNat : Int) - 32) % 256 else if ((c.toNat : Int) == 99) = true then ((c.toNat : Int) - 32) % 256 else if ((c.toNat : Int) == 103) = true then ((c.toNat : Int) - 32) % 256 else if ((c.toNat : Int) == 116) = true then ((c.toNat : Int) - 32) % 256 else if ((c.toNat : Int) == 110) = true then ((c.toNat : Int) - 32) % 256 else 0 :=
  Lt.every (p := fun c => ((Lt.cap c).toNat : Int) =
    if ((c.toNat : Int) == 65) = true then (c.toNat : Int) else if ((c.toNat : Int) == 67) = true then (c.toNat : Int) else if ((c.toNat : Int) == 71) = true then (c.toNat : Int) else if ((c.toNat : Int) == 84) = true then (c.toNat : Int) else if ((c.toNat : Int) == 78) = true then (c.toNat : Int) else
    if ((c.toNat : Int) == 97) = true then ((c.toNat : Int) - 32) % 256 else if ((c.toNat : Int) == 99) = true then ((c.toNat : Int) - 32) % 256 else if ((c.toNat : Int) == 103) = true then ((c.toNat : Int) - 32) % 256 else if ((c.toNat : Int) == 116) = true then ((c.toNat : Int) - 32) % 256 else if ((c.toNat : Int) == 110) = true then ((c.toNat : Int) - 32) % 256 else 0) (by decide +kernel) c

set_option maxRecDepth 100000 in
set_option maxHeartbeats 800000 in
theorem capital_any (c : UInt8) (w : World) :
    Calls Tryz.prog 69 #[.int .u8 (c.toNat : Int)] w fun e w' => e = .returned (.int .u8 ((Lt.cap c).toNat : Int)) ∧ w' = w := by
  go_enter Tryz.func69, Tryz.ntmps69
  go_wp2
  all_goals go_ret
  all_goals refine ⟨ret_int ?_, rfl⟩
  all_goals rw [Lt.cap_int]
  all_goals simp only [*, if_true, if_false, Bool.false_eq_true]

set_option maxHeartbeats 400000 in
theorem other_any (c : UInt8) (w : World) :
    Calls Tryz.prog 70 #[.int .u8 (c.toNat : Int)] w fun e w' => e = .returned (.int .u8 ((Lt.comp c).toNat : Int)) ∧ w' = w := by
  go_enter Tryz.func70, Tryz.ntmps70
  go_wp2
  all_goals go_ret
  all_goals exact ⟨ret_int (by rw [Lt.comp_int]; simp only [*, if_true, if_false, Bool.false_eq_true]), rfl⟩


set_option maxHeartbeats 400000 in
theorem top_any (n : Int) (w : World) :
    Calls Tryz.prog 73 #[.int .i64 n] w fun e w' => e = .returned (.bool (Lt.topB n)) ∧ w' = w := by
  cases h1 : (n == 1) <;> cases h3 : (n == 3)
  all_goals
    go_enter Tryz.func73, Tryz.ntmps73
    go_wp2
    go_ret
    exact ⟨ret_bool (by simp [Lt.topB, h1, h3]), rfl⟩

set_option maxHeartbeats 400000 in
theorem strand_any (n : Int) (w : World) :
    Calls Tryz.prog 40 #[.int .i64 n] w fun e w' => e = .returned (.bool (Lt.strandB n)) ∧ w' = w := by
  by_cases h1 : 1 ≤ n <;> by_cases h4 : n ≤ 4
  all_goals
    go_enter Tryz.func40, Tryz.ntmps40
    go_wp2
    go_ret
    exact ⟨ret_bool (by simp [Lt.strandB, h1, h4]), rfl⟩

/-- the document's 'turned': one letter -/
def Lt.trn (c : UInt8) (n : Int) : UInt8 := if Lt.topB n then (if c == 67 then 84 else c) else (if c == 71 then 65 else c)

theorem u8_beq (c : UInt8) (n : Nat) (hn : n < 256) : (c == UInt8.ofNat n) = ((c.toNat : Int) == (n : Int)) := by
  rw [Bool.eq_iff_iff, beq_iff_eq, beq_iff_eq, ← Lt.toNat_inj hn]
  omega

theorem Lt.trn_int (c : UInt8) (n : Int) : ((Lt.trn c n).toNat : Int) = if Lt.topB n = true then (if ((c.toNat : Int) == 67) = true then 84 else (c.toNat : Int)) else (if ((c.toNat : Int) == 71) = true then 65 else (c.toNat : Int)) := by
  have h1 := u8_beq c 67 (by omega)
  have h2 := u8_beq c 71 (by omega)
  have h3 : (c == 67) = ((c.toNat : Int) == 67) := h1
  have h4 : (c == 71) = ((c.toNat : Int) == 71) := h2
  unfold Lt.trn
  rw [h3, h4]
  split <;> split <;> first | rfl | simp_all

set_option maxHeartbeats 800000 in
theorem refTurned_any (c : UInt8) (n : Int) (w : World) :
    Calls Tryz.prog 41 #[.int .u8 (c.toNat : Int), .int .i64 n] w fun e w' => e = .returned (.int .u8 ((Lt.trn c n).toNat : Int)) ∧ w' = w := by
  cases ht : Lt.topB n
  all_goals
    have HT : Hid (Lt.topB n = _) := ht
    clear ht
    have HI : Hid (_ = _) := Lt.trn_int c n
    cases h1 : ((c.toNat : Int) == 67) <;> cases h2 : ((c.toNat : Int) == 71)
    all_goals
      go_enter Tryz.func41, Tryz.ntmps41
      go_wp2_with (go_at_call 73; refine (top_any _ _).mono ?_; rintro e w' ⟨rfl, hw⟩; subst w'; rw [HT.out])
      go_ret
      exact ⟨ret_int (by rw [HI.out, HT.out, h1, h2]; rfl), rfl⟩

theorem cap_bad {c : UInt8} (h : Lt.isL c = false) : ((Lt.cap c).toNat : Int) = 0 ∨ ((Lt.cap c).toNat : Int) ≠ (c.toNat : Int) :=
  Lt.every (p := fun c => Lt.isL c = false → ((Lt.cap c).toNat : Int) = 0 ∨ ((Lt.cap c).toNat : Int) ≠ (c.toNat : Int)) (by decide +kernel) c h

theorem cap_good {c : UInt8} (h : Lt.isL c = true) : Lt.cap c = c := by simp [Lt.cap, h]
theorem isL_pos {c : UInt8} (h : Lt.isL c = true) : 65 ≤ (c.toNat : Int) :=
  Lt.every (p := fun c => Lt.isL c = true → 65 ≤ (c.toNat : Int)) (by decide +kernel) c h

set_option maxRecDepth 100000 in
set_option maxHeartbeats 800000 in
theorem plain_any (s : ByteArray) (w : World) (hs : s.size ≤ maxLen) :
    Calls Tryz.prog 37 #[.string s] w fun e w' => e = .returned (.bool (Lt.allL s.data.toList)) ∧ w' = w := by
  unfold maxLen at hs
  go_enter Tryz.func37, Tryz.ntmps37
  go_wp2
  go_loop [3] (fun i => ∃ k : Nat, k ≤ s.size ∧ i = .int .i64 k ∧ Hid (Lt.allL (s.data.toList.take k) = true)) (fun i => s.size - (intOf i).toNat)
  case atStart => exact ⟨0, Nat.zero_le _, rfl, rfl⟩
  case round =>
    obtain ⟨k, hk, rfl, HA⟩ := hrel
    by_cases hlt : k < s.size
    · cases hL : Lt.isL s[k] with
      | true =>
        have HS := Lt.allL_take_succ s k hlt
        rw [HA.out, hL, Bool.and_self] at HS
        have HT : Hid (Lt.allL (s.data.toList.take (k + 1)) = true) := HS
        clear HS HA
        have HC : Hid (Lt.cap s[k] = s[k]) := cap_good hL
        have h0 : ((s[k].toNat : Int) == 0) = false := by rw [beq_eq_false_iff_ne]; have := isL_pos hL; omega
        clear hL
        go_wp2_with (go_at_call 69; refine (capital_any _ _).mono ?_; rintro e w' ⟨rfl, hw⟩; subst w'; rw [HC.out])
        go_round
        case rel => exact ⟨k + 1, by omega, by go_num, HT⟩
        case measure => simp [intOf]; omega
      | false =>
        have HF : Hid (Lt.allL s.data.toList = false) := Lt.allL_stop s k hlt hL
        rcases cap_bad hL with h0 | h0
        · have h1 : (((Lt.cap s[k]).toNat : Int) == 0) = true := by rw [beq_iff_eq]; exact h0
          clear hL HA h0
          go_wp2_with (go_at_call 69; refine (capital_any _ _).mono ?_; rintro e w' ⟨rfl, hw⟩; subst w')
          go_ret
          exact ⟨ret_bool HF.out.symm, rfl⟩
        · have h2 : (((Lt.cap s[k]).toNat : Int) != (s[k].toNat : Int)) = true := by rw [bne_iff_ne]; exact h0
          clear hL HA h0
          cases h1 : (((Lt.cap s[k]).toNat : Int) == 0)
          all_goals
            go_wp2_with (go_at_call 69; refine (capital_any _ _).mono ?_; rintro e w' ⟨rfl, hw⟩; subst w')
            go_ret
            exact ⟨ret_bool HF.out.symm, rfl⟩
    · have HF : Hid (Lt.allL s.data.toList = true) := Lt.allL_whole s k hlt HA.out
      clear HA
      go_wp2
      go_ret
      exact ⟨ret_bool HF.out.symm, rfl⟩

/-- the last k bytes turned round -/
theorem rev_drop (s : ByteArray) (k : Nat) (h : k < s.size) : Lt.rev (s.data.toList.drop k) = Lt.rev (s.data.toList.drop (k + 1)) ++ [Lt.comp s[k]] := by
  rw [List.drop_eq_getElem_cons (by simpa using h)]
  simp only [Lt.rev, List.map_cons, List.reverse_cons]
  rfl

set_option maxRecDepth 100000 in
set_option maxHeartbeats 800000 in
theorem refReverse_any (s : ByteArray) (w : World) (hs : s.size ≤ 140737488355327) :
    Calls Tryz.prog 38 #[.string s] w fun e w' => e = .returned (.string ⟨(Lt.rev s.data.toList).toArray⟩) ∧ Below w.heap.size w w' := by
  go_enter Tryz.func38, Tryz.ntmps38
  go_wp2
  go_loopw [3, 4] (fun v i wr => ∃ k : Nat, k ≤ s.size ∧ i = .int .i64 ((k : Int) - 1) ∧ wr.ownsRow w.heap.size 5 1 v (Lt.rev (s.data.toList.drop k)).length (Bys (Lt.rev (s.data.toList.drop k))) ∧ Below w.heap.size w wr)
    (fun _ i _ => (intOf i + 1).toNat)
  case atStart => exact ⟨s.size, Nat.le_refl _, rfl, by rw [List.drop_of_length_le (by simp)]; exact World.ownsRow_nil _ _ _ _, Below.refl _ _⟩
  case round =>
    obtain ⟨k, hk, rfl, hown, hbel⟩ := hrel
    have hsz := hbel.size
    by_cases h0 : 0 < k
    · obtain ⟨j, rfl⟩ : ∃ j, k = j + 1 := ⟨k - 1, by omega⟩
      have HR : Hid (_ = _) := rev_drop s j (by omega)
      have HN : Hid ((Lt.rev (s.data.toList.drop (j + 1))).length ≤ s.size) := by show _ ≤ _; rw [Lt.rev_length, List.length_drop]; simp
      have hjs : j < s.size := by omega
      have e1 : (((j + 1 : Nat) : Int) - 1) = (j : Int) := by omega
      rw [e1]
      clear e1
      go_wp2_with (first
        | (go_at_call 70; refine (other_any _ _).mono ?_; rintro e w' ⟨rfl, hw⟩; subst w')
        | (at_builtin; refine app_byte rfl _ _ rfl w.heap.size _ (Lt.rev (s.data.toList.drop (j + 1))) (Lt.comp s[j]) rfl rfl (by exact hown) hbel (by omega) (by have := HN.out; omega) ?_; intro v' w1 hown1 hbel1 hsz1))
      rw [← HR.out] at hown1
      go_roundw
      case rel => exact ⟨j, by omega, by go_num, hown1, hbel1⟩
      case measure => simp [intOf]
    · have hk0 : k = 0 := by omega
      subst hk0
      rw [List.drop_zero] at hown
      have hback := back_own hown
      go_wp2
      go_ret
      exact ⟨rfl, hbel⟩

set_option maxRecDepth 100000 in
set_option maxHeartbeats 800000 in
theorem refRev_bad (s : ByteArray) (w : World) (hs : s.size ≤ maxLen) (hL : Lt.allL s.data.toList = false) :
    Calls Tryz.prog 16 #[.string s] w fun e w' => e = .returned (.tuple #[.string ⟨#[]⟩, .int .i64 8]) ∧ w' = w := by
  have HL : Hid (Lt.allL s.data.toList = false) := hL
  clear hL
  go_enter Tryz.func16, Tryz.ntmps16
  go_wp2_with (go_at_call 37; refine (plain_any _ _ hs).mono ?_; rintro e w' ⟨rfl, hw⟩; subst w'; rw [HL.out])
  go_ret2
  exact ⟨rfl, rfl⟩

set_option maxRecDepth 100000 in
set_option maxHeartbeats 800000 in
theorem refRev_good (s : ByteArray) (w : World) (hs : s.size ≤ 140737488355327) (hL : Lt.allL s.data.toList = true) :
    Calls Tryz.prog 16 #[.string s] w fun e w' => e = .returned (.tuple #[.string ⟨(Lt.rev s.data.toList).toArray⟩, .int .i64 0]) ∧ Below w.heap.size w w' := by
  have HL : Hid (Lt.allL s.data.toList = true) := hL
  clear hL
  have hsm : s.size ≤ maxLen := by unfold maxLen; omega
  go_enter Tryz.func16, Tryz.ntmps16
  go_wp2_with (first
    | (go_at_call 37; refine (plain_any _ _ hsm).mono ?_; rintro e w' ⟨rfl, hw⟩; subst w'; rw [HL.out])
    | (go_at_call 38; refine (refReverse_any _ _ hs).mono ?_; rintro e w' ⟨rfl, hbel⟩))
  go_ret2
  exact ⟨rfl, by assumption⟩

theorem trn_frm {n : Int} (h : Lt.strandB n = true) : Lt.frm n ≠ 0 ∧ ∀ c, Lt.trn c n = Lt.sub (Lt.frm n) (Lt.tow n) c := by
  simp only [Lt.strandB, Bool.and_eq_true, decide_eq_true_eq] at h
  have h4 : n = 1 ∨ n = 2 ∨ n = 3 ∨ n = 4 := by omega
  rcases h4 with rfl | rfl | rfl | rfl
  all_goals
    refine ⟨by decide, fun c => ?_⟩
    simp [Lt.trn, Lt.topB, Lt.sub, Lt.frm, Lt.tow]

theorem frm_none {n : Int} (h : Lt.strandB n = false) : Lt.frm n = 0 := by
  simp only [Lt.strandB, Bool.and_eq_false_iff, decide_eq_false_iff_not] at h
  have h1 : (n == 1) = false := by rw [beq_eq_false_iff_ne]; omega
  have h2 : (n == 2) = false := by rw [beq_eq_false_iff_ne]; omega
  have h3 : (n == 3) = false := by rw [beq_eq_false_iff_ne]; omega
  have h4 : (n == 4) = false := by rw [beq_eq_false_iff_ne]; omega
  simp [Lt.frm, h1, h2, h3, h4]

set_option maxRecDepth 100000 in
set_option maxHeartbeats 800000 in
theorem refConv_bad (s : ByteArray) (n : Int) (w : World) (hs : s.size ≤ maxLen) (hL : Lt.allL s.data.toList = false) :
    Calls Tryz.prog 18 #[.string s, .int .i64 n] w fun e w' => e = .returned (.tuple #[.string ⟨#[]⟩, .int .i64 8]) ∧ w' = w := by
  have HL : Hid (Lt.allL s.data.toList = false) := hL
  clear hL
  go_enter Tryz.func18, Tryz.ntmps18
  go_wp2_with (go_at_call 37; refine (plain_any _ _ hs).mono ?_; rintro e w' ⟨rfl, hw⟩; subst w'; rw [HL.out])
  go_ret2
  exact ⟨rfl, rfl⟩

set_option maxRecDepth 100000 in
set_option maxHeartbeats 800000 in
theorem refConv_none (s : ByteArray) (n : Int) (w : World) (hs : s.size ≤ maxLen) (hL : Lt.allL s.data.toList = true) (hn : Lt.strandB n = false) :
    Calls Tryz.prog 18 #[.string s, .int .i64 n] w fun e w' => e = .returned (.tuple #[.string ⟨#[]⟩, .int .i64 1]) ∧ w' = w := by
  have HL : Hid (Lt.allL s.data.toList = true) := hL
  have HN : Hid (Lt.strandB n = false) := hn
  clear hL hn
  go_enter Tryz.func18, Tryz.ntmps18
  go_wp2_with (first
    | (go_at_call 37; refine (plain_any _ _ hs).mono ?_; rintro e w' ⟨rfl, hw⟩; subst w'; rw [HL.out])
    | (go_at_call 40; refine (strand_any _ _).mono ?_; rintro e w' ⟨rfl, hw⟩; subst w'; rw [HN.out]))
  go_ret2
  exact ⟨rfl, rfl⟩

theorem conv_take (f t : UInt8) (s : ByteArray) (k : Nat) (h : k < s.size) : Lt.conv f t (s.data.toList.take (k + 1)) = Lt.conv f t (s.data.toList.take k) ++ [Lt.sub f t s[k]] := by
  rw [Lt.take_snoc s k h, Lt.conv, List.map_append]
  rfl

set_option maxRecDepth 100000 in
set_option maxHeartbeats 800000 in
theorem refConv_good (s : ByteArray) (n : Int) (w : World) (hs : s.size ≤ 140737488355327) (hL : Lt.allL s.data.toList = true) (hn : Lt.strandB n = true) :
    Calls Tryz.prog 18 #[.string s, .int .i64 n] w fun e w' => e = .returned (.tuple #[.string ⟨(Lt.conv (Lt.frm n) (Lt.tow n) s.data.toList).toArray⟩, .int .i64 0]) ∧ Below w.heap.size w w' := by
  have HL : Hid (Lt.allL s.data.toList = true) := hL
  have HN : Hid (Lt.strandB n = true) := hn
  have HT : Hid (∀ c, Lt.trn c n = Lt.sub (Lt.frm n) (Lt.tow n) c) := (trn_frm hn).2
  clear hL hn
  have hsm : s.size ≤ maxLen := by unfold maxLen; omega
  generalize Lt.frm n = f at *
  generalize Lt.tow n = t at *
  go_enter Tryz.func18, Tryz.ntmps18
  go_wp2_with (first
    | (go_at_call 37; refine (plain_any _ _ hsm).mono ?_; rintro e w' ⟨rfl, hw⟩; subst w'; rw [HL.out])
    | (go_at_call 40; refine (strand_any _ _).mono ?_; rintro e w' ⟨rfl, hw⟩; subst w'; rw [HN.out]))
  go_loopw [7, 8] (fun v i wr => ∃ k : Nat, k ≤ s.size ∧ i = .int .i64 k ∧ wr.ownsRow w.heap.size 5 1 v (Lt.conv f t (s.data.toList.take k)).length (Bys (Lt.conv f t (s.data.toList.take k))) ∧ Below w.heap.size w wr)
    (fun _ i _ => s.size - (intOf i).toNat)
  case atStart => exact ⟨0, Nat.zero_le _, rfl, World.ownsRow_nil _ _ _ _, Below.refl _ _⟩
  case round =>
    obtain ⟨k, hk, rfl, hown, hbel⟩ := hrel
    have hsz := hbel.size
    by_cases hlt : k < s.size
    · have HR : Hid (_ = _) := conv_take f t s k hlt
      have HC : Hid ((Lt.conv f t (s.data.toList.take k)).length ≤ s.size) := by show _ ≤ _; rw [Lt.conv_length, List.length_take]; omega
      go_wp2_with (first
        | (go_at_call 41; refine (refTurned_any _ _ _).mono ?_; rintro e w' ⟨rfl, hw⟩; subst w'; rw [HT.out])
        | (at_builtin; refine app_byte rfl _ _ rfl w.heap.size _ (Lt.conv f t (s.data.toList.take k)) (Lt.sub f t s[k]) rfl rfl (by exact hown) hbel (by omega) (by have := HC.out; omega) ?_; intro v' w1 hown1 hbel1 hsz1))
      rw [← HR.out] at hown1
      go_roundw
      case rel => exact ⟨k + 1, by omega, by go_num, hown1, hbel1⟩
      case measure => simp [intOf]; omega
    · rw [List.take_of_length_le (by simp; omega)] at hown
      have hback := back_own hown
      go_wp2
      go_ret2
      exact ⟨rfl, hbel⟩

end Go.Proofs.YtfcbgfomhmcikaaGreatDoor

namespace Go.Proofs.YtfcbgfomhmcikaaGreatDoor
open Go.RowKit

theorem nb_ranges (a : Int) : a < 45 ∨ a = 45 ∨ a = 46 ∨ a = 47 ∨ (48 ≤ a ∧ a ≤ 57) ∨ (58 ≤ a ∧ a ≤ 64) ∨ (65 ≤ a ∧ a ≤ 90) ∨ (91 ≤ a ∧ a ≤ 94) ∨ a = 95 ∨ a = 96 ∨ (97 ≤ a ∧ a ≤ 122) ∨ 123 ≤ a := by omega

set_option maxRecDepth 100000 in
set_option maxHeartbeats 4000000 in
theorem isNameByte_int (a : Int) (w : World) :
    Calls Tryz.prog 98 #[.int .u8 a] w fun e w' => e = .returned (.bool (Tx.nbI a)) ∧ w' = w := by
  obtain ⟨r, hr⟩ : ∃ r, r = Tx.nbI a := ⟨_, rfl⟩
  have HR : Hid (r = Tx.nbI a) := hr
  rw [← hr]
  clear hr
  rcases nb_ranges a with h | h | h | h | h | h | h | h | h | h | h | h
  all_goals
    obtain hv | hv : r = true ∨ r = false := by cases r <;> simp
    all_goals
      have hn := HR.out
      simp only [Tx.nbI] at hn
      rw [hv] at hn
      first
        | (exfalso; have hn2 := of_decide_eq_true hn.symm; omega)
        | (exfalso; have hn2 := of_decide_eq_false hn.symm; omega)
        | skip
  all_goals
    clear hn HR
    subst hv
  all_goals
    first
      | (obtain ⟨h1, h2⟩ := h)
      | skip
  all_goals
    go_enter Tryz.func98, Tryz.ntmps98
    go_wp2
    go_ret
    refine ⟨ret_bool ?_, rfl⟩
    first | rfl | (simp; omega)

theorem isNameByte_any (c : UInt8) (w : World) :
    Calls Tryz.prog 98 #[.int .u8 (c.toNat : Int)] w fun e w' => e = .returned (.bool (Tx.nb c)) ∧ w' = w :=
  isNameByte_int _ w

set_option maxRecDepth 100000 in
set_option maxHeartbeats 4000000 in
theorem inName_int (a : Int) (w : World) :
    Calls Tryz.prog 99 #[.int .u8 a] w fun e w' => e = .returned (.bool (Tx.nbI a)) ∧ w' = w := by
  obtain ⟨r, hr⟩ : ∃ r, r = Tx.nbI a := ⟨_, rfl⟩
  have HR : Hid (r = Tx.nbI a) := hr
  rw [← hr]
  clear hr
  rcases nb_ranges a with h | h | h | h | h | h | h | h | h | h | h | h
  all_goals
    obtain hv | hv : r = true ∨ r = false := by cases r <;> simp
    all_goals
      have hn := HR.out
      simp only [Tx.nbI] at hn
      rw [hv] at hn
      first
        | (exfalso; have hn2 := of_decide_eq_true hn.symm; omega)
        | (exfalso; have hn2 := of_decide_eq_false hn.symm; omega)
        | skip
  all_goals
    clear hn HR
    subst hv
  all_goals
    first
      | (obtain ⟨h1, h2⟩ := h)
      | skip
  all_goals
    go_enter Tryz.func99, Tryz.ntmps99
    go_wp2
    go_ret
    refine ⟨ret_bool ?_, rfl⟩
    first | rfl | (simp; omega)

theorem inName_any (c : UInt8) (w : World) :
    Calls Tryz.prog 99 #[.int .u8 (c.toNat : Int)] w fun e w' => e = .returned (.bool (Tx.nb c)) ∧ w' = w :=
  inName_int _ w


theorem capital_tx (c : UInt8) (w : World) :
    Calls Tryz.prog 69 #[.int .u8 (c.toNat : Int)] w fun e w' => e = .returned (.int .u8 ((Tx.cap c).toNat : Int)) ∧ w' = w := capital_any c w

/-- what the program's Capital takes: small letters raised, all others left -/
theorem cap_up {c : UInt8} (h1 : 97 ≤ (c.toNat : Int)) (h2 : (c.toNat : Int) ≤ 122) : Tx.cap c = (if Lt.isL (c - 32) then c - 32 else 0) ∧ ((c - 32).toNat : Int) = (c.toNat : Int) - 32 := by
  have h := Lt.every (p := fun c => 97 ≤ (c.toNat : Int) → (c.toNat : Int) ≤ 122 → Tx.cap c = (if Lt.isL (c - 32) then c - 32 else 0) ∧ ((c - 32).toNat : Int) = (c.toNat : Int) - 32) (by decide +kernel) c
  exact h h1 h2
theorem cap_low {c : UInt8} (h : (c.toNat : Int) < 97 ∨ 122 < (c.toNat : Int)) : Tx.cap c = (if Lt.isL c then c else 0) := by
  have h' := Lt.every (p := fun c => ((c.toNat : Int) < 97 ∨ 122 < (c.toNat : Int)) → Tx.cap c = (if Lt.isL c then c else 0)) (by decide +kernel) c
  exact h' h

set_option maxRecDepth 100000 in
set_option maxHeartbeats 1600000 in
theorem Capital_any (c : UInt8) (w : World) :
    Calls Tryz.prog 63 #[.int .u8 (c.toNat : Int)] w fun e w' => e = .returned (.int .u8 ((Tx.cap c).toNat : Int)) ∧ w' = w := by
  by_cases hr : 97 ≤ (c.toNat : Int) ∧ (c.toNat : Int) ≤ 122
  · obtain ⟨h1, h2⟩ := hr
    obtain ⟨e1, e2⟩ := cap_up h1 h2
    have e3 : (c.toNat : Int) - 97 + 65 = ((c - 32).toNat : Int) := by omega
    cases hL : Lt.isL (c - 32)
    all_goals
      rw [hL] at e1
      have HL : Hid _ := hL
      have HE : Hid _ := e1
      have HE3 : Hid _ := e3
      clear hL e1 e2 e3
      go_enter Tryz.func63, Tryz.ntmps63
      go_wp2_with fail
      rw [HE3.out]
      refine (isLetter_any _ _).mono ?_
      rintro e w' ⟨rfl, hw⟩
      subst w'
      rw [HL.out]
      go_wp2
      go_ret
      exact ⟨ret_int (by rw [HE.out]; rfl), rfl⟩
  · have hr' : (c.toNat : Int) < 97 ∨ 122 < (c.toNat : Int) := by omega
    have e1 := cap_low hr'
    clear hr
    cases hL : Lt.isL c
    all_goals
      rw [hL] at e1
      have HL : Hid _ := hL
      have HE : Hid _ := e1
      clear hL e1
      rcases hr' with hr' | hr'
      all_goals
        go_enter Tryz.func63, Tryz.ntmps63
        go_wp2_with (go_at_call 68; refine (isLetter_any _ _).mono ?_; rintro e w' ⟨rfl, hw⟩; subst w'; rw [HL.out])
        go_ret
        exact ⟨ret_int (by rw [HE.out]; rfl), rfl⟩

set_option maxRecDepth 100000 in
set_option maxHeartbeats 1600000 in
theorem isQuality_any (c : UInt8) (w : World) :
    Calls Tryz.prog 67 #[.int .u8 (c.toNat : Int)] w fun e w' => e = .returned (.bool (Tx.ql c)) ∧ w' = w := by
  by_cases h1 : 33 ≤ (c.toNat : Int) <;> by_cases h2 : (c.toNat : Int) ≤ 126
  all_goals
    have HQ : Hid (Tx.ql c = decide (33 ≤ (c.toNat : Int) ∧ (c.toNat : Int) ≤ 126)) := rfl
    go_enter Tryz.func67, Tryz.ntmps67
    go_wp2
    go_ret
    refine ⟨ret_bool ?_, rfl⟩
    rw [HQ.out]
    simp [h1, h2]

end Go.Proofs.YtfcbgfomhmcikaaGreatDoor

namespace Go.Proofs.YtfcbgfomhmcikaaGreatDoor
open Go.RowKit

/-- block g holds the bytes of s from its head on -/
def Bs (w : World) (g : Nat) (s : ByteArray) : Prop := ∀ j (h : j < s.size), w.cell? ⟨g, j, none⟩ = some (.int .u8 (s[j].toNat : Int))

set_option maxRecDepth 100000 in
set_option maxHeartbeats 800000 in
theorem byteAt_any (s : ByteArray) (g cp p : Nat) (w : World) (hb : Bs w g s) :
    Calls Tryz.prog 60 #[.slice (some ⟨g, 0, none⟩) s.size cp, .int .i64 (p : Int)] w fun e w' => e = .returned (.int .u8 ((Tx.bt s p).toNat : Int)) ∧ w' = w := by
  by_cases hp : p < s.size
  · have hc := hb p hp
    have HB : Hid _ := Tx.bt_in hp
    clear hb
    have hp' : (p : Int) < (s.size : Int) := by omega
    go_enter Tryz.func60, Tryz.ntmps60
    go_wp2
    go_ret
    exact ⟨ret_int (by rw [HB.out]), rfl⟩
  · have HB : Hid _ := Tx.bt_out hp
    clear hb
    have hp' : ¬ (p : Int) < (s.size : Int) := by omega
    go_enter Tryz.func60, Tryz.ntmps60
    go_wp2
    go_ret
    exact ⟨ret_int (by rw [HB.out]; rfl), rfl⟩

theorem nlen_step (s : ByteArray) (p j : Nat) (hj : j < 32) : Tx.nlen s (p + j) (32 - j) = if Tx.nb (Tx.bt s (p + j)) then Tx.nlen s (p + (j + 1)) (32 - (j + 1)) + 1 else 0 := by
  obtain ⟨f, hf⟩ : ∃ f, 32 - j = f + 1 := ⟨32 - j - 1, by omega⟩
  rw [hf, Tx.nlen, show 32 - (j + 1) = f by omega, show p + (j + 1) = p + j + 1 by omega]

set_option maxRecDepth 100000 in
set_option maxHeartbeats 800000 in
theorem nameEnd_any (s : ByteArray) (g cp p : Nat) (w : World) (hb : Bs w g s) (hs : s.size ≤ 140737488351232) (hps : p ≤ s.size) :
    Calls Tryz.prog 61 #[.slice (some ⟨g, 0, none⟩) s.size cp, .int .i64 (p : Int)] w fun e w' => e = .returned (.int .i64 (Tx.nEnd s p : Int)) ∧ w' = w := by
  have HB : Hid _ := hb
  clear hb
  go_enter Tryz.func61, Tryz.ntmps61
  go_wp2
  go_loop [5] (fun i => ∃ j : Nat, j ≤ 32 ∧ i = .int .i64 ((p + j : Nat) : Int) ∧ Hid (Tx.nlen s p 32 = j + Tx.nlen s (p + j) (32 - j))) (fun i => p + 32 - (intOf i).toNat)
  case atStart => exact ⟨0, by omega, rfl, by show _ = _; simp⟩
  case round =>
    obtain ⟨j, hj, rfl, HN⟩ := hrel
    by_cases h32 : j < 32
    · have hst := nlen_step s p j h32
      cases hnb : Tx.nb (Tx.bt s (p + j)) with
      | true =>
        rw [hnb, if_pos rfl] at hst
        have HN2 : Hid (Tx.nlen s p 32 = (j + 1) + Tx.nlen s (p + (j + 1)) (32 - (j + 1))) := by show _ = _; rw [HN.out, hst]; omega
        have HNB : Hid _ := hnb
        clear hst hnb HN
        go_wp2_with (first
          | (go_at_call 60; refine (byteAt_any s g cp (p + j) _ HB.out).mono ?_; rintro e w' ⟨rfl, hw⟩; subst w')
          | (go_at_call 98; refine (isNameByte_any _ _).mono ?_; rintro e w' ⟨rfl, hw⟩; subst w'; rw [HNB.out]))
        go_round
        case rel => exact ⟨j + 1, by omega, by go_num, HN2⟩
        case measure => simp [intOf]; omega
      | false =>
        rw [hnb, if_neg (by simp)] at hst
        have HF : Hid (Tx.nEnd s p = p + j) := by show _ = _; rw [Tx.nEnd, HN.out, hst]; omega
        have HNB : Hid _ := hnb
        clear hst hnb HN
        go_wp2_with (first
          | (go_at_call 60; refine (byteAt_any s g cp (p + j) _ HB.out).mono ?_; rintro e w' ⟨rfl, hw⟩; subst w')
          | (go_at_call 98; refine (isNameByte_any _ _).mono ?_; rintro e w' ⟨rfl, hw⟩; subst w'; rw [HNB.out]))
        go_ret
        exact ⟨ret_int (by rw [HF.out]; omega), rfl⟩
    · have hj32 : j = 32 := by omega
      subst hj32
      have HF : Hid (Tx.nEnd s p = p + 32) := by show _ = _; rw [Tx.nEnd, HN.out]; simp [Tx.nlen]
      clear HN
      go_wp2
      go_ret
      exact ⟨ret_int (by rw [HF.out]; omega), rfl⟩

theorem extract_piece (s : ByteArray) (p q : Nat) : s.extract p q = ⟨(Tx.piece s p q).toArray⟩ := by
  apply ByteArray.ext
  rw [ByteArray.data_extract]
  apply Array.toList_inj.1
  simp [Tx.piece, Array.toList_extract, List.take_drop]

theorem ret3 {a b : ByteArray} {x y x' y' : Int} (h1 : a = b) (h2 : x = x') (h3 : y = y') : Ending.returned (.tuple #[.string a, .int .i64 x, .int .i64 y]) = .returned (.tuple #[.string b, .int .i64 x', .int .i64 y']) := by rw [h1, h2, h3]

/-- the loop of the document's 'nameAt' -/
theorem nlen_out (s : ByteArray) (p j : Nat) (h : ¬ p + j < s.size) : Tx.nlen s (p + j) (32 - j) = 0 := by
  cases hf : 32 - j with
  | zero => rfl
  | succ f => rw [Tx.nlen, Tx.bt_out h, Tx.nb_zero]; rfl

set_option maxRecDepth 100000 in
set_option maxHeartbeats 1600000 in
theorem nameAt_any (s : ByteArray) (p : Nat) (w : World) (hs : s.size ≤ 140737488351232) (hps : p ≤ s.size) :
    Calls Tryz.prog 64 #[.string s, .int .i64 (p : Int)] w fun e w' =>
      (((Tx.nEnd s p = p ∨ Tx.bt s (Tx.nEnd s p) ≠ 10) ∧ e = .returned (.tuple #[.string ⟨#[]⟩, .int .i64 (-1), .int .i64 (Tx.nEnd s p : Int)])) ∨
       (¬ (Tx.nEnd s p = p ∨ Tx.bt s (Tx.nEnd s p) ≠ 10) ∧ e = .returned (.tuple #[.string ⟨(Tx.piece s p (Tx.nEnd s p)).toArray⟩, .int .i64 ((Tx.nEnd s p : Int) + 1), .int .i64 0]))) ∧ w' = w := by
  have HE : Hid _ := Tx.nlen_size s 32 p hps
  go_enter Tryz.func64, Tryz.ntmps64
  go_wp2
  go_loop [7] (fun i => ∃ j : Nat, j ≤ 32 ∧ p + j ≤ s.size ∧ i = .int .i64 ((p + j : Nat) : Int) ∧ Hid (Tx.nlen s p 32 = j + Tx.nlen s (p + j) (32 - j))) (fun i => p + 32 - (intOf i).toNat)
  case atStart => exact ⟨0, by omega, by omega, rfl, by show _ = _; simp⟩
  case round =>
    obtain ⟨j, hj, hpj, rfl, HN⟩ := hrel
    by_cases hgo : p + j < s.size ∧ j < 32 ∧ Tx.nb (Tx.bt s (p + j)) = true
    · obtain ⟨hlt, h32, hnb⟩ := hgo
      have hst := nlen_step s p j h32
      rw [hnb, if_pos rfl] at hst
      have HN2 : Hid (Tx.nlen s p 32 = (j + 1) + Tx.nlen s (p + (j + 1)) (32 - (j + 1))) := by show _ = _; rw [HN.out, hst]; omega
      rw [Tx.bt_in hlt] at hnb
      have HNB : Hid _ := hnb
      clear hst hnb HN
      go_wp2_with (go_at_call 99; refine (inName_any _ _).mono ?_; rintro e w' ⟨rfl, hw⟩; subst w'; rw [HNB.out])
      go_round
      case rel => exact ⟨j + 1, by omega, by omega, by go_num, HN2⟩
      case measure => simp [intOf]; omega
    · have hF : Tx.nEnd s p = p + j := by
        rw [Tx.nEnd, HN.out]
        by_cases hlt : p + j < s.size
        · by_cases h32 : j < 32
          · rw [nlen_step s p j h32, if_neg (fun h => hgo ⟨hlt, h32, h⟩)]; omega
          · rw [show 32 - j = 0 by omega, Tx.nlen]; omega
        · rw [nlen_out s p j hlt]; omega
      have HF : Hid _ := hF
      clear HN
      by_cases hlt : p + j < s.size
      · have hb := Tx.bt_in hlt
        have HG : Hid (j < 32 → Tx.nb s[p + j] = false) := by
          intro h32
          cases hnb : Tx.nb s[p + j] with
          | false => rfl
          | true => exact absurd ⟨hlt, h32, by rw [hb]; exact hnb⟩ hgo
        clear hgo
        by_cases hj0 : j = 0
        · have HBAD : Hid (Tx.nEnd s p = p ∨ Tx.bt s (Tx.nEnd s p) ≠ 10) := .inl (by rw [hF]; omega)
          subst hj0
          have HNB : Hid (Tx.nb (s[p]'(by omega)) = false) := HG.out (by omega)
          have e1 : ((p : Int) == (p : Int)) = true := by simp
          clear hF hb HG
          go_wp2_with (go_at_call 99; refine (inName_any _ _).mono ?_; rintro e w' ⟨rfl, hw⟩; subst w'; rw [HNB.out])
          go_ret3
          exact ⟨.inl ⟨HBAD.out, ret3 rfl rfl (by rw [HF.out]; simp)⟩, rfl⟩
        · have e1 : ((p : Int) + (j : Int) == (p : Int)) = false := by rw [beq_eq_false_iff_ne]; omega
          cases h10 : ((s[p + j].toNat : Int) != 10) with
          | true =>
            have HBAD : Hid (Tx.nEnd s p = p ∨ Tx.bt s (Tx.nEnd s p) ≠ 10) := .inr (by
              rw [hF, hb]; intro h; rw [h] at h10; exact absurd h10 (by decide))
            clear hF hb
            by_cases h32 : j < 32
            · have HNB : Hid _ := HG.out h32
              clear HG
              go_wp2_with (go_at_call 99; refine (inName_any _ _).mono ?_; rintro e w' ⟨rfl, hw⟩; subst w'; rw [HNB.out])
              go_ret3
              exact ⟨.inl ⟨HBAD.out, ret3 rfl rfl (by rw [HF.out]; omega)⟩, rfl⟩
            · clear HG
              have hj32 : ¬ (p : Int) + (j : Int) < (p : Int) + 32 := by omega
              go_wp2
              go_ret3
              exact ⟨.inl ⟨HBAD.out, ret3 rfl rfl (by rw [HF.out]; omega)⟩, rfl⟩
          | false =>
            have HGOOD : Hid (¬ (Tx.nEnd s p = p ∨ Tx.bt s (Tx.nEnd s p) ≠ 10)) := by
              intro h
              rcases h with h | h
              · rw [hF] at h; omega
              · refine h ?_
                rw [hF, hb]
                have : (s[p + j].toNat : Int) = 10 := by simpa using h10
                exact (Lt.toNat_inj (n := 10) (by omega)).1 (by omega)
            have HX : Hid _ := extract_piece s p (p + j)
            clear hF hb
            by_cases h32 : j < 32
            · have HNB : Hid _ := HG.out h32
              clear HG
              go_wp2_with (go_at_call 99; refine (inName_any _ _).mono ?_; rintro e w' ⟨rfl, hw⟩; subst w'; rw [HNB.out])
              go_ret3
              exact ⟨.inr ⟨HGOOD.out, ret3 (by rw [HF.out]; exact HX.out) (by rw [HF.out]; omega) rfl⟩, rfl⟩
            · clear HG
              have hj32 : ¬ (p : Int) + (j : Int) < (p : Int) + 32 := by omega
              go_wp2
              go_ret3
              exact ⟨.inr ⟨HGOOD.out, ret3 (by rw [HF.out]; exact HX.out) (by rw [HF.out]; omega) rfl⟩, rfl⟩
      · have HBAD : Hid (Tx.nEnd s p = p ∨ Tx.bt s (Tx.nEnd s p) ≠ 10) := .inr (by rw [hF, Tx.bt_out hlt]; decide)
        clear hgo hF
        have hge : (s.size : Int) ≤ (p : Int) + (j : Int) := by omega
        cases e1 : ((p : Int) + (j : Int) == (p : Int))
        all_goals
          go_wp2
          go_ret3
          exact ⟨.inl ⟨HBAD.out, ret3 rfl rfl (by rw [HF.out]; omega)⟩, rfl⟩

theorem rlen_step (s : ByteArray) (p m j : Nat) (hj : j < m) : Tx.rlen s (p + j) (m - j) = if Tx.cap (Tx.bt s (p + j)) ≠ 0 then Tx.rlen s (p + (j + 1)) (m - (j + 1)) + 1 else 0 := by
  obtain ⟨f, hf⟩ : ∃ f, m - j = f + 1 := ⟨m - j - 1, by omega⟩
  rw [hf, Tx.rlen, show m - (j + 1) = f by omega, show p + (j + 1) = p + j + 1 by omega]
theorem rlen_out (s : ByteArray) (p m j : Nat) (h : ¬ p + j < s.size) : Tx.rlen s (p + j) (m - j) = 0 := by
  cases hf : m - j with
  | zero => rfl
  | succ f => rw [Tx.rlen, Tx.bt_out h, Tx.cap_zero]; rfl

theorem u8_ne0 {c : UInt8} (h : c ≠ 0) : ((c.toNat : Int) != 0) = true := by
  rw [bne_iff_ne]
  intro h2
  exact h ((Lt.toNat_inj (n := 0) (by omega)).1 (by omega))
theorem u8_is0 {c : UInt8} (h : c = 0) : ((c.toNat : Int) != 0) = false := by
  rw [h]; rfl
theorem u8_is10 {c : UInt8} (h : c = 10) : ((c.toNat : Int) != 10) = false := by
  rw [h]; rfl
theorem u8_ne10 {c : UInt8} (h : c ≠ 10) : ((c.toNat : Int) != 10) = true := by
  rw [bne_iff_ne]
  intro h2
  exact h ((Lt.toNat_inj (n := 10) (by omega)).1 (by omega))

set_option maxRecDepth 100000 in
set_option maxHeartbeats 1600000 in
theorem lettersAt_any (s : ByteArray) (p m : Nat) (w : World) (hs : s.size ≤ 140737488351232) (hps : p ≤ s.size) (hm : m ≤ 100000) :
    Calls Tryz.prog 65 #[.string s, .int .i64 (p : Int), .int .i64 (m : Int)] w fun e w' =>
      (((Tx.rlen s p m = 0 ∨ Tx.bt s (p + Tx.rlen s p m) ≠ 10) ∧ e = .returned (.tuple #[.string ⟨(Tx.caps s p (Tx.rlen s p m)).toArray⟩, .int .i64 (-1), .int .i64 ((p + Tx.rlen s p m : Nat) : Int)])) ∨
       (¬ (Tx.rlen s p m = 0 ∨ Tx.bt s (p + Tx.rlen s p m) ≠ 10) ∧ e = .returned (.tuple #[.string ⟨(Tx.caps s p (Tx.rlen s p m)).toArray⟩, .int .i64 (((p + Tx.rlen s p m : Nat) : Int) + 1), .int .i64 0]))) ∧ Below w.heap.size w w' := by
  go_enter Tryz.func65, Tryz.ntmps65
  go_wp2
  go_loopw [9, 10] (fun v i wr => ∃ j : Nat, j ≤ m ∧ p + j ≤ s.size ∧ i = .int .i64 ((p + j : Nat) : Int) ∧ Hid (Tx.rlen s p m = j + Tx.rlen s (p + j) (m - j)) ∧ wr.ownsRow w.heap.size 5 1 v j (Bys (Tx.caps s p j)) ∧ Below w.heap.size w wr) (fun _ i _ => p + m - (intOf i).toNat)
  case atStart => exact ⟨0, by omega, by omega, rfl, by show _ = _; simp, World.ownsRow_nil _ _ _ _, Below.refl _ _⟩
  case round =>
    obtain ⟨j, hj, hpj, rfl, HN, hown, hbel⟩ := hrel
    have hsz := hbel.size
    obtain ⟨ao, cp, hv⟩ := own_form hown
    subst hv
    by_cases hgo : p + j < s.size ∧ j < m ∧ Tx.cap (Tx.bt s (p + j)) ≠ 0
    · obtain ⟨hlt, hjm, hnb⟩ := hgo
      have hst := rlen_step s p m j hjm
      rw [if_pos hnb] at hst
      have HN2 : Hid (Tx.rlen s p m = (j + 1) + Tx.rlen s (p + (j + 1)) (m - (j + 1))) := by show _ = _; rw [HN.out, hst]; omega
      have HS : Hid _ := Tx.caps_snoc s j p
      have HL : Hid _ := Tx.caps_length s j p
      rw [Tx.bt_in hlt] at hnb
      have HBT : Hid _ := Tx.bt_in hlt
      have hne := u8_ne0 hnb
      clear hst hnb HN
      go_wp2_with (first
        | (go_at_call 69; refine (capital_tx _ _).mono ?_; rintro e w' ⟨rfl, hw⟩; subst w')
        | (at_builtin; refine app_byte rfl _ _ rfl w.heap.size _ (Tx.caps s p j) (Tx.cap s[p + j]) rfl rfl (by rw [HL.out]; exact hown) hbel (by omega) (by rw [HL.out]; omega) ?_; intro v' w1 hown1 hbel1 hsz1))
      rw [← HBT.out, ← HS.out, Tx.caps_length] at hown1
      go_roundw
      case rel => exact ⟨j + 1, by omega, by omega, by go_num, HN2, hown1, hbel1⟩
      case measure => simp [intOf]; omega
    · have hF : Tx.rlen s p m = j := by
        rw [HN.out]
        by_cases hlt : p + j < s.size
        · by_cases hjm : j < m
          · rw [rlen_step s p m j hjm, if_neg (fun h => hgo ⟨hlt, hjm, h⟩)]; omega
          · rw [show m - j = 0 by omega, Tx.rlen]; omega
        · rw [rlen_out s p m j hlt]; omega
      have hback := back_own hown
      have HO : Hid _ := hbel
      clear HN hown hbel
      have HF : Hid _ := hF
      clear hF
      by_cases hlt : p + j < s.size
      · have hb := Tx.bt_in hlt
        have HG : Hid (j < m → ((Tx.cap s[p + j]).toNat != 0 : Bool) = false) := by
          intro hjm
          by_cases h0 : Tx.cap s[p + j] = 0
          · rw [h0]; rfl
          · exact absurd ⟨hlt, hjm, by rw [hb]; exact h0⟩ hgo
        clear hgo
        by_cases hj0 : j = 0
        · subst hj0
          have e1 : ((p : Int) == (p : Int)) = true := by simp
          clear hb
          by_cases hjm : 0 < m
          · have h0 : (((Tx.cap (s[p]'(by omega))).toNat : Int) != 0) = false := by
              have := HG.out hjm
              have h2 : (Tx.cap (s[p]'(by omega))).toNat = 0 := by simpa using this
              rw [h2]; rfl
            clear HG
            go_wp2_with (go_at_call 69; refine (capital_tx _ _).mono ?_; rintro e w' ⟨rfl, hw⟩; subst w')
            go_ret3
            refine ⟨?_, HO.out⟩
            rw [HF.out]
            exact .inl ⟨(.inl rfl), ret3 rfl rfl rfl⟩
          · have hm0 : m = 0 := by omega
            subst hm0
            clear HG
            go_wp2
            go_ret3
            refine ⟨?_, HO.out⟩
            rw [HF.out]
            exact .inl ⟨(.inl rfl), ret3 rfl rfl rfl⟩
        · have e1 : ((p : Int) + (j : Int) == (p : Int)) = false := by rw [beq_eq_false_iff_ne]; omega
          by_cases h10 : s[p + j] = 10
          · have HGOOD : Hid (¬ (j = 0 ∨ Tx.bt s (p + j) ≠ 10)) := by
              intro h
              rcases h with h | h
              · exact hj0 h
              · exact h (by rw [hb]; exact h10)
            have h10' := u8_is10 h10
            clear hb h10
            by_cases hjm : j < m
            · have h0 : (((Tx.cap s[p + j]).toNat : Int) != 0) = false := by
                have := HG.out hjm
                have h2 : (Tx.cap s[p + j]).toNat = 0 := by simpa using this
                rw [h2]; rfl
              clear HG
              go_wp2_with (go_at_call 69; refine (capital_tx _ _).mono ?_; rintro e w' ⟨rfl, hw⟩; subst w')
              go_ret3
              refine ⟨?_, HO.out⟩
              rw [HF.out]
              exact .inr ⟨HGOOD.out, ret3 rfl (by omega) rfl⟩
            · have hjm' : ¬ (j : Int) < (m : Int) := by omega
              clear HG
              go_wp2
              go_ret3
              refine ⟨?_, HO.out⟩
              rw [HF.out]
              exact .inr ⟨HGOOD.out, ret3 rfl (by omega) rfl⟩
          · have HBAD : Hid (j = 0 ∨ Tx.bt s (p + j) ≠ 10) := .inr (by rw [hb]; exact h10)
            have h10' := u8_ne10 h10
            clear hb h10
            by_cases hjm : j < m
            · have h0 : (((Tx.cap s[p + j]).toNat : Int) != 0) = false := by
                have := HG.out hjm
                have h2 : (Tx.cap s[p + j]).toNat = 0 := by simpa using this
                rw [h2]; rfl
              clear HG
              go_wp2_with (go_at_call 69; refine (capital_tx _ _).mono ?_; rintro e w' ⟨rfl, hw⟩; subst w')
              go_ret3
              refine ⟨?_, HO.out⟩
              rw [HF.out]
              exact .inl ⟨HBAD.out, ret3 rfl rfl (by omega)⟩
            · have hjm' : ¬ (j : Int) < (m : Int) := by omega
              clear HG
              go_wp2
              go_ret3
              refine ⟨?_, HO.out⟩
              rw [HF.out]
              exact .inl ⟨HBAD.out, ret3 rfl rfl (by omega)⟩
      · have HBAD : Hid (j = 0 ∨ Tx.bt s (p + j) ≠ 10) := .inr (by rw [Tx.bt_out hlt]; decide)
        clear hgo
        have hge : (s.size : Int) ≤ (p : Int) + (j : Int) := by omega
        cases e1 : ((p : Int) + (j : Int) == (p : Int))
        all_goals
          go_wp2
          go_ret3
          refine ⟨?_, HO.out⟩
          rw [HF.out]
          exact .inl ⟨HBAD.out, ret3 rfl rfl (by omega)⟩

set_option maxRecDepth 100000 in
set_option maxHeartbeats 800000 in
theorem wrong_any (s : ByteArray) (p : Nat) (a b : Int) (w : World) :
    Calls Tryz.prog 66 #[.string s, .int .i64 (p : Int), .int .i64 a, .int .i64 b] w fun e w' => e = .returned (.int .i64 (Tx.wr s p a b)) ∧ w' = w := by
  by_cases hp : p < s.size
  · have hp' : (p : Int) < (s.size : Int) := by omega
    by_cases h0 : Tx.cap s[p] = 0
    · have HV : Hid (Tx.wr s p a b = a) := by show _ = _; rw [Tx.wr, Tx.bt_in hp, if_neg (by simp [h0])]
      have h1 := u8_is0 h0
      clear h0
      go_enter Tryz.func66, Tryz.ntmps66
      go_wp2_with (go_at_call 69; refine (capital_tx _ _).mono ?_; rintro e w' ⟨rfl, hw⟩; subst w')
      go_ret
      exact ⟨ret_int HV.out.symm, rfl⟩
    · have HV : Hid (Tx.wr s p a b = b) := by show _ = _; rw [Tx.wr, Tx.bt_in hp, if_pos h0]
      have h1 := u8_ne0 h0
      clear h0
      go_enter Tryz.func66, Tryz.ntmps66
      go_wp2_with (go_at_call 69; refine (capital_tx _ _).mono ?_; rintro e w' ⟨rfl, hw⟩; subst w')
      go_ret
      exact ⟨ret_int HV.out.symm, rfl⟩
  · have HV : Hid (Tx.wr s p a b = a) := by show _ = _; rw [Tx.wr, Tx.bt_out hp, if_neg (by simp [Tx.cap_zero])]
    have hp' : ¬ (p : Int) < (s.size : Int) := by omega
    go_enter Tryz.func66, Tryz.ntmps66
    go_wp2
    go_ret
    exact ⟨ret_int HV.out.symm, rfl⟩

end Go.Proofs.YtfcbgfomhmcikaaGreatDoor
