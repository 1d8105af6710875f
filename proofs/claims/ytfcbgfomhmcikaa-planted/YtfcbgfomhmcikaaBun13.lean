/-
  THE WALKS of the small functions of the statements of what follows. Own text of the verifier.
-/
import Derived.Test.YtfcbgfomhmcikaaBun12
import Derived.Test.YtfcbgfomhmcikaaBun2
namespace Go.Proofs.Ytfcbgfomhmcikaa
open Go.RowKit

set_option maxRecDepth 100000 in
set_option maxHeartbeats 400000 in
theorem kpick_any (c : Int) (n : Nat) (w : World) (h1 : -9223372036854775808 ≤ c) (h2 : c ≤ 9223372036854775807) (hn : 0 < n) (hn2 : n ≤ 140737488355328) :
    Calls Try.prog 18 #[.int .i64 c, .int .i64 (n : Int)] w fun e w' => e = .returned (.int .i64 (pickV c n)) ∧ w' = w := by
  have hn0 : ((n : Int) == 0) = false := by rw [beq_eq_false_iff_ne]; omega
  have hn1 : ¬ (n : Int) = 0 := by omega
  have hn3 : ((n : Int) == -1) = false := by rw [beq_eq_false_iff_ne]; omega
  by_cases h0 : c < 0
  · have HM : Hid (pickV c n = (-(c + 1)).tmod (n : Int)) := by show _ = _; rw [pickV, if_pos h0]
    go_enter Try.func18, Try.ntmps18
    go_wp2
    go_ret
    exact ⟨ret_int (by rw [HM.out, Int.neg_tmod]), rfl⟩
  · have HM : Hid (pickV c n = c.tmod (n : Int)) := by show _ = _; rw [pickV, if_neg h0]
    go_enter Try.func18, Try.ntmps18
    go_wp2
    go_ret
    exact ⟨ret_int (by rw [HM.out, Int.tmod_eq_emod_of_nonneg (by omega)]), rfl⟩

set_option maxHeartbeats 400000 in
theorem kother_any (c : UInt8) (w : World) :
    Calls Try.prog 36 #[.int .u8 (c.toNat : Int)] w fun e w' => e = .returned (.int .u8 ((Lt.comp c).toNat : Int)) ∧ w' = w := by
  go_enter Try.func36, Try.ntmps36
  go_wp2
  all_goals go_ret
  all_goals exact ⟨ret_int (by rw [Lt.comp_int]; simp only [*, if_true, if_false, Bool.false_eq_true]), rfl⟩

set_option maxRecDepth 100000 in
set_option maxHeartbeats 800000 in
theorem kturned_any (s : ByteArray) (w : World) (hs : s.size ≤ 140737488355327) :
    Calls Try.prog 22 #[.string s] w fun e w' => e = .returned (.string ⟨(Lt.rev s.data.toList).toArray⟩) ∧ Below w.heap.size w w' := by
  go_enter Try.func22, Try.ntmps22
  go_wp2
  go_loopw [3, 4] (fun v i wr => ∃ k : Nat, k ≤ s.size ∧ i = .int .i64 ((k : Int) - 1) ∧ wr.ownsRow w.heap.size 5 1 v (Lt.rev (s.data.toList.drop k)).length (Bys (Lt.rev (s.data.toList.drop k))) ∧ Below w.heap.size w wr)
    (fun _ i _ => (intOf i + 1).toNat)
  case atStart => exact ⟨s.size, Nat.le_refl _, rfl, by rw [List.drop_of_length_le (by simp)]; exact World.ownsRow_nil _ _ _ _, Below.refl _ _⟩
  case round =>
    obtain ⟨k, hk, rfl, hown, hbel⟩ := hrel
    have hsz := hbel.size
    by_cases h0 : 0 < k
    · obtain ⟨j, rfl⟩ : ∃ j, k = j + 1 := ⟨k - 1, by omega⟩
      have HR : Hid (_ = _) := rev_drop s j (by omega)
      have HN : Hid ((Lt.rev (s.data.toList.drop (j + 1))).length ≤ s.size) := by show _ ≤ _; rw [Lt.rev_length, List.length_drop]; simp
      have hjs : j < s.size := by omega
      have e1 : (((j + 1 : Nat) : Int) - 1) = (j : Int) := by omega
      rw [e1]
      clear e1
      go_wp2_with (first
        | (go_at_call 36; refine (kother_any _ _).mono ?_; rintro e w' ⟨rfl, hw⟩; subst w')
        | (at_builtin; refine app_byte rfl _ _ rfl w.heap.size _ (Lt.rev (s.data.toList.drop (j + 1))) (Lt.comp s[j]) rfl rfl (by exact hown) hbel (by omega) (by have := HN.out; omega) ?_; intro v' w1 hown1 hbel1 hsz1))
      rw [← HR.out] at hown1
      go_roundw
      case rel => exact ⟨j, by omega, by go_num, hown1, hbel1⟩
      case measure => simp [intOf]
    · have hk0 : k = 0 := by omega
      subst hk0
      rw [List.drop_zero] at hown
      have hback := back_own hown
      go_wp2
      go_ret
      exact ⟨rfl, hbel⟩

set_option maxHeartbeats 800000 in
theorem kread_any (s : ByteArray) (n : Int) (w : World) (hs : s.size ≤ 140737488355327) :
    Calls Try.prog 17 #[.string s, .int .i64 n] w fun e w' => e = .returned (.string ⟨(Al.along s.data.toList n).toArray⟩) ∧ Below w.heap.size w w' := by
  obtain ⟨R, hR⟩ : ∃ R, R = Al.along s.data.toList n := ⟨_, rfl⟩
  rw [← hR]
  unfold Al.along at hR
  cases h2 : (n == 2) <;> cases h3 : (n == 3)
  all_goals
    have HR : Hid (R = _) := hR
    rw [h2, h3] at HR
    clear hR
    have HC : Hid (∀ W : World, Calls Try.prog 22 #[.string s] W fun e w' => e = .returned (.string ⟨(Lt.rev s.data.toList).toArray⟩) ∧ Below W.heap.size W w') := fun W => kturned_any s W hs
    go_enter Try.func17, Try.ntmps17
    first
      | (go_wp2_with (go_at_call 22; refine (HC.out _).mono ?_; rintro e w1 ⟨rfl, hb1⟩)
         go_ret
         exact ⟨by rw [HR.out]; rfl, hb1⟩)
      | (go_wp2
         go_ret
         exact ⟨by rw [HR.out]; rfl, Below.refl _ _⟩)

set_option maxHeartbeats 400000 in
theorem kswapped_any (n : Int) (w : World) :
    Calls Try.prog 23 #[.int .i64 n] w fun e w' => e = .returned (.int .i64 (if (n == 1) = true then 3 else if (n == 2) = true then 4 else if (n == 3) = true then 1 else 2)) ∧ w' = w := by
  cases h1 : (n == 1) <;> cases h2 : (n == 2) <;> cases h3 : (n == 3)
  all_goals
    go_enter Try.func23, Try.ntmps23
    go_wp2
    go_ret
    exact ⟨ret_int (by simp), rfl⟩

/-- is one of the letters N? -/
def Kp.hasN (l : List UInt8) : Bool := l.any (· == 78)
theorem Kp.hasN_yes (s : ByteArray) (k : Nat) (h : k < s.size) (hN : ((s[k].toNat : Int) == 78) = true) : Kp.hasN s.data.toList = true := by
  unfold Kp.hasN
  rw [List.any_eq_true]
  refine ⟨s[k], List.getElem_mem (h := by simpa using h), ?_⟩
  rw [beq_iff_eq] at hN ⊢
  exact UInt8.toNat_inj.1 (by simpa using (by omega : s[k].toNat = 78))
theorem Kp.hasN_no {l : List UInt8} (h : Kp.hasN l = false) : ∀ c ∈ l, c ≠ 78 := by
  intro c hc h7
  unfold Kp.hasN at h
  rw [List.any_eq_false] at h
  exact h c hc (by rw [h7]; rfl)

set_option maxRecDepth 100000 in
set_option maxHeartbeats 800000 in
theorem khasN_any (s : ByteArray) (w : World) (hs : s.size ≤ maxLen) :
    Calls Try.prog 14 #[.string s] w fun e w' => e = .returned (.bool (Kp.hasN s.data.toList)) ∧ w' = w := by
  unfold maxLen at hs
  go_enter Try.func14, Try.ntmps14
  go_wp2
  go_loop [3] (fun i => ∃ k : Nat, k ≤ s.size ∧ i = .int .i64 k ∧ Hid (∀ j (h : j < s.size), j < k → s[j] ≠ 78)) (fun i => s.size - (intOf i).toNat)
  case atStart => exact ⟨0, Nat.zero_le _, rfl, fun j h h0 => by omega⟩
  case round =>
    obtain ⟨k, hk, rfl, HA⟩ := hrel
    by_cases hlt : k < s.size
    · cases hN : ((s[k].toNat : Int) == 78) with
      | true =>
        have HF : Hid _ := Kp.hasN_yes s k hlt hN
        go_wp2
        go_ret
        exact ⟨ret_bool HF.out.symm, rfl⟩
      | false =>
        have HT : Hid (∀ j (h : j < s.size), j < k + 1 → s[j] ≠ 78) := fun j h h1 => by
          by_cases hj : j < k
          · exact HA.out j h hj
          · obtain rfl : j = k := by omega
            intro h7
            rw [h7] at hN
            simp at hN
        clear HA
        go_wp2
        go_round
        case rel => exact ⟨k + 1, by omega, by go_num, HT.out⟩
        case measure => simp [intOf]; omega
    · have HF : Hid (Kp.hasN s.data.toList = false) := by
        show _ = _
        unfold Kp.hasN
        rw [List.any_eq_false]
        intro c hc
        obtain ⟨j, hj, rfl⟩ := List.mem_iff_getElem.1 hc
        have hj' : j < s.size := by simpa using hj
        have := HA.out j hj' (by omega)
        intro h7
        have h8 : s.data[j] = 78 := by simpa using h7
        exact this h8
      clear HA
      go_wp2
      go_ret
      exact ⟨ret_bool HF.out.symm, rfl⟩

end Go.Proofs.Ytfcbgfomhmcikaa
