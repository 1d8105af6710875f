/-
  THE WALKS of the program's Reverse and Convert. Own text of the verifier.
-/
import Derived.Test.YtjebhbopmfcopaaGreatDoorBytes
namespace Go.Proofs.YtjebhbopmfcopaaGreatDoor
open Go.RowKit

/-- the first k bytes of l, then as many zeros as there are left of n -/
def filled (l : List UInt8) (n k : Nat) : List Value := Bys (l.take k) ++ List.replicate (n - k) (.int .u8 0)

theorem filled_zero (l : List UInt8) (n : Nat) : filled l n 0 = List.replicate n (.int .u8 0) := by simp [filled, Bys]

theorem filled_whole (l : List UInt8) (n : Nat) (h : l.length = n) : filled l n n = Bys l := by
  simp [filled, ← h]

theorem filled_set (l : List UInt8) (n k : Nat) (h : l.length = n) (hk : k < n) : (filled l n k).set k (.int .u8 ((l[k]'(by omega)).toNat : Int)) = filled l n (k + 1) := by
  unfold filled
  have h1 : (Bys (l.take k)).length = k := by rw [Bys_length, List.length_take]; omega
  rw [List.set_append, if_neg (by omega), h1, Nat.sub_self]
  rw [List.take_succ_eq_append_getElem (by omega), Bys_append]
  obtain ⟨m, hm⟩ : ∃ m, n - k = m + 1 := ⟨n - k - 1, by omega⟩
  rw [hm, show n - (k + 1) = m by omega, List.replicate_succ, List.set_cons_zero]
  simp [Bys, By]

/-- the k-th byte of what is turned round -/
theorem rev_at (s : ByteArray) (k : Nat) (h : k < s.size) (hl : k < (Lt.rev s.data.toList).length) : (Lt.rev s.data.toList)[k] = Lt.comp (s[s.size - 1 - k]'(by omega)) := by
  simp only [Lt.rev, List.getElem_reverse, List.getElem_map, List.length_map, Array.length_toList]
  rfl

set_option maxRecDepth 100000 in
set_option maxHeartbeats 800000 in
theorem reverse_bad (s : ByteArray) (w : World) (hs : s.size ≤ maxLen) (hL : Lt.allL s.data.toList = false) :
    Calls Tryz.prog 46 #[.string s] w fun e w' => e = .returned (.tuple #[.string ⟨#[]⟩, .int .i64 8]) ∧ w' = w := by
  have HL : Hid (Lt.allL s.data.toList = false) := hL
  clear hL
  go_enter Tryz.func46, Tryz.ntmps46
  go_wp2_with (go_at_call 98; refine (areLetters_any _ _ hs).mono ?_; rintro e w' ⟨rfl, hw⟩; subst w'; rw [HL.out])
  go_ret2
  exact ⟨rfl, rfl⟩

set_option maxRecDepth 100000 in
set_option maxHeartbeats 800000 in
theorem reverse_good (s : ByteArray) (w : World) (hs : s.size ≤ 140737488355328) (hL : Lt.allL s.data.toList = true) :
    Calls Tryz.prog 46 #[.string s] w fun e w' => e = .returned (.tuple #[.string ⟨(Lt.rev s.data.toList).toArray⟩, .int .i64 0]) ∧ Below w.heap.size w w' := by
  have HL : Hid (Lt.allL s.data.toList = true) := hL
  clear hL
  have hsm : s.size ≤ maxLen := by unfold maxLen; omega
  obtain ⟨i0, hi, hz0, hz1, hz2⟩ := info_parts Tryz.infoU8
  have hrl : (Lt.rev s.data.toList).length = s.size := by rw [Lt.rev_length]; rfl
  have HR : Hid ((Lt.rev s.data.toList).length = s.size) := hrl
  clear hrl
  go_enter Tryz.func46, Tryz.ntmps46
  go_wp2_with (first
    | (go_at_call 98; refine (areLetters_any _ _ hsm).mono ?_; rintro e w' ⟨rfl, hw⟩; subst w'; rw [HL.out])
    | (at_make; refine wpList_make_full _ rfl _ _ 43 rfl w.heap.size 5 i0 (.int .u8 0) 1 Tryz.underlying43 hi hz0 hz1 _ _ _ _ s.size rfl rfl rfl rfl ?h1 ?h2 ?h3 ?_))
  case h1 => rw [hz2]; omega
  case h2 => exact hsm
  case h3 => exact Nat.le_refl _
  · intro w1 hown0 hgrow
    have hbel0 : Below w.heap.size w w1 := (Below.refl _ _).grown hgrow (Nat.le_refl _) (fun k hk => by cases hk)
    rw [toList_madeCells_one, ← filled_zero (Lt.rev s.data.toList) s.size] at hown0
    clear hgrow
    go_wp2
    go_loopw [14] (fun i wr => ∃ k : Nat, k ≤ s.size ∧ i = .int .i64 k ∧ wr.ownsRow w.heap.size 5 1 (.slice (some ⟨w.heap.size, 0, none⟩) s.size s.size) s.size (filled (Lt.rev s.data.toList) s.size k) ∧ Below w.heap.size w wr)
      (fun i _ => s.size - (intOf i).toNat)
    case atStart => exact ⟨0, Nat.zero_le _, rfl, hown0, hbel0⟩
    case round =>
      clear hown0 hbel0
      obtain ⟨k, hk, rfl, hown, hbel⟩ := hrel
      by_cases hlt : k < s.size
      · obtain ⟨v0, hc0, _⟩ := own_cell hown k hlt
        have hfr := hown.frozenAt k
        have hst := hown.stored k (.int .u8 ((Lt.comp (s[s.size - 1 - k]'(by omega))).toNat : Int))
        rw [← rev_at s k hlt (by rw [HR.out]; exact hlt), filled_set _ _ _ HR.out hlt, rev_at s k hlt (by rw [HR.out]; exact hlt)] at hst
        have hbel1 := hbel.setCell (p := ⟨w.heap.size, k, none⟩) (Nat.le_refl _) (.int .u8 ((Lt.comp (s[s.size - 1 - k]'(by omega))).toNat : Int))
        have HST := hst.1
        clear hst
        have HST : Hid _ := HST
        have HB : Hid _ := hbel1
        clear hbel1 hown hbel
        go_wp2_with (go_at_call 99; refine (complement_any _ _).mono ?_; rintro e w' ⟨rfl, hw⟩; subst w')
        go_roundw
        case rel => exact ⟨k + 1, by omega, by go_num, HST.out, HB.out⟩
        case measure => simp [intOf]; omega
      · have hkn : k = s.size := by omega
        subst hkn
        rw [filled_whole _ _ HR.out] at hown
        have hback := back_own hown
        go_wp2
        go_ret2
        exact ⟨rfl, hbel⟩

end Go.Proofs.YtjebhbopmfcopaaGreatDoor
