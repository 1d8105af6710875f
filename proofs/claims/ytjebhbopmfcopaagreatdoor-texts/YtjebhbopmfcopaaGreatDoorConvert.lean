/-
  THE WALK of the program's Convert. Own text of the verifier.
-/
import Derived.Test.YtjebhbopmfcopaaGreatDoorMarked
namespace Go.Proofs.YtjebhbopmfcopaaGreatDoor
open Go.RowKit

/-- the first k letters bleached, the others as they were -/
def Lt.part (f t : UInt8) (l : List UInt8) (k : Nat) : List UInt8 := Lt.conv f t (l.take k) ++ l.drop k

theorem part_zero (f t : UInt8) (l : List UInt8) : Lt.part f t l 0 = l := by simp [Lt.part, Lt.conv]
theorem part_whole (f t : UInt8) (l : List UInt8) (k : Nat) (h : l.length ≤ k) : Lt.part f t l k = Lt.conv f t l := by
  rw [Lt.part, List.take_of_length_le h, List.drop_of_length_le h, List.append_nil]
theorem part_length (f t : UInt8) (l : List UInt8) (k : Nat) : (Lt.part f t l k).length = l.length := by
  simp [Lt.part, Lt.conv]; omega
theorem part_at (f t : UInt8) (s : ByteArray) (k : Nat) (h : k < s.size) : (Bys (Lt.part f t s.data.toList k))[k]? = some (.int .u8 (s[k].toNat : Int)) := by
  rw [Lt.part, Bys_append, List.getElem?_append_right (by rw [Bys_length, Lt.conv_length, List.length_take]; omega), Bys_length, Lt.conv_length, List.length_take,
    show k - min k s.data.toList.length = 0 by simp; have : k < s.data.size := h; omega]
  rw [List.drop_eq_getElem_cons (by simpa using h)]
  rfl
theorem part_succ (f t : UInt8) (l : List UInt8) (k : Nat) (h : k < l.length) : Lt.part f t l (k + 1) = (Lt.part f t l k).set k (Lt.sub f t l[k]) := by
  rw [Lt.part, Lt.part, List.set_append, if_neg (by rw [Lt.conv_length, List.length_take]; omega), Lt.conv_length, List.length_take, show k - min k l.length = 0 by omega,
    List.drop_eq_getElem_cons h, List.set_cons_zero, List.take_succ_eq_append_getElem h]
  simp only [Lt.conv, List.map_append, List.map_cons, List.map_nil, List.append_assoc, List.singleton_append]
theorem Bys_set (l : List UInt8) (k : Nat) (c : UInt8) : Bys (l.set k c) = (Bys l).set k (.int .u8 (c.toNat : Int)) := by simp [Bys, List.map_set, By]
theorem part_hit (f t : UInt8) (s : ByteArray) (k : Nat) (h : k < s.size) (hf : s[k] = f) : (Bys (Lt.part f t s.data.toList k)).set k (.int .u8 (t.toNat : Int)) = Bys (Lt.part f t s.data.toList (k + 1)) := by
  rw [← Bys_set, part_succ _ _ _ _ (by simpa using h)]
  have : s.data.toList[k]'(by simpa using h) = f := hf
  simp [Lt.sub, this]
theorem part_miss (f t : UInt8) (s : ByteArray) (k : Nat) (h : k < s.size) (hf : ¬ s[k] = f) : Lt.part f t s.data.toList (k + 1) = Lt.part f t s.data.toList k := by
  rw [part_succ _ _ _ _ (by simpa using h)]
  have hn : ¬ s.data.toList[k]'(by simpa using h) = f := hf
  have e : Lt.sub f t (s.data.toList[k]'(by simpa using h)) = s.data.toList[k]'(by simpa using h) := by simp only [Lt.sub, if_neg hn]
  rw [e, Lt.part]
  rw [List.set_append, if_neg (by rw [Lt.conv_length, List.length_take]; omega), Lt.conv_length, List.length_take, show k - min k s.data.toList.length = 0 by simp; have : k < s.data.size := h; omega]
  rw [List.drop_eq_getElem_cons (by simpa using h), List.set_cons_zero]

set_option maxRecDepth 100000 in
set_option maxHeartbeats 800000 in
theorem convert_bad (s : ByteArray) (n : Int) (w : World) (hs : s.size ≤ maxLen) (hL : Lt.allL s.data.toList = false) :
    Calls Tryz.prog 48 #[.string s, .int .i64 n] w fun e w' => e = .returned (.tuple #[.string ⟨#[]⟩, .int .i64 8]) ∧ w' = w := by
  have HL : Hid (Lt.allL s.data.toList = false) := hL
  clear hL
  go_enter Tryz.func48, Tryz.ntmps48
  go_wp2_with (go_at_call 98; refine (areLetters_any _ _ hs).mono ?_; rintro e w' ⟨rfl, hw⟩; subst w'; rw [HL.out])
  go_ret2
  exact ⟨rfl, rfl⟩

set_option maxRecDepth 100000 in
set_option maxHeartbeats 800000 in
theorem convert_none (s : ByteArray) (n : Int) (w : World) (hs : s.size ≤ maxLen) (hL : Lt.allL s.data.toList = true) (hf : Lt.frm n = 0) :
    Calls Tryz.prog 48 #[.string s, .int .i64 n] w fun e w' => e = .returned (.tuple #[.string ⟨#[]⟩, .int .i64 1]) ∧ w' = w := by
  have HL : Hid (Lt.allL s.data.toList = true) := hL
  have HF : Hid (Lt.frm n = 0) := hf
  clear hL hf
  go_enter Tryz.func48, Tryz.ntmps48
  go_wp2_with (first
    | (go_at_call 98; refine (areLetters_any _ _ hs).mono ?_; rintro e w' ⟨rfl, hw⟩; subst w'; rw [HL.out])
    | (go_at_call 102; refine (turned_any _ _).mono ?_; rintro e w' ⟨rfl, hw⟩; subst w'; rw [HF.out]))
  go_ret2
  exact ⟨rfl, rfl⟩

set_option maxRecDepth 100000 in
set_option maxHeartbeats 800000 in
theorem convert_good (s : ByteArray) (n : Int) (f t : UInt8) (w : World) (hs : s.size ≤ maxLen) (hL : Lt.allL s.data.toList = true) (hf : Lt.frm n = f) (ht : Lt.tow n = t) (h0 : f ≠ 0) :
    Calls Tryz.prog 48 #[.string s, .int .i64 n] w fun e w' => e = .returned (.tuple #[.string ⟨(Lt.conv f t s.data.toList).toArray⟩, .int .i64 0]) ∧ Below w.heap.size w w' := by
  have HL : Hid (Lt.allL s.data.toList = true) := hL
  have HF : Hid (Lt.frm n = f) := hf
  have HT : Hid (Lt.tow n = t) := ht
  have hf0 : ((f.toNat : Int) == 0) = false := by
    rw [beq_eq_false_iff_ne]
    intro h
    exact h0 (UInt8.toNat_inj.1 (by simpa using h))
  clear hL hf ht h0
  obtain ⟨cap, w1, hconv, hcap, hcm, hmk0, hbel0⟩ := mk_of_string s w hs
  unfold maxLen at hs hcm
  have hsm : s.size ≤ maxLen := hs
  go_enter Tryz.func48, Tryz.ntmps48
  go_wp2_with (first
    | (go_at_call 98; refine (areLetters_any _ _ hsm).mono ?_; rintro e w' ⟨rfl, hw⟩; subst w'; rw [HL.out])
    | (go_at_call 102; refine (turned_any _ _).mono ?_; rintro e w' ⟨rfl, hw⟩; subst w'; rw [HF.out, HT.out]))
  clear hconv
  go_loopw [25] (fun i wr => ∃ k : Nat, k ≤ s.size ∧ i = .int .i64 k ∧ Mk wr w.heap.size s.size (Bys (Lt.part f t s.data.toList k)) ∧ Below w.heap.size w wr)
    (fun i _ => s.size - (intOf i).toNat)
  case atStart => exact ⟨0, Nat.zero_le _, rfl, by rw [part_zero]; exact hmk0, hbel0⟩
  case round =>
    clear hmk0 hbel0
    obtain ⟨k, hk, rfl, hmk, hbel⟩ := hrel
    by_cases hlt : k < s.size
    · have hc0 := hmk.cell hlt
      rw [part_at _ _ _ _ hlt] at hc0
      by_cases hsf : s[k] = f
      · have hfr := hmk.frozen hlt
        have hst := hmk.stored k (.int .u8 (t.toNat : Int))
        rw [part_hit _ _ _ _ hlt hsf] at hst
        have HS : Hid _ := hst
        have HB : Hid _ := hbel.setCell (p := ⟨w.heap.size, k, none⟩) (Nat.le_refl _) (.int .u8 (t.toNat : Int))
        have heq : ((s[k].toNat : Int) == (f.toNat : Int)) = true := by rw [hsf]; simp
        clear hst hsf hmk hbel
        go_wp2
        go_roundw
        case rel => exact ⟨k + 1, by omega, by go_num, HS.out, HB.out⟩
        case measure => simp [intOf]; omega
      · have heq : ((s[k].toNat : Int) == (f.toNat : Int)) = false := by
          rw [beq_eq_false_iff_ne]
          intro h
          exact hsf (UInt8.toNat_inj.1 (by omega))
        rw [← part_miss _ _ _ _ hlt hsf] at hmk
        have HS : Hid _ := hmk
        have HB : Hid _ := hbel
        clear hmk hbel hsf
        go_wp2
        go_roundw
        case rel => exact ⟨k + 1, by omega, by go_num, HS.out, HB.out⟩
        case measure => simp [intOf]; omega
    · rw [part_whole _ _ _ _ (by simp; have : ¬ k < s.data.size := hlt; omega)] at hmk
      have hl : (Lt.conv f t s.data.toList).length = s.size := by rw [Lt.conv_length]; rfl
      rw [← hl] at hmk
      have hback := hmk.back (cap := cap)
      rw [hl] at hback
      clear hl hmk
      go_wp2
      go_ret2
      exact ⟨rfl, hbel⟩

end Go.Proofs.YtjebhbopmfcopaaGreatDoor
