/-
  THE WALK of the program's Convert. Own text of the verifier.
  THE WALKS of the program's Reverse and Convert. Own text of the verifier.
  THE WALKS of the document's own Reverse and Convert (bleachref), and of what they call. Own text of the verifier.
  THE WALKS of the readers' small functions: bytes of names, letters in capitals, qualities; the byte at a place; where a name ends. Own text of the verifier.
  THE WALKS: the byte at a place, where a name ends (the program's and the document's), letters of a line (the document's), a name among contigs. Own text of the verifier.
  PAIRS OF TEXTS IN MEMORY (contigs, reads): a name and letters each; a name among them. Own text of the verifier.
  PLAIN MATHEMATICS of Fasta's machine: its steps a line at a time. Own text of the verifier.
-/
import Derived.Test.YtjebhbopmfcopaaBun1
namespace Go.Proofs.Ytjebhbopmfcopaa
open Go.RowKit

/-- the first k letters bleached, the others as they were -/
def Lt.part (f t : UInt8) (l : List UInt8) (k : Nat) : List UInt8 := Lt.conv f t (l.take k) ++ l.drop k

theorem part_zero (f t : UInt8) (l : List UInt8) : Lt.part f t l 0 = l := by simp [Lt.part, Lt.conv]
theorem part_whole (f t : UInt8) (l : List UInt8) (k : Nat) (h : l.length ≤ k) : Lt.part f t l k = Lt.conv f t l := by
  rw [Lt.part, List.take_of_length_le h, List.drop_of_length_le h, List.append_nil]
theorem part_length (f t : UInt8) (l : List UInt8) (k : Nat) : (Lt.part f t l k).length = l.length := by
  simp [Lt.part, Lt.conv]; omega
theorem part_at (f t : UInt8) (s : ByteArray) (k : Nat) (h : k < s.size) : (Bys (Lt.part f t s.data.toList k))[k]? = some (.int .u8 (s[k].toNat : Int)) := by
  rw [Lt.part, Bys_append, List.getElem?_append_right (by rw [Bys_length, Lt.conv_length, List.length_take]; omega), Bys_length, Lt.conv_length, List.length_take,
    show k - min k s.data.toList.length = 0 by simp; have : k < s.data.size := h; omega]
  rw [List.drop_eq_getElem_cons (by simpa using h)]
  rfl
theorem part_succ (f t : UInt8) (l : List UInt8) (k : Nat) (h : k < l.length) : Lt.part f t l (k + 1) = (Lt.part f t l k).set k (Lt.sub f t l[k]) := by
  rw [Lt.part, Lt.part, List.set_append, if_neg (by rw [Lt.conv_length, List.length_take]; omega), Lt.conv_length, List.length_take, show k - min k l.length = 0 by omega,
    List.drop_eq_getElem_cons h, List.set_cons_zero, List.take_succ_eq_append_getElem h]
  simp only [Lt.conv, List.map_append, List.map_cons, List.map_nil, List.append_assoc, List.singleton_append]
theorem Bys_set (l : List UInt8) (k : Nat) (c : UInt8) : Bys (l.set k c) = (Bys l).set k (.int .u8 (c.toNat : Int)) := by simp [Bys, List.map_set, By]
theorem part_hit (f t : UInt8) (s : ByteArray) (k : Nat) (h : k < s.size) (hf : s[k] = f) : (Bys (Lt.part f t s.data.toList k)).set k (.int .u8 (t.toNat : Int)) = Bys (Lt.part f t s.data.toList (k + 1)) := by
  rw [← Bys_set, part_succ _ _ _ _ (by simpa using h)]
  have : s.data.toList[k]'(by simpa using h) = f := hf
  simp [Lt.sub, this]
theorem part_miss (f t : UInt8) (s : ByteArray) (k : Nat) (h : k < s.size) (hf : ¬ s[k] = f) : Lt.part f t s.data.toList (k + 1) = Lt.part f t s.data.toList k := by
  rw [part_succ _ _ _ _ (by simpa using h)]
  have hn : ¬ s.data.toList[k]'(by simpa using h) = f := hf
  have e : Lt.sub f t (s.data.toList[k]'(by simpa using h)) = s.data.toList[k]'(by simpa using h) := by simp only [Lt.sub, if_neg hn]
  rw [e, Lt.part]
  rw [List.set_append, if_neg (by rw [Lt.conv_length, List.length_take]; omega), Lt.conv_length, List.length_take, show k - min k s.data.toList.length = 0 by simp; have : k < s.data.size := h; omega]
  rw [List.drop_eq_getElem_cons (by simpa using h), List.set_cons_zero]

set_option maxRecDepth 100000 in
set_option maxHeartbeats 800000 in
theorem convert_bad (s : ByteArray) (n : Int) (w : World) (hs : s.size ≤ maxLen) (hL : Lt.allL s.data.toList = false) :
    Calls Try.prog 10 #[.string s, .int .i64 n] w fun e w' => e = .returned (.tuple #[.string ⟨#[]⟩, .int .i64 8]) ∧ w' = w := by
  have HL : Hid (Lt.allL s.data.toList = false) := hL
  clear hL
  go_enter Try.func10, Try.ntmps10
  go_wp2_with (go_at_call 24; refine (areLetters_any _ _ hs).mono ?_; rintro e w' ⟨rfl, hw⟩; subst w'; rw [HL.out])
  go_ret2
  exact ⟨rfl, rfl⟩

set_option maxRecDepth 100000 in
set_option maxHeartbeats 800000 in
theorem convert_none (s : ByteArray) (n : Int) (w : World) (hs : s.size ≤ maxLen) (hL : Lt.allL s.data.toList = true) (hf : Lt.frm n = 0) :
    Calls Try.prog 10 #[.string s, .int .i64 n] w fun e w' => e = .returned (.tuple #[.string ⟨#[]⟩, .int .i64 1]) ∧ w' = w := by
  have HL : Hid (Lt.allL s.data.toList = true) := hL
  have HF : Hid (Lt.frm n = 0) := hf
  clear hL hf
  go_enter Try.func10, Try.ntmps10
  go_wp2_with (first
    | (go_at_call 24; refine (areLetters_any _ _ hs).mono ?_; rintro e w' ⟨rfl, hw⟩; subst w'; rw [HL.out])
    | (go_at_call 26; refine (turned_any _ _).mono ?_; rintro e w' ⟨rfl, hw⟩; subst w'; rw [HF.out]))
  go_ret2
  exact ⟨rfl, rfl⟩

set_option maxRecDepth 100000 in
set_option maxHeartbeats 800000 in
theorem convert_good (s : ByteArray) (n : Int) (f t : UInt8) (w : World) (hs : s.size ≤ maxLen) (hL : Lt.allL s.data.toList = true) (hf : Lt.frm n = f) (ht : Lt.tow n = t) (h0 : f ≠ 0) :
    Calls Try.prog 10 #[.string s, .int .i64 n] w fun e w' => e = .returned (.tuple #[.string ⟨(Lt.conv f t s.data.toList).toArray⟩, .int .i64 0]) ∧ Below w.heap.size w w' := by
  have HL : Hid (Lt.allL s.data.toList = true) := hL
  have HF : Hid (Lt.frm n = f) := hf
  have HT : Hid (Lt.tow n = t) := ht
  have hf0 : ((f.toNat : Int) == 0) = false := by
    rw [beq_eq_false_iff_ne]
    intro h
    exact h0 (UInt8.toNat_inj.1 (by simpa using h))
  clear hL hf ht h0
  obtain ⟨cap, w1, hconv, hcap, hcm, hmk0, hbel0⟩ := mk_of_string s w hs
  unfold maxLen at hs hcm
  have hsm : s.size ≤ maxLen := hs
  go_enter Try.func10, Try.ntmps10
  go_wp2_with (first
    | (go_at_call 24; refine (areLetters_any _ _ hsm).mono ?_; rintro e w' ⟨rfl, hw⟩; subst w'; rw [HL.out])
    | (go_at_call 26; refine (turned_any _ _).mono ?_; rintro e w' ⟨rfl, hw⟩; subst w'; rw [HF.out, HT.out]))
  clear hconv
  go_loopw [25] (fun i wr => ∃ k : Nat, k ≤ s.size ∧ i = .int .i64 k ∧ Mk wr w.heap.size s.size (Bys (Lt.part f t s.data.toList k)) ∧ Below w.heap.size w wr)
    (fun i _ => s.size - (intOf i).toNat)
  case atStart => exact ⟨0, Nat.zero_le _, rfl, by rw [part_zero]; exact hmk0, hbel0⟩
  case round =>
    clear hmk0 hbel0
    obtain ⟨k, hk, rfl, hmk, hbel⟩ := hrel
    by_cases hlt : k < s.size
    · have hc0 := hmk.cell hlt
      rw [part_at _ _ _ _ hlt] at hc0
      by_cases hsf : s[k] = f
      · have hfr := hmk.frozen hlt
        have hst := hmk.stored k (.int .u8 (t.toNat : Int))
        rw [part_hit _ _ _ _ hlt hsf] at hst
        have HS : Hid _ := hst
        have HB : Hid _ := hbel.setCell (p := ⟨w.heap.size, k, none⟩) (Nat.le_refl _) (.int .u8 (t.toNat : Int))
        have heq : ((s[k].toNat : Int) == (f.toNat : Int)) = true := by rw [hsf]; simp
        clear hst hsf hmk hbel
        go_wp2
        go_roundw
        case rel => exact ⟨k + 1, by omega, by go_num, HS.out, HB.out⟩
        case measure => simp [intOf]; omega
      · have heq : ((s[k].toNat : Int) == (f.toNat : Int)) = false := by
          rw [beq_eq_false_iff_ne]
          intro h
          exact hsf (UInt8.toNat_inj.1 (by omega))
        rw [← part_miss _ _ _ _ hlt hsf] at hmk
        have HS : Hid _ := hmk
        have HB : Hid _ := hbel
        clear hmk hbel hsf
        go_wp2
        go_roundw
        case rel => exact ⟨k + 1, by omega, by go_num, HS.out, HB.out⟩
        case measure => simp [intOf]; omega
    · rw [part_whole _ _ _ _ (by simp; have : ¬ k < s.data.size := hlt; omega)] at hmk
      have hl : (Lt.conv f t s.data.toList).length = s.size := by rw [Lt.conv_length]; rfl
      rw [← hl] at hmk
      have hback := hmk.back (cap := cap)
      rw [hl] at hback
      clear hl hmk
      go_wp2
      go_ret2
      exact ⟨rfl, hbel⟩

end Go.Proofs.Ytjebhbopmfcopaa

namespace Go.Proofs.Ytjebhbopmfcopaa
open Go.RowKit

/-- the first k bytes of l, then as many zeros as there are left of n -/
def filled (l : List UInt8) (n k : Nat) : List Value := Bys (l.take k) ++ List.replicate (n - k) (.int .u8 0)

theorem filled_zero (l : List UInt8) (n : Nat) : filled l n 0 = List.replicate n (.int .u8 0) := by simp [filled, Bys]

theorem filled_whole (l : List UInt8) (n : Nat) (h : l.length = n) : filled l n n = Bys l := by
  simp [filled, ← h]

theorem filled_set (l : List UInt8) (n k : Nat) (h : l.length = n) (hk : k < n) : (filled l n k).set k (.int .u8 ((l[k]'(by omega)).toNat : Int)) = filled l n (k + 1) := by
  unfold filled
  have h1 : (Bys (l.take k)).length = k := by rw [Bys_length, List.length_take]; omega
  rw [List.set_append, if_neg (by omega), h1, Nat.sub_self]
  rw [List.take_succ_eq_append_getElem (by omega), Bys_append]
  obtain ⟨m, hm⟩ : ∃ m, n - k = m + 1 := ⟨n - k - 1, by omega⟩
  rw [hm, show n - (k + 1) = m by omega, List.replicate_succ, List.set_cons_zero]
  simp [Bys, By]

/-- the k-th byte of what is turned round -/
theorem rev_at (s : ByteArray) (k : Nat) (h : k < s.size) (hl : k < (Lt.rev s.data.toList).length) : (Lt.rev s.data.toList)[k] = Lt.comp (s[s.size - 1 - k]'(by omega)) := by
  simp only [Lt.rev, List.getElem_reverse, List.getElem_map, List.length_map, Array.length_toList]
  rfl

set_option maxRecDepth 100000 in
set_option maxHeartbeats 800000 in
theorem reverse_bad (s : ByteArray) (w : World) (hs : s.size ≤ maxLen) (hL : Lt.allL s.data.toList = false) :
    Calls Try.prog 9 #[.string s] w fun e w' => e = .returned (.tuple #[.string ⟨#[]⟩, .int .i64 8]) ∧ w' = w := by
  have HL : Hid (Lt.allL s.data.toList = false) := hL
  clear hL
  go_enter Try.func9, Try.ntmps9
  go_wp2_with (go_at_call 24; refine (areLetters_any _ _ hs).mono ?_; rintro e w' ⟨rfl, hw⟩; subst w'; rw [HL.out])
  go_ret2
  exact ⟨rfl, rfl⟩

set_option maxRecDepth 100000 in
set_option maxHeartbeats 800000 in
theorem reverse_good (s : ByteArray) (w : World) (hs : s.size ≤ 140737488355328) (hL : Lt.allL s.data.toList = true) :
    Calls Try.prog 9 #[.string s] w fun e w' => e = .returned (.tuple #[.string ⟨(Lt.rev s.data.toList).toArray⟩, .int .i64 0]) ∧ Below w.heap.size w w' := by
  have HL : Hid (Lt.allL s.data.toList = true) := hL
  clear hL
  have hsm : s.size ≤ maxLen := by unfold maxLen; omega
  obtain ⟨i0, hi, hz0, hz1, hz2⟩ := info_parts Try.infoU8
  have hrl : (Lt.rev s.data.toList).length = s.size := by rw [Lt.rev_length]; rfl
  have HR : Hid ((Lt.rev s.data.toList).length = s.size) := hrl
  clear hrl
  go_enter Try.func9, Try.ntmps9
  go_wp2_with (first
    | (go_at_call 24; refine (areLetters_any _ _ hsm).mono ?_; rintro e w' ⟨rfl, hw⟩; subst w'; rw [HL.out])
    | (at_make; refine wpList_make_full _ rfl _ _ 59 rfl w.heap.size 5 i0 (.int .u8 0) 1 Try.underlying59 hi hz0 hz1 _ _ _ _ s.size rfl rfl rfl rfl ?h1 ?h2 ?h3 ?_))
  case h1 => rw [hz2]; omega
  case h2 => exact hsm
  case h3 => exact Nat.le_refl _
  · intro w1 hown0 hgrow
    have hbel0 : Below w.heap.size w w1 := (Below.refl _ _).grown hgrow (Nat.le_refl _) (fun k hk => by cases hk)
    rw [toList_madeCells_one, ← filled_zero (Lt.rev s.data.toList) s.size] at hown0
    clear hgrow
    go_wp2
    go_loopw [14] (fun i wr => ∃ k : Nat, k ≤ s.size ∧ i = .int .i64 k ∧ wr.ownsRow w.heap.size 5 1 (.slice (some ⟨w.heap.size, 0, none⟩) s.size s.size) s.size (filled (Lt.rev s.data.toList) s.size k) ∧ Below w.heap.size w wr)
      (fun i _ => s.size - (intOf i).toNat)
    case atStart => exact ⟨0, Nat.zero_le _, rfl, hown0, hbel0⟩
    case round =>
      clear hown0 hbel0
      obtain ⟨k, hk, rfl, hown, hbel⟩ := hrel
      by_cases hlt : k < s.size
      · obtain ⟨v0, hc0, _⟩ := own_cell hown k hlt
        have hfr := hown.frozenAt k
        have hst := hown.stored k (.int .u8 ((Lt.comp (s[s.size - 1 - k]'(by omega))).toNat : Int))
        rw [← rev_at s k hlt (by rw [HR.out]; exact hlt), filled_set _ _ _ HR.out hlt, rev_at s k hlt (by rw [HR.out]; exact hlt)] at hst
        have hbel1 := hbel.setCell (p := ⟨w.heap.size, k, none⟩) (Nat.le_refl _) (.int .u8 ((Lt.comp (s[s.size - 1 - k]'(by omega))).toNat : Int))
        have HST := hst.1
        clear hst
        have HST : Hid _ := HST
        have HB : Hid _ := hbel1
        clear hbel1 hown hbel
        go_wp2_with (go_at_call 25; refine (complement_any _ _).mono ?_; rintro e w' ⟨rfl, hw⟩; subst w')
        go_roundw
        case rel => exact ⟨k + 1, by omega, by go_num, HST.out, HB.out⟩
        case measure => simp [intOf]; omega
      · have hkn : k = s.size := by omega
        subst hkn
        rw [filled_whole _ _ HR.out] at hown
        have hback := back_own hown
        go_wp2
        go_ret2
        exact ⟨rfl, hbel⟩

end Go.Proofs.Ytjebhbopmfcopaa

namespace Go.Proofs.Ytjebhbopmfcopaa
open Go.RowKit

/-- a letter in capitals; 0: it is none -/
def Lt.cap (c : UInt8) : UInt8 := if isL c then c else if c == 97 || c == 99 || c == 103 || c == 116 || c == 110 then c - 32 else 0

theorem Lt.cap_int (c : UInt8) : ((Lt.cap c).toNat : Int) =
    if ((c.toNat : Int) == 65) = true then (c.toNat : Int) else if ((c.toNat : Int) == 67) = true then (c.toNat : Int) else if ((c.toNat : Int) == 71) = true then (c.toNat : Int) else if ((c.toNat : Int) == 84) = true then (c.toNat : Int) else if ((c.toNat : Int) == 78) = true then (c.toNat : Int) else
    if ((c.toNat : Int) == 97) = true then ((c.toNat : Int) - 32) % 256 else if ((c.toNat : Int) == 99) = true then ((c.toNat : Int) - 32) % 256 else if ((c.toNat : Int) == 103) = true then ((c.toNat : Int) - 32) % 256 else if ((c.toNat : Int) == 116) = true then ((c.toNat : Int) - 32) % 256 else if ((c.toNat : Int) == 110) = true then ((c.toNat : Int) - 32) % 256 else 0 :=
  Lt.every (p := fun c => ((Lt.cap c).toNat : Int) =
    if ((c.toNat : Int) == 65) = true then (c.toNat : Int) else if ((c.toNat : Int) == 67) = true then (c.toNat : Int) else if ((c.toNat : Int) == 71) = true then (c.toNat : Int) else if ((c.toNat : Int) == 84) = true then (c.toNat : Int) else if ((c.toNat : Int) == 78) = true then (c.toNat : Int) else
    if ((c.toNat : Int) == 97) = true then ((c.toNat : Int) - 32) % 256 else if ((c.toNat : Int) == 99) = true then ((c.toNat : Int) - 32) % 256 else if ((c.toNat : Int) == 103) = true then ((c.toNat : Int) - 32) % 256 else if ((c.toNat : Int) == 116) = true then ((c.toNat : Int) - 32) % 256 else if ((c.toNat : Int) == 110) = true then ((c.toNat : Int) - 32) % 256 else 0) (by decide +kernel) c

/-- the document's 'turned': one letter -/
def Lt.trn (c : UInt8) (n : Int) : UInt8 := if Lt.topB n then (if c == 67 then 84 else c) else (if c == 71 then 65 else c)

theorem u8_beq (c : UInt8) (n : Nat) (hn : n < 256) : (c == UInt8.ofNat n) = ((c.toNat : Int) == (n : Int)) := by
  rw [Bool.eq_iff_iff, beq_iff_eq, beq_iff_eq, ← Lt.toNat_inj hn]
  omega

theorem Lt.trn_int (c : UInt8) (n : Int) : ((Lt.trn c n).toNat : Int) = if Lt.topB n = true then (if ((c.toNat : Int) == 67) = true then 84 else (c.toNat : Int)) else (if ((c.toNat : Int) == 71) = true then 65 else (c.toNat : Int)) := by
  have h1 := u8_beq c 67 (by omega)
  have h2 := u8_beq c 71 (by omega)
  have h3 : (c == 67) = ((c.toNat : Int) == 67) := h1
  have h4 : (c == 71) = ((c.toNat : Int) == 71) := h2
  unfold Lt.trn
  rw [h3, h4]
  split <;> split <;> first | rfl | simp_all

theorem cap_bad {c : UInt8} (h : Lt.isL c = false) : ((Lt.cap c).toNat : Int) = 0 ∨ ((Lt.cap c).toNat : Int) ≠ (c.toNat : Int) :=
  Lt.every (p := fun c => Lt.isL c = false → ((Lt.cap c).toNat : Int) = 0 ∨ ((Lt.cap c).toNat : Int) ≠ (c.toNat : Int)) (by decide +kernel) c h

theorem cap_good {c : UInt8} (h : Lt.isL c = true) : Lt.cap c = c := by simp [Lt.cap, h]
theorem isL_pos {c : UInt8} (h : Lt.isL c = true) : 65 ≤ (c.toNat : Int) :=
  Lt.every (p := fun c => Lt.isL c = true → 65 ≤ (c.toNat : Int)) (by decide +kernel) c h

/-- the last k bytes turned round -/
theorem rev_drop (s : ByteArray) (k : Nat) (h : k < s.size) : Lt.rev (s.data.toList.drop k) = Lt.rev (s.data.toList.drop (k + 1)) ++ [Lt.comp s[k]] := by
  rw [List.drop_eq_getElem_cons (by simpa using h)]
  simp only [Lt.rev, List.map_cons, List.reverse_cons]
  rfl

theorem trn_frm {n : Int} (h : Lt.strandB n = true) : Lt.frm n ≠ 0 ∧ ∀ c, Lt.trn c n = Lt.sub (Lt.frm n) (Lt.tow n) c := by
  simp only [Lt.strandB, Bool.and_eq_true, decide_eq_true_eq] at h
  have h4 : n = 1 ∨ n = 2 ∨ n = 3 ∨ n = 4 := by omega
  rcases h4 with rfl | rfl | rfl | rfl
  all_goals
    refine ⟨by decide, fun c => ?_⟩
    simp [Lt.trn, Lt.topB, Lt.sub, Lt.frm, Lt.tow]

theorem frm_none {n : Int} (h : Lt.strandB n = false) : Lt.frm n = 0 := by
  simp only [Lt.strandB, Bool.and_eq_false_iff, decide_eq_false_iff_not] at h
  have h1 : (n == 1) = false := by rw [beq_eq_false_iff_ne]; omega
  have h2 : (n == 2) = false := by rw [beq_eq_false_iff_ne]; omega
  have h3 : (n == 3) = false := by rw [beq_eq_false_iff_ne]; omega
  have h4 : (n == 4) = false := by rw [beq_eq_false_iff_ne]; omega
  simp [Lt.frm, h1, h2, h3, h4]

theorem conv_take (f t : UInt8) (s : ByteArray) (k : Nat) (h : k < s.size) : Lt.conv f t (s.data.toList.take (k + 1)) = Lt.conv f t (s.data.toList.take k) ++ [Lt.sub f t s[k]] := by
  rw [Lt.take_snoc s k h, Lt.conv, List.map_append]
  rfl

end Go.Proofs.Ytjebhbopmfcopaa

namespace Go.Proofs.Ytjebhbopmfcopaa
open Go.RowKit

theorem nb_ranges (a : Int) : a < 45 ∨ a = 45 ∨ a = 46 ∨ a = 47 ∨ (48 ≤ a ∧ a ≤ 57) ∨ (58 ≤ a ∧ a ≤ 64) ∨ (65 ≤ a ∧ a ≤ 90) ∨ (91 ≤ a ∧ a ≤ 94) ∨ a = 95 ∨ a = 96 ∨ (97 ≤ a ∧ a ≤ 122) ∨ 123 ≤ a := by omega

/-- what the program's Capital takes: small letters raised, all others left -/
theorem cap_up {c : UInt8} (h1 : 97 ≤ (c.toNat : Int)) (h2 : (c.toNat : Int) ≤ 122) : Tx.cap c = (if Lt.isL (c - 32) then c - 32 else 0) ∧ ((c - 32).toNat : Int) = (c.toNat : Int) - 32 := by
  have h := Lt.every (p := fun c => 97 ≤ (c.toNat : Int) → (c.toNat : Int) ≤ 122 → Tx.cap c = (if Lt.isL (c - 32) then c - 32 else 0) ∧ ((c - 32).toNat : Int) = (c.toNat : Int) - 32) (by decide +kernel) c
  exact h h1 h2
theorem cap_low {c : UInt8} (h : (c.toNat : Int) < 97 ∨ 122 < (c.toNat : Int)) : Tx.cap c = (if Lt.isL c then c else 0) := by
  have h' := Lt.every (p := fun c => ((c.toNat : Int) < 97 ∨ 122 < (c.toNat : Int)) → Tx.cap c = (if Lt.isL c then c else 0)) (by decide +kernel) c
  exact h' h

end Go.Proofs.Ytjebhbopmfcopaa

namespace Go.Proofs.Ytjebhbopmfcopaa
open Go.RowKit

/-- block g holds the bytes of s from its head on -/
def Bs (w : World) (g : Nat) (s : ByteArray) : Prop := ∀ j (h : j < s.size), w.cell? ⟨g, j, none⟩ = some (.int .u8 (s[j].toNat : Int))

theorem nlen_step (s : ByteArray) (p j : Nat) (hj : j < 32) : Tx.nlen s (p + j) (32 - j) = if Tx.nb (Tx.bt s (p + j)) then Tx.nlen s (p + (j + 1)) (32 - (j + 1)) + 1 else 0 := by
  obtain ⟨f, hf⟩ : ∃ f, 32 - j = f + 1 := ⟨32 - j - 1, by omega⟩
  rw [hf, Tx.nlen, show 32 - (j + 1) = f by omega, show p + (j + 1) = p + j + 1 by omega]

theorem extract_piece (s : ByteArray) (p q : Nat) : s.extract p q = ⟨(Tx.piece s p q).toArray⟩ := by
  apply ByteArray.ext
  rw [ByteArray.data_extract]
  apply Array.toList_inj.1
  simp [Tx.piece, Array.toList_extract, List.take_drop]

theorem ret3 {a b : ByteArray} {x y x' y' : Int} (h1 : a = b) (h2 : x = x') (h3 : y = y') : Ending.returned (.tuple #[.string a, .int .i64 x, .int .i64 y]) = .returned (.tuple #[.string b, .int .i64 x', .int .i64 y']) := by rw [h1, h2, h3]

/-- the loop of the document's 'nameAt' -/
theorem nlen_out (s : ByteArray) (p j : Nat) (h : ¬ p + j < s.size) : Tx.nlen s (p + j) (32 - j) = 0 := by
  cases hf : 32 - j with
  | zero => rfl
  | succ f => rw [Tx.nlen, Tx.bt_out h, Tx.nb_zero]; rfl

theorem rlen_step (s : ByteArray) (p m j : Nat) (hj : j < m) : Tx.rlen s (p + j) (m - j) = if Tx.cap (Tx.bt s (p + j)) ≠ 0 then Tx.rlen s (p + (j + 1)) (m - (j + 1)) + 1 else 0 := by
  obtain ⟨f, hf⟩ : ∃ f, m - j = f + 1 := ⟨m - j - 1, by omega⟩
  rw [hf, Tx.rlen, show m - (j + 1) = f by omega, show p + (j + 1) = p + j + 1 by omega]
theorem rlen_out (s : ByteArray) (p m j : Nat) (h : ¬ p + j < s.size) : Tx.rlen s (p + j) (m - j) = 0 := by
  cases hf : m - j with
  | zero => rfl
  | succ f => rw [Tx.rlen, Tx.bt_out h, Tx.cap_zero]; rfl

theorem u8_ne0 {c : UInt8} (h : c ≠ 0) : ((c.toNat : Int) != 0) = true := by
  rw [bne_iff_ne]
  intro h2
  exact h ((Lt.toNat_inj (n := 0) (by omega)).1 (by omega))
theorem u8_is0 {c : UInt8} (h : c = 0) : ((c.toNat : Int) != 0) = false := by
  rw [h]; rfl
theorem u8_is10 {c : UInt8} (h : c = 10) : ((c.toNat : Int) != 10) = false := by
  rw [h]; rfl
theorem u8_ne10 {c : UInt8} (h : c ≠ 10) : ((c.toNat : Int) != 10) = true := by
  rw [bne_iff_ne]
  intro h2
  exact h ((Lt.toNat_inj (n := 10) (by omega)).1 (by omega))

end Go.Proofs.Ytjebhbopmfcopaa

namespace Go.Proofs.Ytjebhbopmfcopaa
open Go.RowKit

abbrev Pr := List UInt8 × List UInt8

def prCells (x : Pr) : List Value := [.string ⟨x.1.toArray⟩, .string ⟨x.2.toArray⟩]
def Prs (l : List Pr) : List Value := l.flatMap prCells

theorem Prs_length (l : List Pr) : (Prs l).length = l.length * 2 := by
  induction l with
  | nil => rfl
  | cons o l ih => rw [Prs, List.flatMap_cons, List.length_append, ← Prs, ih, List.length_cons]; simp [prCells]; omega

theorem Prs_at (l : List Pr) (k : Nat) (h : k < l.length) (j : Nat) (hj : j < 2) : (Prs l)[k * 2 + j]? = (prCells l[k])[j]? := by
  induction l generalizing k with
  | nil => simp at h
  | cons o l ih =>
    rw [Prs, List.flatMap_cons]
    cases k with
    | zero => rw [List.getElem?_append_left (by simp [prCells]; omega)]; simp
    | succ k =>
      rw [List.getElem?_append_right (by simp [prCells]; omega)]
      have e : (k + 1) * 2 + j - (prCells o).length = k * 2 + j := by simp [prCells]; omega
      rw [e]
      have := ih k (by simpa using h)
      rw [Prs] at this
      rw [this]
      simp

theorem Prs_append (l r : List Pr) : Prs (l ++ r) = Prs l ++ Prs r := by simp [Prs]

theorem own_pair {w : World} {base e n cap g : Nat} {l : List Pr} (h : w.ownsRow base e 2 (.slice (some ⟨g, 0, none⟩) n cap) n (Prs l)) (k : Nat) (hk : k < l.length) :
    w.cell? ⟨g, k * 2, none⟩ = some (.string ⟨l[k].1.toArray⟩) ∧ w.cell? ⟨g, k * 2 + 1, none⟩ = some (.string ⟨l[k].2.toArray⟩) := by
  have hl : l.length * 2 = n * 2 := by have := h.1; rw [Prs_length] at this; exact this
  constructor
  · have := h.cellAt (k * 2 + 0) (by omega)
    rw [Prs_at l k hk 0 (by omega)] at this
    simpa [prCells] using this
  · rw [h.cellAt (k * 2 + 1) (by omega), Prs_at l k hk 1 (by omega)]
    simp [prCells]

def hasN (l : List Pr) (nm : List UInt8) : Bool := l.any (fun x => x.1 == nm)

theorem hasN_stop (l : List Pr) (nm : List UInt8) (k : Nat) (h : k < l.length) (he : (l[k].1 == nm) = true) : hasN l nm = true := by
  rw [hasN, List.any_eq_true]
  exact ⟨l[k], List.getElem_mem _, he⟩
theorem hasN_snoc (l : List Pr) (nm : List UInt8) (k : Nat) (h : k < l.length) (h0 : hasN (l.take k) nm = false) (he : (l[k].1 == nm) = false) : hasN (l.take (k + 1)) nm = false := by
  rw [List.take_succ_eq_append_getElem h]
  simp only [hasN, List.any_append, List.any_cons, List.any_nil, Bool.or_false] at *
  rw [h0, he]; rfl
theorem hasN_whole (l : List Pr) (nm : List UInt8) (k : Nat) (h : ¬ k < l.length) (h0 : hasN (l.take k) nm = false) : hasN l nm = false := by
  rwa [List.take_of_length_le (by omega)] at h0

end Go.Proofs.Ytjebhbopmfcopaa

namespace Go.Proofs.Ytjebhbopmfcopaa.Tx

/-- where a contig may begin, or the text end -/
def head (s : ByteArray) (f p : Nat) (out : List (List UInt8 × List UInt8)) (total : Nat) : Ans :=
  if p < s.size ∨ p = 0 then faMark s p out (fun q nm => faIn s f q q nm [] out total) else ⟨out, 0, 0⟩

theorem cap_62 : cap 62 = 0 := by decide
theorem cap_10 : cap 10 = 0 := by decide

theorem fa_bad (s : ByteArray) (f p : Nat) (name letters : List UInt8) (out : List (List UInt8 × List UInt8)) (total : Nat) (hp : p ≤ s.size) (hf : s.size + 1 ≤ f + p) (ht : total ≤ 4096)
    (hc : (p < s.size ∧ bt s p ≠ 62) ∨ letters = []) (hb : rlen s p (4096 - total) = 0 ∨ bt s (p + rlen s p (4096 - total)) ≠ 10) :
    faIn s f p p name letters out total = bad (wr s (p + rlen s p (4096 - total)) 2 4) (p + rlen s p (4096 - total)) := by
  generalize hcc : rlen s p (4096 - total) = c at *
  have hle : c ≤ 4096 - total := by rw [← hcc]; exact rlen_le _ _ _
  have hsz : p + c ≤ s.size := by rw [← hcc]; exact rlen_size _ _ _ hp
  rw [faIn_run s p name out c f p letters total (fun j hj => rlen_all s (4096 - total) p j (by omega)) (by omega) (by omega)]
  obtain ⟨g, hg⟩ : ∃ g, f - c = g + 1 := ⟨f - c - 1, by omega⟩
  rw [hg, faIn, wr]
  by_cases h0 : cap (bt s (p + c)) ≠ 0
  · have hfull : c = 4096 - total := by
      by_cases hlt : c < 4096 - total
      · have := rlen_stop s (4096 - total) p (by omega)
        rw [hcc] at this
        exact absurd this h0
      · omega
    rw [if_pos h0, if_pos (by omega), if_pos h0]
  · rw [if_neg h0, if_neg h0]
    by_cases hc0 : c = 0
    · subst hc0
      simp only [Nat.add_zero] at *
      rw [if_neg (by omega)]
      by_cases hl : letters = []
      · subst hl
        rw [if_pos (.inr (by simp [caps]))]
      · rw [if_neg (by simp [caps, hl])]
        rcases hc with ⟨h1, h2⟩ | h
        · rw [if_pos h1, faMark, if_pos h2]
        · exact absurd h hl
    · rcases hb with h | h
      · exact absurd h hc0
      · rw [if_neg (fun x => h x.1), if_pos (.inl (by omega))]

theorem fa_good (s : ByteArray) (f p : Nat) (name letters : List UInt8) (out : List (List UInt8 × List UInt8)) (total : Nat) (hf : s.size + 1 ≤ f + p) (ht : total ≤ 4096)
    (hb : ¬ (rlen s p (4096 - total) = 0 ∨ bt s (p + rlen s p (4096 - total)) ≠ 10)) :
    ∃ g, s.size + 1 ≤ g + (p + rlen s p (4096 - total) + 1) ∧ p + rlen s p (4096 - total) < s.size ∧ 0 < rlen s p (4096 - total) ∧ rlen s p (4096 - total) ≤ 4096 - total ∧
      faIn s f p p name letters out total = faIn s g (p + rlen s p (4096 - total) + 1) (p + rlen s p (4096 - total) + 1) name (letters ++ caps s p (rlen s p (4096 - total))) out (total + rlen s p (4096 - total)) := by
  generalize hcc : rlen s p (4096 - total) = c at *
  have hle : c ≤ 4096 - total := by rw [← hcc]; exact rlen_le _ _ _
  have h10 : bt s (p + c) = 10 := by
    by_cases h : bt s (p + c) = 10
    · exact h
    · exact absurd (.inr h) hb
  have hc0 : c ≠ 0 := fun h => hb (.inl h)
  have hlt : p + c < s.size := bt_lt (by rw [h10]; decide)
  refine ⟨f - c - 1, by omega, hlt, by omega, hle, ?_⟩
  rw [faIn_run s p name out c f p letters total (fun j hj => rlen_all s (4096 - total) p j (by omega)) (by omega) (by omega)]
  obtain ⟨g, hg⟩ : ∃ g, f - c = g + 1 := ⟨f - c - 1, by omega⟩
  rw [hg, faIn, h10, if_neg (by simp [cap_10]), if_pos ⟨rfl, by omega⟩]
  rfl

theorem fa_whole (s : ByteArray) (f p : Nat) (name letters : List UInt8) (out : List (List UInt8 × List UInt8)) (total : Nat) (hf : s.size + 1 ≤ f + p) (hp : p ≤ s.size) (hp0 : 0 < p)
    (hl : letters ≠ []) (hc : ¬ (p < s.size ∧ bt s p ≠ 62)) :
    ∃ g, s.size ≤ g + p ∧ faIn s f p p name letters out total = head s g p (out ++ [(name, letters)]) total := by
  obtain ⟨g, rfl⟩ : ∃ g, f = g + 1 := ⟨f - 1, by omega⟩
  refine ⟨g, by omega, ?_⟩
  have hb : cap (bt s p) = 0 ∧ bt s p ≠ 10 := by
    by_cases h : p < s.size
    · have h62 : bt s p = 62 := by
        by_cases h2 : bt s p = 62
        · exact h2
        · exact absurd ⟨h, h2⟩ hc
      rw [h62]; exact ⟨cap_62, by decide⟩
    · rw [bt_out h]; exact ⟨cap_zero, by decide⟩
  rw [faIn, if_neg (by simp [hb.1]), if_neg (by omega), if_neg (by simp [hl]), head]
  by_cases h : p < s.size
  · rw [if_pos h, if_pos (.inl h)]
  · rw [if_neg h, if_neg (by omega)]

/-- the ends of a mark -/
theorem mark_stop (s : ByteArray) (f p : Nat) (out : List (List UInt8 × List UInt8)) (total : Nat) (h : p < s.size ∨ p = 0) (hb : bt s p ≠ 62) : head s f p out total = bad 2 p := by
  rw [head, if_pos h, faMark, if_pos hb]
theorem mark_many (s : ByteArray) (f p : Nat) (out : List (List UInt8 × List UInt8)) (total : Nat) (h : p < s.size ∨ p = 0) (hb : bt s p = 62) (hn : out.length = 16) : head s f p out total = bad 4 p := by
  rw [head, if_pos h, faMark, if_neg (by simp [hb]), if_pos hn]
theorem mark_name (s : ByteArray) (f p : Nat) (out : List (List UInt8 × List UInt8)) (total : Nat) (h : p < s.size ∨ p = 0) (hb : bt s p = 62) (hn : out.length ≠ 16) (he : nEnd s (p + 1) = p + 1 ∨ bt s (nEnd s (p + 1)) ≠ 10) : head s f p out total = bad 2 (nEnd s (p + 1)) := by
  rw [head, if_pos h, faMark, if_neg (by simp [hb]), if_neg hn, if_pos he]
theorem mark_twice (s : ByteArray) (f p : Nat) (out : List (List UInt8 × List UInt8)) (total : Nat) (h : p < s.size ∨ p = 0) (hb : bt s p = 62) (hn : out.length ≠ 16) (he : ¬ (nEnd s (p + 1) = p + 1 ∨ bt s (nEnd s (p + 1)) ≠ 10))
    (ht : out.any (fun x => x.1 == piece s (p + 1) (nEnd s (p + 1))) = true) : head s f p out total = bad 3 (p + 1) := by
  rw [head, if_pos h, faMark, if_neg (by simp [hb]), if_neg hn, if_neg he, if_pos ht]
theorem mark_go (s : ByteArray) (f p : Nat) (out : List (List UInt8 × List UInt8)) (total : Nat) (h : p < s.size ∨ p = 0) (hb : bt s p = 62) (hn : out.length ≠ 16) (he : ¬ (nEnd s (p + 1) = p + 1 ∨ bt s (nEnd s (p + 1)) ≠ 10))
    (ht : out.any (fun x => x.1 == piece s (p + 1) (nEnd s (p + 1))) = false) : head s f p out total = faIn s f (nEnd s (p + 1) + 1) (nEnd s (p + 1) + 1) (piece s (p + 1) (nEnd s (p + 1))) [] out total := by
  rw [head, if_pos h, faMark, if_neg (by simp [hb]), if_neg hn, if_neg he, if_neg (by simp [ht])]
theorem head_end (s : ByteArray) (f p : Nat) (out : List (List UInt8 × List UInt8)) (total : Nat) (h : ¬ (p < s.size ∨ p = 0)) : head s f p out total = ⟨out, 0, 0⟩ := by
  rw [head, if_neg h]

theorem fasta_head (s : ByteArray) : fasta s = head s (s.size + 1) 0 [] 0 := by
  rw [head, if_pos (.inr rfl)]; rfl

theorem nEnd_lt {s : ByteArray} {p : Nat} (he : ¬ (nEnd s (p + 1) = p + 1 ∨ bt s (nEnd s (p + 1)) ≠ 10)) : nEnd s (p + 1) < s.size ∧ p + 1 ≤ nEnd s (p + 1) := by
  have h10 : bt s (nEnd s (p + 1)) = 10 := by
    by_cases h : bt s (nEnd s (p + 1)) = 10
    · exact h
    · exact absurd (.inr h) he
  exact ⟨bt_lt (by rw [h10]; decide), by unfold nEnd; omega⟩

end Go.Proofs.Ytjebhbopmfcopaa.Tx
