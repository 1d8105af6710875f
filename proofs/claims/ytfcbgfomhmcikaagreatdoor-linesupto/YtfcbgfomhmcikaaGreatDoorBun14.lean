/-
  THE WALKS of the program's search: stands, places, the strand's contigs, convert, Find. Own text of the verifier.
  THE WALKS of the program's New: areContigs, areTooMany, convert, converted. Own text of the verifier.
  THE WALK of the program's New. Own text of the verifier.
  THE WALKS of the program's places and Find. Own text of the verifier.
-/
import Derived.Test.YtfcbgfomhmcikaaGreatDoorBun13
import Derived.Test.YtfcbgfomhmcikaaGreatDoorBun1
import Derived.BigQuiet
import Derived.Test.YtfcbgfomhmcikaaGreatDoorBun10
import Derived.Test.YtfcbgfomhmcikaaGreatDoorBun12
namespace Go.Proofs.YtfcbgfomhmcikaaGreatDoor
open Go.RowKit

set_option maxRecDepth 100000 in
set_option maxHeartbeats 1600000 in
theorem stands_any (s t : ByteArray) (b : Int) (w : World) (ht : s.size ≤ t.size) (htm : t.size ≤ 140737488355327) (hb0 : 0 ≤ b) (hb3 : b ≤ 3) :
    Calls Tryz.prog 119 #[.string s, .string t, .int .i64 b] w fun e w' => e = .returned (.bool (decide ((Ix.miss s.data.toList t.data.toList : Int) ≤ b))) ∧ ∃ m, w' = w.drewN m := by
  go_enter Tryz.func119, Tryz.ntmps119
  go_wp2
  go_loopw [2, 10] (fun v i wr => ∃ k j : Nat, k ≤ s.size ∧ i = .int .i64 (k : Int) ∧ v = .int .i64 (b - (j : Int)) ∧ (j : Int) ≤ b ∧ Hid (j = Ix.miss (s.data.toList.take k) (t.data.toList.take k)) ∧ Hid (∃ q, wr = w.drewN q)) (fun _ i _ => s.size - (intOf i).toNat)
  case atStart => exact ⟨0, 0, Nat.zero_le _, rfl, by simp, by simpa using hb0, by simp [Ix.miss, Hid], ⟨0, rfl⟩⟩
  case round =>
    obtain ⟨k, j, hk, rfl, rfl, hjb, HJ, HW⟩ := hrel
    by_cases hlt : k < s.size
    · have hlt2 : k < t.size := by omega
      have HT : Hid _ := Ix.miss_take s.data.toList t.data.toList k (by simpa using hlt) (by simpa using hlt2)
      have HP : Hid _ := Ix.miss_part s.data.toList t.data.toList (k + 1)
      have hi1 := ix_str s k hlt (k : Int) rfl
      have hi2 := ix_str t k hlt2 (k : Int) rfl
      have hlt' : (k : Int) < (s.size : Int) := by omega
      have hlt2' : (k : Int) < (t.size : Int) := by omega
      have ho : (s[k] == t[k] && s[k] != 78) = (((s[k].toNat : Int) == (t[k].toNat : Int)) && ((s[k].toNat : Int) != 78)) := by
        have e1 := u8_bne s[k] t[k]
        have e2 := u8_bne s[k] 78
        have e3 : (s[k] == t[k]) = ((s[k].toNat : Int) == (t[k].toNat : Int)) := by
          simp only [bne] at e1
          exact Bool.not_inj e1
        rw [e3, e2]
        rfl
      have HO : Hid _ := ho
      clear ho
      cases h1 : ((s[k].toNat : Int) == (t[k].toNat : Int)) <;> cases h2 : ((s[k].toNat : Int) != 78) <;> cases h3 : (b - (j : Int) == 0)
      all_goals
        have HOF : Hid _ := HO.out
        rw [h1, h2] at HOF
        clear HO
        go_wp2_with fail
        go_quiet (fail)
        go_wp2
        first
          | (go_roundw
             case rel =>
               have e1 : (s[k] == t[k] && s[k] != 78) = _ := HOF.out
               simp only [Bool.and_false, Bool.and_true, Bool.and_self] at e1
               have e2 : Ix.miss (s.data.toList.take (k + 1)) (t.data.toList.take (k + 1)) = Ix.miss (s.data.toList.take k) (t.data.toList.take k) + (if s[k] == t[k] && s[k] != 78 then 0 else 1) := HT.out
               rw [e1] at e2
               refine ⟨k + 1, _, by omega, by go_num, ?_, ?_, e2.symm, ?_⟩
               · rw [← HJ.out]; first | rfl | (simp; done) | go_num
               · rw [← HJ.out]
                 have h3' : _ := h3
                 simp only [beq_eq_false_iff_ne, beq_iff_eq] at h3'
                 simp
                 omega
               · obtain ⟨q, rfl⟩ := HW.out
                 exact ⟨q + nq, by rw [drewN_more]⟩
             case measure => simp [intOf]; omega)
          | (go_ret
             refine ⟨ret_bool ?_, ?_⟩
             · have e1 : (s[k] == t[k] && s[k] != 78) = _ := HOF.out
               simp only [Bool.and_false, Bool.and_true, Bool.and_self] at e1
               have e2 : Ix.miss (s.data.toList.take (k + 1)) (t.data.toList.take (k + 1)) = Ix.miss (s.data.toList.take k) (t.data.toList.take k) + (if s[k] == t[k] && s[k] != 78 then 0 else 1) := HT.out
               rw [e1, ← HJ.out] at e2
               have e3 := HP.out
               simp only [beq_iff_eq] at h3
               simp at e2
               symm
               rw [decide_eq_false_iff_not]
               omega
             · obtain ⟨q, rfl⟩ := HW.out
               exact ⟨q + nq, by rw [drewN_more]⟩)
    · have HF : Hid _ := Ix.miss_whole s.data.toList t.data.toList k (by simp; omega)
      have hlt' : ¬ (k : Int) < (s.size : Int) := by omega
      go_wp2
      go_ret
      refine ⟨ret_bool ?_, HW.out⟩
      symm
      rw [decide_eq_true_iff, ← HF.out, ← HJ.out]
      exact hjb

end Go.Proofs.YtfcbgfomhmcikaaGreatDoor

namespace Go.Proofs.YtfcbgfomhmcikaaGreatDoor
open Go.RowKit

/-- contigs from the head of a block on -/
def Cs (w : World) (G : Nat) (cs : List Pr) : Prop := ∀ k (h : k < cs.length), w.cell? ⟨G, k * 2, none⟩ = some (.string ⟨cs[k].1.toArray⟩) ∧ w.cell? ⟨G, k * 2 + 1, none⟩ = some (.string ⟨cs[k].2.toArray⟩)

theorem Cs.below {w w' : World} {G : Nat} {cs : List Pr} (h : Cs w G cs) (hb : Below w.heap.size w w') : Cs w' G cs := by
  intro k hk
  obtain ⟨h0, h1⟩ := h k hk
  have hl := World.block_lt_of_cell? w _ h0
  rw [hb.cell (p := ⟨G, k * 2, none⟩) hl, hb.cell (p := ⟨G, k * 2 + 1, none⟩) hl]
  exact ⟨h0, h1⟩

theorem strEmpty (l : List UInt8) : l.isEmpty = decide (l.length = 0) := by cases l <;> simp

set_option maxRecDepth 100000 in
set_option maxHeartbeats 1600000 in
theorem areContigs_any (cs : List Pr) (G cc : Nat) (w : World) (hc : cs.length ≤ 140737488355327) (hN : ∀ x ∈ cs, x.2.length ≤ 140737488355327) (hC : Cs w G cs) :
    Calls Tryz.prog 84 #[.slice (some ⟨G, 0, none⟩) cs.length cc] w fun e w' => e = .returned (.bool (!cs.any Se.wrong && decide (0 < cs.length))) ∧ Below w.heap.size w w' := by
  obtain ⟨R, hR⟩ : ∃ R, R = (!cs.any Se.wrong && decide (0 < cs.length)) := ⟨_, rfl⟩
  rw [← hR]
  have HR : Hid _ := hR
  have HN : Hid _ := hN
  have HC : Hid (Cs w G cs) := hC
  clear hR hN hC
  go_enter Tryz.func84, Tryz.ntmps84
  go_wp2
  go_loopw [7] (fun i wr => ∃ k : Nat, k ≤ cs.length ∧ i = .int .i64 (k : Int) ∧ Below w.heap.size w wr ∧ Hid ((cs.take k).any Se.wrong = false)) (fun i _ => cs.length - (intOf i).toNat)
  case atStart => exact ⟨0, Nat.zero_le _, rfl, Below.refl _ _, by simp [Hid]⟩
  case round =>
    obtain ⟨k, hk, rfl, hbel, HA⟩ := hrel
    by_cases hlt : k < cs.length
    · have hlt' : (k : Int) < (cs.length : Int) := by omega
      obtain ⟨p0, p1⟩ := Cs.below HC.out hbel k hlt
      have HAT : Hid _ := Se.any_take cs k hlt HA.out
      have HAA : Hid _ := Se.any_at cs k hlt
      have hcN : cs[k].2.length ≤ 140737488355327 := HN.out _ (List.getElem_mem _)
      have hB0 := hbel.size
      obtain ⟨y, hy⟩ : ∃ y : Pr, y = cs[k] := ⟨_, rfl⟩
      rw [← hy] at p0 p1 HAT HAA hcN
      clear hy HA
      have hsz : (⟨y.2.toArray⟩ : ByteArray).size = y.2.length := by simp [ByteArray.size]
      have hsm : (⟨y.2.toArray⟩ : ByteArray).size ≤ maxLen := by rw [hsz]; unfold maxLen; omega
      have hW : Se.wrong y = (!Lt.allL y.2 || y.2.length == 0) := rfl
      have HW : Hid _ := hW
      have HB : Hid _ := hbel
      clear hW hbel
      have HNW : Hid (∀ o, Below w.heap.size w (wr.alloc o)) := fun o => HB.out.alloc hB0 o
      by_cases h0 : y.2 = []
      · have HF : Hid (R = false) := by show _ = _; rw [HR.out, HAA.out (by rw [HW.out, h0]; simp)]; rfl
        clear HAT HAA HW
        go_wp2
        go_ret
        exact ⟨ret_bool HF.out.symm, HNW.out _⟩
      · cases hL : Lt.allL y.2 with
        | false =>
          have HL : Hid _ := hL
          have HF : Hid (R = false) := by show _ = _; rw [HR.out, HAA.out (by rw [HW.out, hL]; rfl)]; rfl
          have hie : y.2.isEmpty = false := by simpa using h0
          clear hL HAT HAA HW h0
          go_wp2_with (go_at_call 35; refine (areLetters_any _ _ hsm).mono ?_; rintro e w' ⟨rfl, hw⟩; subst w'; rw [HL.out])
          go_ret
          exact ⟨ret_bool HF.out.symm, HNW.out _⟩
        | true =>
          have HL : Hid _ := hL
          have HA2 : Hid _ := HAT.out (by rw [HW.out, hL]; simpa using h0)
          have hie : y.2.isEmpty = false := by simpa using h0
          clear hL HAT HAA HW h0
          go_wp2_with (go_at_call 35; refine (areLetters_any _ _ hsm).mono ?_; rintro e w' ⟨rfl, hw⟩; subst w'; rw [HL.out])
          go_roundw
          case rel => exact ⟨k + 1, by omega, by go_num, HNW.out _, HA2.out⟩
          case measure => simp [intOf]; omega
    · have hke : k = cs.length := by omega
      have HF : Hid (R = decide (0 < cs.length)) := by
        show _ = _
        have h1 := HA.out
        rw [hke, List.take_length] at h1
        rw [HR.out, h1, Bool.not_false, Bool.true_and]
      have hlt' : ¬ (k : Int) < (cs.length : Int) := by omega
      clear HA hke
      go_wp2
      go_ret
      exact ⟨ret_bool HF.out.symm, hbel⟩

set_option maxRecDepth 100000 in
set_option maxHeartbeats 400000 in
theorem areContigs_nil (w : World) : Calls Tryz.prog 84 #[.slice none 0 0] w fun e w' => e = .returned (.bool false) ∧ w' = w := by
  go_enter Tryz.func84, Tryz.ntmps84
  go_wp2
  refine wp_loop_rounds 1 ?_
  rw [rounds_succ]
  go_wp2
  go_ret
  exact ⟨rfl, rfl⟩

set_option maxRecDepth 100000 in
set_option maxHeartbeats 1600000 in
theorem areTooMany_any (cs : List Pr) (G cc : Nat) (w : World) (hc : cs.length ≤ 140737488355327) (hN : ∀ x ∈ cs, x.2.length ≤ 140737488355327) (hC : Cs w G cs) :
    Calls Tryz.prog 85 #[.slice (some ⟨G, 0, none⟩) cs.length cc] w fun e w' => e = .returned (.bool (decide (4096 < Se.total cs) || decide (16 < cs.length))) ∧ Below w.heap.size w w' := by
  obtain ⟨R, hR⟩ : ∃ R, R = (decide (4096 < Se.total cs) || decide (16 < cs.length)) := ⟨_, rfl⟩
  rw [← hR]
  have HR : Hid _ := hR
  have HN : Hid _ := hN
  have HC : Hid (Cs w G cs) := hC
  clear hR hN hC
  go_enter Tryz.func85, Tryz.ntmps85
  go_wp2
  go_loopw [3, 8] (fun l i wr => ∃ k t : Nat, k ≤ cs.length ∧ i = .int .i64 (k : Int) ∧ l = .int .i64 (4096 - (t : Int)) ∧ t ≤ 4096 ∧ Below w.heap.size w wr ∧ Hid (t = Se.total (cs.take k))) (fun _ i _ => cs.length - (intOf i).toNat)
  case atStart => exact ⟨0, 0, Nat.zero_le _, rfl, by simp, by omega, Below.refl _ _, by simp [Hid, Se.total]⟩
  case round =>
    obtain ⟨k, t, hk, rfl, rfl, ht, hbel, HA⟩ := hrel
    by_cases hlt : k < cs.length
    · have hlt' : (k : Int) < (cs.length : Int) := by omega
      obtain ⟨p0, p1⟩ := Cs.below HC.out hbel k hlt
      have HTT : Hid _ := Se.total_take cs k hlt
      have HPP : Hid (Se.total (cs.take (k + 1)) ≤ Se.total cs) := by
        show _ ≤ _
        have := Se.total_append (cs.take (k + 1)) (cs.drop (k + 1))
        rw [List.take_append_drop] at this
        omega
      have hcN : cs[k].2.length ≤ 140737488355327 := HN.out _ (List.getElem_mem _)
      have hB0 := hbel.size
      obtain ⟨y, hy⟩ : ∃ y : Pr, y = cs[k] := ⟨_, rfl⟩
      rw [← hy] at p0 p1 HTT hcN
      clear hy
      have hsz : (⟨y.2.toArray⟩ : ByteArray).size = y.2.length := by simp [ByteArray.size]
      have HNW : Hid (∀ o, Below w.heap.size w (wr.alloc o)) := fun o => hbel.alloc hB0 o
      clear hbel
      by_cases h0 : 4096 - t < y.2.length
      · have h0' : (4096 : Int) - (t : Int) < (y.2.length : Int) := by omega
        have HF : Hid (R = true) := by
          show _ = _
          have h1 := HTT.out
          have h2 := HPP.out
          rw [← HA.out] at h1
          rw [HR.out, decide_eq_true (by omega), Bool.true_or]
        clear HTT HPP HA
        go_wp2
        go_ret
        exact ⟨ret_bool HF.out.symm, HNW.out _⟩
      · have h0' : ¬ (4096 : Int) - (t : Int) < (y.2.length : Int) := by omega
        have HA2 : Hid (t + y.2.length = Se.total (cs.take (k + 1))) := by show _ = _; rw [HTT.out, ← HA.out]
        clear HTT HPP HA
        go_wp2
        go_roundw
        case rel => exact ⟨k + 1, t + y.2.length, by omega, by go_num, by go_num, by omega, HNW.out _, HA2.out⟩
        case measure => simp [intOf]; omega
    · have hke : k = cs.length := by omega
      have HF : Hid (R = decide ((16 : Int) < (cs.length : Int))) := by
        show _ = _
        have h1 := HA.out
        rw [hke, List.take_length] at h1
        rw [HR.out, decide_eq_false (by omega), Bool.false_or, decide_eq_decide]
        omega
      have hlt' : ¬ (k : Int) < (cs.length : Int) := by omega
      clear HA hke
      go_wp2
      go_ret
      exact ⟨ret_bool HF.out.symm, hbel⟩

theorem Ix.frm_pos {n : Int} (hn : Lt.strandB n = true) : Lt.frm n ≠ 0 := by
  have h4 : n = 1 ∨ n = 2 ∨ n = 3 ∨ n = 4 := by
    simp only [Lt.strandB, Bool.and_eq_true, decide_eq_true_eq] at hn
    omega
  rcases h4 with rfl | rfl | rfl | rfl <;> decide

set_option maxRecDepth 100000 in
set_option maxHeartbeats 400000 in
theorem ixConvert_any (s : ByteArray) (n : Int) (w : World) (hs : s.size ≤ maxLen) (hL : Lt.allL s.data.toList = true) (hn : Lt.strandB n = true) :
    Calls Tryz.prog 89 #[.string s, .int .i64 n] w fun e w' => e = .returned (.string ⟨(Lt.conv (Lt.frm n) (Lt.tow n) s.data.toList).toArray⟩) ∧ Below w.heap.size w w' := by
  have HL : Hid _ := hL
  have HN : Hid _ := hn
  clear hL hn
  go_enter Tryz.func89, Tryz.ntmps89
  go_wp2_with (go_at_call 17; refine (convert_good _ _ _ _ _ hs HL.out rfl rfl (Ix.frm_pos HN.out)).mono ?_; rintro e w1 ⟨rfl, hb1⟩)
  go_ret
  exact ⟨rfl, hb1⟩

/-- the letters of contigs, bleached, as cells -/
def Ix.str (n : Int) (x : Pr) : Value := .string ⟨(Lt.conv (Lt.frm n) (Lt.tow n) x.2).toArray⟩
def Ix.strs (n : Int) (cs : List Pr) : List Value := cs.map (Ix.str n)
theorem Ix.strs_length (n : Int) (cs : List Pr) : (Ix.strs n cs).length = cs.length := by simp [Ix.strs]
/-- while they are made -/
def Ix.part (n : Int) (cs : List Pr) (k : Nat) : List Value := Ix.strs n (cs.take k) ++ List.replicate (cs.length - k) (.string ⟨#[]⟩)
theorem Ix.part_zero (n : Int) (cs : List Pr) : Ix.part n cs 0 = List.replicate cs.length (.string ⟨#[]⟩) := by simp [Ix.part, Ix.strs]
theorem Ix.part_whole (n : Int) (cs : List Pr) : Ix.part n cs cs.length = Ix.strs n cs := by simp [Ix.part]
theorem Ix.part_set (n : Int) (cs : List Pr) (k : Nat) (h : k < cs.length) : (Ix.part n cs k).set k (Ix.str n cs[k]) = Ix.part n cs (k + 1) := by
  unfold Ix.part
  have h1 : (Ix.strs n (cs.take k)).length = k := by rw [Ix.strs_length, List.length_take]; omega
  rw [List.set_append, if_neg (by omega), h1, Nat.sub_self, List.take_succ_eq_append_getElem h]
  obtain ⟨m, hm⟩ : ∃ m, cs.length - k = m + 1 := ⟨cs.length - k - 1, by omega⟩
  rw [hm, show cs.length - (k + 1) = m by omega, List.replicate_succ, List.set_cons_zero]
  simp only [Ix.strs, List.map_append, List.map_cons, List.map_nil, List.append_assoc, List.singleton_append]

theorem Tryz.infoStr : (Tryz.prog.info? 9).map (fun i => (i.zero, i.size, i.bytes)) = some (some (.string ⟨#[]⟩), 1, 16) := by kernel_rfl

set_option maxRecDepth 100000 in
set_option maxHeartbeats 1600000 in
theorem converted_any (cs : List Pr) (G cc : Nat) (n : Int) (w : World) (hc : cs.length ≤ 1000) (hN : ∀ x ∈ cs, x.2.length ≤ 100000) (hL : ∀ x ∈ cs, Lt.allL x.2 = true) (hn : Lt.strandB n = true) (hC : Cs w G cs) :
    Calls Tryz.prog 86 #[.slice (some ⟨G, 0, none⟩) cs.length cc, .int .i64 n] w fun e w' => ∃ v, e = .returned v ∧ w'.ownsRow w.heap.size 9 1 v cs.length (Ix.strs n cs) ∧ Below w.heap.size w w' := by
  have HN : Hid _ := hN
  have HL : Hid _ := hL
  have HS : Hid _ := hn
  have HC : Hid (Cs w G cs) := hC
  clear hN hL hn hC
  obtain ⟨i0, hi, hz0, hz1, hz2⟩ := info_parts Tryz.infoStr
  go_enter Tryz.func86, Tryz.ntmps86
  go_wp2_with (at_make; refine wpList_make_full _ rfl _ _ 120 rfl w.heap.size 9 i0 (.string ⟨#[]⟩) 1 Tryz.underlying120 hi hz0 hz1 _ _ _ _ cs.length rfl rfl rfl rfl (by rw [hz2]; omega) (by unfold maxLen; omega) (Nat.le_refl _) ?_; intro w1 hown0 hgrow; rw [show (madeCells (Value.string ⟨#[]⟩).cells (cs.length * 1)).toList = List.replicate cs.length (.string ⟨#[]⟩) from by rw [Nat.mul_one]; exact toList_madeCells_one _ _, ← Ix.part_zero n cs] at hown0)
  have hb1 : Below w.heap.size w w1 := (Below.refl _ _).grown hgrow (Nat.le_refl _) (fun k hk => by cases hk)
  clear hgrow
  go_loopw [13] (fun i wr => ∃ k : Nat, k ≤ cs.length ∧ i = .int .i64 (k : Int) ∧ wr.ownsRow w.heap.size 9 1 (.slice (some ⟨w.heap.size, 0, none⟩) cs.length cs.length) cs.length (Ix.part n cs k) ∧ Below w.heap.size w wr) (fun i _ => cs.length - (intOf i).toNat)
  case atStart => exact ⟨0, Nat.zero_le _, rfl, hown0, hb1⟩
  case round =>
    clear hown0 hb1
    obtain ⟨k, hk, rfl, hown, hbel⟩ := hrel
    by_cases hlt : k < cs.length
    · have hlt' : (k : Int) < (cs.length : Int) := by omega
      obtain ⟨p0, p1⟩ := Cs.below HC.out hbel k hlt
      have hcN : cs[k].2.length ≤ 100000 := HN.out _ (List.getElem_mem _)
      have HLk : Hid _ := HL.out cs[k] (List.getElem_mem _)
      have HSET : Hid _ := Ix.part_set n cs k hlt
      have hB0 := hbel.size
      obtain ⟨y, hy⟩ : ∃ y : Pr, y = cs[k] := ⟨_, rfl⟩
      rw [← hy] at p0 p1 HLk HSET hcN
      clear hy
      have hsz : (⟨y.2.toArray⟩ : ByteArray).size = y.2.length := by simp [ByteArray.size]
      have hsm : (⟨y.2.toArray⟩ : ByteArray).size ≤ maxLen := by rw [hsz]; unfold maxLen; omega
      have HO : Hid _ := hown
      have HB : Hid _ := hbel
      clear hown hbel
      go_wp2_with fail
      refine (ixConvert_any ⟨y.2.toArray⟩ n _ hsm (by simpa using HLk.out) HS.out).mono ?_
      rintro e w2 ⟨rfl, hb2⟩
      rw [show (⟨y.2.toArray⟩ : ByteArray).data.toList = y.2 from by simp]
      have hstr : Ix.str n y = .string ⟨(Lt.conv (Lt.frm n) (Lt.tow n) y.2).toArray⟩ := rfl
      rw [hstr] at HSET
      generalize (⟨(Lt.conv (Lt.frm n) (Lt.tow n) y.2).toArray⟩ : ByteArray) = B at *
      have ho2 := own_below (World.ownsRow.alloc HO.out _) hb2
      obtain ⟨v0, hc0, _⟩ := own_cell ho2 k hlt
      have hfr := ho2.frozenAt k
      have hst := ho2.stored k (.string B)
      rw [HSET.out] at hst
      have HST : Hid _ := hst.1
      have hbB : Below w.heap.size w w2 := (HB.out.alloc hB0 _).trans (hb2.mono (by simp; omega))
      have HB2 : Hid _ := hbB.setCell (p := ⟨w.heap.size, k, none⟩) (Nat.le_refl _) (.string B)
      clear hst ho2 hbB hb2 p0 p1 hstr HSET
      go_wp2
      go_roundw
      case rel => exact ⟨k + 1, by omega, by go_num, HST.out, HB2.out⟩
      case measure => simp [intOf]; omega
    · have hke : k = cs.length := by omega
      rw [hke, Ix.part_whole] at hown
      have hlt' : ¬ (k : Int) < (cs.length : Int) := by omega
      clear hke
      go_wp2
      go_ret
      exact ⟨_, rfl, hown, hbel⟩

end Go.Proofs.YtfcbgfomhmcikaaGreatDoor

namespace Go.Proofs.YtfcbgfomhmcikaaGreatDoor
open Go.RowKit

/-- an index that answers for contigs -/
def IxAt (X : World) (B : Nat) (p : Value) (cs : List Pr) : Prop :=
  ∃ bx top bot, p = .pointer (some ⟨bx, 0, none⟩) ∧ X.ownsRow B 134 2 (.slice (some ⟨bx, 0, none⟩) 1 1) 1 [top, bot] ∧ X.ownsRow B 9 1 top cs.length (Ix.strs 1 cs) ∧ X.ownsRow B 9 1 bot cs.length (Ix.strs 2 cs)

theorem IxAt.below {X Y : World} {B : Nat} {p : Value} {cs : List Pr} (h : IxAt X B p cs) (hb : Below X.heap.size X Y) : IxAt Y B p cs := by
  obtain ⟨bx, top, bot, h1, h2, h3, h4⟩ := h
  exact ⟨bx, top, bot, h1, own_below h2 hb, own_below h3 hb, own_below h4 hb⟩

theorem Se.err_two (cs : List Pr) (h : (!cs.any Se.wrong && decide (0 < cs.length)) = false) : Se.newErr cs = 2 := by
  unfold Se.newErr
  by_cases h0 : cs.length = 0
  · rw [if_pos h0]
  · rw [if_neg h0]
    have : cs.any Se.wrong = true := by
      rw [decide_eq_true (by omega), Bool.and_true] at h
      simpa using h
    rw [if_pos this]
theorem Se.err_four (cs : List Pr) (h : (!cs.any Se.wrong && decide (0 < cs.length)) = true) (h4 : (decide (4096 < Se.total cs) || decide (16 < cs.length)) = true) : Se.newErr cs = 4 := by
  rw [Bool.and_eq_true] at h
  unfold Se.newErr
  rw [if_neg (by have := of_decide_eq_true h.2; omega), if_neg (by have := h.1; simpa using this)]
  rw [Bool.or_eq_true] at h4
  by_cases h16 : 16 < cs.length
  · rw [if_pos h16]
  · rw [if_neg h16]
    rcases h4 with h4 | h4
    · rw [if_pos (of_decide_eq_true h4)]
    · exact absurd (of_decide_eq_true h4) h16
theorem Se.err_none (cs : List Pr) (h : (!cs.any Se.wrong && decide (0 < cs.length)) = true) (h4 : (decide (4096 < Se.total cs) || decide (16 < cs.length)) = false) : Se.newErr cs = 0 := by
  rw [Bool.and_eq_true] at h
  rw [Bool.or_eq_false_iff] at h4
  unfold Se.newErr
  rw [if_neg (by have := of_decide_eq_true h.2; omega), if_neg (by have := h.1; simpa using this), if_neg (of_decide_eq_false h4.2), if_neg (of_decide_eq_false h4.1)]

theorem Se.total_mem (cs : List Pr) (x : Pr) (h : x ∈ cs) : x.2.length ≤ Se.total cs := by
  induction cs with
  | nil => cases h
  | cons c r ih =>
    simp only [Se.total]
    rcases List.mem_cons.1 h with rfl | h
    · omega
    · have := ih h; omega

/-- what is so of contigs that New takes -/
structure Se.Right (cs : List Pr) : Prop where
  pos : 0 < cs.length
  few : cs.length ≤ 16
  len : ∀ x ∈ cs, x.2.length ≤ 4096
  let_ : ∀ x ∈ cs, Lt.allL x.2 = true

theorem Se.right_of (cs : List Pr) (h : Se.newErr cs = 0) : Se.Right cs := by
  unfold Se.newErr at h
  split at h
  · simp at h
  · split at h
    · simp at h
    · split at h
      · simp at h
      · split at h
        · simp at h
        · next h0 h1 h2 h3 =>
          refine ⟨by omega, by omega, fun x hx => by have := Se.total_mem cs x hx; omega, fun x hx => ?_⟩
          have h4 : ¬ Se.wrong x = true := fun hw => h1 (List.any_eq_true.2 ⟨x, hx, hw⟩)
          simp only [Se.wrong, Bool.or_eq_true, Bool.not_eq_true', not_or, Bool.not_eq_false] at h4
          exact h4.1

theorem ret_two' {v : Value} {a b : Int} (h : a = b) : Ending.returned (.tuple #[v, .int .i64 a]) = .returned (.tuple #[v, .int .i64 b]) := by rw [h]

set_option maxRecDepth 100000 in
set_option maxHeartbeats 400000 in
theorem ixNew_nil (w : World) : Calls Tryz.prog 52 #[.slice none 0 0] w fun e w' => e = .returned (.tuple #[.pointer none, .int .i64 2]) ∧ w' = w := by
  go_enter Tryz.func52, Tryz.ntmps52
  go_wp2_with (go_at_call 84; refine (areContigs_nil _).mono ?_; rintro e w' ⟨rfl, hw⟩; subst w')
  go_ret2
  exact ⟨rfl, rfl⟩

set_option maxRecDepth 100000 in
set_option maxHeartbeats 1600000 in
theorem ixNew_any (cs : List Pr) (G cc : Nat) (w : World) (hc : cs.length ≤ 140737488355327) (hN : ∀ x ∈ cs, x.2.length ≤ 140737488355327) (hC : Cs w G cs) :
    Calls Tryz.prog 52 #[.slice (some ⟨G, 0, none⟩) cs.length cc] w fun e w' => ∃ p, e = .returned (.tuple #[p, .int .i64 (Se.newErr cs)]) ∧ Below w.heap.size w w' ∧ ((Se.newErr cs ≠ 0 ∧ p = .pointer none) ∨ (Se.newErr cs = 0 ∧ IxAt w' w.heap.size p cs)) := by
  have HN : Hid _ := hN
  have HC : Hid (Cs w G cs) := hC
  clear hN hC
  cases h1 : (!cs.any Se.wrong && decide (0 < cs.length)) with
  | false =>
    have HE : Hid _ := Se.err_two cs h1
    have H1 : Hid _ := h1
    clear h1
    go_enter Tryz.func52, Tryz.ntmps52
    go_wp2_with (go_at_call 84; refine (areContigs_any cs G cc _ hc HN.out HC.out).mono ?_; rw [H1.out]; rintro e w1 ⟨rfl, hb1⟩)
    go_ret2
    exact ⟨_, ret_two' HE.out.symm, hb1, .inl ⟨by rw [HE.out]; decide, rfl⟩⟩
  | true =>
    have H1 : Hid _ := h1
    cases h2 : (decide (4096 < Se.total cs) || decide (16 < cs.length)) with
    | true =>
      have HE : Hid _ := Se.err_four cs h1 h2
      have H2 : Hid _ := h2
      clear h1 h2
      go_enter Tryz.func52, Tryz.ntmps52
      go_wp2_with fail
      refine (areContigs_any cs G cc _ hc HN.out HC.out).mono ?_
      rw [H1.out]
      rintro e w1 ⟨rfl, hb1⟩
      go_wp2_with fail
      refine (areTooMany_any cs G cc _ hc HN.out (Cs.below HC.out hb1)).mono ?_
      rw [H2.out]
      rintro e w2 ⟨rfl, hb2⟩
      go_wp2
      go_ret2
      exact ⟨_, ret_two' HE.out.symm, hb1.trans (hb2.mono hb1.size), .inl ⟨by rw [HE.out]; decide, rfl⟩⟩
    | false =>
      have HE : Hid _ := Se.err_none cs h1 h2
      have H2 : Hid _ := h2
      clear h1 h2
      have hr := Se.right_of cs HE.out
      have hfew := hr.few
      have HLN : Hid (∀ x ∈ cs, x.2.length ≤ 100000) := fun x hx => by have := hr.len x hx; omega
      have HLL : Hid _ := hr.let_
      clear hr
      go_enter Tryz.func52, Tryz.ntmps52
      go_wp2_with fail
      refine (areContigs_any cs G cc _ hc HN.out HC.out).mono ?_
      rw [H1.out]
      rintro e w1 ⟨rfl, hb1⟩
      go_wp2_with fail
      refine (areTooMany_any cs G cc _ hc HN.out (Cs.below HC.out hb1)).mono ?_
      rw [H2.out]
      rintro e w2 ⟨rfl, hb2⟩
      have hb12 := hb1.trans (hb2.mono hb1.size)
      have HC2 : Hid _ := Cs.below HC.out hb12
      go_wp2_with fail
      refine (converted_any cs G cc 1 _ (by omega) HLN.out HLL.out (by decide) HC2.out).mono ?_
      rintro e w3 ⟨v1, rfl, ho1, hb3⟩
      go_wp2_with fail
      refine (converted_any cs G cc 2 _ (by omega) HLN.out HLL.out (by decide) (Cs.below HC2.out hb3)).mono ?_
      rintro e w4 ⟨v2, rfl, ho2, hb4⟩
      have hb13 := hb12.trans (hb3.mono hb12.size)
      have hb14 := hb13.trans (hb4.mono hb13.size)
      have s1 := hb12.size
      have s2 := hb13.size
      have s3 := hb14.size
      have o1 := own_base (own_below ho1 hb4) s1
      have o2 := own_base ho2 s2
      have hfin : IxAt (w4.alloc (.cells #[v1, v2] 134)) w.heap.size (.pointer (some ⟨w4.heap.size, 0, none⟩)) cs :=
        ⟨w4.heap.size, v1, v2, rfl, World.ownsRow_lit w4 #[v1, v2] 1 s3 (by decide) rfl, o1.alloc _, o2.alloc _⟩
      have HFIN : Hid _ := hfin
      have HBF : Hid _ := hb14.alloc s3 (.cells #[v1, v2] 134)
      obtain ⟨a1, c1, hf1⟩ := own_form ho1
      obtain ⟨a2, c2, hf2⟩ := own_form ho2
      subst hf1 hf2
      clear hfin o1 o2 ho1 ho2 hb3 hb4 hb13 hb14 hb12 hb1 hb2
      go_wp2
      go_ret2
      exact ⟨_, ret_two' HE.out.symm, HBF.out, .inr ⟨HE.out, HFIN.out⟩⟩

end Go.Proofs.YtfcbgfomhmcikaaGreatDoor

namespace Go.Proofs.YtfcbgfomhmcikaaGreatDoor
open Go.RowKit

theorem extract_tail (l : List UInt8) (q : Nat) (_h : q ≤ l.length) : ((⟨l.toArray⟩ : ByteArray).extract q l.length).data.toList = l.drop q := by
  rw [extract_piece]
  show Tx.piece ⟨l.toArray⟩ q l.length = _
  rw [Tx.piece]
  show (l.drop q).take (l.length - q) = _
  rw [List.take_of_length_le (by simp)]

set_option maxRecDepth 100000 in
set_option maxHeartbeats 4000000 in
theorem places_any (cs : List Pr) (gx cc : Nat) (S : List UInt8) (n b : Int) (w : World) (hn : Lt.strandB n = true) (hb0 : 0 ≤ b) (hb3 : b ≤ 3) (hc : cs.length ≤ 1000) (hN : ∀ x ∈ cs, x.2.length ≤ 100000) (hS : S.length ≤ 1000)
    (hcell : ∀ k (h : k < cs.length), w.cell? ⟨gx, k, none⟩ = some (Ix.str n cs[k])) :
    Calls Tryz.prog 87 #[.slice (some ⟨gx, 0, none⟩) cs.length cc, .string ⟨(Lt.conv (Lt.frm n) (Lt.tow n) S).toArray⟩, .int .i64 b] w fun e w' =>
      ∃ v, e = .returned v ∧ w'.ownsRow w.heap.size 67 2 v (Se.inAll n b S cs cs.length).length (Se.pls (Se.inAll n b S cs cs.length)) ∧ Below w.heap.size w w' := by
  have HN : Hid _ := hN
  have HCL : Hid _ := hcell
  have HST0 : Hid _ := hn
  clear hN hcell hn
  obtain ⟨s, hs⟩ : ∃ s : ByteArray, s = ⟨(Lt.conv (Lt.frm n) (Lt.tow n) S).toArray⟩ := ⟨_, rfl⟩
  rw [← hs]
  have hss : s.size = S.length := by rw [hs]; simp [ByteArray.size, Lt.conv_length]
  have HS : Hid (s.data.toList = Lt.conv (Lt.frm n) (Lt.tow n) S) := by show _ = _; rw [hs]
  clear hs
  go_enter Tryz.func87, Tryz.ntmps87
  go_wp2
  go_loopw [7, 13] (fun v i wr => ∃ k : Nat, k ≤ cs.length ∧ i = .int .i64 (k : Int) ∧ wr.ownsRow w.heap.size 67 2 v (Se.inAll n b S cs k).length (Se.pls (Se.inAll n b S cs k)) ∧ Below w.heap.size w wr) (fun _ i _ => cs.length - (intOf i).toNat)
  case atStart => exact ⟨0, Nat.zero_le _, rfl, World.ownsRow_nil _ _ _ _, Below.refl _ _⟩
  case round =>
    obtain ⟨k, hk, rfl, hown, hbel⟩ := hrel
    by_cases hlt : k < cs.length
    · have hlt' : (k : Int) < (cs.length : Int) := by omega
      have hck : wr.cell? ⟨gx, k, none⟩ = some (Ix.str n cs[k]) := by
        have h0 := HCL.out k hlt
        rw [hbel.cell (p := ⟨gx, k, none⟩) (World.block_lt_of_cell? w _ h0)]
        exact h0
      obtain ⟨x, hx⟩ : ∃ x, x = cs[k] := ⟨_, rfl⟩
      have hxN : x.2.length ≤ 100000 := HN.out x (by rw [hx]; exact List.getElem_mem _)
      have HX : Hid (Se.inAll n b S cs (k + 1) = Se.inAll n b S cs k ++ Se.inOne n b S x.2 k) := by show _ = _; rw [Se.inAll, List.getElem?_eq_getElem hlt, hx]
      have HLEN : Hid _ := Se.inAll_length n b S cs 100000 HN.out k
      rw [← hx, Ix.str] at hck
      clear hx
      obtain ⟨T, hT⟩ : ∃ T, T = Lt.conv (Lt.frm n) (Lt.tow n) x.2 := ⟨_, rfl⟩
      have HTL : Hid (T.length = x.2.length) := by show _ = _; rw [hT, Lt.conv_length]
      have hTN : T.length ≤ 100000 := by rw [HTL.out]; exact hxN
      rw [← hT] at hck
      have HT : Hid _ := hT
      clear hT
      have hTs : (⟨T.toArray⟩ : ByteArray).size = T.length := by simp [ByteArray.size]
      generalize hP : Se.inAll n b S cs k = P at *
      clear hP
      obtain ⟨va, vcap, hv⟩ := own_form hown
      subst hv
      have HO0 : Hid _ := hown
      have HB0 : Hid _ := hbel
      clear hown hbel
      go_wp2
      go_loopw [7, 24] (fun v i wr2 => ∃ q : Nat, q ≤ T.length + 1 - S.length ∧ i = .int .i64 (q : Int) ∧ wr2.ownsRow w.heap.size 67 2 v (P ++ Se.upto n b S x.2 k q).length (Se.pls (P ++ Se.upto n b S x.2 k q)) ∧ Below w.heap.size w wr2) (fun _ i _ => T.length + 1 - S.length - (intOf i).toNat)
      case atStart => exact ⟨0, Nat.zero_le _, rfl, by rw [show P ++ Se.upto n b S x.2 k 0 = P from by simp [Se.upto]]; exact HO0.out, HB0.out⟩
      case round =>
        clear HO0 HB0 hck
        obtain ⟨q, hq, rfl, hown, hbel⟩ := hrel
        obtain ⟨va2, vcap2, hv⟩ := own_form hown
        subst hv
        by_cases hin : q + S.length ≤ T.length
        · have hin' : (q : Int) < (T.length : Int) - (S.length : Int) + 1 := by omega
          have hqT : q ≤ T.length := by omega
          have hex := extract_tail T q hqT
          have hes : s.size ≤ ((⟨T.toArray⟩ : ByteArray).extract q T.length).size := by rw [ByteArray.size_extract, hTs]; omega
          have hem : ((⟨T.toArray⟩ : ByteArray).extract q T.length).size ≤ 140737488355327 := by rw [ByteArray.size_extract, hTs]; omega
          have HRES : Hid (decide ((Ix.miss s.data.toList ((⟨T.toArray⟩ : ByteArray).extract q T.length).data.toList : Int) ≤ b) = Se.stands n b S x.2 q) := by
            show _ = _
            rw [hex, HS.out, HT.out]
            exact Ix.conv_drop_miss HST0.out S x.2 q b
          have HOWN : Hid _ := hown
          have HUP : Hid _ := Se.upto_succ n b S x.2 k q
          have HUL : Hid _ := Se.upto_length n b S x.2 k q
          clear hex hown
          go_wp2_with fail
          refine (stands_any s _ b _ hes hem hb0 hb3).mono ?_
          rw [HRES.out]
          rintro e w2 ⟨rfl, hw2⟩
          have hb2 : Below wr.heap.size wr w2 := by obtain ⟨m, rfl⟩ := hw2; exact below_drewN (Below.refl _ _) m
          have HO2 : Hid _ := own_below HOWN.out hb2
          have hbel2 := hbel.trans (hb2.mono hbel.size)
          have HB2 : Hid _ := hbel2
          clear hw2 hb2 HRES HOWN hes hem
          have hsz2 := hbel2.size
          clear hbel2 hbel
          have HPL : Hid ((P ++ Se.upto n b S x.2 k q).length ≤ 1000 * 100001 + 100001) := by
            show _ ≤ _
            have h1 := HLEN.out
            have h2 := HUL.out
            have h3 : k * (100000 + 1) ≤ 1000 * (100000 + 1) := Nat.mul_le_mul_right _ (by omega)
            rw [List.length_append]
            omega
          obtain ⟨L, hL⟩ : ∃ L, L = P ++ Se.upto n b S x.2 k q := ⟨_, rfl⟩
          rw [← hL] at HO2 HPL ⊢
          have HL : Hid _ := hL
          clear hL
          cases hst : Se.stands n b S x.2 q with
          | true =>
            have HST : Hid _ := hst
            clear hst
            have hpl := HPL.out
            go_wp2_with (at_builtin; refine app_src rfl _ _ 65 rfl w.heap.size 67 _ 2 16 Tryz.underlying65 Tryz.infoPlace rfl (by decide) (.slice va2 L.length vcap2) L.length (Se.pls L) (.slice (some ⟨w2.heap.size, 0, none⟩) 1 1) 1 [.int .i64 (k : Int), .int .i64 (q : Int)] rfl rfl (by exact World.ownsRow.alloc HO2.out _) (.inr ⟨_, _, rfl, by exact two_cells _ _ _ _⟩) rfl (by simp [Value.oneCell']) (by exact Below.alloc HB2.out hsz2 _) (by simp; omega) (by omega) (by decide) ?_; intro v3 w3 hown3 hbel3 _ _)
            go_roundw
            case rel =>
              refine ⟨q + 1, by omega, by go_num, ?_, hbel3⟩
              rw [HUP.out, HST.out, if_pos rfl, ← List.append_assoc, ← HL.out, Se.pls_append, List.length_append]
              exact hown3
            case measure => simp [intOf]; omega
          | false =>
            have HST : Hid _ := hst
            clear hst
            go_wp2
            go_roundw
            case rel =>
              refine ⟨q + 1, by omega, by go_num, ?_, HB2.out⟩
              rw [HUP.out, HST.out, if_neg (by simp), List.append_nil, ← HL.out]
              exact HO2.out
            case measure => simp [intOf]; omega
        · have hin' : ¬ (q : Int) < (T.length : Int) - (S.length : Int) + 1 := by omega
          have HQE : Hid (q = x.2.length + 1 - S.length) := by show _ = _; have := HTL.out; omega
          have HOWN : Hid _ := hown
          have HB2 : Hid _ := hbel
          clear hown hbel
          go_wp2
          go_roundw
          case rel =>
            refine ⟨k + 1, by omega, by go_num, ?_, HB2.out⟩
            rw [HX.out, Se.inOne, ← HQE.out]
            exact HOWN.out
          case measure => simp [intOf]; omega
    · have hke : k = cs.length := by omega
      have hlt' : ¬ (k : Int) < (cs.length : Int) := by omega
      rw [hke] at hown
      have HO : Hid _ := hown
      clear hke hown
      go_wp2
      go_ret
      exact ⟨_, rfl, HO.out, hbel⟩

end Go.Proofs.YtfcbgfomhmcikaaGreatDoor
