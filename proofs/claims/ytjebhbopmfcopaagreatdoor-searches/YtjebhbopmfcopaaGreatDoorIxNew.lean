/-
  THE WALKS of the program's New: areContigs, areTooMany, convert, converted. Own text of the verifier.
-/
import Derived.Test.YtjebhbopmfcopaaGreatDoorSeNew
import Derived.Test.YtjebhbopmfcopaaGreatDoorConvert
import Derived.Test.YtjebhbopmfcopaaGreatDoorTxMarks
namespace Go.Proofs.YtjebhbopmfcopaaGreatDoor
open Go.RowKit

/-- contigs from the head of a block on -/
def Cs (w : World) (G : Nat) (cs : List Pr) : Prop := ∀ k (h : k < cs.length), w.cell? ⟨G, k * 2, none⟩ = some (.string ⟨cs[k].1.toArray⟩) ∧ w.cell? ⟨G, k * 2 + 1, none⟩ = some (.string ⟨cs[k].2.toArray⟩)

theorem Cs.below {w w' : World} {G : Nat} {cs : List Pr} (h : Cs w G cs) (hb : Below w.heap.size w w') : Cs w' G cs := by
  intro k hk
  obtain ⟨h0, h1⟩ := h k hk
  have hl := World.block_lt_of_cell? w _ h0
  rw [hb.cell (p := ⟨G, k * 2, none⟩) hl, hb.cell (p := ⟨G, k * 2 + 1, none⟩) hl]
  exact ⟨h0, h1⟩

theorem strEmpty (l : List UInt8) : l.isEmpty = decide (l.length = 0) := by cases l <;> simp

set_option maxRecDepth 100000 in
set_option maxHeartbeats 1600000 in
theorem areContigs_any (cs : List Pr) (G cc : Nat) (w : World) (hc : cs.length ≤ 140737488355327) (hN : ∀ x ∈ cs, x.2.length ≤ 140737488355327) (hC : Cs w G cs) :
    Calls Tryz.prog 58 #[.slice (some ⟨G, 0, none⟩) cs.length cc] w fun e w' => e = .returned (.bool (!cs.any Se.wrong && decide (0 < cs.length))) ∧ Below w.heap.size w w' := by
  obtain ⟨R, hR⟩ : ∃ R, R = (!cs.any Se.wrong && decide (0 < cs.length)) := ⟨_, rfl⟩
  rw [← hR]
  have HR : Hid _ := hR
  have HN : Hid _ := hN
  have HC : Hid (Cs w G cs) := hC
  clear hR hN hC
  go_enter Tryz.func58, Tryz.ntmps58
  go_wp2
  go_loopw [7] (fun i wr => ∃ k : Nat, k ≤ cs.length ∧ i = .int .i64 (k : Int) ∧ Below w.heap.size w wr ∧ Hid ((cs.take k).any Se.wrong = false)) (fun i _ => cs.length - (intOf i).toNat)
  case atStart => exact ⟨0, Nat.zero_le _, rfl, Below.refl _ _, by simp [Hid]⟩
  case round =>
    obtain ⟨k, hk, rfl, hbel, HA⟩ := hrel
    by_cases hlt : k < cs.length
    · have hlt' : (k : Int) < (cs.length : Int) := by omega
      obtain ⟨p0, p1⟩ := Cs.below HC.out hbel k hlt
      have HAT : Hid _ := Se.any_take cs k hlt HA.out
      have HAA : Hid _ := Se.any_at cs k hlt
      have hcN : cs[k].2.length ≤ 140737488355327 := HN.out _ (List.getElem_mem _)
      have hB0 := hbel.size
      obtain ⟨y, hy⟩ : ∃ y : Pr, y = cs[k] := ⟨_, rfl⟩
      rw [← hy] at p0 p1 HAT HAA hcN
      clear hy HA
      have hsz : (⟨y.2.toArray⟩ : ByteArray).size = y.2.length := by simp [ByteArray.size]
      have hsm : (⟨y.2.toArray⟩ : ByteArray).size ≤ maxLen := by rw [hsz]; unfold maxLen; omega
      have hW : Se.wrong y = (!Lt.allL y.2 || y.2.length == 0) := rfl
      have HW : Hid _ := hW
      have HB : Hid _ := hbel
      clear hW hbel
      have HNW : Hid (∀ o, Below w.heap.size w (wr.alloc o)) := fun o => HB.out.alloc hB0 o
      by_cases h0 : y.2 = []
      · have HF : Hid (R = false) := by show _ = _; rw [HR.out, HAA.out (by rw [HW.out, h0]; simp)]; rfl
        clear HAT HAA HW
        go_wp2
        go_ret
        exact ⟨ret_bool HF.out.symm, HNW.out _⟩
      · cases hL : Lt.allL y.2 with
        | false =>
          have HL : Hid _ := hL
          have HF : Hid (R = false) := by show _ = _; rw [HR.out, HAA.out (by rw [HW.out, hL]; rfl)]; rfl
          have hie : y.2.isEmpty = false := by simpa using h0
          clear hL HAT HAA HW h0
          go_wp2_with (go_at_call 98; refine (areLetters_any _ _ hsm).mono ?_; rintro e w' ⟨rfl, hw⟩; subst w'; rw [HL.out])
          go_ret
          exact ⟨ret_bool HF.out.symm, HNW.out _⟩
        | true =>
          have HL : Hid _ := hL
          have HA2 : Hid _ := HAT.out (by rw [HW.out, hL]; simpa using h0)
          have hie : y.2.isEmpty = false := by simpa using h0
          clear hL HAT HAA HW h0
          go_wp2_with (go_at_call 98; refine (areLetters_any _ _ hsm).mono ?_; rintro e w' ⟨rfl, hw⟩; subst w'; rw [HL.out])
          go_roundw
          case rel => exact ⟨k + 1, by omega, by go_num, HNW.out _, HA2.out⟩
          case measure => simp [intOf]; omega
    · have hke : k = cs.length := by omega
      have HF : Hid (R = decide (0 < cs.length)) := by
        show _ = _
        have h1 := HA.out
        rw [hke, List.take_length] at h1
        rw [HR.out, h1, Bool.not_false, Bool.true_and]
      have hlt' : ¬ (k : Int) < (cs.length : Int) := by omega
      clear HA hke
      go_wp2
      go_ret
      exact ⟨ret_bool HF.out.symm, hbel⟩

set_option maxRecDepth 100000 in
set_option maxHeartbeats 400000 in
theorem areContigs_nil (w : World) : Calls Tryz.prog 58 #[.slice none 0 0] w fun e w' => e = .returned (.bool false) ∧ w' = w := by
  go_enter Tryz.func58, Tryz.ntmps58
  go_wp2
  refine wp_loop_rounds 1 ?_
  rw [rounds_succ]
  go_wp2
  go_ret
  exact ⟨rfl, rfl⟩

set_option maxRecDepth 100000 in
set_option maxHeartbeats 1600000 in
theorem areTooMany_any (cs : List Pr) (G cc : Nat) (w : World) (hc : cs.length ≤ 140737488355327) (hN : ∀ x ∈ cs, x.2.length ≤ 140737488355327) (hC : Cs w G cs) :
    Calls Tryz.prog 59 #[.slice (some ⟨G, 0, none⟩) cs.length cc] w fun e w' => e = .returned (.bool (decide (4096 < Se.total cs) || decide (16 < cs.length))) ∧ Below w.heap.size w w' := by
  obtain ⟨R, hR⟩ : ∃ R, R = (decide (4096 < Se.total cs) || decide (16 < cs.length)) := ⟨_, rfl⟩
  rw [← hR]
  have HR : Hid _ := hR
  have HN : Hid _ := hN
  have HC : Hid (Cs w G cs) := hC
  clear hR hN hC
  go_enter Tryz.func59, Tryz.ntmps59
  go_wp2
  go_loopw [3, 8] (fun l i wr => ∃ k t : Nat, k ≤ cs.length ∧ i = .int .i64 (k : Int) ∧ l = .int .i64 (4096 - (t : Int)) ∧ t ≤ 4096 ∧ Below w.heap.size w wr ∧ Hid (t = Se.total (cs.take k))) (fun _ i _ => cs.length - (intOf i).toNat)
  case atStart => exact ⟨0, 0, Nat.zero_le _, rfl, by simp, by omega, Below.refl _ _, by simp [Hid, Se.total]⟩
  case round =>
    obtain ⟨k, t, hk, rfl, rfl, ht, hbel, HA⟩ := hrel
    by_cases hlt : k < cs.length
    · have hlt' : (k : Int) < (cs.length : Int) := by omega
      obtain ⟨p0, p1⟩ := Cs.below HC.out hbel k hlt
      have HTT : Hid _ := Se.total_take cs k hlt
      have HPP : Hid (Se.total (cs.take (k + 1)) ≤ Se.total cs) := by
        show _ ≤ _
        have := Se.total_append (cs.take (k + 1)) (cs.drop (k + 1))
        rw [List.take_append_drop] at this
        omega
      have hcN : cs[k].2.length ≤ 140737488355327 := HN.out _ (List.getElem_mem _)
      have hB0 := hbel.size
      obtain ⟨y, hy⟩ : ∃ y : Pr, y = cs[k] := ⟨_, rfl⟩
      rw [← hy] at p0 p1 HTT hcN
      clear hy
      have hsz : (⟨y.2.toArray⟩ : ByteArray).size = y.2.length := by simp [ByteArray.size]
      have HNW : Hid (∀ o, Below w.heap.size w (wr.alloc o)) := fun o => hbel.alloc hB0 o
      clear hbel
      by_cases h0 : 4096 - t < y.2.length
      · have h0' : (4096 : Int) - (t : Int) < (y.2.length : Int) := by omega
        have HF : Hid (R = true) := by
          show _ = _
          have h1 := HTT.out
          have h2 := HPP.out
          rw [← HA.out] at h1
          rw [HR.out, decide_eq_true (by omega), Bool.true_or]
        clear HTT HPP HA
        go_wp2
        go_ret
        exact ⟨ret_bool HF.out.symm, HNW.out _⟩
      · have h0' : ¬ (4096 : Int) - (t : Int) < (y.2.length : Int) := by omega
        have HA2 : Hid (t + y.2.length = Se.total (cs.take (k + 1))) := by show _ = _; rw [HTT.out, ← HA.out]
        clear HTT HPP HA
        go_wp2
        go_roundw
        case rel => exact ⟨k + 1, t + y.2.length, by omega, by go_num, by go_num, by omega, HNW.out _, HA2.out⟩
        case measure => simp [intOf]; omega
    · have hke : k = cs.length := by omega
      have HF : Hid (R = decide ((16 : Int) < (cs.length : Int))) := by
        show _ = _
        have h1 := HA.out
        rw [hke, List.take_length] at h1
        rw [HR.out, decide_eq_false (by omega), Bool.false_or, decide_eq_decide]
        omega
      have hlt' : ¬ (k : Int) < (cs.length : Int) := by omega
      clear HA hke
      go_wp2
      go_ret
      exact ⟨ret_bool HF.out.symm, hbel⟩

theorem Ix.frm_pos {n : Int} (hn : Lt.strandB n = true) : Lt.frm n ≠ 0 := by
  have h4 : n = 1 ∨ n = 2 ∨ n = 3 ∨ n = 4 := by
    simp only [Lt.strandB, Bool.and_eq_true, decide_eq_true_eq] at hn
    omega
  rcases h4 with rfl | rfl | rfl | rfl <;> decide

set_option maxRecDepth 100000 in
set_option maxHeartbeats 400000 in
theorem ixConvert_any (s : ByteArray) (n : Int) (w : World) (hs : s.size ≤ maxLen) (hL : Lt.allL s.data.toList = true) (hn : Lt.strandB n = true) :
    Calls Tryz.prog 117 #[.string s, .int .i64 n] w fun e w' => e = .returned (.string ⟨(Lt.conv (Lt.frm n) (Lt.tow n) s.data.toList).toArray⟩) ∧ Below w.heap.size w w' := by
  have HL : Hid _ := hL
  have HN : Hid _ := hn
  clear hL hn
  go_enter Tryz.func117, Tryz.ntmps117
  go_wp2_with (go_at_call 48; refine (convert_good _ _ _ _ _ hs HL.out rfl rfl (Ix.frm_pos HN.out)).mono ?_; rintro e w1 ⟨rfl, hb1⟩)
  go_ret
  exact ⟨rfl, hb1⟩

/-- the letters of contigs, bleached, as cells -/
def Ix.str (n : Int) (x : Pr) : Value := .string ⟨(Lt.conv (Lt.frm n) (Lt.tow n) x.2).toArray⟩
def Ix.strs (n : Int) (cs : List Pr) : List Value := cs.map (Ix.str n)
theorem Ix.strs_length (n : Int) (cs : List Pr) : (Ix.strs n cs).length = cs.length := by simp [Ix.strs]
/-- while they are made -/
def Ix.part (n : Int) (cs : List Pr) (k : Nat) : List Value := Ix.strs n (cs.take k) ++ List.replicate (cs.length - k) (.string ⟨#[]⟩)
theorem Ix.part_zero (n : Int) (cs : List Pr) : Ix.part n cs 0 = List.replicate cs.length (.string ⟨#[]⟩) := by simp [Ix.part, Ix.strs]
theorem Ix.part_whole (n : Int) (cs : List Pr) : Ix.part n cs cs.length = Ix.strs n cs := by simp [Ix.part]
theorem Ix.part_set (n : Int) (cs : List Pr) (k : Nat) (h : k < cs.length) : (Ix.part n cs k).set k (Ix.str n cs[k]) = Ix.part n cs (k + 1) := by
  unfold Ix.part
  have h1 : (Ix.strs n (cs.take k)).length = k := by rw [Ix.strs_length, List.length_take]; omega
  rw [List.set_append, if_neg (by omega), h1, Nat.sub_self, List.take_succ_eq_append_getElem h]
  obtain ⟨m, hm⟩ : ∃ m, cs.length - k = m + 1 := ⟨cs.length - k - 1, by omega⟩
  rw [hm, show cs.length - (k + 1) = m by omega, List.replicate_succ, List.set_cons_zero]
  simp only [Ix.strs, List.map_append, List.map_cons, List.map_nil, List.append_assoc, List.singleton_append]

theorem Tryz.infoStr : (Tryz.prog.info? 9).map (fun i => (i.zero, i.size, i.bytes)) = some (some (.string ⟨#[]⟩), 1, 16) := by kernel_rfl

set_option maxRecDepth 100000 in
set_option maxHeartbeats 1600000 in
theorem converted_any (cs : List Pr) (G cc : Nat) (n : Int) (w : World) (hc : cs.length ≤ 1000) (hN : ∀ x ∈ cs, x.2.length ≤ 100000) (hL : ∀ x ∈ cs, Lt.allL x.2 = true) (hn : Lt.strandB n = true) (hC : Cs w G cs) :
    Calls Tryz.prog 60 #[.slice (some ⟨G, 0, none⟩) cs.length cc, .int .i64 n] w fun e w' => ∃ v, e = .returned v ∧ w'.ownsRow w.heap.size 9 1 v cs.length (Ix.strs n cs) ∧ Below w.heap.size w w' := by
  have HN : Hid _ := hN
  have HL : Hid _ := hL
  have HS : Hid _ := hn
  have HC : Hid (Cs w G cs) := hC
  clear hN hL hn hC
  obtain ⟨i0, hi, hz0, hz1, hz2⟩ := info_parts Tryz.infoStr
  go_enter Tryz.func60, Tryz.ntmps60
  go_wp2_with (at_make; refine wpList_make_full _ rfl _ _ 27 rfl w.heap.size 9 i0 (.string ⟨#[]⟩) 1 Tryz.underlying27 hi hz0 hz1 _ _ _ _ cs.length rfl rfl rfl rfl (by rw [hz2]; omega) (by unfold maxLen; omega) (Nat.le_refl _) ?_; intro w1 hown0 hgrow; rw [show (madeCells (Value.string ⟨#[]⟩).cells (cs.length * 1)).toList = List.replicate cs.length (.string ⟨#[]⟩) from by rw [Nat.mul_one]; exact toList_madeCells_one _ _, ← Ix.part_zero n cs] at hown0)
  have hb1 : Below w.heap.size w w1 := (Below.refl _ _).grown hgrow (Nat.le_refl _) (fun k hk => by cases hk)
  clear hgrow
  go_loopw [13] (fun i wr => ∃ k : Nat, k ≤ cs.length ∧ i = .int .i64 (k : Int) ∧ wr.ownsRow w.heap.size 9 1 (.slice (some ⟨w.heap.size, 0, none⟩) cs.length cs.length) cs.length (Ix.part n cs k) ∧ Below w.heap.size w wr) (fun i _ => cs.length - (intOf i).toNat)
  case atStart => exact ⟨0, Nat.zero_le _, rfl, hown0, hb1⟩
  case round =>
    clear hown0 hb1
    obtain ⟨k, hk, rfl, hown, hbel⟩ := hrel
    by_cases hlt : k < cs.length
    · have hlt' : (k : Int) < (cs.length : Int) := by omega
      obtain ⟨p0, p1⟩ := Cs.below HC.out hbel k hlt
      have hcN : cs[k].2.length ≤ 100000 := HN.out _ (List.getElem_mem _)
      have HLk : Hid _ := HL.out cs[k] (List.getElem_mem _)
      have HSET : Hid _ := Ix.part_set n cs k hlt
      have hB0 := hbel.size
      obtain ⟨y, hy⟩ : ∃ y : Pr, y = cs[k] := ⟨_, rfl⟩
      rw [← hy] at p0 p1 HLk HSET hcN
      clear hy
      have hsz : (⟨y.2.toArray⟩ : ByteArray).size = y.2.length := by simp [ByteArray.size]
      have hsm : (⟨y.2.toArray⟩ : ByteArray).size ≤ maxLen := by rw [hsz]; unfold maxLen; omega
      have HO : Hid _ := hown
      have HB : Hid _ := hbel
      clear hown hbel
      go_wp2_with fail
      refine (ixConvert_any ⟨y.2.toArray⟩ n _ hsm (by simpa using HLk.out) HS.out).mono ?_
      rintro e w2 ⟨rfl, hb2⟩
      rw [show (⟨y.2.toArray⟩ : ByteArray).data.toList = y.2 from by simp]
      have hstr : Ix.str n y = .string ⟨(Lt.conv (Lt.frm n) (Lt.tow n) y.2).toArray⟩ := rfl
      rw [hstr] at HSET
      generalize (⟨(Lt.conv (Lt.frm n) (Lt.tow n) y.2).toArray⟩ : ByteArray) = B at *
      have ho2 := own_below (World.ownsRow.alloc HO.out _) hb2
      obtain ⟨v0, hc0, _⟩ := own_cell ho2 k hlt
      have hfr := ho2.frozenAt k
      have hst := ho2.stored k (.string B)
      rw [HSET.out] at hst
      have HST : Hid _ := hst.1
      have hbB : Below w.heap.size w w2 := (HB.out.alloc hB0 _).trans (hb2.mono (by simp; omega))
      have HB2 : Hid _ := hbB.setCell (p := ⟨w.heap.size, k, none⟩) (Nat.le_refl _) (.string B)
      clear hst ho2 hbB hb2 p0 p1 hstr HSET
      go_wp2
      go_roundw
      case rel => exact ⟨k + 1, by omega, by go_num, HST.out, HB2.out⟩
      case measure => simp [intOf]; omega
    · have hke : k = cs.length := by omega
      rw [hke, Ix.part_whole] at hown
      have hlt' : ¬ (k : Int) < (cs.length : Int) := by omega
      clear hke
      go_wp2
      go_ret
      exact ⟨_, rfl, hown, hbel⟩

end Go.Proofs.YtjebhbopmfcopaaGreatDoor
