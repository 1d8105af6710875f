/-
  THE WALKS of Fasta and Fastq at nil. Own text of the verifier.
-/
import Derived.Test.YtjebhbopmfcopaaGreatDoorTxFasta
import Derived.Test.YtjebhbopmfcopaaGreatDoorTxFastq
namespace Go.Proofs.YtjebhbopmfcopaaGreatDoor
open Go.RowKit

theorem fasta_empty (s : ByteArray) (h : s.size = 0) : Tx.fasta s = Tx.bad 2 0 := by
  rw [Tx.fasta, Tx.faMark, if_pos]
  rw [Tx.bt_out (by omega)]
  decide
theorem fastq_empty (s : ByteArray) (h : s.size = 0) : Tx.fastq s = ⟨[], 0, 0⟩ := by
  rw [Tx.fastq, Tx.fq_end _ _ _ _ (by omega)]

set_option maxRecDepth 100000 in
set_option maxHeartbeats 800000 in
theorem byteAt_nil (w : World) :
    Calls Tryz.prog 63 #[.slice none 0 0, .int .i64 0] w fun e w' => e = .returned (.int .u8 0) ∧ w' = w := by
  go_enter Tryz.func63, Tryz.ntmps63
  go_wp2
  go_ret
  exact ⟨rfl, rfl⟩

/-- what holds at the labels 'fault' and 'mark' -/
def NilJ (w : World) (l : Nat) (a : Act) (wr : World) : Prop := wr = w ∧ l < 2 ∧ ∃ (v nm lt : Value) (first : Int), FaF a (.slice none 0 0) v nm lt 0 first 0

def NilM (l : Nat) (_ : Act) (_ : World) : Nat := l

set_option maxRecDepth 100000 in
set_option maxHeartbeats 8000000 in
theorem fasta_nil (s : ByteArray) (w : World) (hs : s.size = 0) :
    Calls Tryz.prog 33 #[.slice none 0 0] w fun e w' => Reads w 59 (Tx.fasta s) e w' := by
  rw [fasta_empty s hs]
  clear hs
  go_enter Tryz.func33, Tryz.ntmps33
  go_wp2
  refine wp_four_a (NilJ w) NilM (fun l a wr h => by have := h.2.1; omega) rfl rfl rfl rfl ?_ ?_ ?_ ?_ ?_
  · intro n a wr hJ hm
    obtain ⟨rfl, _, v, nm, lt, first, F⟩ := hJ
    obtain ⟨t, ha, hti⟩ := frame93 a F.sz F.df
    have e8 := (hti 8).trans F.s8
    subst ha
    rw [e8]
    clear F hti e8
    go_wp2
    rw [jumps_ret]
    go_ret3
    exact reads_bad rfl rfl (Below.refl _ _)
  · intro n a wr hJ hm
    have := hJ.2.1
    exfalso; omega
  · intro _ n a wr hJ hm
    have := hJ.2.1
    exfalso; omega
  · intro _ n a wr hJ hm
    obtain ⟨rfl, _, v, nm, lt, first, F⟩ := hJ
    obtain ⟨t, ha, hti⟩ := frame93 a F.sz F.df
    have e0 := (hti 0).trans F.s0
    have e5 := (hti 5).trans F.s5
    have e6 := (hti 6).trans F.s6
    have e7 := (hti 7).trans F.s7
    have e8 := (hti 8).trans F.s8
    have e9 := (hti 9).trans F.s9
    have e10 := (hti 10).trans F.s10
    subst ha
    rw [e0, e5, e6, e7, e8, e9, e10]
    clear F hti e0 e5 e6 e7 e8 e9 e10
    go_wp2_with (go_at_call 63; refine (byteAt_nil _).mono ?_; rintro e w' ⟨rfl, hw⟩; subst w')
    go_step3
    show NilJ wr 0 _ wr ∧ NilM 0 _ wr < n
    exact ⟨⟨rfl, by omega, _, _, _, _, ⟨rfl, rfl, rfl, rfl, rfl, rfl, rfl, rfl, rfl⟩⟩, by simp only [NilM] at hm ⊢; omega⟩
  · intro T1
    have HT1 : Hid _ := T1
    clear T1
    go_wp2
    go_step3
    simp only [Exit.then]
    apply_assumption
    refine pass_first HT1.out ⟨rfl, by omega, _, _, _, _, ⟨rfl, rfl, rfl, rfl, rfl, rfl, rfl, rfl, rfl⟩⟩

/-- what holds at the label 'mark' -/
def NilK (w : World) (l : Nat) (a : Act) (wr : World) : Prop := wr = w ∧ l = 0 ∧ ∃ (nm lt : Value) (first : Int), FqF a (.slice none 0 0) (.slice none 0 0) nm lt 0 first

set_option maxRecDepth 100000 in
set_option maxHeartbeats 8000000 in
theorem fastq_nil (s : ByteArray) (w : World) (hs : s.size = 0) :
    Calls Tryz.prog 34 #[.slice none 0 0] w fun e w' => Reads w 56 (Tx.fastq s) e w' := by
  rw [fastq_empty s hs]
  clear hs
  go_enter Tryz.func34, Tryz.ntmps34
  go_wp2
  refine wp_four_b (NilK w) NilM (fun l a wr h => by have := h.2.1; omega) rfl rfl rfl rfl ?_ ?_ ?_ ?_ ?_
  · intro n a wr hJ hm
    have := hJ.2.1
    exfalso; omega
  · intro n a wr hJ hm
    have := hJ.2.1
    exfalso; omega
  · intro _ n a wr hJ hm
    have := hJ.2.1
    exfalso; omega
  · intro _ n a wr hJ hm
    obtain ⟨rfl, _, nm, lt, first, F⟩ := hJ
    obtain ⟨t, ha, hti⟩ := frame120 a F.sz F.df
    have e0 := (hti 0).trans F.s0
    have e5 := (hti 5).trans F.s5
    have e6 := (hti 6).trans F.s6
    have e7 := (hti 7).trans F.s7
    have e8 := (hti 8).trans F.s8
    have e9 := (hti 9).trans F.s9
    subst ha
    rw [e0, e5, e6, e7, e8, e9]
    clear F hti e0 e5 e6 e7 e8 e9
    go_wp2
    rw [jumps_ret]
    go_ret3
    exact ⟨_, rfl, World.ownsRow_nil _ _ _ _, Below.refl _ _, fun h => absurd rfl h⟩
  · intro T0
    have HT0 : Hid _ := T0
    clear T0
    go_wp2
    go_step3
    simp only [Exit.then]
    apply_assumption
    refine pass_first HT0.out ⟨rfl, rfl, _, _, _, ⟨rfl, rfl, rfl, rfl, rfl, rfl, rfl, rfl⟩⟩

end Go.Proofs.YtjebhbopmfcopaaGreatDoor
