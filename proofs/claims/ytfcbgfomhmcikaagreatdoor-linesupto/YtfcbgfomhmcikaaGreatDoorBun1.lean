/-
  THE PACKAGE-LEVEL VARIABLES THAT THE ROWS LIST: a world in which they are laid. Own text of the verifier.
  PLAIN MATHEMATICS of letters: which bytes are letters, the letter of the other strand, what bleaching turns. No program is named here. Own text of the verifier.
  PLAIN MATHEMATICS of the two readers: what Fasta and Fastq answer, as machines over places. No program is named here. Own text of the verifier.
  THE WALKS of the small functions of letters: IsLetter, Complement, turned, areLetters of the program. Own text of the verifier.
  BYTES OF THE CALL'S OWN: a slice of bytes that the call made: a byte appended, a byte stored, and the string made of it. Own text of the verifier.
  '[]byte(s)': a row of bytes that a conversion made (its block bears a mark behind its end), written into, and made a string again. Own text of the verifier.
  THE WALK of the program's Convert. Own text of the verifier.
  THE WALKS of the program's Reverse and Convert. Own text of the verifier.
-/
import Derived.Test.YtfcbgfomhmcikaaGreatDoorRows
import Derived.Test.YtfcbgfomhmcikaaGreatDoorTie
import Derived.Test.YtfcbgfomhmcikaaGreatDoorCards
import Derived.ProofKit
import Derived.LaidMore
import Derived.Lay
import Derived.SevenTiedAt
import Derived.Stop.Joined
import Derived.WalkKit
import Derived.WalkSpells
import Derived.WalkLawsBesides
namespace Go.Proofs.YtfcbgfomhmcikaaGreatDoor
open Go.RowKit

/-- what the rows list -/
def laidList : List (String × DataW Unit) := Rows.textsRow.laid

theorem laid_shaped (os : Os) : (World.laidAll Tryz.prog os laidList).Shaped Tryz.prog := World.shaped_of_ZipB (by kernel_rfl) (by kernel_rfl)

theorem laid_met (os : Os) (args : Array Value) : laidMetH Tryz.prog laidList ((World.laidAll Tryz.prog os laidList).forCall (fun _ _ => 0) ⟨#[], args, []⟩).memory := by
  rw [MakeChecks.laidMetH_plain _ _ _ (by kernel_rfl)]
  exact laidMet_laidAll _ (by kernel_rfl) (by kernel_rfl)

end Go.Proofs.YtfcbgfomhmcikaaGreatDoor

namespace Go.Proofs.YtfcbgfomhmcikaaGreatDoor.Lt

def isL (c : UInt8) : Bool := c == 65 || c == 67 || c == 71 || c == 84 || c == 78

def comp (c : UInt8) : UInt8 := if c = 65 then 84 else if c = 67 then 71 else if c = 71 then 67 else if c = 84 then 65 else c

def allL (l : List UInt8) : Bool := l.all isL

def rev (l : List UInt8) : List UInt8 := (l.map comp).reverse

def sub (f t c : UInt8) : UInt8 := if c = f then t else c

def conv (f t : UInt8) (l : List UInt8) : List UInt8 := l.map (sub f t)

theorem toNat_inj {c : UInt8} {n : Nat} (hn : n < 256) : (c.toNat = n) ↔ c = UInt8.ofNat n := by
  constructor
  · intro h
    apply UInt8.toNat_inj.1
    rw [h, UInt8.toNat_ofNat']
    omega
  · intro h
    rw [h, UInt8.toNat_ofNat']
    omega

theorem comp_isL {c : UInt8} (h : isL c = true) : isL (comp c) = true := by
  simp only [isL, Bool.or_eq_true, beq_iff_eq] at h
  rcases h with (((h | h) | h) | h) | h <;> subst h <;> decide

theorem comp_comp {c : UInt8} : comp (comp c) = c := by
  unfold comp
  repeat (first | split | (subst_vars; rfl) | simp_all)

theorem rev_length (l : List UInt8) : (rev l).length = l.length := by simp [rev]

theorem rev_rev (l : List UInt8) : rev (rev l) = l := by
  simp only [rev, List.map_reverse, List.reverse_reverse, List.map_map]
  rw [show (comp ∘ comp) = id from funext fun c => comp_comp]
  simp

theorem rev_allL {l : List UInt8} (h : allL l = true) : allL (rev l) = true := by
  simp only [allL, rev, List.all_reverse, List.all_map, List.all_eq_true] at *
  intro c hc
  exact comp_isL (h c hc)

theorem conv_length (f t : UInt8) (l : List UInt8) : (conv f t l).length = l.length := by simp [conv]

theorem conv_allL {f t : UInt8} (ht : isL t = true) {l : List UInt8} (h : allL l = true) : allL (conv f t l) = true := by
  simp only [allL, conv, List.all_map, List.all_eq_true] at *
  intro c hc
  simp only [Function.comp, sub]
  split
  · exact ht
  · exact h c hc

theorem conv_conv {f t : UInt8} (h : t ≠ f) (l : List UInt8) : conv f t (conv f t l) = conv f t l := by
  simp only [conv, List.map_map]
  congr 1
  funext c
  simp only [Function.comp, sub]
  by_cases hc : c = f
  · simp [hc, h]
  · simp [hc]

/-- what is turned round and bleached for the bottom, turned round again, is what is bleached for the top -/
theorem sub_comp {c : UInt8} (h : isL c = true) : comp (sub 71 65 (comp c)) = sub 67 84 c := by
  simp only [isL, Bool.or_eq_true, beq_iff_eq] at h
  rcases h with (((h | h) | h) | h) | h <;> subst h <;> decide

theorem rev_conv_rev {l : List UInt8} (h : allL l = true) : rev (conv 71 65 (rev l)) = conv 67 84 l := by
  simp only [rev, conv, List.map_reverse, List.reverse_reverse, List.map_map]
  apply List.map_congr_left
  intro c hc
  exact sub_comp (by simp only [allL, List.all_eq_true] at h; exact h c hc)

/-- a fact on bytes, asked of each of the 256 -/
theorem every {p : UInt8 → Prop} [DecidablePred p] (h : (List.range 256).all (fun n => decide (p (UInt8.ofNat n))) = true) (c : UInt8) : p c := by
  have h1 := List.all_eq_true.1 h c.toNat (by rw [List.mem_range]; exact c.toNat_lt)
  rw [UInt8.ofNat_toNat] at h1
  exact of_decide_eq_true h1

theorem isL_int (c : UInt8) : isL c = ((c.toNat : Int) == 65 || (c.toNat : Int) == 67 || (c.toNat : Int) == 71 || (c.toNat : Int) == 84 || (c.toNat : Int) == 78) :=
  every (p := fun c => isL c = ((c.toNat : Int) == 65 || (c.toNat : Int) == 67 || (c.toNat : Int) == 71 || (c.toNat : Int) == 84 || (c.toNat : Int) == 78)) (by decide +kernel) c

theorem comp_int (c : UInt8) : ((comp c).toNat : Int) = if ((c.toNat : Int) == 65) = true then 84 else if ((c.toNat : Int) == 67) = true then 71 else if ((c.toNat : Int) == 71) = true then 67 else if ((c.toNat : Int) == 84) = true then 65 else (c.toNat : Int) :=
  every (p := fun c => ((comp c).toNat : Int) = if ((c.toNat : Int) == 65) = true then 84 else if ((c.toNat : Int) == 67) = true then 71 else if ((c.toNat : Int) == 71) = true then 67 else if ((c.toNat : Int) == 84) = true then 65 else (c.toNat : Int)) (by decide +kernel) c

/-- which letter a strand's treatment turns, and into which; 0: it is no strand -/
def frm (n : Int) : UInt8 := if (n == 1) = true then 67 else if (n == 3) = true then 67 else if (n == 2) = true then 71 else if (n == 4) = true then 71 else 0
def tow (n : Int) : UInt8 := if (n == 1) = true then 84 else if (n == 3) = true then 84 else if (n == 2) = true then 65 else if (n == 4) = true then 65 else 0

theorem allL_take_succ (s : ByteArray) (k : Nat) (h : k < s.size) : allL (s.data.toList.take (k + 1)) = (allL (s.data.toList.take k) && isL s[k]) := by
  rw [show s.data.toList.take (k + 1) = s.data.toList.take k ++ [s[k]] from by rw [List.take_succ_eq_append_getElem (by simpa using h)]; rfl]
  simp [allL]

theorem allL_stop (s : ByteArray) (k : Nat) (h : k < s.size) (hn : isL s[k] = false) : allL s.data.toList = false := by
  unfold allL
  rw [List.all_eq_false]
  exact ⟨s[k], by have : s[k] = s.data.toList[k]'(by simpa using h) := rfl
                  rw [this]; exact List.getElem_mem _, by simp [hn]⟩

theorem allL_whole (s : ByteArray) (k : Nat) (h : ¬ k < s.size) (ht : allL (s.data.toList.take k) = true) : allL s.data.toList = true := by
  rwa [List.take_of_length_le (by simp; omega)] at ht

theorem take_snoc (s : ByteArray) (k : Nat) (h : k < s.size) : s.data.toList.take (k + 1) = s.data.toList.take k ++ [s[k]] := by
  rw [List.take_succ_eq_append_getElem (by simpa using h)]; rfl

def topB (n : Int) : Bool := n == 1 || n == 3
def strandB (n : Int) : Bool := decide (1 ≤ n) && decide (n ≤ 4)
theorem strandB_int (n : Int) : strandB n = ((n == 1) || (n == 2) || (n == 3) || (n == 4)) := by
  rw [Bool.eq_iff_iff]
  simp only [strandB, Bool.and_eq_true, decide_eq_true_eq, Bool.or_eq_true, beq_iff_eq]
  omega
theorem frm_tow_none {n : Int} (h : strandB n = false) : frm n = 0 ∧ tow n = 0 := by
  rw [strandB_int] at h
  simp only [Bool.or_eq_false_iff] at h
  simp [frm, tow, h]
theorem frm_tow_top {n : Int} (h : topB n = true) : frm n = 67 ∧ tow n = 84 := by
  have h4 : n = 1 ∨ n = 3 := by simpa [topB] using h
  rcases h4 with rfl | rfl <;> exact ⟨rfl, rfl⟩
theorem frm_tow_bot {n : Int} (h : topB n = false) (hs : strandB n = true) : frm n = 71 ∧ tow n = 65 := by
  have h4 : n = 2 ∨ n = 4 := by
    rw [strandB_int] at hs
    simp only [topB, Bool.or_eq_false_iff, beq_eq_false_iff_ne, Bool.or_eq_true, beq_iff_eq] at h hs
    omega
  rcases h4 with rfl | rfl <;> exact ⟨rfl, rfl⟩

end Go.Proofs.YtfcbgfomhmcikaaGreatDoor.Lt

namespace Go.Proofs.YtfcbgfomhmcikaaGreatDoor.Tx

/-- a byte of a name -/
def nbI (a : Int) : Bool := decide ((97 ≤ a ∧ a ≤ 122) ∨ (65 ≤ a ∧ a ≤ 90) ∨ (48 ≤ a ∧ a ≤ 57) ∨ a = 95 ∨ a = 46 ∨ a = 45)
def nb (c : UInt8) : Bool := nbI (c.toNat : Int)
/-- a quality -/
def ql (c : UInt8) : Bool := decide (33 ≤ (c.toNat : Int) ∧ (c.toNat : Int) ≤ 126)
/-- a letter in capitals; 0: it is none -/
def cap (c : UInt8) : UInt8 := if Lt.isL c then c else if c == 97 || c == 99 || c == 103 || c == 116 || c == 110 then c - 32 else 0

/-- the byte at a place; 0 behind the end -/
def bt (s : ByteArray) (i : Nat) : UInt8 := if h : i < s.size then s[i] else 0

theorem bt_in {s : ByteArray} {i : Nat} (h : i < s.size) : bt s i = s[i] := by simp [bt, h]
theorem bt_out {s : ByteArray} {i : Nat} (h : ¬ i < s.size) : bt s i = 0 := by simp [bt, h]
theorem bt_lt {s : ByteArray} {i : Nat} (h : bt s i ≠ 0) : i < s.size := by
  by_cases hi : i < s.size
  · exact hi
  · exact absurd (bt_out hi) h

theorem cap_zero : cap 0 = 0 := by decide
theorem nb_zero : nb 0 = false := by decide
theorem ql_zero : ql 0 = false := by decide

/-- how many bytes of a name stand from a place on, at most so many -/
def nlen (s : ByteArray) : Nat → Nat → Nat
  | _, 0 => 0
  | p, f + 1 => if nb (bt s p) then nlen s (p + 1) f + 1 else 0
def nEnd (s : ByteArray) (p : Nat) : Nat := p + nlen s p 32

theorem nlen_le (s : ByteArray) : ∀ (f p : Nat), nlen s p f ≤ f := by
  intro f
  induction f with
  | zero => intro p; simp [nlen]
  | succ f ih => intro p; unfold nlen; split
                 · have := ih (p + 1); omega
                 · omega

theorem nlen_size (s : ByteArray) : ∀ (f p : Nat), p ≤ s.size → p + nlen s p f ≤ s.size := by
  intro f
  induction f with
  | zero => intro p h; simp [nlen]; exact h
  | succ f ih =>
    intro p h
    unfold nlen
    split
    · next hn =>
      have hlt : p < s.size := by
        by_cases hi : p < s.size
        · exact hi
        · rw [bt_out hi, nb_zero] at hn; cases hn
      have := ih (p + 1) (by omega)
      omega
    · omega

/-- how many letters (in either form) stand from a place on, at most so many -/
def rlen (s : ByteArray) : Nat → Nat → Nat
  | _, 0 => 0
  | p, f + 1 => if cap (bt s p) ≠ 0 then rlen s (p + 1) f + 1 else 0
/-- those letters, in capitals -/
def caps (s : ByteArray) (p : Nat) : Nat → List UInt8
  | 0 => []
  | n + 1 => cap (bt s p) :: caps s (p + 1) n

theorem caps_length (s : ByteArray) : ∀ (n p : Nat), (caps s p n).length = n := by
  intro n
  induction n with
  | zero => intro p; rfl
  | succ n ih => intro p; simp [caps, ih]

theorem caps_snoc (s : ByteArray) : ∀ (n p : Nat), caps s p (n + 1) = caps s p n ++ [cap (bt s (p + n))] := by
  intro n
  induction n with
  | zero => intro p; rfl
  | succ n ih =>
    intro p
    rw [caps, ih (p + 1), caps, show p + 1 + n = p + (n + 1) by omega]
    rfl

theorem rlen_le (s : ByteArray) : ∀ (f p : Nat), rlen s p f ≤ f := by
  intro f
  induction f with
  | zero => intro p; simp [rlen]
  | succ f ih => intro p; unfold rlen; split
                 · have := ih (p + 1); omega
                 · omega

theorem rlen_size (s : ByteArray) : ∀ (f p : Nat), p ≤ s.size → p + rlen s p f ≤ s.size := by
  intro f
  induction f with
  | zero => intro p h; simp [rlen]; exact h
  | succ f ih =>
    intro p h
    unfold rlen
    split
    · next hn =>
      have hlt : p < s.size := by
        by_cases hi : p < s.size
        · exact hi
        · rw [bt_out hi, cap_zero] at hn; exact absurd rfl hn
      have := ih (p + 1) (by omega)
      omega
    · omega

/-- it stops where no letter is, or where there are enough -/
theorem rlen_stop (s : ByteArray) : ∀ (f p : Nat), rlen s p f < f → cap (bt s (p + rlen s p f)) = 0 := by
  intro f
  induction f with
  | zero => intro p h; omega
  | succ f ih =>
    intro p h
    unfold rlen at h ⊢
    split
    · next hn =>
      rw [if_pos hn] at h
      have := ih (p + 1) (by omega)
      rw [show p + (rlen s (p + 1) f + 1) = p + 1 + rlen s (p + 1) f by omega]
      exact this
    · next hn => simpa using hn

/-- which of two errors a byte is that may not be: b, if it is a letter, else a -/
def wr (s : ByteArray) (p : Nat) (a b : Int) : Int := if cap (bt s p) ≠ 0 then b else a

/-- what a reader answers: names and letters, the error, its place -/
structure Ans where
  out : List (List UInt8 × List UInt8)
  err : Int
  pos : Int

def bad (e : Int) (p : Nat) : Ans := ⟨[], e, p⟩

def piece (s : ByteArray) (p q : Nat) : List UInt8 := (s.data.toList.drop p).take (q - p)

/-- a contig's first line, from its place on; then k, from the next line on, with the name -/
def faMark (s : ByteArray) (p : Nat) (out : List (List UInt8 × List UInt8)) (k : Nat → List UInt8 → Ans) : Ans :=
  if bt s p ≠ 62 then bad 2 p
  else if out.length = 16 then bad 4 p
  else if nEnd s (p + 1) = p + 1 ∨ bt s (nEnd s (p + 1)) ≠ 10 then bad 2 (nEnd s (p + 1))
  else if out.any (fun x => x.1 == piece s (p + 1) (nEnd s (p + 1))) then bad 3 (p + 1)
  else k (nEnd s (p + 1) + 1) (piece s (p + 1) (nEnd s (p + 1)))

/-- within a contig's lines -/
def faIn (s : ByteArray) : Nat → (p first : Nat) → (name letters : List UInt8) → List (List UInt8 × List UInt8) → (total : Nat) → Ans
  | 0, _, _, _, _, _, _ => bad 0 0
  | f + 1, p, first, name, letters, out, total =>
    if cap (bt s p) ≠ 0 then
      if total = 4096 then bad 4 p else faIn s f (p + 1) first name (letters ++ [cap (bt s p)]) out (total + 1)
    else if bt s p = 10 ∧ first < p then faIn s f (p + 1) (p + 1) name letters out total
    else if first < p ∨ letters = [] then bad 2 p
    else if p < s.size then faMark s p (out ++ [(name, letters)]) (fun q nm => faIn s f q q nm [] (out ++ [(name, letters)]) total)
    else ⟨out ++ [(name, letters)], 0, 0⟩

def fasta (s : ByteArray) : Ans := faMark s 0 [] (fun q nm => faIn s (s.size + 1) q q nm [] [] 0)

/-- c letters at once -/
theorem faIn_run (s : ByteArray) (first : Nat) (name : List UInt8) (out : List (List UInt8 × List UInt8)) : ∀ (c f p : Nat) (letters : List UInt8) (total : Nat), (∀ j, j < c → cap (bt s (p + j)) ≠ 0) → c + total ≤ 4096 → c ≤ f →
    faIn s f p first name letters out total = faIn s (f - c) (p + c) first name (letters ++ caps s p c) out (total + c) := by
  intro c
  induction c with
  | zero => intro f p letters total _ _ _; simp [caps]
  | succ c ih =>
    intro f p letters total hc ht hf
    obtain ⟨f, rfl⟩ : ∃ g, f = g + 1 := ⟨f - 1, by omega⟩
    have h0 := hc 0 (by omega)
    rw [faIn, if_pos (by simpa using h0), if_neg (by omega)]
    rw [ih f (p + 1) (letters ++ [cap (bt s p)]) (total + 1) (fun j hj => by have := hc (j + 1) (by omega); rwa [show p + (j + 1) = p + 1 + j by omega] at this) (by omega) (by omega)]
    rw [show f + 1 - (c + 1) = f - c by omega, show p + 1 + c = p + (c + 1) by omega, show total + 1 + c = total + (c + 1) by omega]
    simp [caps]

theorem rlen_all (s : ByteArray) : ∀ (f p j : Nat), j < rlen s p f → cap (bt s (p + j)) ≠ 0 := by
  intro f
  induction f with
  | zero => intro p j h; simp [rlen] at h
  | succ f ih =>
    intro p j h
    unfold rlen at h
    split at h
    · next hn =>
      cases j with
      | zero => simpa using hn
      | succ j => have := ih (p + 1) j (by omega); rwa [show p + 1 + j = p + (j + 1) by omega] at this
    · omega

end Go.Proofs.YtfcbgfomhmcikaaGreatDoor.Tx

namespace Go.Proofs.YtfcbgfomhmcikaaGreatDoor
open Go.RowKit

theorem ret_bool {a b : Bool} (h : a = b) : Ending.returned (.bool a) = .returned (.bool b) := by rw [h]
theorem ret_int {k : IntKind} {a b : Int} (h : a = b) : Ending.returned (.int k a) = .returned (.int k b) := by rw [h]

set_option maxHeartbeats 400000 in
theorem isLetter_any (c : UInt8) (w : World) :
    Calls Tryz.prog 68 #[.int .u8 (c.toNat : Int)] w fun e w' => e = .returned (.bool (Lt.isL c)) ∧ w' = w := by
  go_enter Tryz.func68, Tryz.ntmps68
  go_wp2
  all_goals go_ret
  all_goals exact ⟨ret_bool (by rw [Lt.isL_int]; simp only [*, Bool.or_true, Bool.true_or, Bool.or_false]), rfl⟩

set_option maxHeartbeats 400000 in
theorem complement_any (c : UInt8) (w : World) :
    Calls Tryz.prog 36 #[.int .u8 (c.toNat : Int)] w fun e w' => e = .returned (.int .u8 ((Lt.comp c).toNat : Int)) ∧ w' = w := by
  go_enter Tryz.func36, Tryz.ntmps36
  go_wp2
  all_goals go_ret
  all_goals exact ⟨ret_int (by rw [Lt.comp_int]; simp only [*, if_true, if_false, Bool.false_eq_true]), rfl⟩

set_option maxHeartbeats 400000 in
theorem strIs_any (n : Int) (w : World) :
    Calls Tryz.prog 71 #[.int .i64 n] w fun e w' => e = .returned (.bool (Lt.strandB n)) ∧ w' = w := by
  go_enter Tryz.func71, Tryz.ntmps71
  go_wp2
  all_goals go_ret
  all_goals exact ⟨ret_bool (by rw [Lt.strandB_int]; simp only [*, Bool.or_true, Bool.true_or, Bool.or_false]), rfl⟩

set_option maxHeartbeats 400000 in
theorem strTop_any (n : Int) (w : World) :
    Calls Tryz.prog 72 #[.int .i64 n] w fun e w' => e = .returned (.bool (Lt.topB n)) ∧ w' = w := by
  go_enter Tryz.func72, Tryz.ntmps72
  go_wp2
  all_goals go_ret
  all_goals exact ⟨ret_bool (by unfold Lt.topB; simp [*]), rfl⟩

set_option maxHeartbeats 400000 in
theorem turned_any (n : Int) (w : World) :
    Calls Tryz.prog 39 #[.int .i64 n] w fun e w' => e = .returned (.tuple #[.int .u8 ((Lt.frm n).toNat : Int), .int .u8 ((Lt.tow n).toNat : Int)]) ∧ w' = w := by
  cases hS : Lt.strandB n with
  | false =>
    have HS : Hid _ := hS
    rw [(Lt.frm_tow_none hS).1, (Lt.frm_tow_none hS).2]
    clear hS
    go_enter Tryz.func39, Tryz.ntmps39
    go_wp2_with (go_at_call 71; refine (strIs_any _ _).mono ?_; rintro e w' ⟨rfl, hw⟩; subst w'; rw [HS.out])
    go_ret2
    exact ⟨rfl, rfl⟩
  | true =>
    have HS : Hid _ := hS
    cases hT : Lt.topB n with
    | true =>
      have HT : Hid _ := hT
      rw [(Lt.frm_tow_top hT).1, (Lt.frm_tow_top hT).2]
      clear hS hT
      go_enter Tryz.func39, Tryz.ntmps39
      go_wp2_with (first
        | (go_at_call 71; refine (strIs_any _ _).mono ?_; rintro e w' ⟨rfl, hw⟩; subst w'; rw [HS.out])
        | (go_at_call 72; refine (strTop_any _ _).mono ?_; rintro e w' ⟨rfl, hw⟩; subst w'; rw [HT.out]))
      go_ret2
      exact ⟨rfl, rfl⟩
    | false =>
      have HT : Hid _ := hT
      rw [(Lt.frm_tow_bot hT hS).1, (Lt.frm_tow_bot hT hS).2]
      clear hS hT
      go_enter Tryz.func39, Tryz.ntmps39
      go_wp2_with (first
        | (go_at_call 71; refine (strIs_any _ _).mono ?_; rintro e w' ⟨rfl, hw⟩; subst w'; rw [HS.out])
        | (go_at_call 72; refine (strTop_any _ _).mono ?_; rintro e w' ⟨rfl, hw⟩; subst w'; rw [HT.out]))
      go_ret2
      exact ⟨rfl, rfl⟩

set_option maxHeartbeats 400000 in
theorem areLetters_any (s : ByteArray) (w : World) (hs : s.size ≤ maxLen) :
    Calls Tryz.prog 35 #[.string s] w fun e w' => e = .returned (.bool (Lt.allL s.data.toList)) ∧ w' = w := by
  unfold maxLen at hs
  go_enter Tryz.func35, Tryz.ntmps35
  go_wp2
  go_loop [6] (fun i => ∃ k : Nat, k ≤ s.size ∧ i = .int .i64 k ∧ Hid (Lt.allL (s.data.toList.take k) = true)) (fun i => s.size - (intOf i).toNat)
  case atStart => exact ⟨0, Nat.zero_le _, rfl, rfl⟩
  case round =>
    obtain ⟨k, hk, rfl, HA⟩ := hrel
    by_cases hlt : k < s.size
    · cases hL : Lt.isL s[k] with
      | true =>
        have HS := Lt.allL_take_succ s k hlt
        rw [HA.out, hL, Bool.and_self] at HS
        have HT : Hid (Lt.allL (s.data.toList.take (k + 1)) = true) := HS
        clear HS HA
        have HL : Hid (Lt.isL s[k] = true) := hL
        clear hL
        go_wp2_with (go_at_call 68; refine (isLetter_any _ _).mono ?_; rintro e w' ⟨rfl, rfl⟩; rw [HL.out])
        go_round
        case rel => exact ⟨k + 1, by omega, by go_num, HT⟩
        case measure => simp [intOf]; omega
      | false =>
        have HF : Hid (Lt.allL s.data.toList = false) := Lt.allL_stop s k hlt hL
        have HL : Hid (Lt.isL s[k] = false) := hL
        clear hL HA
        go_wp2_with (go_at_call 68; refine (isLetter_any _ _).mono ?_; rintro e w' ⟨rfl, rfl⟩; rw [HL.out])
        go_ret
        exact ⟨ret_bool HF.out.symm, rfl⟩
    · have HF : Hid (Lt.allL s.data.toList = true) := Lt.allL_whole s k hlt HA.out
      clear HA
      go_wp2
      go_ret
      exact ⟨ret_bool HF.out.symm, rfl⟩

end Go.Proofs.YtfcbgfomhmcikaaGreatDoor

namespace Go.Proofs.YtfcbgfomhmcikaaGreatDoor
open Go.RowKit

/-- a byte as a cell -/
def By (c : UInt8) : Value := .int .u8 (c.toNat : Int)
/-- bytes as cells -/
def Bys (l : List UInt8) : List Value := l.map By

theorem Bys_length (l : List UInt8) : (Bys l).length = l.length := by simp [Bys]
theorem Bys_append (l r : List UInt8) : Bys (l ++ r) = Bys l ++ Bys r := by simp [Bys]
theorem Bys_at (l : List UInt8) (j : Nat) (h : j < l.length) : (Bys l)[j]? = some (.int .u8 (l[j].toNat : Int)) := by simp [Bys, By, h]
theorem By_one (l : List UInt8) : ∀ u ∈ Bys l, u.oneCell' = true := by
  intro u hu
  obtain ⟨c, _, rfl⟩ := List.mem_map.1 hu
  rfl

theorem Tryz.infoU8 : (Tryz.prog.info? 5).map (fun i => (i.zero, i.size, i.bytes)) = some (some (.int .u8 0), 1, 1) := by kernel_rfl

/-- '[]byte' of the call's own, made a string -/
theorem back_own {w : World} {base n : Nat} {v : Value} {l : List UInt8} (hown : w.ownsRow base 5 1 v n (Bys l)) :
    (convert 68 9 v).run Tryz.prog w = .ok (.string ⟨l.toArray⟩) w := by
  have hn : l.length = n := by have := hown.1; rw [Bys_length] at this; omega
  rcases hown.2 with ⟨rfl, hx⟩ | ⟨g, cap, cur, rfl, _, hg, _, _, _, htake⟩
  · have hl : l = [] := List.eq_nil_of_length_eq_zero (by omega)
    subst hl
    rw [run_convert_bytes_string w 68 9 5 none 0 0 Tryz.underlying68 Tryz.underlying5 Tryz.underlying9]
    simp [Conv.bytesToString]
    rfl
  · subst hn
    refine run_convert_bytes_back (P := Tryz.prog) w 68 9 5 ⟨g, 0, none⟩ cap l Tryz.underlying68 Tryz.underlying5 Tryz.underlying9 (fun j hj => ?_)
    rw [Addr.add_lit, Nat.zero_add, hown.cellAt j (by omega), Bys_at l j hj]

/-- the shape of what is owned -/
theorem own_form {w : World} {base e size n : Nat} {v : Value} {xs : List Value} (h : w.ownsRow base e size v n xs) : ∃ ao cap, v = .slice ao n cap := by
  rcases h.2 with ⟨rfl, rfl⟩ | ⟨g, cap, cur, rfl, _⟩
  · exact ⟨none, 0, rfl⟩
  · exact ⟨some ⟨g, 0, none⟩, cap, rfl⟩

/-- a cell of what is owned -/
theorem own_cell {w : World} {base e g n cap : Nat} {xs : List Value} (h : w.ownsRow base e 1 (.slice (some ⟨g, 0, none⟩) n cap) n xs) (j : Nat) (hj : j < n) : ∃ u, w.cell? ⟨g, j, none⟩ = some u ∧ xs[j]? = some u := by
  have hl : j < xs.length := by rw [h.1]; omega
  exact ⟨xs[j], by rw [h.cellAt j (by omega)]; exact List.getElem?_eq_getElem hl, List.getElem?_eq_getElem hl⟩

/-- 'b = append(b, c)': one byte behind bytes of the call's own -/
theorem app_byte {W w : World} {ops : Array Oper} {rest : List Oper} {o : Oper} {a : Act} {Q : Exit → Act → World → Prop} (hgd : o.guard = none) (s x : Operand)
    (ho : o.op = .call { callee := .builtin .append, args := #[s, x], argTypes := #[68, 68] })
    (base : Nat) (v : Value) (l : List UInt8) (c : UInt8) (hs : a.eval s = v) (hx : a.eval x = .slice (some ⟨w.heap.size, 0, none⟩) 1 1)
    (hown : w.ownsRow base 5 1 v l.length (Bys l)) (hbel : Below base W w) (hbase : base ≤ w.heap.size) (hlen : l.length + 1 ≤ 140737488355328)
    (h : ∀ v' w', w'.ownsRow base 5 1 v' (l ++ [c]).length (Bys (l ++ [c])) → Below base W w' → w.heap.size ≤ w'.heap.size → wpList Tryz.prog ops Q rest (a.put o.dst v') w') :
    wpList Tryz.prog ops Q (o :: rest) a (w.alloc (.cells #[.int .u8 (c.toNat : Int)] 5)) := by
  obtain ⟨i0, hi, hz0, hz1, hz2⟩ := info_parts Tryz.infoU8
  refine wpList_append_own _ hgd s x 68 ho base 5 i0 (.int .u8 0) 1 1 Tryz.underlying68 hi hz0 hz1 hz2 rfl (by decide) v l.length (Bys l) hs (hown.alloc _) ⟨w.heap.size, 0, none⟩ 1 1 [By c] hx rfl ?_ ?_ ?_ ?_ ?_ ?_
  · intro j u hj
    match j, hj with
    | 0, hj => simp at hj; subst hj; simp [Addr.add, By]
  · intro u hu; simp at hu; subst hu; rfl
  · unfold maxLen; omega
  · omega
  · simp; omega
  · intro v' w' h1 h2 _
    refine h v' w' ?_ ?_ ?_
    · rw [Bys_append, List.length_append]; exact h1
    · exact (hbel.alloc hbase _).grown h2 (by simp; omega) (fun k hk => (hown.lt k hk).1)
    · have := h2.size; simp at this; omega

end Go.Proofs.YtfcbgfomhmcikaaGreatDoor

namespace Go.Proofs.YtfcbgfomhmcikaaGreatDoor
open Go.RowKit

/-- block g holds, from its head on, the n cells xs, and none of them is frozen -/
def Mk (w : World) (g n : Nat) (xs : List Value) : Prop :=
  ∃ cur : Array Value, w.heap[g]? = some (.cells cur 5 (cur.size, cur.size + 1)) ∧ n ≤ cur.size ∧ cur.toList.take n = xs

theorem Mk.len {w : World} {g n : Nat} {xs : List Value} (h : Mk w g n xs) : xs.length = n := by
  obtain ⟨cur, _, hn, rfl⟩ := h
  simp; omega

theorem Mk.cell {w : World} {g n : Nat} {xs : List Value} (h : Mk w g n xs) {j : Nat} (hj : j < n) : w.cell? ⟨g, j, none⟩ = xs[j]? := by
  obtain ⟨cur, hg, hn, rfl⟩ := h
  rw [cell_of_row w g j cur _ _ hg, List.getElem?_take, if_pos hj]
  simp

theorem Mk.frozen {w : World} {g n : Nat} {xs : List Value} (h : Mk w g n xs) {j : Nat} (hj : j < n) : w.frozen? ⟨g, j, none⟩ = false := by
  obtain ⟨cur, hg, hn, rfl⟩ := h
  simp [World.frozen?, hg]
  omega

theorem Mk.stored {w : World} {g n : Nat} {xs : List Value} (h : Mk w g n xs) (j : Nat) (u : Value) : Mk (w.setCell ⟨g, j, none⟩ u) g n (xs.set j u) := by
  obtain ⟨cur, hg, hn, rfl⟩ := h
  refine ⟨cur.setIfInBounds j u, ?_, by simpa using hn, by rw [Array.toList_setIfInBounds, List.take_set]⟩
  simp [World.setCell, Array.getElem?_modify, hg]

theorem mk_of_string (s : ByteArray) (w : World) (hs : s.size ≤ maxLen) :
    ∃ cap w1, (convert 9 68 (.string s)).run Tryz.prog w = .ok (.slice (some ⟨w.heap.size, 0, none⟩) s.size cap) w1 ∧ s.size ≤ cap ∧ cap ≤ maxLen ∧ Mk w1 w.heap.size s.size (Bys s.data.toList) ∧ Below w.heap.size w w1 := by
  refine ⟨_, _, run_bytes_of_string (P := Tryz.prog) w 9 68 5 s Tryz.underlying9 Tryz.underlying68 Tryz.underlying5, grownCap_ge _ _ _ _, grownCap_le_maxLen _ _ _ _ hs, ⟨_, heap_alloc_new w.drew _, ?_, ?_⟩, ?_⟩
  · simp [bytesRow]
  · rw [bytesRow, Array.toList_append, List.take_append_of_le_length (by simp), List.take_of_length_le (by simp)]
    simp [Bys, By]
  · exact (Below.refl _ _).drew.alloc (Nat.le_refl _) _

theorem Mk.back {w : World} {g cap : Nat} {l : List UInt8} (h : Mk w g l.length (Bys l)) :
    (convert 68 9 (.slice (some ⟨g, 0, none⟩) l.length cap)).run Tryz.prog w = .ok (.string ⟨l.toArray⟩) w := by
  refine run_convert_bytes_back (P := Tryz.prog) w 68 9 5 ⟨g, 0, none⟩ cap l Tryz.underlying68 Tryz.underlying5 Tryz.underlying9 (fun j hj => ?_)
  rw [Addr.add_lit, Nat.zero_add, h.cell hj, Bys_at l j hj]

end Go.Proofs.YtfcbgfomhmcikaaGreatDoor

namespace Go.Proofs.YtfcbgfomhmcikaaGreatDoor
open Go.RowKit

/-- the first k letters bleached, the others as they were -/
def Lt.part (f t : UInt8) (l : List UInt8) (k : Nat) : List UInt8 := Lt.conv f t (l.take k) ++ l.drop k

theorem part_zero (f t : UInt8) (l : List UInt8) : Lt.part f t l 0 = l := by simp [Lt.part, Lt.conv]
theorem part_whole (f t : UInt8) (l : List UInt8) (k : Nat) (h : l.length ≤ k) : Lt.part f t l k = Lt.conv f t l := by
  rw [Lt.part, List.take_of_length_le h, List.drop_of_length_le h, List.append_nil]
theorem part_length (f t : UInt8) (l : List UInt8) (k : Nat) : (Lt.part f t l k).length = l.length := by
  simp [Lt.part, Lt.conv]; omega
theorem part_at (f t : UInt8) (s : ByteArray) (k : Nat) (h : k < s.size) : (Bys (Lt.part f t s.data.toList k))[k]? = some (.int .u8 (s[k].toNat : Int)) := by
  rw [Lt.part, Bys_append, List.getElem?_append_right (by rw [Bys_length, Lt.conv_length, List.length_take]; omega), Bys_length, Lt.conv_length, List.length_take,
    show k - min k s.data.toList.length = 0 by simp; have : k < s.data.size := h; omega]
  rw [List.drop_eq_getElem_cons (by simpa using h)]
  rfl
theorem part_succ (f t : UInt8) (l : List UInt8) (k : Nat) (h : k < l.length) : Lt.part f t l (k + 1) = (Lt.part f t l k).set k (Lt.sub f t l[k]) := by
  rw [Lt.part, Lt.part, List.set_append, if_neg (by rw [Lt.conv_length, List.length_take]; omega), Lt.conv_length, List.length_take, show k - min k l.length = 0 by omega,
    List.drop_eq_getElem_cons h, List.set_cons_zero, List.take_succ_eq_append_getElem h]
  simp only [Lt.conv, List.map_append, List.map_cons, List.map_nil, List.append_assoc, List.singleton_append]
theorem Bys_set (l : List UInt8) (k : Nat) (c : UInt8) : Bys (l.set k c) = (Bys l).set k (.int .u8 (c.toNat : Int)) := by simp [Bys, List.map_set, By]
theorem part_hit (f t : UInt8) (s : ByteArray) (k : Nat) (h : k < s.size) (hf : s[k] = f) : (Bys (Lt.part f t s.data.toList k)).set k (.int .u8 (t.toNat : Int)) = Bys (Lt.part f t s.data.toList (k + 1)) := by
  rw [← Bys_set, part_succ _ _ _ _ (by simpa using h)]
  have : s.data.toList[k]'(by simpa using h) = f := hf
  simp [Lt.sub, this]
theorem part_miss (f t : UInt8) (s : ByteArray) (k : Nat) (h : k < s.size) (hf : ¬ s[k] = f) : Lt.part f t s.data.toList (k + 1) = Lt.part f t s.data.toList k := by
  rw [part_succ _ _ _ _ (by simpa using h)]
  have hn : ¬ s.data.toList[k]'(by simpa using h) = f := hf
  have e : Lt.sub f t (s.data.toList[k]'(by simpa using h)) = s.data.toList[k]'(by simpa using h) := by simp only [Lt.sub, if_neg hn]
  rw [e, Lt.part]
  rw [List.set_append, if_neg (by rw [Lt.conv_length, List.length_take]; omega), Lt.conv_length, List.length_take, show k - min k s.data.toList.length = 0 by simp; have : k < s.data.size := h; omega]
  rw [List.drop_eq_getElem_cons (by simpa using h), List.set_cons_zero]

set_option maxRecDepth 100000 in
set_option maxHeartbeats 800000 in
theorem convert_bad (s : ByteArray) (n : Int) (w : World) (hs : s.size ≤ maxLen) (hL : Lt.allL s.data.toList = false) :
    Calls Tryz.prog 17 #[.string s, .int .i64 n] w fun e w' => e = .returned (.tuple #[.string ⟨#[]⟩, .int .i64 8]) ∧ w' = w := by
  have HL : Hid (Lt.allL s.data.toList = false) := hL
  clear hL
  go_enter Tryz.func17, Tryz.ntmps17
  go_wp2_with (go_at_call 35; refine (areLetters_any _ _ hs).mono ?_; rintro e w' ⟨rfl, hw⟩; subst w'; rw [HL.out])
  go_ret2
  exact ⟨rfl, rfl⟩

set_option maxRecDepth 100000 in
set_option maxHeartbeats 800000 in
theorem convert_none (s : ByteArray) (n : Int) (w : World) (hs : s.size ≤ maxLen) (hL : Lt.allL s.data.toList = true) (hf : Lt.frm n = 0) :
    Calls Tryz.prog 17 #[.string s, .int .i64 n] w fun e w' => e = .returned (.tuple #[.string ⟨#[]⟩, .int .i64 1]) ∧ w' = w := by
  have HL : Hid (Lt.allL s.data.toList = true) := hL
  have HF : Hid (Lt.frm n = 0) := hf
  clear hL hf
  go_enter Tryz.func17, Tryz.ntmps17
  go_wp2_with (first
    | (go_at_call 35; refine (areLetters_any _ _ hs).mono ?_; rintro e w' ⟨rfl, hw⟩; subst w'; rw [HL.out])
    | (go_at_call 39; refine (turned_any _ _).mono ?_; rintro e w' ⟨rfl, hw⟩; subst w'; rw [HF.out]))
  go_ret2
  exact ⟨rfl, rfl⟩

set_option maxRecDepth 100000 in
set_option maxHeartbeats 800000 in
theorem convert_good (s : ByteArray) (n : Int) (f t : UInt8) (w : World) (hs : s.size ≤ maxLen) (hL : Lt.allL s.data.toList = true) (hf : Lt.frm n = f) (ht : Lt.tow n = t) (h0 : f ≠ 0) :
    Calls Tryz.prog 17 #[.string s, .int .i64 n] w fun e w' => e = .returned (.tuple #[.string ⟨(Lt.conv f t s.data.toList).toArray⟩, .int .i64 0]) ∧ Below w.heap.size w w' := by
  have HL : Hid (Lt.allL s.data.toList = true) := hL
  have HF : Hid (Lt.frm n = f) := hf
  have HT : Hid (Lt.tow n = t) := ht
  have hf0 : ((f.toNat : Int) == 0) = false := by
    rw [beq_eq_false_iff_ne]
    intro h
    exact h0 (UInt8.toNat_inj.1 (by simpa using h))
  clear hL hf ht h0
  obtain ⟨cap, w1, hconv, hcap, hcm, hmk0, hbel0⟩ := mk_of_string s w hs
  unfold maxLen at hs hcm
  have hsm : s.size ≤ maxLen := hs
  go_enter Tryz.func17, Tryz.ntmps17
  go_wp2_with (first
    | (go_at_call 35; refine (areLetters_any _ _ hsm).mono ?_; rintro e w' ⟨rfl, hw⟩; subst w'; rw [HL.out])
    | (go_at_call 39; refine (turned_any _ _).mono ?_; rintro e w' ⟨rfl, hw⟩; subst w'; rw [HF.out, HT.out]))
  clear hconv
  go_loopw [25] (fun i wr => ∃ k : Nat, k ≤ s.size ∧ i = .int .i64 k ∧ Mk wr w.heap.size s.size (Bys (Lt.part f t s.data.toList k)) ∧ Below w.heap.size w wr)
    (fun i _ => s.size - (intOf i).toNat)
  case atStart => exact ⟨0, Nat.zero_le _, rfl, by rw [part_zero]; exact hmk0, hbel0⟩
  case round =>
    clear hmk0 hbel0
    obtain ⟨k, hk, rfl, hmk, hbel⟩ := hrel
    by_cases hlt : k < s.size
    · have hc0 := hmk.cell hlt
      rw [part_at _ _ _ _ hlt] at hc0
      by_cases hsf : s[k] = f
      · have hfr := hmk.frozen hlt
        have hst := hmk.stored k (.int .u8 (t.toNat : Int))
        rw [part_hit _ _ _ _ hlt hsf] at hst
        have HS : Hid _ := hst
        have HB : Hid _ := hbel.setCell (p := ⟨w.heap.size, k, none⟩) (Nat.le_refl _) (.int .u8 (t.toNat : Int))
        have heq : ((s[k].toNat : Int) == (f.toNat : Int)) = true := by rw [hsf]; simp
        clear hst hsf hmk hbel
        go_wp2
        go_roundw
        case rel => exact ⟨k + 1, by omega, by go_num, HS.out, HB.out⟩
        case measure => simp [intOf]; omega
      · have heq : ((s[k].toNat : Int) == (f.toNat : Int)) = false := by
          rw [beq_eq_false_iff_ne]
          intro h
          exact hsf (UInt8.toNat_inj.1 (by omega))
        rw [← part_miss _ _ _ _ hlt hsf] at hmk
        have HS : Hid _ := hmk
        have HB : Hid _ := hbel
        clear hmk hbel hsf
        go_wp2
        go_roundw
        case rel => exact ⟨k + 1, by omega, by go_num, HS.out, HB.out⟩
        case measure => simp [intOf]; omega
    · rw [part_whole _ _ _ _ (by simp; have : ¬ k < s.data.size := hlt; omega)] at hmk
      have hl : (Lt.conv f t s.data.toList).length = s.size := by rw [Lt.conv_length]; rfl
      rw [← hl] at hmk
      have hback := hmk.back (cap := cap)
      rw [hl] at hback
      clear hl hmk
      go_wp2
      go_ret2
      exact ⟨rfl, hbel⟩

end Go.Proofs.YtfcbgfomhmcikaaGreatDoor

namespace Go.Proofs.YtfcbgfomhmcikaaGreatDoor
open Go.RowKit

/-- the first k bytes of l, then as many zeros as there are left of n -/
def filled (l : List UInt8) (n k : Nat) : List Value := Bys (l.take k) ++ List.replicate (n - k) (.int .u8 0)

theorem filled_zero (l : List UInt8) (n : Nat) : filled l n 0 = List.replicate n (.int .u8 0) := by simp [filled, Bys]

theorem filled_whole (l : List UInt8) (n : Nat) (h : l.length = n) : filled l n n = Bys l := by
  simp [filled, ← h]

theorem filled_set (l : List UInt8) (n k : Nat) (h : l.length = n) (hk : k < n) : (filled l n k).set k (.int .u8 ((l[k]'(by omega)).toNat : Int)) = filled l n (k + 1) := by
  unfold filled
  have h1 : (Bys (l.take k)).length = k := by rw [Bys_length, List.length_take]; omega
  rw [List.set_append, if_neg (by omega), h1, Nat.sub_self]
  rw [List.take_succ_eq_append_getElem (by omega), Bys_append]
  obtain ⟨m, hm⟩ : ∃ m, n - k = m + 1 := ⟨n - k - 1, by omega⟩
  rw [hm, show n - (k + 1) = m by omega, List.replicate_succ, List.set_cons_zero]
  simp [Bys, By]

/-- the k-th byte of what is turned round -/
theorem rev_at (s : ByteArray) (k : Nat) (h : k < s.size) (hl : k < (Lt.rev s.data.toList).length) : (Lt.rev s.data.toList)[k] = Lt.comp (s[s.size - 1 - k]'(by omega)) := by
  simp only [Lt.rev, List.getElem_reverse, List.getElem_map, List.length_map, Array.length_toList]
  rfl

set_option maxRecDepth 100000 in
set_option maxHeartbeats 800000 in
theorem reverse_bad (s : ByteArray) (w : World) (hs : s.size ≤ maxLen) (hL : Lt.allL s.data.toList = false) :
    Calls Tryz.prog 15 #[.string s] w fun e w' => e = .returned (.tuple #[.string ⟨#[]⟩, .int .i64 8]) ∧ w' = w := by
  have HL : Hid (Lt.allL s.data.toList = false) := hL
  clear hL
  go_enter Tryz.func15, Tryz.ntmps15
  go_wp2_with (go_at_call 35; refine (areLetters_any _ _ hs).mono ?_; rintro e w' ⟨rfl, hw⟩; subst w'; rw [HL.out])
  go_ret2
  exact ⟨rfl, rfl⟩

set_option maxRecDepth 100000 in
set_option maxHeartbeats 800000 in
theorem reverse_good (s : ByteArray) (w : World) (hs : s.size ≤ 140737488355328) (hL : Lt.allL s.data.toList = true) :
    Calls Tryz.prog 15 #[.string s] w fun e w' => e = .returned (.tuple #[.string ⟨(Lt.rev s.data.toList).toArray⟩, .int .i64 0]) ∧ Below w.heap.size w w' := by
  have HL : Hid (Lt.allL s.data.toList = true) := hL
  clear hL
  have hsm : s.size ≤ maxLen := by unfold maxLen; omega
  obtain ⟨i0, hi, hz0, hz1, hz2⟩ := info_parts Tryz.infoU8
  have hrl : (Lt.rev s.data.toList).length = s.size := by rw [Lt.rev_length]; rfl
  have HR : Hid ((Lt.rev s.data.toList).length = s.size) := hrl
  clear hrl
  go_enter Tryz.func15, Tryz.ntmps15
  go_wp2_with (first
    | (go_at_call 35; refine (areLetters_any _ _ hsm).mono ?_; rintro e w' ⟨rfl, hw⟩; subst w'; rw [HL.out])
    | (at_make; refine wpList_make_full _ rfl _ _ 68 rfl w.heap.size 5 i0 (.int .u8 0) 1 Tryz.underlying68 hi hz0 hz1 _ _ _ _ s.size rfl rfl rfl rfl ?h1 ?h2 ?h3 ?_))
  case h1 => rw [hz2]; omega
  case h2 => exact hsm
  case h3 => exact Nat.le_refl _
  · intro w1 hown0 hgrow
    have hbel0 : Below w.heap.size w w1 := (Below.refl _ _).grown hgrow (Nat.le_refl _) (fun k hk => by cases hk)
    rw [toList_madeCells_one, ← filled_zero (Lt.rev s.data.toList) s.size] at hown0
    clear hgrow
    go_wp2
    go_loopw [14] (fun i wr => ∃ k : Nat, k ≤ s.size ∧ i = .int .i64 k ∧ wr.ownsRow w.heap.size 5 1 (.slice (some ⟨w.heap.size, 0, none⟩) s.size s.size) s.size (filled (Lt.rev s.data.toList) s.size k) ∧ Below w.heap.size w wr)
      (fun i _ => s.size - (intOf i).toNat)
    case atStart => exact ⟨0, Nat.zero_le _, rfl, hown0, hbel0⟩
    case round =>
      clear hown0 hbel0
      obtain ⟨k, hk, rfl, hown, hbel⟩ := hrel
      by_cases hlt : k < s.size
      · obtain ⟨v0, hc0, _⟩ := own_cell hown k hlt
        have hfr := hown.frozenAt k
        have hst := hown.stored k (.int .u8 ((Lt.comp (s[s.size - 1 - k]'(by omega))).toNat : Int))
        rw [← rev_at s k hlt (by rw [HR.out]; exact hlt), filled_set _ _ _ HR.out hlt, rev_at s k hlt (by rw [HR.out]; exact hlt)] at hst
        have hbel1 := hbel.setCell (p := ⟨w.heap.size, k, none⟩) (Nat.le_refl _) (.int .u8 ((Lt.comp (s[s.size - 1 - k]'(by omega))).toNat : Int))
        have HST := hst.1
        clear hst
        have HST : Hid _ := HST
        have HB : Hid _ := hbel1
        clear hbel1 hown hbel
        go_wp2_with (go_at_call 36; refine (complement_any _ _).mono ?_; rintro e w' ⟨rfl, hw⟩; subst w')
        go_roundw
        case rel => exact ⟨k + 1, by omega, by go_num, HST.out, HB.out⟩
        case measure => simp [intOf]; omega
      · have hkn : k = s.size := by omega
        subst hkn
        rw [filled_whole _ _ HR.out] at hown
        have hback := back_own hown
        go_wp2
        go_ret2
        exact ⟨rfl, hbel⟩

end Go.Proofs.YtfcbgfomhmcikaaGreatDoor
