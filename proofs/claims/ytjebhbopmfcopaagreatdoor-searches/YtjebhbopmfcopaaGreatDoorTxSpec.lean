/-
  PLAIN MATHEMATICS of the two readers: what Fasta and Fastq answer, as machines over places. No program is named here. Own text of the verifier.
-/
import Derived.Test.YtjebhbopmfcopaaGreatDoorLetters
namespace Go.Proofs.YtjebhbopmfcopaaGreatDoor.Tx

/-- a byte of a name -/
def nbI (a : Int) : Bool := decide ((97 ≤ a ∧ a ≤ 122) ∨ (65 ≤ a ∧ a ≤ 90) ∨ (48 ≤ a ∧ a ≤ 57) ∨ a = 95 ∨ a = 46 ∨ a = 45)
def nb (c : UInt8) : Bool := nbI (c.toNat : Int)
/-- a quality -/
def ql (c : UInt8) : Bool := decide (33 ≤ (c.toNat : Int) ∧ (c.toNat : Int) ≤ 126)
/-- a letter in capitals; 0: it is none -/
def cap (c : UInt8) : UInt8 := if Lt.isL c then c else if c == 97 || c == 99 || c == 103 || c == 116 || c == 110 then c - 32 else 0

/-- the byte at a place; 0 behind the end -/
def bt (s : ByteArray) (i : Nat) : UInt8 := if h : i < s.size then s[i] else 0

theorem bt_in {s : ByteArray} {i : Nat} (h : i < s.size) : bt s i = s[i] := by simp [bt, h]
theorem bt_out {s : ByteArray} {i : Nat} (h : ¬ i < s.size) : bt s i = 0 := by simp [bt, h]
theorem bt_lt {s : ByteArray} {i : Nat} (h : bt s i ≠ 0) : i < s.size := by
  by_cases hi : i < s.size
  · exact hi
  · exact absurd (bt_out hi) h

theorem cap_zero : cap 0 = 0 := by decide
theorem nb_zero : nb 0 = false := by decide
theorem ql_zero : ql 0 = false := by decide

/-- how many bytes of a name stand from a place on, at most so many -/
def nlen (s : ByteArray) : Nat → Nat → Nat
  | _, 0 => 0
  | p, f + 1 => if nb (bt s p) then nlen s (p + 1) f + 1 else 0
def nEnd (s : ByteArray) (p : Nat) : Nat := p + nlen s p 32

theorem nlen_le (s : ByteArray) : ∀ (f p : Nat), nlen s p f ≤ f := by
  intro f
  induction f with
  | zero => intro p; simp [nlen]
  | succ f ih => intro p; unfold nlen; split
                 · have := ih (p + 1); omega
                 · omega

theorem nlen_size (s : ByteArray) : ∀ (f p : Nat), p ≤ s.size → p + nlen s p f ≤ s.size := by
  intro f
  induction f with
  | zero => intro p h; simp [nlen]; exact h
  | succ f ih =>
    intro p h
    unfold nlen
    split
    · next hn =>
      have hlt : p < s.size := by
        by_cases hi : p < s.size
        · exact hi
        · rw [bt_out hi, nb_zero] at hn; cases hn
      have := ih (p + 1) (by omega)
      omega
    · omega

/-- how many letters (in either form) stand from a place on, at most so many -/
def rlen (s : ByteArray) : Nat → Nat → Nat
  | _, 0 => 0
  | p, f + 1 => if cap (bt s p) ≠ 0 then rlen s (p + 1) f + 1 else 0
/-- those letters, in capitals -/
def caps (s : ByteArray) (p : Nat) : Nat → List UInt8
  | 0 => []
  | n + 1 => cap (bt s p) :: caps s (p + 1) n

theorem caps_length (s : ByteArray) : ∀ (n p : Nat), (caps s p n).length = n := by
  intro n
  induction n with
  | zero => intro p; rfl
  | succ n ih => intro p; simp [caps, ih]

theorem caps_snoc (s : ByteArray) : ∀ (n p : Nat), caps s p (n + 1) = caps s p n ++ [cap (bt s (p + n))] := by
  intro n
  induction n with
  | zero => intro p; rfl
  | succ n ih =>
    intro p
    rw [caps, ih (p + 1), caps, show p + 1 + n = p + (n + 1) by omega]
    rfl

theorem rlen_le (s : ByteArray) : ∀ (f p : Nat), rlen s p f ≤ f := by
  intro f
  induction f with
  | zero => intro p; simp [rlen]
  | succ f ih => intro p; unfold rlen; split
                 · have := ih (p + 1); omega
                 · omega

theorem rlen_size (s : ByteArray) : ∀ (f p : Nat), p ≤ s.size → p + rlen s p f ≤ s.size := by
  intro f
  induction f with
  | zero => intro p h; simp [rlen]; exact h
  | succ f ih =>
    intro p h
    unfold rlen
    split
    · next hn =>
      have hlt : p < s.size := by
        by_cases hi : p < s.size
        · exact hi
        · rw [bt_out hi, cap_zero] at hn; exact absurd rfl hn
      have := ih (p + 1) (by omega)
      omega
    · omega

/-- it stops where no letter is, or where there are enough -/
theorem rlen_stop (s : ByteArray) : ∀ (f p : Nat), rlen s p f < f → cap (bt s (p + rlen s p f)) = 0 := by
  intro f
  induction f with
  | zero => intro p h; omega
  | succ f ih =>
    intro p h
    unfold rlen at h ⊢
    split
    · next hn =>
      rw [if_pos hn] at h
      have := ih (p + 1) (by omega)
      rw [show p + (rlen s (p + 1) f + 1) = p + 1 + rlen s (p + 1) f by omega]
      exact this
    · next hn => simpa using hn

/-- which of two errors a byte is that may not be: b, if it is a letter, else a -/
def wr (s : ByteArray) (p : Nat) (a b : Int) : Int := if cap (bt s p) ≠ 0 then b else a

/-- what a reader answers: names and letters, the error, its place -/
structure Ans where
  out : List (List UInt8 × List UInt8)
  err : Int
  pos : Int

def bad (e : Int) (p : Nat) : Ans := ⟨[], e, p⟩

def piece (s : ByteArray) (p q : Nat) : List UInt8 := (s.data.toList.drop p).take (q - p)

/-- a contig's first line, from its place on; then k, from the next line on, with the name -/
def faMark (s : ByteArray) (p : Nat) (out : List (List UInt8 × List UInt8)) (k : Nat → List UInt8 → Ans) : Ans :=
  if bt s p ≠ 62 then bad 2 p
  else if out.length = 16 then bad 4 p
  else if nEnd s (p + 1) = p + 1 ∨ bt s (nEnd s (p + 1)) ≠ 10 then bad 2 (nEnd s (p + 1))
  else if out.any (fun x => x.1 == piece s (p + 1) (nEnd s (p + 1))) then bad 3 (p + 1)
  else k (nEnd s (p + 1) + 1) (piece s (p + 1) (nEnd s (p + 1)))

/-- within a contig's lines -/
def faIn (s : ByteArray) : Nat → (p first : Nat) → (name letters : List UInt8) → List (List UInt8 × List UInt8) → (total : Nat) → Ans
  | 0, _, _, _, _, _, _ => bad 0 0
  | f + 1, p, first, name, letters, out, total =>
    if cap (bt s p) ≠ 0 then
      if total = 4096 then bad 4 p else faIn s f (p + 1) first name (letters ++ [cap (bt s p)]) out (total + 1)
    else if bt s p = 10 ∧ first < p then faIn s f (p + 1) (p + 1) name letters out total
    else if first < p ∨ letters = [] then bad 2 p
    else if p < s.size then faMark s p (out ++ [(name, letters)]) (fun q nm => faIn s f q q nm [] (out ++ [(name, letters)]) total)
    else ⟨out ++ [(name, letters)], 0, 0⟩

def fasta (s : ByteArray) : Ans := faMark s 0 [] (fun q nm => faIn s (s.size + 1) q q nm [] [] 0)

/-- c letters at once -/
theorem faIn_run (s : ByteArray) (first : Nat) (name : List UInt8) (out : List (List UInt8 × List UInt8)) : ∀ (c f p : Nat) (letters : List UInt8) (total : Nat), (∀ j, j < c → cap (bt s (p + j)) ≠ 0) → c + total ≤ 4096 → c ≤ f →
    faIn s f p first name letters out total = faIn s (f - c) (p + c) first name (letters ++ caps s p c) out (total + c) := by
  intro c
  induction c with
  | zero => intro f p letters total _ _ _; simp [caps]
  | succ c ih =>
    intro f p letters total hc ht hf
    obtain ⟨f, rfl⟩ : ∃ g, f = g + 1 := ⟨f - 1, by omega⟩
    have h0 := hc 0 (by omega)
    rw [faIn, if_pos (by simpa using h0), if_neg (by omega)]
    rw [ih f (p + 1) (letters ++ [cap (bt s p)]) (total + 1) (fun j hj => by have := hc (j + 1) (by omega); rwa [show p + (j + 1) = p + 1 + j by omega] at this) (by omega) (by omega)]
    rw [show f + 1 - (c + 1) = f - c by omega, show p + 1 + c = p + (c + 1) by omega, show total + 1 + c = total + (c + 1) by omega]
    simp [caps]

theorem rlen_all (s : ByteArray) : ∀ (f p j : Nat), j < rlen s p f → cap (bt s (p + j)) ≠ 0 := by
  intro f
  induction f with
  | zero => intro p j h; simp [rlen] at h
  | succ f ih =>
    intro p j h
    unfold rlen at h
    split at h
    · next hn =>
      cases j with
      | zero => simpa using hn
      | succ j => have := ih (p + 1) j (by omega); rwa [show p + 1 + j = p + (j + 1) by omega] at this
    · omega

end Go.Proofs.YtjebhbopmfcopaaGreatDoor.Tx
