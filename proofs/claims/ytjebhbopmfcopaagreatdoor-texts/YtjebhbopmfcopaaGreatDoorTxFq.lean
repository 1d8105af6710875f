/-
  PLAIN MATHEMATICS of Fastq: what it answers, a read at a time. No program is named here. Own text of the verifier.
-/
import Derived.Test.YtjebhbopmfcopaaGreatDoorTxFa
namespace Go.Proofs.YtjebhbopmfcopaaGreatDoor.Tx

/-- how many qualities stand from a place on, at most so many -/
def qlen (s : ByteArray) : Nat → Nat → Nat
  | _, 0 => 0
  | p, f + 1 => if ql (bt s p) then qlen s (p + 1) f + 1 else 0

theorem qlen_le (s : ByteArray) : ∀ (f p : Nat), qlen s p f ≤ f := by
  intro f
  induction f with
  | zero => intro p; simp [qlen]
  | succ f ih => intro p; unfold qlen; split
                 · have := ih (p + 1); omega
                 · omega

/-- a read's last line -/
def fqQual (s : ByteArray) (j c : Nat) (k : Nat → Ans) : Ans :=
  if qlen s j c < c ∨ bt s (j + qlen s j c) ≠ 10 then bad 6 (j + qlen s j c) else k (j + c + 1)

/-- the line of the plus, from the end of the letters' line on -/
def fqPlus (s : ByteArray) (i : Nat) (k : Nat → Ans) : Ans :=
  if bt s i ≠ 10 then bad 5 i else if bt s (i + 1) ≠ 43 then bad 5 (i + 1) else if bt s (i + 2) ≠ 10 then bad 5 (i + 2) else k (i + 3)

/-- a read's lines behind its name -/
def fqTail (s : ByteArray) (q : Nat) (k : Nat → List UInt8 → Ans) : Ans :=
  if rlen s q 128 = 0 ∨ bt s (q + rlen s q 128) ≠ 10 then bad (wr s (q + rlen s q 128) 5 7) (q + rlen s q 128)
  else fqPlus s (q + rlen s q 128) (fun j => fqQual s j (rlen s q 128) (fun p => k p (caps s q (rlen s q 128))))

def fq (s : ByteArray) : Nat → Nat → List (List UInt8 × List UInt8) → Ans
  | 0, _, _ => bad 0 0
  | f + 1, p, out =>
    if ¬ p < s.size then ⟨out, 0, 0⟩
    else if bt s p ≠ 64 then bad 5 p
    else if out.length = 256 then bad 4 p
    else if nEnd s (p + 1) = p + 1 ∨ bt s (nEnd s (p + 1)) ≠ 10 then bad 5 (nEnd s (p + 1))
    else fqTail s (nEnd s (p + 1) + 1) (fun q x => fq s f q (out ++ [(piece s (p + 1) (nEnd s (p + 1)), x)]))

def fastq (s : ByteArray) : Ans := fq s (s.size + 1) 0 []

theorem tail_bad (s : ByteArray) (q : Nat) (k : Nat → List UInt8 → Ans) (h : rlen s q 128 = 0 ∨ bt s (q + rlen s q 128) ≠ 10) : fqTail s q k = bad (wr s (q + rlen s q 128) 5 7) (q + rlen s q 128) := by
  rw [fqTail, if_pos h]
theorem tail_good (s : ByteArray) (q : Nat) (k : Nat → List UInt8 → Ans) (h : ¬ (rlen s q 128 = 0 ∨ bt s (q + rlen s q 128) ≠ 10)) :
    fqTail s q k = fqPlus s (q + rlen s q 128) (fun j => fqQual s j (rlen s q 128) (fun p => k p (caps s q (rlen s q 128)))) ∧ bt s (q + rlen s q 128) = 10 ∧ 0 < rlen s q 128 ∧ q + rlen s q 128 < s.size := by
  have h10 : bt s (q + rlen s q 128) = 10 := by
    by_cases h1 : bt s (q + rlen s q 128) = 10
    · exact h1
    · exact absurd (.inr h1) h
  refine ⟨by rw [fqTail, if_neg h], h10, ?_, bt_lt (by rw [h10]; decide)⟩
  rcases Nat.eq_zero_or_pos (rlen s q 128) with h0 | h0
  · exact absurd (.inl h0) h
  · exact h0

/-- the letters' line as the program reads it: the letters are at their end at i = q + c -/
theorem tail_end (s : ByteArray) (q c : Nat) (k : Nat → List UInt8 → Ans) (hc : rlen s q 128 = c) (h0 : cap (bt s (q + c)) = 0) (hpos : 0 < c) : fqTail s q k = fqPlus s (q + c) (fun j => fqQual s j c (fun p => k p (caps s q c))) := by
  subst hc
  by_cases h : bt s (q + rlen s q 128) = 10
  · rw [fqTail, if_neg (by simp [h]; omega)]
  · rw [fqTail, if_pos (.inr h), fqPlus, if_pos h, wr, if_neg (by simp [h0])]
theorem tail_none (s : ByteArray) (q : Nat) (k : Nat → List UInt8 → Ans) (hc : rlen s q 128 = 0) (h0 : cap (bt s q) = 0) : fqTail s q k = bad 5 q := by
  rw [tail_bad s q k (.inl hc), hc, wr, Nat.add_zero, if_neg (by simp [h0])]
theorem tail_long (s : ByteArray) (q : Nat) (k : Nat → List UInt8 → Ans) (hc : rlen s q 128 = 128) (h0 : cap (bt s (q + 128)) ≠ 0) : fqTail s q k = bad 7 (q + 128) := by
  have h10 : bt s (q + 128) ≠ 10 := fun h => h0 (by rw [h]; exact cap_10)
  rw [tail_bad s q k (.inr (by rw [hc]; exact h10)), hc, wr, if_pos h0]

theorem plus_bad0 (s : ByteArray) (i : Nat) (k : Nat → Ans) (h : bt s i ≠ 10) : fqPlus s i k = bad 5 i := by rw [fqPlus, if_pos h]
theorem plus_bad1 (s : ByteArray) (i : Nat) (k : Nat → Ans) (h : bt s i = 10) (h1 : bt s (i + 1) ≠ 43) : fqPlus s i k = bad 5 (i + 1) := by rw [fqPlus, if_neg (by simp [h]), if_pos h1]
theorem plus_bad2 (s : ByteArray) (i : Nat) (k : Nat → Ans) (h : bt s i = 10) (h1 : bt s (i + 1) = 43) (h2 : bt s (i + 2) ≠ 10) : fqPlus s i k = bad 5 (i + 2) := by rw [fqPlus, if_neg (by simp [h]), if_neg (by simp [h1]), if_pos h2]
theorem plus_good (s : ByteArray) (i : Nat) (k : Nat → Ans) (h : bt s i = 10) (h1 : bt s (i + 1) = 43) (h2 : bt s (i + 2) = 10) : fqPlus s i k = k (i + 3) := by rw [fqPlus, if_neg (by simp [h]), if_neg (by simp [h1]), if_neg (by simp [h2])]

theorem qlen_step (s : ByteArray) (p m j : Nat) (hj : j < m) : qlen s (p + j) (m - j) = if ql (bt s (p + j)) then qlen s (p + (j + 1)) (m - (j + 1)) + 1 else 0 := by
  obtain ⟨f, hf⟩ : ∃ f, m - j = f + 1 := ⟨m - j - 1, by omega⟩
  rw [hf, qlen, show m - (j + 1) = f by omega, show p + (j + 1) = p + j + 1 by omega]

theorem fq_end (s : ByteArray) (f p : Nat) (out : List (List UInt8 × List UInt8)) (h : ¬ p < s.size) : fq s (f + 1) p out = ⟨out, 0, 0⟩ := by rw [fq, if_pos h]
theorem fq_stop (s : ByteArray) (f p : Nat) (out : List (List UInt8 × List UInt8)) (h : p < s.size) (hb : bt s p ≠ 64) : fq s (f + 1) p out = bad 5 p := by rw [fq, if_neg (by omega), if_pos hb]
theorem fq_many (s : ByteArray) (f p : Nat) (out : List (List UInt8 × List UInt8)) (h : p < s.size) (hb : bt s p = 64) (hn : out.length = 256) : fq s (f + 1) p out = bad 4 p := by rw [fq, if_neg (by omega), if_neg (by simp [hb]), if_pos hn]
theorem fq_name (s : ByteArray) (f p : Nat) (out : List (List UInt8 × List UInt8)) (h : p < s.size) (hb : bt s p = 64) (hn : out.length ≠ 256) (he : nEnd s (p + 1) = p + 1 ∨ bt s (nEnd s (p + 1)) ≠ 10) : fq s (f + 1) p out = bad 5 (nEnd s (p + 1)) := by rw [fq, if_neg (by omega), if_neg (by simp [hb]), if_neg hn, if_pos he]
theorem fq_go (s : ByteArray) (f p : Nat) (out : List (List UInt8 × List UInt8)) (h : p < s.size) (hb : bt s p = 64) (hn : out.length ≠ 256) (he : ¬ (nEnd s (p + 1) = p + 1 ∨ bt s (nEnd s (p + 1)) ≠ 10)) :
    fq s (f + 1) p out = fqTail s (nEnd s (p + 1) + 1) (fun q x => fq s f q (out ++ [(piece s (p + 1) (nEnd s (p + 1)), x)])) := by rw [fq, if_neg (by omega), if_neg (by simp [hb]), if_neg hn, if_neg he]

end Go.Proofs.YtjebhbopmfcopaaGreatDoor.Tx
