/-
  PLAIN MATHEMATICS of Fasta's machine: its steps a line at a time. Own text of the verifier.
-/
import Derived.Test.YtjebhbopmfcopaaGreatDoorTxSpec
namespace Go.Proofs.YtjebhbopmfcopaaGreatDoor.Tx

/-- where a contig may begin, or the text end -/
def head (s : ByteArray) (f p : Nat) (out : List (List UInt8 × List UInt8)) (total : Nat) : Ans :=
  if p < s.size ∨ p = 0 then faMark s p out (fun q nm => faIn s f q q nm [] out total) else ⟨out, 0, 0⟩

theorem cap_62 : cap 62 = 0 := by decide
theorem cap_10 : cap 10 = 0 := by decide

theorem fa_bad (s : ByteArray) (f p : Nat) (name letters : List UInt8) (out : List (List UInt8 × List UInt8)) (total : Nat) (hp : p ≤ s.size) (hf : s.size + 1 ≤ f + p) (ht : total ≤ 4096)
    (hc : (p < s.size ∧ bt s p ≠ 62) ∨ letters = []) (hb : rlen s p (4096 - total) = 0 ∨ bt s (p + rlen s p (4096 - total)) ≠ 10) :
    faIn s f p p name letters out total = bad (wr s (p + rlen s p (4096 - total)) 2 4) (p + rlen s p (4096 - total)) := by
  generalize hcc : rlen s p (4096 - total) = c at *
  have hle : c ≤ 4096 - total := by rw [← hcc]; exact rlen_le _ _ _
  have hsz : p + c ≤ s.size := by rw [← hcc]; exact rlen_size _ _ _ hp
  rw [faIn_run s p name out c f p letters total (fun j hj => rlen_all s (4096 - total) p j (by omega)) (by omega) (by omega)]
  obtain ⟨g, hg⟩ : ∃ g, f - c = g + 1 := ⟨f - c - 1, by omega⟩
  rw [hg, faIn, wr]
  by_cases h0 : cap (bt s (p + c)) ≠ 0
  · have hfull : c = 4096 - total := by
      by_cases hlt : c < 4096 - total
      · have := rlen_stop s (4096 - total) p (by omega)
        rw [hcc] at this
        exact absurd this h0
      · omega
    rw [if_pos h0, if_pos (by omega), if_pos h0]
  · rw [if_neg h0, if_neg h0]
    by_cases hc0 : c = 0
    · subst hc0
      simp only [Nat.add_zero] at *
      rw [if_neg (by omega)]
      by_cases hl : letters = []
      · subst hl
        rw [if_pos (.inr (by simp [caps]))]
      · rw [if_neg (by simp [caps, hl])]
        rcases hc with ⟨h1, h2⟩ | h
        · rw [if_pos h1, faMark, if_pos h2]
        · exact absurd h hl
    · rcases hb with h | h
      · exact absurd h hc0
      · rw [if_neg (fun x => h x.1), if_pos (.inl (by omega))]

theorem fa_good (s : ByteArray) (f p : Nat) (name letters : List UInt8) (out : List (List UInt8 × List UInt8)) (total : Nat) (hf : s.size + 1 ≤ f + p) (ht : total ≤ 4096)
    (hb : ¬ (rlen s p (4096 - total) = 0 ∨ bt s (p + rlen s p (4096 - total)) ≠ 10)) :
    ∃ g, s.size + 1 ≤ g + (p + rlen s p (4096 - total) + 1) ∧ p + rlen s p (4096 - total) < s.size ∧ 0 < rlen s p (4096 - total) ∧ rlen s p (4096 - total) ≤ 4096 - total ∧
      faIn s f p p name letters out total = faIn s g (p + rlen s p (4096 - total) + 1) (p + rlen s p (4096 - total) + 1) name (letters ++ caps s p (rlen s p (4096 - total))) out (total + rlen s p (4096 - total)) := by
  generalize hcc : rlen s p (4096 - total) = c at *
  have hle : c ≤ 4096 - total := by rw [← hcc]; exact rlen_le _ _ _
  have h10 : bt s (p + c) = 10 := by
    by_cases h : bt s (p + c) = 10
    · exact h
    · exact absurd (.inr h) hb
  have hc0 : c ≠ 0 := fun h => hb (.inl h)
  have hlt : p + c < s.size := bt_lt (by rw [h10]; decide)
  refine ⟨f - c - 1, by omega, hlt, by omega, hle, ?_⟩
  rw [faIn_run s p name out c f p letters total (fun j hj => rlen_all s (4096 - total) p j (by omega)) (by omega) (by omega)]
  obtain ⟨g, hg⟩ : ∃ g, f - c = g + 1 := ⟨f - c - 1, by omega⟩
  rw [hg, faIn, h10, if_neg (by simp [cap_10]), if_pos ⟨rfl, by omega⟩]
  rfl

theorem fa_whole (s : ByteArray) (f p : Nat) (name letters : List UInt8) (out : List (List UInt8 × List UInt8)) (total : Nat) (hf : s.size + 1 ≤ f + p) (hp : p ≤ s.size) (hp0 : 0 < p)
    (hl : letters ≠ []) (hc : ¬ (p < s.size ∧ bt s p ≠ 62)) :
    ∃ g, s.size ≤ g + p ∧ faIn s f p p name letters out total = head s g p (out ++ [(name, letters)]) total := by
  obtain ⟨g, rfl⟩ : ∃ g, f = g + 1 := ⟨f - 1, by omega⟩
  refine ⟨g, by omega, ?_⟩
  have hb : cap (bt s p) = 0 ∧ bt s p ≠ 10 := by
    by_cases h : p < s.size
    · have h62 : bt s p = 62 := by
        by_cases h2 : bt s p = 62
        · exact h2
        · exact absurd ⟨h, h2⟩ hc
      rw [h62]; exact ⟨cap_62, by decide⟩
    · rw [bt_out h]; exact ⟨cap_zero, by decide⟩
  rw [faIn, if_neg (by simp [hb.1]), if_neg (by omega), if_neg (by simp [hl]), head]
  by_cases h : p < s.size
  · rw [if_pos h, if_pos (.inl h)]
  · rw [if_neg h, if_neg (by omega)]

/-- the ends of a mark -/
theorem mark_stop (s : ByteArray) (f p : Nat) (out : List (List UInt8 × List UInt8)) (total : Nat) (h : p < s.size ∨ p = 0) (hb : bt s p ≠ 62) : head s f p out total = bad 2 p := by
  rw [head, if_pos h, faMark, if_pos hb]
theorem mark_many (s : ByteArray) (f p : Nat) (out : List (List UInt8 × List UInt8)) (total : Nat) (h : p < s.size ∨ p = 0) (hb : bt s p = 62) (hn : out.length = 16) : head s f p out total = bad 4 p := by
  rw [head, if_pos h, faMark, if_neg (by simp [hb]), if_pos hn]
theorem mark_name (s : ByteArray) (f p : Nat) (out : List (List UInt8 × List UInt8)) (total : Nat) (h : p < s.size ∨ p = 0) (hb : bt s p = 62) (hn : out.length ≠ 16) (he : nEnd s (p + 1) = p + 1 ∨ bt s (nEnd s (p + 1)) ≠ 10) : head s f p out total = bad 2 (nEnd s (p + 1)) := by
  rw [head, if_pos h, faMark, if_neg (by simp [hb]), if_neg hn, if_pos he]
theorem mark_twice (s : ByteArray) (f p : Nat) (out : List (List UInt8 × List UInt8)) (total : Nat) (h : p < s.size ∨ p = 0) (hb : bt s p = 62) (hn : out.length ≠ 16) (he : ¬ (nEnd s (p + 1) = p + 1 ∨ bt s (nEnd s (p + 1)) ≠ 10))
    (ht : out.any (fun x => x.1 == piece s (p + 1) (nEnd s (p + 1))) = true) : head s f p out total = bad 3 (p + 1) := by
  rw [head, if_pos h, faMark, if_neg (by simp [hb]), if_neg hn, if_neg he, if_pos ht]
theorem mark_go (s : ByteArray) (f p : Nat) (out : List (List UInt8 × List UInt8)) (total : Nat) (h : p < s.size ∨ p = 0) (hb : bt s p = 62) (hn : out.length ≠ 16) (he : ¬ (nEnd s (p + 1) = p + 1 ∨ bt s (nEnd s (p + 1)) ≠ 10))
    (ht : out.any (fun x => x.1 == piece s (p + 1) (nEnd s (p + 1))) = false) : head s f p out total = faIn s f (nEnd s (p + 1) + 1) (nEnd s (p + 1) + 1) (piece s (p + 1) (nEnd s (p + 1))) [] out total := by
  rw [head, if_pos h, faMark, if_neg (by simp [hb]), if_neg hn, if_neg he, if_neg (by simp [ht])]
theorem head_end (s : ByteArray) (f p : Nat) (out : List (List UInt8 × List UInt8)) (total : Nat) (h : ¬ (p < s.size ∨ p = 0)) : head s f p out total = ⟨out, 0, 0⟩ := by
  rw [head, if_neg h]

theorem fasta_head (s : ByteArray) : fasta s = head s (s.size + 1) 0 [] 0 := by
  rw [head, if_pos (.inr rfl)]; rfl

theorem nEnd_lt {s : ByteArray} {p : Nat} (he : ¬ (nEnd s (p + 1) = p + 1 ∨ bt s (nEnd s (p + 1)) ≠ 10)) : nEnd s (p + 1) < s.size ∧ p + 1 ≤ nEnd s (p + 1) := by
  have h10 : bt s (nEnd s (p + 1)) = 10 := by
    by_cases h : bt s (nEnd s (p + 1)) = 10
    · exact h
    · exact absurd (.inr h) he
  exact ⟨bt_lt (by rw [h10]; decide), by unfold nEnd; omega⟩

end Go.Proofs.YtjebhbopmfcopaaGreatDoor.Tx
