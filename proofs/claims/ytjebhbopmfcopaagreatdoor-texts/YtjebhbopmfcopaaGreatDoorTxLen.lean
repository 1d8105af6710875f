/-
  PLAIN MATHEMATICS: how many contigs and reads a reader answers at the most. Own text of the verifier.
-/
import Derived.Test.YtjebhbopmfcopaaGreatDoorTxFq
namespace Go.Proofs.YtjebhbopmfcopaaGreatDoor.Tx

theorem bad_out (e : Int) (p : Nat) : (bad e p).out.length = 0 := rfl

theorem faMark_len (s : ByteArray) (p : Nat) (out : List (List UInt8 × List UInt8)) (k : Nat → List UInt8 → Ans) (h : out.length ≤ 16) (hk : out.length ≤ 15 → ∀ q nm, (k q nm).out.length ≤ 16) : (faMark s p out k).out.length ≤ 16 := by
  unfold faMark
  split
  · rw [bad_out]; omega
  · split
    · rw [bad_out]; omega
    · split
      · rw [bad_out]; omega
      · split
        · rw [bad_out]; omega
        · exact hk (by omega) _ _

theorem faIn_len (s : ByteArray) : ∀ (f p first : Nat) (name letters : List UInt8) (out : List (List UInt8 × List UInt8)) (total : Nat), out.length ≤ 15 → (faIn s f p first name letters out total).out.length ≤ 16 := by
  intro f
  induction f with
  | zero => intro p first name letters out total h; rw [faIn, bad_out]; omega
  | succ f ih =>
    intro p first name letters out total h
    rw [faIn]
    split
    · split
      · rw [bad_out]; omega
      · exact ih _ _ _ _ _ _ h
    · split
      · exact ih _ _ _ _ _ _ h
      · split
        · rw [bad_out]; omega
        · split
          · exact faMark_len _ _ _ _ (by simp; omega) (fun h2 q nm => ih _ _ _ _ _ _ h2)
          · simp; omega

theorem fasta_len (s : ByteArray) : (fasta s).out.length ≤ 16 := faMark_len _ _ _ _ (by simp) (fun h q nm => faIn_len s _ _ _ _ _ _ _ (by simp))

theorem fqTail_len (s : ByteArray) (q : Nat) (k : Nat → List UInt8 → Ans) (hk : ∀ q x, (k q x).out.length ≤ 256) : (fqTail s q k).out.length ≤ 256 := by
  unfold fqTail
  split
  · rw [bad_out]; omega
  · unfold fqPlus
    split
    · rw [bad_out]; omega
    · split
      · rw [bad_out]; omega
      · split
        · rw [bad_out]; omega
        · unfold fqQual
          dsimp only
          split
          · rw [bad_out]; omega
          · exact hk _ _

theorem fq_len (s : ByteArray) : ∀ (f p : Nat) (out : List (List UInt8 × List UInt8)), out.length ≤ 256 → (fq s f p out).out.length ≤ 256 := by
  intro f
  induction f with
  | zero => intro p out h; rw [fq, bad_out]; omega
  | succ f ih =>
    intro p out h
    rw [fq]
    split
    · exact h
    · split
      · rw [bad_out]; omega
      · split
        · rw [bad_out]; omega
        · split
          · rw [bad_out]; omega
          · exact fqTail_len _ _ _ (fun q x => ih _ _ (by simp; omega))

theorem fastq_len (s : ByteArray) : (fastq s).out.length ≤ 256 := fq_len s _ _ _ (by simp)

end Go.Proofs.YtjebhbopmfcopaaGreatDoor.Tx
