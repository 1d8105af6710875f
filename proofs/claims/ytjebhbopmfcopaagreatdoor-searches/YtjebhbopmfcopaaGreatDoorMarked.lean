/-
  '[]byte(s)': a row of bytes that a conversion made (its block bears a mark behind its end), written into, and made a string again. Own text of the verifier.
-/
import Derived.Test.YtjebhbopmfcopaaGreatDoorBytes
namespace Go.Proofs.YtjebhbopmfcopaaGreatDoor
open Go.RowKit

/-- block g holds, from its head on, the n cells xs, and none of them is frozen -/
def Mk (w : World) (g n : Nat) (xs : List Value) : Prop :=
  ∃ cur : Array Value, w.heap[g]? = some (.cells cur 5 (cur.size, cur.size + 1)) ∧ n ≤ cur.size ∧ cur.toList.take n = xs

theorem Mk.len {w : World} {g n : Nat} {xs : List Value} (h : Mk w g n xs) : xs.length = n := by
  obtain ⟨cur, _, hn, rfl⟩ := h
  simp; omega

theorem Mk.cell {w : World} {g n : Nat} {xs : List Value} (h : Mk w g n xs) {j : Nat} (hj : j < n) : w.cell? ⟨g, j, none⟩ = xs[j]? := by
  obtain ⟨cur, hg, hn, rfl⟩ := h
  rw [cell_of_row w g j cur _ _ hg, List.getElem?_take, if_pos hj]
  simp

theorem Mk.frozen {w : World} {g n : Nat} {xs : List Value} (h : Mk w g n xs) {j : Nat} (hj : j < n) : w.frozen? ⟨g, j, none⟩ = false := by
  obtain ⟨cur, hg, hn, rfl⟩ := h
  simp [World.frozen?, hg]
  omega

theorem Mk.stored {w : World} {g n : Nat} {xs : List Value} (h : Mk w g n xs) (j : Nat) (u : Value) : Mk (w.setCell ⟨g, j, none⟩ u) g n (xs.set j u) := by
  obtain ⟨cur, hg, hn, rfl⟩ := h
  refine ⟨cur.setIfInBounds j u, ?_, by simpa using hn, by rw [Array.toList_setIfInBounds, List.take_set]⟩
  simp [World.setCell, Array.getElem?_modify, hg]

theorem mk_of_string (s : ByteArray) (w : World) (hs : s.size ≤ maxLen) :
    ∃ cap w1, (convert 9 43 (.string s)).run Tryz.prog w = .ok (.slice (some ⟨w.heap.size, 0, none⟩) s.size cap) w1 ∧ s.size ≤ cap ∧ cap ≤ maxLen ∧ Mk w1 w.heap.size s.size (Bys s.data.toList) ∧ Below w.heap.size w w1 := by
  refine ⟨_, _, run_bytes_of_string (P := Tryz.prog) w 9 43 5 s Tryz.underlying9 Tryz.underlying43 Tryz.underlying5, grownCap_ge _ _ _ _, grownCap_le_maxLen _ _ _ _ hs, ⟨_, heap_alloc_new w.drew _, ?_, ?_⟩, ?_⟩
  · simp [bytesRow]
  · rw [bytesRow, Array.toList_append, List.take_append_of_le_length (by simp), List.take_of_length_le (by simp)]
    simp [Bys, By]
  · exact (Below.refl _ _).drew.alloc (Nat.le_refl _) _

theorem Mk.back {w : World} {g cap : Nat} {l : List UInt8} (h : Mk w g l.length (Bys l)) :
    (convert 43 9 (.slice (some ⟨g, 0, none⟩) l.length cap)).run Tryz.prog w = .ok (.string ⟨l.toArray⟩) w := by
  refine run_convert_bytes_back (P := Tryz.prog) w 43 9 5 ⟨g, 0, none⟩ cap l Tryz.underlying43 Tryz.underlying5 Tryz.underlying9 (fun j hj => ?_)
  rw [Addr.add_lit, Nat.zero_add, h.cell hj, Bys_at l j hj]

end Go.Proofs.YtjebhbopmfcopaaGreatDoor
