/-
  THE WALK of 'supposed', of any fields. Own text of the verifier.
-/
import Derived.Test.YtfcbgfomhmcikaaGreatDoorXPrSupp
namespace Go.Proofs.YtfcbgfomhmcikaaGreatDoor
open Go.RowKit

theorem Ln.sp_other {fs : List (List UInt8)} (h2 : fs.length ≠ 2) (h8 : fs.length ≠ 8) : Ln.sp fs = ⟨[], 0, 0, [], 0, 0, [], []⟩ := by
  unfold Ln.sp
  split
  · exact absurd rfl h2
  · exact absurd rfl h8
  · rfl

set_option maxRecDepth 100000 in
set_option maxHeartbeats 400000 in
theorem supposed_other (bk cc n : Nat) (w : World) (h2 : n ≠ 2) (h8 : n ≠ 8) :
    Calls Tryz.prog 115 #[.slice (some ⟨bk, 0, none⟩) n cc] w fun e w' => e = .returned (.agg #[.string ⟨#[]⟩, .int .i64 0, .int .i64 0, .string ⟨#[]⟩, .int .i64 0, .int .i64 0, .string ⟨#[]⟩, .string ⟨#[]⟩]) ∧ Below w.heap.size w w' := by
  have e2 : ((n : Int) == 2) = false := by rw [beq_eq_false_iff_ne]; omega
  have e8 : ((n : Int) == 8) = false := by rw [beq_eq_false_iff_ne]; omega
  have HB0 : Hid (∀ o, Below w.heap.size w (w.alloc o)) := fun o => (Below.refl _ _).alloc (Nat.le_refl _) o
  clear h2 h8
  go_enter Tryz.func115, Tryz.ntmps115
  go_wp2
  refine bodyPost_ret (sp_ret rfl (by exact heap_alloc_new w _) rfl) rfl ?_
  exact ⟨rfl, HB0.out _⟩

theorem list_two {α : Type} {l : List α} (h : l.length = 2) : ∃ a b, l = [a, b] := by
  match l, h with
  | [a, b], _ => exact ⟨a, b, rfl⟩
theorem list_eight {α : Type} {l : List α} (h : l.length = 8) : ∃ a b c d e f g y, l = [a, b, c, d, e, f, g, y] := by
  match l, h with
  | [a, b, c, d, e, f, g, y], _ => exact ⟨a, b, c, d, e, f, g, y, rfl⟩

theorem supposed_any (fs : List (List UInt8)) (bk cc : Nat) (w : World) (hG : LnG w) (hl : ∀ x ∈ fs, x.length ≤ 1000000000) (hc : ∀ (j : Nat) x, fs[j]? = some x → w.cell? ⟨bk, j, none⟩ = some (.string ⟨x.toArray⟩)) :
    Calls Tryz.prog 115 #[.slice (some ⟨bk, 0, none⟩) fs.length cc] w fun e w' => e = .returned (.agg (Ln.sp fs).vals) ∧ Below w.heap.size w w' := by
  by_cases h2 : fs.length = 2
  · obtain ⟨a, b, rfl⟩ := list_two h2
    exact supposed_two a b bk cc w hG (hc 0 _ rfl) (hc 1 _ rfl)
  · by_cases h8 : fs.length = 8
    · obtain ⟨a, b, c, d, e, f, g, y, rfl⟩ := list_eight h8
      exact supposed_eight a b c d e f g y bk cc w hG.few hG (hl e (by simp)) (hl f (by simp)) (hc 0 _ rfl) (hc 1 _ rfl) (hc 2 _ rfl) (hc 3 _ rfl) (hc 4 _ rfl) (hc 5 _ rfl) (hc 6 _ rfl) (hc 7 _ rfl)
    · rw [Ln.sp_other h2 h8]
      exact supposed_other bk cc fs.length w h2 h8

/-! ### what a right record's fields are taken for -/

theorem vo_verdict {v : Int} (h0 : 0 ≤ v) (h2 : v ≤ 2) : Ln.vo (Ln.verdict v) = v := by
  have : v = 0 ∨ v = 1 ∨ v = 2 := by omega
  rcases this with rfl | rfl | rfl <;> rfl
theorem so_strand {n : Int} (h : Lt.strandB n = true) : Ln.so (Ln.strand n) = n := by
  rcases Pa.strand_cases h with rfl | rfl | rfl | rfl <;> rfl

end Go.Proofs.YtfcbgfomhmcikaaGreatDoor
