/-
  THE WALK of the program's lineOf, of an aligned record. Own text of the verifier.
-/
import Derived.Test.YtfcbgfomhmcikaaGreatDoorBun17
namespace Go.Proofs.YtfcbgfomhmcikaaGreatDoor
open Go.RowKit

theorem Ln.name_len {l : List UInt8} (h : Ln.name l = true) : l.length ≤ 32 := by unfold Ln.name at h; simp at h; exact h.2.2

set_option maxRecDepth 100000 in
set_option maxHeartbeats 1600000 in
theorem lineOf_full (r : Rc) (w : World) (hr : r.right = true) (hv : r.vd = 1) (hG : LnG w) :
    Calls Tryz.prog 75 #[.agg r.vals] w fun e w' => e = .returned (.string ⟨r.line.toArray⟩) ∧ Below w.heap.size w w' := by
  obtain ⟨hn, _, _, hfull, _⟩ := Rc.right_parts hr
  have hf := hfull hv
  obtain ⟨hst, hct, _, _, hp0, hp1, hm0, hm1⟩ := Rc.full_parts hf
  have hlk : r.lt.length ≤ 128 ∧ r.cl.length = r.lt.length := by
    unfold Rc.full at hf
    simp only [Bool.and_eq_true, decide_eq_true_eq, beq_iff_eq] at hf
    obtain ⟨_, _, _, _, _, _, _, h8, _, _, h11⟩ := hf
    exact ⟨by omega, by omega⟩
  have hnl := Ln.name_len hn
  have hcl := Ln.name_len hct
  have hfl : r.fields = [r.nm, Ln.verdict 1, Ln.strand r.sd, r.ct, Ln.dig 3 r.pl.toNat, Ln.dig 3 r.mm.toNat, r.lt, r.cl] := by rw [Rc.fields, if_pos hv, hv]
  have HL : Hid (r.line = Lib.join [r.nm, Ln.verdict 1, Ln.strand r.sd, r.ct, Ln.dig 3 r.pl.toNat, Ln.dig 3 r.mm.toNat, r.lt, r.cl] [9] ++ [10]) := by show _ = _; rw [Rc.line_join, hfl]
  obtain ⟨j, hj1, hj4, hjv⟩ : ∃ j : Nat, 1 ≤ j ∧ j ≤ 4 ∧ r.sd = (j : Int) := by
    rw [Lt.strandB, Bool.and_eq_true] at hst
    have h1 := of_decide_eq_true hst.1
    have h4 := of_decide_eq_true hst.2
    exact ⟨r.sd.toNat, by omega, by omega, by omega⟩
  have hg := hG.sd j hj1 hj4
  have hg1 := hG.vd 1 (by omega)
  have hfew := hG.few
  rw [← hjv] at hg
  obtain ⟨T, hT⟩ : ∃ T, T = Ln.strand r.sd := ⟨_, rfl⟩
  have hTl : T.length ≤ 4 := by rw [hT]; exact Ln.strand_length _
  obtain ⟨D1, hD1⟩ : ∃ D1, D1 = Ln.dig 3 r.pl.toNat := ⟨_, rfl⟩
  obtain ⟨D2, hD2⟩ : ∃ D2, D2 = Ln.dig 3 r.mm.toNat := ⟨_, rfl⟩
  have hD1l : D1.length ≤ 4 := by rw [hD1]; exact Ln.dig_length 3 _
  have hD2l : D2.length ≤ 4 := by rw [hD2]; exact Ln.dig_length 3 _
  rw [← hT] at hg
  rw [← hT, ← hD1, ← hD2] at HL
  obtain ⟨n, v, s, c, p, m, l, k⟩ := r
  dsimp only at *
  subst hjv hv
  have HI1 : Hid (∀ W : World, (W.cell? ⟨w.heap.size, 0, none⟩ = some (.string ⟨n.toArray⟩) ∧ W.cell? ⟨w.heap.size, 1, none⟩ = some (.int .i64 1) ∧ W.cell? ⟨w.heap.size, 2, none⟩ = some (.int .i64 (j : Int)) ∧ W.cell? ⟨w.heap.size, 3, none⟩ = some (.string ⟨c.toArray⟩) ∧ W.cell? ⟨w.heap.size, 4, none⟩ = some (.int .i64 p) ∧ W.cell? ⟨w.heap.size, 5, none⟩ = some (.int .i64 m) ∧ W.cell? ⟨w.heap.size, 6, none⟩ = some (.string ⟨l.toArray⟩) ∧ W.cell? ⟨w.heap.size, 7, none⟩ = some (.string ⟨k.toArray⟩) ∧ W.cell? ⟨0, 1, none⟩ = some (.string ⟨#[97, 108, 105, 103, 110, 101, 100]⟩) ∧ W.cell? ⟨1, j, none⟩ = some (.string ⟨T.toArray⟩) ∧ LnG W) → Calls Tryz.prog 105 #[.int .i64 p] W fun e w' => e = .returned (.string ⟨D1.toArray⟩) ∧ Below W.heap.size W w') := fun W h => by
    refine (Tryz.strconv_Itoa p (by omega) (by omega) W h.2.2.2.2.2.2.2.2.2.2.tab).mono ?_
    rintro e w' ⟨rfl, q, os, rfl⟩
    rw [itoa_dig hp0 hp1, ← hD1]
    exact ⟨rfl, Lib.below_grow _ W (Nat.le_refl _) q os⟩
  have HI2 : Hid (∀ W : World, (W.cell? ⟨w.heap.size, 0, none⟩ = some (.string ⟨n.toArray⟩) ∧ W.cell? ⟨w.heap.size, 1, none⟩ = some (.int .i64 1) ∧ W.cell? ⟨w.heap.size, 2, none⟩ = some (.int .i64 (j : Int)) ∧ W.cell? ⟨w.heap.size, 3, none⟩ = some (.string ⟨c.toArray⟩) ∧ W.cell? ⟨w.heap.size, 4, none⟩ = some (.int .i64 p) ∧ W.cell? ⟨w.heap.size, 5, none⟩ = some (.int .i64 m) ∧ W.cell? ⟨w.heap.size, 6, none⟩ = some (.string ⟨l.toArray⟩) ∧ W.cell? ⟨w.heap.size, 7, none⟩ = some (.string ⟨k.toArray⟩) ∧ W.cell? ⟨0, 1, none⟩ = some (.string ⟨#[97, 108, 105, 103, 110, 101, 100]⟩) ∧ W.cell? ⟨1, j, none⟩ = some (.string ⟨T.toArray⟩) ∧ LnG W) → Calls Tryz.prog 105 #[.int .i64 m] W fun e w' => e = .returned (.string ⟨D2.toArray⟩) ∧ Below W.heap.size W w') := fun W h => by
    refine (Tryz.strconv_Itoa m (by omega) (by omega) W h.2.2.2.2.2.2.2.2.2.2.tab).mono ?_
    rintro e w' ⟨rfl, q, os, rfl⟩
    rw [itoa_dig hm0 (by omega), ← hD2]
    exact ⟨rfl, Lib.below_grow _ W (Nat.le_refl _) q os⟩
  obtain ⟨LN, hLN⟩ : ∃ LN, LN = Rc.line ⟨n, 1, (j : Int), c, p, m, l, k⟩ := ⟨_, rfl⟩
  have HLC : Hid (∀ (W : World) (b : Nat), W.heap.size = b → Calls Tryz.prog 104 #[.slice (some ⟨b, 0, none⟩) 8 8] (W.alloc (.cells #[.string ⟨n.toArray⟩, .string ⟨#[97, 108, 105, 103, 110, 101, 100]⟩, .string ⟨T.toArray⟩, .string ⟨c.toArray⟩, .string ⟨D1.toArray⟩, .string ⟨D2.toArray⟩, .string ⟨l.toArray⟩, .string ⟨k.toArray⟩] 9)) fun e w' => e = .returned (.string ⟨LN.toArray⟩) ∧ Below (W.alloc (.cells #[.string ⟨n.toArray⟩, .string ⟨#[97, 108, 105, 103, 110, 101, 100]⟩, .string ⟨T.toArray⟩, .string ⟨c.toArray⟩, .string ⟨D1.toArray⟩, .string ⟨D2.toArray⟩, .string ⟨l.toArray⟩, .string ⟨k.toArray⟩] 9)).heap.size (W.alloc (.cells #[.string ⟨n.toArray⟩, .string ⟨#[97, 108, 105, 103, 110, 101, 100]⟩, .string ⟨T.toArray⟩, .string ⟨c.toArray⟩, .string ⟨D1.toArray⟩, .string ⟨D2.toArray⟩, .string ⟨l.toArray⟩, .string ⟨k.toArray⟩] 9)) w') := fun W b hb => by
    subst hb
    have h := pline_any W.heap.size 8 [n, [97, 108, 105, 103, 110, 101, 100], T, c, D1, D2, l, k] (W.alloc (.cells #[.string ⟨n.toArray⟩, .string ⟨#[97, 108, 105, 103, 110, 101, 100]⟩, .string ⟨T.toArray⟩, .string ⟨c.toArray⟩, .string ⟨D1.toArray⟩, .string ⟨D2.toArray⟩, .string ⟨l.toArray⟩, .string ⟨k.toArray⟩] 9)) (fun j x hj => by
      match j, hj with
      | 0, hj => simp at hj; subst hj; exact cell_of_row _ _ 0 _ _ _ (heap_alloc_new W _)
      | 1, hj => simp at hj; subst hj; exact cell_of_row _ _ 1 _ _ _ (heap_alloc_new W _)
      | 2, hj => simp at hj; subst hj; exact cell_of_row _ _ 2 _ _ _ (heap_alloc_new W _)
      | 3, hj => simp at hj; subst hj; exact cell_of_row _ _ 3 _ _ _ (heap_alloc_new W _)
      | 4, hj => simp at hj; subst hj; exact cell_of_row _ _ 4 _ _ _ (heap_alloc_new W _)
      | 5, hj => simp at hj; subst hj; exact cell_of_row _ _ 5 _ _ _ (heap_alloc_new W _)
      | 6, hj => simp at hj; subst hj; exact cell_of_row _ _ 6 _ _ _ (heap_alloc_new W _)
      | 7, hj => simp at hj; subst hj; exact cell_of_row _ _ 7 _ _ _ (heap_alloc_new W _)
      | j + 8, hj => simp at hj) (by simp) (by simp) (by simp) (by simp [Lib.join, List.intercalate, List.intersperse]; omega)
    have e : Rc.line ⟨n, 1, (j : Int), c, p, m, l, k⟩ = Lib.join [n, [97, 108, 105, 103, 110, 101, 100], T, c, D1, D2, l, k] [9] ++ [10] := HL.out
    rw [← e, ← hLN] at h
    exact h
  rw [← hLN]
  have HK : Hid (∀ w1 W : World, Below W.heap.size W w1 → (W.cell? ⟨w.heap.size, 0, none⟩ = some (.string ⟨n.toArray⟩) ∧ W.cell? ⟨w.heap.size, 1, none⟩ = some (.int .i64 1) ∧ W.cell? ⟨w.heap.size, 2, none⟩ = some (.int .i64 (j : Int)) ∧ W.cell? ⟨w.heap.size, 3, none⟩ = some (.string ⟨c.toArray⟩) ∧ W.cell? ⟨w.heap.size, 4, none⟩ = some (.int .i64 p) ∧ W.cell? ⟨w.heap.size, 5, none⟩ = some (.int .i64 m) ∧ W.cell? ⟨w.heap.size, 6, none⟩ = some (.string ⟨l.toArray⟩) ∧ W.cell? ⟨w.heap.size, 7, none⟩ = some (.string ⟨k.toArray⟩) ∧ W.cell? ⟨0, 1, none⟩ = some (.string ⟨#[97, 108, 105, 103, 110, 101, 100]⟩) ∧ W.cell? ⟨1, j, none⟩ = some (.string ⟨T.toArray⟩) ∧ LnG W) → (w1.cell? ⟨w.heap.size, 0, none⟩ = some (.string ⟨n.toArray⟩) ∧ w1.cell? ⟨w.heap.size, 1, none⟩ = some (.int .i64 1) ∧ w1.cell? ⟨w.heap.size, 2, none⟩ = some (.int .i64 (j : Int)) ∧ w1.cell? ⟨w.heap.size, 3, none⟩ = some (.string ⟨c.toArray⟩) ∧ w1.cell? ⟨w.heap.size, 4, none⟩ = some (.int .i64 p) ∧ w1.cell? ⟨w.heap.size, 5, none⟩ = some (.int .i64 m) ∧ w1.cell? ⟨w.heap.size, 6, none⟩ = some (.string ⟨l.toArray⟩) ∧ w1.cell? ⟨w.heap.size, 7, none⟩ = some (.string ⟨k.toArray⟩) ∧ w1.cell? ⟨0, 1, none⟩ = some (.string ⟨#[97, 108, 105, 103, 110, 101, 100]⟩) ∧ w1.cell? ⟨1, j, none⟩ = some (.string ⟨T.toArray⟩) ∧ LnG w1)) := fun w1 W hb h =>
    have e : ∀ p v, W.cell? p = some v → w1.cell? p = some v := fun p v h => (hb.cell (World.block_lt_of_cell? W _ h)).trans h
    ⟨e _ _ h.1, e _ _ h.2.1, e _ _ h.2.2.1, e _ _ h.2.2.2.1, e _ _ h.2.2.2.2.1, e _ _ h.2.2.2.2.2.1, e _ _ h.2.2.2.2.2.2.1, e _ _ h.2.2.2.2.2.2.2.1, e _ _ h.2.2.2.2.2.2.2.2.1, e _ _ h.2.2.2.2.2.2.2.2.2.1, h.2.2.2.2.2.2.2.2.2.2.below h.2.2.2.2.2.2.2.2.2.2.few hb⟩
  have HKA : Hid (∀ (W : World) (o : Obj), (W.cell? ⟨w.heap.size, 0, none⟩ = some (.string ⟨n.toArray⟩) ∧ W.cell? ⟨w.heap.size, 1, none⟩ = some (.int .i64 1) ∧ W.cell? ⟨w.heap.size, 2, none⟩ = some (.int .i64 (j : Int)) ∧ W.cell? ⟨w.heap.size, 3, none⟩ = some (.string ⟨c.toArray⟩) ∧ W.cell? ⟨w.heap.size, 4, none⟩ = some (.int .i64 p) ∧ W.cell? ⟨w.heap.size, 5, none⟩ = some (.int .i64 m) ∧ W.cell? ⟨w.heap.size, 6, none⟩ = some (.string ⟨l.toArray⟩) ∧ W.cell? ⟨w.heap.size, 7, none⟩ = some (.string ⟨k.toArray⟩) ∧ W.cell? ⟨0, 1, none⟩ = some (.string ⟨#[97, 108, 105, 103, 110, 101, 100]⟩) ∧ W.cell? ⟨1, j, none⟩ = some (.string ⟨T.toArray⟩) ∧ LnG W) → ((W.alloc o).cell? ⟨w.heap.size, 0, none⟩ = some (.string ⟨n.toArray⟩) ∧ (W.alloc o).cell? ⟨w.heap.size, 1, none⟩ = some (.int .i64 1) ∧ (W.alloc o).cell? ⟨w.heap.size, 2, none⟩ = some (.int .i64 (j : Int)) ∧ (W.alloc o).cell? ⟨w.heap.size, 3, none⟩ = some (.string ⟨c.toArray⟩) ∧ (W.alloc o).cell? ⟨w.heap.size, 4, none⟩ = some (.int .i64 p) ∧ (W.alloc o).cell? ⟨w.heap.size, 5, none⟩ = some (.int .i64 m) ∧ (W.alloc o).cell? ⟨w.heap.size, 6, none⟩ = some (.string ⟨l.toArray⟩) ∧ (W.alloc o).cell? ⟨w.heap.size, 7, none⟩ = some (.string ⟨k.toArray⟩) ∧ (W.alloc o).cell? ⟨0, 1, none⟩ = some (.string ⟨#[97, 108, 105, 103, 110, 101, 100]⟩) ∧ (W.alloc o).cell? ⟨1, j, none⟩ = some (.string ⟨T.toArray⟩) ∧ LnG (W.alloc o))) := fun W o h => HK.out (W.alloc o) W ((Below.refl W.heap.size W).alloc (Nat.le_refl _) o) h
  have hA0 : Below w.heap.size w (w.alloc (.cells #[.string ⟨n.toArray⟩, .int .i64 1, .int .i64 (j : Int), .string ⟨c.toArray⟩, .int .i64 p, .int .i64 m, .string ⟨l.toArray⟩, .string ⟨k.toArray⟩] 47)) := (Below.refl _ _).alloc (Nat.le_refl _) _
  have HS1 : Hid ((w.alloc (.cells #[.string ⟨n.toArray⟩, .int .i64 1, .int .i64 (j : Int), .string ⟨c.toArray⟩, .int .i64 p, .int .i64 m, .string ⟨l.toArray⟩, .string ⟨k.toArray⟩] 47)).drew.cell? ⟨w.heap.size, 0, none⟩ = some (.string ⟨n.toArray⟩) ∧ (w.alloc (.cells #[.string ⟨n.toArray⟩, .int .i64 1, .int .i64 (j : Int), .string ⟨c.toArray⟩, .int .i64 p, .int .i64 m, .string ⟨l.toArray⟩, .string ⟨k.toArray⟩] 47)).drew.cell? ⟨w.heap.size, 1, none⟩ = some (.int .i64 1) ∧ (w.alloc (.cells #[.string ⟨n.toArray⟩, .int .i64 1, .int .i64 (j : Int), .string ⟨c.toArray⟩, .int .i64 p, .int .i64 m, .string ⟨l.toArray⟩, .string ⟨k.toArray⟩] 47)).drew.cell? ⟨w.heap.size, 2, none⟩ = some (.int .i64 (j : Int)) ∧ (w.alloc (.cells #[.string ⟨n.toArray⟩, .int .i64 1, .int .i64 (j : Int), .string ⟨c.toArray⟩, .int .i64 p, .int .i64 m, .string ⟨l.toArray⟩, .string ⟨k.toArray⟩] 47)).drew.cell? ⟨w.heap.size, 3, none⟩ = some (.string ⟨c.toArray⟩) ∧ (w.alloc (.cells #[.string ⟨n.toArray⟩, .int .i64 1, .int .i64 (j : Int), .string ⟨c.toArray⟩, .int .i64 p, .int .i64 m, .string ⟨l.toArray⟩, .string ⟨k.toArray⟩] 47)).drew.cell? ⟨w.heap.size, 4, none⟩ = some (.int .i64 p) ∧ (w.alloc (.cells #[.string ⟨n.toArray⟩, .int .i64 1, .int .i64 (j : Int), .string ⟨c.toArray⟩, .int .i64 p, .int .i64 m, .string ⟨l.toArray⟩, .string ⟨k.toArray⟩] 47)).drew.cell? ⟨w.heap.size, 5, none⟩ = some (.int .i64 m) ∧ (w.alloc (.cells #[.string ⟨n.toArray⟩, .int .i64 1, .int .i64 (j : Int), .string ⟨c.toArray⟩, .int .i64 p, .int .i64 m, .string ⟨l.toArray⟩, .string ⟨k.toArray⟩] 47)).drew.cell? ⟨w.heap.size, 6, none⟩ = some (.string ⟨l.toArray⟩) ∧ (w.alloc (.cells #[.string ⟨n.toArray⟩, .int .i64 1, .int .i64 (j : Int), .string ⟨c.toArray⟩, .int .i64 p, .int .i64 m, .string ⟨l.toArray⟩, .string ⟨k.toArray⟩] 47)).drew.cell? ⟨w.heap.size, 7, none⟩ = some (.string ⟨k.toArray⟩) ∧ (w.alloc (.cells #[.string ⟨n.toArray⟩, .int .i64 1, .int .i64 (j : Int), .string ⟨c.toArray⟩, .int .i64 p, .int .i64 m, .string ⟨l.toArray⟩, .string ⟨k.toArray⟩] 47)).drew.cell? ⟨0, 1, none⟩ = some (.string ⟨#[97, 108, 105, 103, 110, 101, 100]⟩) ∧ (w.alloc (.cells #[.string ⟨n.toArray⟩, .int .i64 1, .int .i64 (j : Int), .string ⟨c.toArray⟩, .int .i64 p, .int .i64 m, .string ⟨l.toArray⟩, .string ⟨k.toArray⟩] 47)).drew.cell? ⟨1, j, none⟩ = some (.string ⟨T.toArray⟩) ∧ LnG (w.alloc (.cells #[.string ⟨n.toArray⟩, .int .i64 1, .int .i64 (j : Int), .string ⟨c.toArray⟩, .int .i64 p, .int .i64 m, .string ⟨l.toArray⟩, .string ⟨k.toArray⟩] 47)).drew) := ⟨cell_of_row _ _ 0 _ _ _ (heap_alloc_new w _), cell_of_row _ _ 1 _ _ _ (heap_alloc_new w _), cell_of_row _ _ 2 _ _ _ (heap_alloc_new w _), cell_of_row _ _ 3 _ _ _ (heap_alloc_new w _), cell_of_row _ _ 4 _ _ _ (heap_alloc_new w _), cell_of_row _ _ 5 _ _ _ (heap_alloc_new w _), cell_of_row _ _ 6 _ _ _ (heap_alloc_new w _), cell_of_row _ _ 7 _ _ _ (heap_alloc_new w _), (hA0.cell (p := ⟨0, 1, none⟩) (by show 0 < w.heap.size; omega)).trans hg1, (hA0.cell (p := ⟨1, j, none⟩) (by show 1 < w.heap.size; omega)).trans hg, hG.below hG.few hA0.drew⟩
  have HBS : Hid (∀ o, Below w.heap.size w (w.alloc o).drew) := fun o => ((Below.refl _ _).alloc (Nat.le_refl _) o).drew
  have HB2 : Hid (∀ (W w1 : World), Below w.heap.size w W → Below W.heap.size W w1 → Below w.heap.size w w1) := fun W w1 h1 h2 => h1.trans (h2.mono h1.size)
  have HBA : Hid (∀ (W : World) (o : Obj), Below w.heap.size w W → Below w.heap.size w (W.alloc o)) := fun W o h => h.alloc h.size o
  have hj5 : (j : Int) < 5 := by omega
  clear hLN HL hg hg1 hG hT hD1 hD2 hD1l hD2l hTl hfl hnl hcl hlk hf hst hct hp0 hp1 hm0 hm1 hfull hn hr hA0 hj1 hj4
  unfold Rc.vals
  dsimp only
  go_enter Tryz.func75, Tryz.ntmps75
  go_wp2_with fail
  go_region_held3 (fun Y => Y.cell? ⟨w.heap.size, 0, none⟩ = some (.string ⟨n.toArray⟩) ∧ Y.cell? ⟨w.heap.size, 1, none⟩ = some (.int .i64 1) ∧ Y.cell? ⟨w.heap.size, 2, none⟩ = some (.int .i64 (j : Int)) ∧ Y.cell? ⟨w.heap.size, 3, none⟩ = some (.string ⟨c.toArray⟩) ∧ Y.cell? ⟨w.heap.size, 4, none⟩ = some (.int .i64 p) ∧ Y.cell? ⟨w.heap.size, 5, none⟩ = some (.int .i64 m) ∧ Y.cell? ⟨w.heap.size, 6, none⟩ = some (.string ⟨l.toArray⟩) ∧ Y.cell? ⟨w.heap.size, 7, none⟩ = some (.string ⟨k.toArray⟩) ∧ Y.cell? ⟨0, 1, none⟩ = some (.string ⟨#[97, 108, 105, 103, 110, 101, 100]⟩) ∧ Y.cell? ⟨1, j, none⟩ = some (.string ⟨T.toArray⟩) ∧ LnG Y)
    (first | (with_reducible exact HS1.out) | (with_reducible (refine HKA.out _ _ ?_; assumption)) | (with_reducible (refine HK.out _ _ (by assumption) ?_; assumption)))
    (first
      | (go_at_call_of 105 (Value.int .i64 p); go_must (with_reducible refine (HI1.out _ (by assumption)).mono ?_); rintro e w1 ⟨rfl, hb1⟩)
      | (go_at_call 105; go_must (with_reducible refine (HI2.out _ (by assumption)).mono ?_); rintro e w2 ⟨rfl, hb2⟩)
      | (go_at_call 104; go_must (with_reducible refine (HLC.out _ _ (by rfl)).mono ?_); rintro e w3 ⟨rfl, hb3⟩))
  all_goals
    go_wp2
    go_ret
    exact ⟨rfl, HB2.out _ _ (HBA.out _ _ (HB2.out _ _ (HB2.out _ _ (HBS.out _) hb1) hb2)) hb3⟩

end Go.Proofs.YtfcbgfomhmcikaaGreatDoor
