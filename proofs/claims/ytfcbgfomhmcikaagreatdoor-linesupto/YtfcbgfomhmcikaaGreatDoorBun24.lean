/-
  strings.Split of a text by a tab, and what 'recordOf' answers, in plain words. Own text of the verifier.
  THE WALK of 'recordOf'. Own text of the verifier.
  strings.Cut of a text at a newline, and records that are parsed one by one: in plain words. Own text of the verifier.
-/
import Derived.Test.YtfcbgfomhmcikaaGreatDoorXPrBack
import Derived.Test.YtfcbgfomhmcikaaGreatDoorXPrRender
namespace Go.Proofs.YtfcbgfomhmcikaaGreatDoor
open Go.RowKit

theorem Ln.cuts_split (t : List UInt8) : ((Lib.splitB ⟨#[9]⟩ 0 (Lib.countB ⟨t.toArray⟩ ⟨#[9]⟩) ⟨t.toArray⟩).map Value.string) = Txs (Ln.cuts t) ∧ Lib.countB ⟨t.toArray⟩ ⟨#[9]⟩ + 1 = (Ln.cuts t).length := by
  have hc : Lib.countB ⟨t.toArray⟩ ⟨#[9]⟩ = t.count 9 := Lib.count_one 9 t
  have hd := Lib.splitB_data ⟨#[9]⟩ 0 (t.count 9) ⟨t.toArray⟩
  have hd' : (Lib.splitB ⟨#[9]⟩ 0 (t.count 9) ⟨t.toArray⟩).map (·.data.toList) = Ln.cuts t := hd
  have hl := Lib.splitB_all ⟨#[9]⟩ (by decide) 0 _ ⟨t.toArray⟩ hc
  rw [hc]
  constructor
  · rw [← hd', Txs, List.map_map]
    rfl
  · rw [← hd', List.length_map, hl]

theorem psplit_any (t : List UInt8) (w : World) (hG : LnG w) (ht : t.length ≤ 1000000000) :
    Calls Tryz.prog 116 #[.string ⟨t.toArray⟩, .string ⟨#[9]⟩] w fun e w' =>
      e = .returned (.slice (some ⟨w.heap.size, 0, none⟩) (Ln.cuts t).length (Ln.cuts t).length) ∧ w' = w.alloc (.cells (Txs (Ln.cuts t)).toArray 9) := by
  obtain ⟨m, hm⟩ := hG.max
  obtain ⟨h1, h2⟩ := Ln.cuts_split t
  have h := Tryz.strings_Split ⟨t.toArray⟩ ⟨#[9]⟩ m w (by rw [str_size]; omega) hm (by decide)
  rw [h1, h2] at h
  exact h

/-- no piece is longer than the text -/
theorem Ln.splitK_le : ∀ (k : Nat) (t : List UInt8), ∀ f ∈ Lib.splitK [9] 0 k t, f.length ≤ t.length := by
  intro k
  induction k with
  | zero => intro t f hf; simp [Lib.splitK] at hf; rw [hf]; exact Nat.le_refl _
  | succ k ih =>
    intro t f hf
    unfold Lib.splitK at hf
    split at hf
    · simp at hf; rw [hf]; exact Nat.le_refl _
    · rw [List.mem_cons] at hf
      rcases hf with rfl | hf
      · rw [List.length_take]; exact Nat.min_le_right _ _
      · have := ih _ f hf
        rw [List.length_drop] at this
        omega
theorem Ln.cuts_le (t : List UInt8) : ∀ f ∈ Ln.cuts t, f.length ≤ t.length := Ln.splitK_le _ t

/-- what the pieces are taken for is small, if they are -/
theorem Ln.sp_small {fs : List (List UInt8)} (h : ∀ f ∈ fs, f.length ≤ 1000000000) : (Ln.sp fs).Small := by
  unfold Ln.sp
  split
  · next a b => exact ⟨Nat.le_trans (h a (by simp)) (by decide), by simp, by simp, by simp⟩
  · next a b c d e f g y => exact ⟨Nat.le_trans (h a (by simp)) (by decide), Nat.le_trans (h d (by simp)) (by decide), Nat.le_trans (h g (by simp)) (by decide), Nat.le_trans (h y (by simp)) (by decide)⟩
  · exact ⟨by simp, by simp, by simp, by simp⟩

/-- the record that a line (without its newline) is supposed to be -/
def Ln.sup (t : List UInt8) : Rc := Ln.sp (Ln.cuts t)
/-- it is one -/
def Ln.isRec (t : List UInt8) : Bool := (Ln.sup t).right && decide ((Ln.sup t).line = t ++ [10])
/-- what recordOf answers -/
def Ln.recd (t : List UInt8) : Rc := if Ln.isRec t = true then Ln.sup t else ⟨[], 0, 0, [], 0, 0, [], []⟩

theorem Ln.isRec_true {t : List UInt8} (h : Ln.isRec t = true) : (Ln.recd t).right = true ∧ (Ln.recd t).line = t ++ [10] := by
  unfold Ln.recd
  rw [if_pos h]
  simpa [Ln.isRec] using h
theorem Ln.isRec_false {t : List UInt8} (h : Ln.isRec t = false) (r : Rc) (hr : r.right = true) : r.line ≠ t ++ [10] := by
  intro e
  have hs : Ln.sup t = r := Ln.sp_line hr e
  unfold Ln.isRec at h
  rw [hs, hr] at h
  simp [e] at h

end Go.Proofs.YtfcbgfomhmcikaaGreatDoor

namespace Go.Proofs.YtfcbgfomhmcikaaGreatDoor
open Go.RowKit

theorem ro_ret {w : World} {g : Nat} {A : Array Value} {tmps : Array Value} (hp : tmps.getD 2 undef = .pointer (some ⟨g, 0, none⟩)) (hg : w.heap[g]? = some (.cells A 47 (0, 0))) (h8 : A.size = 8) :
    (results Tryz.f80 tmps).run Tryz.prog w = .ok (.tuple #[.agg A, tmps.getD 3 undef]) w := by
  rw [results_cell_tmp rfl, hp]
  simp only [asAddr, Sem.run_pure, Result.andThen_ok]
  rw [run_loadVar_row w g 47 47 A (0, 0) _ hg Tryz.underlying47 rfl (by rw [Tryz.sizeRec3, h8])]
  rfl

set_option maxRecDepth 100000 in
set_option maxHeartbeats 400000 in
theorem recordOf_any (t : List UInt8) (w : World) (hG : LnG w) (ht : t.length ≤ 1000000000) :
    Calls Tryz.prog 80 #[.string ⟨t.toArray⟩] w fun e w' => e = .returned (.tuple #[.agg (Ln.recd t).vals, .bool (Ln.isRec t)]) ∧ Below w.heap.size w w' := by
  have hts : (⟨t.toArray⟩ : ByteArray).size ≤ 281474976710656 := by rw [str_size]; omega
  have HC : Hid (∀ W : World, Calls Tryz.prog 93 #[.string ⟨t.toArray⟩] W fun e w' => e = .returned (.string ⟨t.toArray⟩) ∧ Below W.heap.size W w') := fun W => clone_any _ W hts
  have HS : Hid (∀ W, LnG W → Calls Tryz.prog 116 #[.string ⟨t.toArray⟩, .string ⟨#[9]⟩] W fun e w' => e = .returned (.slice (some ⟨W.heap.size, 0, none⟩) (Ln.cuts t).length (Ln.cuts t).length) ∧ w' = W.alloc (.cells (Txs (Ln.cuts t)).toArray 9)) := fun W h => psplit_any t W h ht
  have HP : Hid (∀ (W : World) (b : Nat), W.heap.size = b → LnG W → Calls Tryz.prog 115 #[.slice (some ⟨b, 0, none⟩) (Ln.cuts t).length (Ln.cuts t).length] (W.alloc (.cells (Txs (Ln.cuts t)).toArray 9)) fun e w' => e = .returned (.agg (Ln.sup t).vals) ∧ Below W.heap.size W w') := fun W b hb hg => by
    subst hb
    have hB : Below W.heap.size W (W.alloc (.cells (Txs (Ln.cuts t)).toArray 9)) := (Below.refl _ _).alloc (Nat.le_refl _) _
    refine (supposed_any (Ln.cuts t) W.heap.size (Ln.cuts t).length _ (hg.below hg.few hB) (fun f hf => Nat.le_trans (Ln.cuts_le t f hf) ht) (fun j x hj => ?_)).mono ?_
    · refine cell_of_row _ _ j _ _ _ (heap_alloc_new W _) |>.trans ?_
      simp [Txs, hj]
    · rintro e w' ⟨rfl, hb⟩
      exact ⟨rfl, hB.trans (hb.mono hB.size)⟩
  have hsm : (Ln.sup t).Small := Ln.sp_small (fun f hf => Nat.le_trans (Ln.cuts_le t f hf) ht)
  obtain ⟨A, hA⟩ : ∃ A, A = (Ln.recd t).vals := ⟨_, rfl⟩
  obtain ⟨B, hB⟩ : ∃ B, B = Ln.isRec t := ⟨_, rfl⟩
  rw [← hA, ← hB]
  have hz : (⟨[], 0, 0, [], 0, 0, [], []⟩ : Rc).vals = #[.string ⟨#[]⟩, .int .i64 0, .int .i64 0, .string ⟨#[]⟩, .int .i64 0, .int .i64 0, .string ⟨#[]⟩, .string ⟨#[]⟩] := rfl
  have HA1 : Hid ((Ln.sup t).right = false → A = #[.string ⟨#[]⟩, .int .i64 0, .int .i64 0, .string ⟨#[]⟩, .int .i64 0, .int .i64 0, .string ⟨#[]⟩, .string ⟨#[]⟩] ∧ B = false) := fun h => by
    have e : Ln.isRec t = false := by unfold Ln.isRec; rw [h]; rfl
    rw [hA, hB, e, Ln.recd, e]; exact ⟨hz, rfl⟩
  have HA2 : Hid ((Ln.sup t).line ≠ t ++ [10] → A = #[.string ⟨#[]⟩, .int .i64 0, .int .i64 0, .string ⟨#[]⟩, .int .i64 0, .int .i64 0, .string ⟨#[]⟩, .string ⟨#[]⟩] ∧ B = false) := fun h => by
    have e : Ln.isRec t = false := by unfold Ln.isRec; simp [h]
    rw [hA, hB, e, Ln.recd, e]; exact ⟨hz, rfl⟩
  have HA3 : Hid ((Ln.sup t).right = true → (Ln.sup t).line = t ++ [10] → A = (Ln.sup t).vals ∧ B = true) := fun h h2 => by
    have e : Ln.isRec t = true := by unfold Ln.isRec; simp [h, h2]
    rw [hA, hB, e, Ln.recd, if_pos e]; exact ⟨rfl, rfl⟩
  clear hA hB hz
  obtain ⟨R, hR⟩ : ∃ R, R = Ln.sup t := ⟨_, rfl⟩
  rw [← hR] at HP hsm HA1 HA2 HA3
  clear hR
  obtain ⟨M, hM⟩ : ∃ M, M = Ln.cuts t := ⟨_, rfl⟩
  rw [← hM] at HS HP
  clear hM
  have HR : Hid (∀ W, Calls Tryz.prog 74 #[.agg R.vals] W fun e w' => e = .returned (.bool R.right) ∧ Below W.heap.size W w') := fun W => isRight_any _ W hsm
  have HL : Hid (∀ W, R.right = true → LnG W → Calls Tryz.prog 75 #[.agg R.vals] W fun e w' => e = .returned (.string ⟨R.line.toArray⟩) ∧ Below W.heap.size W w') := fun W h hg => lineOf_any _ W h hg
  have HB0 : Hid _ := (Below.refl w.heap.size w).alloc (Nat.le_refl _) (.cells #[.string ⟨#[]⟩, .int .i64 0, .int .i64 0, .string ⟨#[]⟩, .int .i64 0, .int .i64 0, .string ⟨#[]⟩, .string ⟨#[]⟩] 47)
  have HZ0 : Hid _ := heap_alloc_new w (.cells #[.string ⟨#[]⟩, .int .i64 0, .int .i64 0, .string ⟨#[]⟩, .int .i64 0, .int .i64 0, .string ⟨#[]⟩, .string ⟨#[]⟩] 47)
  have HG : Hid (∀ W, Below w.heap.size w W → LnG W) := fun W hb => hG.below hG.few hb
  have hts2 := hts
  clear hG hsm hts hts2
  have hRV : R.vals = #[.string ⟨R.nm.toArray⟩, .int .i64 R.vd, .int .i64 R.sd, .string ⟨R.ct.toArray⟩, .int .i64 R.pl, .int .i64 R.mm, .string ⟨R.lt.toArray⟩, .string ⟨R.cl.toArray⟩] := rfl
  rw [hRV] at HP HR HL HA3
  clear hRV
  go_enter Tryz.func80, Tryz.ntmps80
  go_wp2_with fail
  refine (HC.out _).mono ?_
  rintro e w1 ⟨rfl, hb1⟩
  have HB1 : Hid (Below w.heap.size w w1) := HB0.out.trans (hb1.mono (by simp))
  have HZ1 : Hid (w1.heap[w.heap.size]? = some (.cells #[.string ⟨#[]⟩, .int .i64 0, .int .i64 0, .string ⟨#[]⟩, .int .i64 0, .int .i64 0, .string ⟨#[]⟩, .string ⟨#[]⟩] 47 (0, 0))) := (hb1.block _ (by simp)).trans HZ0.out
  clear hb1 HB0 HZ0
  go_wp2_with fail
  refine (HS.out _ (HG.out _ HB1.out)).mono ?_
  rintro e w2 ⟨rfl, hw2⟩
  subst w2
  go_wp2_with fail
  refine (HP.out _ _ rfl (HG.out _ HB1.out)).mono ?_
  rintro e w3 ⟨rfl, hb3⟩
  have hlt1 : w.heap.size < w1.heap.size := (Array.getElem?_eq_some_iff.1 HZ1.out).1
  have HB3 : Hid (Below w.heap.size w w3) := HB1.out.trans (hb3.mono (by omega))
  have HZ3 : Hid (w3.heap[w.heap.size]? = some (.cells #[.string ⟨#[]⟩, .int .i64 0, .int .i64 0, .string ⟨#[]⟩, .int .i64 0, .int .i64 0, .string ⟨#[]⟩, .string ⟨#[]⟩] 47 (0, 0))) := (hb3.block _ hlt1).trans HZ1.out
  have hlt3 : w.heap.size < w3.heap.size := (Array.getElem?_eq_some_iff.1 HZ3.out).1
  clear hb3 HB1 HZ1 hlt1
  have HB4 : Hid (∀ o, Below w3.heap.size w3 (w3.alloc o)) := fun o => (Below.refl _ _).alloc (Nat.le_refl _) o
  go_wp2_with fail
  refine (HR.out _).mono ?_
  rintro e w5 ⟨rfl, hb5⟩
  have hz5 : w5.heap[w.heap.size]? = some (.cells #[.string ⟨#[]⟩, .int .i64 0, .int .i64 0, .string ⟨#[]⟩, .int .i64 0, .int .i64 0, .string ⟨#[]⟩, .string ⟨#[]⟩] 47 (0, 0)) := (hb5.block _ (by simp; omega)).trans (((HB4.out _).block _ hlt3).trans HZ3.out)
  have hq5 : w5.heap[w3.heap.size]? = some (.cells #[.string ⟨R.nm.toArray⟩, .int .i64 R.vd, .int .i64 R.sd, .string ⟨R.ct.toArray⟩, .int .i64 R.pl, .int .i64 R.mm, .string ⟨R.lt.toArray⟩, .string ⟨R.cl.toArray⟩] 47 (0, 0)) := (hb5.block _ (by simp)).trans (heap_alloc_new w3 _)
  have HB5 : Hid (Below w.heap.size w w5) := HB3.out.trans (((HB4.out _).trans (hb5.mono (by simp))).mono (by omega))
  have HZ5 : Hid _ := hz5
  have HQ5 : Hid _ := hq5
  have r0 : w5.cell? ⟨w.heap.size, 0, none⟩ = some (.string ⟨#[]⟩) := cell_of_row _ _ 0 _ _ _ hz5
  have f0 : w5.frozen? ⟨w.heap.size, 0, none⟩ = false := frozen_of_row _ _ 0 _ _ hz5
  have q0 : w5.cell? ⟨w3.heap.size, 0, none⟩ = some (.string ⟨R.nm.toArray⟩) := cell_of_row _ _ 0 _ _ _ hq5
  have r1 : w5.cell? ⟨w.heap.size, 1, none⟩ = some (.int .i64 0) := cell_of_row _ _ 1 _ _ _ hz5
  have f1 : w5.frozen? ⟨w.heap.size, 1, none⟩ = false := frozen_of_row _ _ 1 _ _ hz5
  have q1 : w5.cell? ⟨w3.heap.size, 1, none⟩ = some (.int .i64 R.vd) := cell_of_row _ _ 1 _ _ _ hq5
  have r2 : w5.cell? ⟨w.heap.size, 2, none⟩ = some (.int .i64 0) := cell_of_row _ _ 2 _ _ _ hz5
  have f2 : w5.frozen? ⟨w.heap.size, 2, none⟩ = false := frozen_of_row _ _ 2 _ _ hz5
  have q2 : w5.cell? ⟨w3.heap.size, 2, none⟩ = some (.int .i64 R.sd) := cell_of_row _ _ 2 _ _ _ hq5
  have r3 : w5.cell? ⟨w.heap.size, 3, none⟩ = some (.string ⟨#[]⟩) := cell_of_row _ _ 3 _ _ _ hz5
  have f3 : w5.frozen? ⟨w.heap.size, 3, none⟩ = false := frozen_of_row _ _ 3 _ _ hz5
  have q3 : w5.cell? ⟨w3.heap.size, 3, none⟩ = some (.string ⟨R.ct.toArray⟩) := cell_of_row _ _ 3 _ _ _ hq5
  have r4 : w5.cell? ⟨w.heap.size, 4, none⟩ = some (.int .i64 0) := cell_of_row _ _ 4 _ _ _ hz5
  have f4 : w5.frozen? ⟨w.heap.size, 4, none⟩ = false := frozen_of_row _ _ 4 _ _ hz5
  have q4 : w5.cell? ⟨w3.heap.size, 4, none⟩ = some (.int .i64 R.pl) := cell_of_row _ _ 4 _ _ _ hq5
  have r5 : w5.cell? ⟨w.heap.size, 5, none⟩ = some (.int .i64 0) := cell_of_row _ _ 5 _ _ _ hz5
  have f5 : w5.frozen? ⟨w.heap.size, 5, none⟩ = false := frozen_of_row _ _ 5 _ _ hz5
  have q5 : w5.cell? ⟨w3.heap.size, 5, none⟩ = some (.int .i64 R.mm) := cell_of_row _ _ 5 _ _ _ hq5
  have r6 : w5.cell? ⟨w.heap.size, 6, none⟩ = some (.string ⟨#[]⟩) := cell_of_row _ _ 6 _ _ _ hz5
  have f6 : w5.frozen? ⟨w.heap.size, 6, none⟩ = false := frozen_of_row _ _ 6 _ _ hz5
  have q6 : w5.cell? ⟨w3.heap.size, 6, none⟩ = some (.string ⟨R.lt.toArray⟩) := cell_of_row _ _ 6 _ _ _ hq5
  have r7 : w5.cell? ⟨w.heap.size, 7, none⟩ = some (.string ⟨#[]⟩) := cell_of_row _ _ 7 _ _ _ hz5
  have f7 : w5.frozen? ⟨w.heap.size, 7, none⟩ = false := frozen_of_row _ _ 7 _ _ hz5
  have q7 : w5.cell? ⟨w3.heap.size, 7, none⟩ = some (.string ⟨R.cl.toArray⟩) := cell_of_row _ _ 7 _ _ _ hq5
  have hadd : ∀ wy : World, (Op.stringOp .add ⟨t.toArray⟩ ⟨#[10]⟩).run Tryz.prog wy = .ok (.string ⟨(t ++ [10]).toArray⟩) wy := fun wy => add_texts wy t [10] (by simp; omega)
  clear hb5 hz5 hq5 HP HS HC HR HB3 HZ3 HB4
  cases hr : R.right
  · clear HL HA2 HA3 HG
    have HA := HA1.out hr
    clear HA1
    have HA1 : Hid _ := HA
    clear HA hr
    go_wp2
    refine bodyPost_ret (ro_ret rfl (PaR.store HZ5.out _ _ _ _ _ _ _ _) rfl) rfl ?_
    exact ⟨by rw [HA1.out.1, HA1.out.2]; rfl, HB5.out.trans (PaR.beneath w5 w.heap.size _ _ _ _ _ _ _ _)⟩
  · clear HA1
    have HR1 : Hid _ := hr
    clear hr
    have HA3 : Hid _ := HA3.out HR1.out
    have HL : Hid _ := fun W hg => HL.out W HR1.out hg
    obtain ⟨LN, hLN⟩ : ∃ LN, LN = R.line := ⟨_, rfl⟩
    obtain ⟨TX, hTX⟩ : ∃ TX, TX = t ++ [10] := ⟨_, rfl⟩
    rw [← hLN] at HL
    rw [← hLN, ← hTX] at HA2 HA3
    rw [← hTX] at hadd
    clear hLN hTX HR1
    go_wp2_with fail
    refine (HL.out _ (HG.out _ HB5.out)).mono ?_
    rintro e w6 ⟨rfl, hb6⟩
    have hz6 : w6.heap[w.heap.size]? = some (.cells #[.string ⟨#[]⟩, .int .i64 0, .int .i64 0, .string ⟨#[]⟩, .int .i64 0, .int .i64 0, .string ⟨#[]⟩, .string ⟨#[]⟩] 47 (0, 0)) := (hb6.block _ (Array.getElem?_eq_some_iff.1 HZ5.out).1).trans HZ5.out
    have hq6 : w6.heap[w3.heap.size]? = some (.cells #[.string ⟨R.nm.toArray⟩, .int .i64 R.vd, .int .i64 R.sd, .string ⟨R.ct.toArray⟩, .int .i64 R.pl, .int .i64 R.mm, .string ⟨R.lt.toArray⟩, .string ⟨R.cl.toArray⟩] 47 (0, 0)) := (hb6.block _ (Array.getElem?_eq_some_iff.1 HQ5.out).1).trans HQ5.out
    have HB6 : Hid (Below w.heap.size w w6) := HB5.out.trans (hb6.mono HB5.out.size)
    have HZ6 : Hid _ := hz6
    clear r0 f0 q0 r1 f1 q1 r2 f2 q2 r3 f3 q3 r4 f4 q4 r5 f5 q5 r6 f6 q6 r7 f7 q7 HQ5 HZ5 HB5 hb6 HL HG
    have r0 : w6.cell? ⟨w.heap.size, 0, none⟩ = some (.string ⟨#[]⟩) := cell_of_row _ _ 0 _ _ _ hz6
    have f0 : w6.frozen? ⟨w.heap.size, 0, none⟩ = false := frozen_of_row _ _ 0 _ _ hz6
    have q0 : w6.cell? ⟨w3.heap.size, 0, none⟩ = some (.string ⟨R.nm.toArray⟩) := cell_of_row _ _ 0 _ _ _ hq6
    have r1 : w6.cell? ⟨w.heap.size, 1, none⟩ = some (.int .i64 0) := cell_of_row _ _ 1 _ _ _ hz6
    have f1 : w6.frozen? ⟨w.heap.size, 1, none⟩ = false := frozen_of_row _ _ 1 _ _ hz6
    have q1 : w6.cell? ⟨w3.heap.size, 1, none⟩ = some (.int .i64 R.vd) := cell_of_row _ _ 1 _ _ _ hq6
    have r2 : w6.cell? ⟨w.heap.size, 2, none⟩ = some (.int .i64 0) := cell_of_row _ _ 2 _ _ _ hz6
    have f2 : w6.frozen? ⟨w.heap.size, 2, none⟩ = false := frozen_of_row _ _ 2 _ _ hz6
    have q2 : w6.cell? ⟨w3.heap.size, 2, none⟩ = some (.int .i64 R.sd) := cell_of_row _ _ 2 _ _ _ hq6
    have r3 : w6.cell? ⟨w.heap.size, 3, none⟩ = some (.string ⟨#[]⟩) := cell_of_row _ _ 3 _ _ _ hz6
    have f3 : w6.frozen? ⟨w.heap.size, 3, none⟩ = false := frozen_of_row _ _ 3 _ _ hz6
    have q3 : w6.cell? ⟨w3.heap.size, 3, none⟩ = some (.string ⟨R.ct.toArray⟩) := cell_of_row _ _ 3 _ _ _ hq6
    have r4 : w6.cell? ⟨w.heap.size, 4, none⟩ = some (.int .i64 0) := cell_of_row _ _ 4 _ _ _ hz6
    have f4 : w6.frozen? ⟨w.heap.size, 4, none⟩ = false := frozen_of_row _ _ 4 _ _ hz6
    have q4 : w6.cell? ⟨w3.heap.size, 4, none⟩ = some (.int .i64 R.pl) := cell_of_row _ _ 4 _ _ _ hq6
    have r5 : w6.cell? ⟨w.heap.size, 5, none⟩ = some (.int .i64 0) := cell_of_row _ _ 5 _ _ _ hz6
    have f5 : w6.frozen? ⟨w.heap.size, 5, none⟩ = false := frozen_of_row _ _ 5 _ _ hz6
    have q5 : w6.cell? ⟨w3.heap.size, 5, none⟩ = some (.int .i64 R.mm) := cell_of_row _ _ 5 _ _ _ hq6
    have r6 : w6.cell? ⟨w.heap.size, 6, none⟩ = some (.string ⟨#[]⟩) := cell_of_row _ _ 6 _ _ _ hz6
    have f6 : w6.frozen? ⟨w.heap.size, 6, none⟩ = false := frozen_of_row _ _ 6 _ _ hz6
    have q6 : w6.cell? ⟨w3.heap.size, 6, none⟩ = some (.string ⟨R.lt.toArray⟩) := cell_of_row _ _ 6 _ _ _ hq6
    have r7 : w6.cell? ⟨w.heap.size, 7, none⟩ = some (.string ⟨#[]⟩) := cell_of_row _ _ 7 _ _ _ hz6
    have f7 : w6.frozen? ⟨w.heap.size, 7, none⟩ = false := frozen_of_row _ _ 7 _ _ hz6
    have q7 : w6.cell? ⟨w3.heap.size, 7, none⟩ = some (.string ⟨R.cl.toArray⟩) := cell_of_row _ _ 7 _ _ _ hq6
    clear hz6 hq6
    by_cases hc : LN = TX
    · have HA := HA3.out hc
      clear HA2 HA3
      have HA3 : Hid _ := HA
      clear HA
      subst hc
      go_wp2
      refine bodyPost_ret (ro_ret rfl (PaR.store HZ6.out _ _ _ _ _ _ _ _) rfl) rfl ?_
      exact ⟨by rw [HA3.out.1, HA3.out.2]; rfl, HB6.out.trans (PaR.beneath w6 w.heap.size _ _ _ _ _ _ _ _)⟩
    · have HA := HA2.out hc
      clear HA2 HA3
      have HA2 : Hid _ := HA
      clear HA
      have e1 : (LN == TX) = false := beq_eq_false_iff_ne.2 hc
      have e2 : (LN != TX) = true := bne_iff_ne.2 hc
      go_wp2
      refine bodyPost_ret (ro_ret rfl (PaR.store HZ6.out _ _ _ _ _ _ _ _) rfl) rfl ?_
      exact ⟨by rw [HA2.out.1, HA2.out.2]; rfl, HB6.out.trans (PaR.beneath w6 w.heap.size _ _ _ _ _ _ _ _)⟩

end Go.Proofs.YtfcbgfomhmcikaaGreatDoor

namespace Go.Proofs.YtfcbgfomhmcikaaGreatDoor
open Go.RowKit

theorem Ln.ib_at (x : UInt8) : ∀ (a t : List UInt8), (∀ c ∈ a, c ≠ x) → Lib.indexByte (a ++ x :: t) x = (a.length : Int) := by
  intro a t
  induction a with
  | nil => intro _; simp [Lib.indexByte]
  | cons b l ih =>
    intro h
    have hb : (b == x) = false := beq_eq_false_iff_ne.2 (h b (by simp))
    have hl := ih (fun c hc => h c (by simp [hc]))
    rw [List.cons_append]
    unfold Lib.indexByte
    rw [hb, hl]
    have : (((l.length : Int)) == -1) = false := beq_eq_false_iff_ne.2 (by omega)
    simp [this]

theorem Ln.cut_line (a t : List UInt8) (h : ∀ c ∈ a, c ≠ 10) : Lib.cut (a ++ 10 :: t) [10] = (a, t, true) := by
  have e : Lib.index (a ++ 10 :: t) [10] = (a.length : Int) := by rw [Lib.index_one]; exact Ln.ib_at 10 a t h
  unfold Lib.cut
  rw [e, if_pos (by omega)]
  simp only [Int.toNat_natCast, List.length_singleton, List.take_left]
  rw [show (a ++ 10 :: t).drop (a.length + 1) = t by rw [← List.drop_drop, List.drop_left]; rfl]

theorem Ln.cut_parts (s : List UInt8) (h : (Lib.cut s [10]).2.2 = true) : s = (Lib.cut s [10]).1 ++ [10] ++ (Lib.cut s [10]).2.1 := by
  have hg := Lib.indexByte_ge s 10
  have ho : Lib.index s [10] = Lib.indexByte s 10 := Lib.index_one s 10
  unfold Lib.cut at h ⊢
  rw [ho] at h ⊢
  split at h
  · next hp =>
    obtain ⟨i, hi⟩ : ∃ i : Nat, Lib.indexByte s 10 = (i : Int) := ⟨(Lib.indexByte s 10).toNat, by omega⟩
    have hs := (Lib.indexByte_some hi).1
    rw [if_pos hp, hi]
    simp only [Int.toNat_natCast, List.length_singleton]
    obtain ⟨hl, he⟩ := List.getElem?_eq_some_iff.1 hs
    have : s.drop i = 10 :: s.drop (i + 1) := by rw [List.drop_eq_getElem_cons hl, he]
    rw [List.append_assoc, List.singleton_append, ← this, List.take_append_drop]
  · simp at h

theorem Ln.join_clean {r : Rc} (h : r.right = true) : ∀ c ∈ Lib.join r.fields [9], c ≠ 10 := by
  have hc := Rc.fields_clean h
  have hj : ∀ fs : List (List UInt8), (∀ f ∈ fs, Ln.clean f) → ∀ c ∈ Lib.join fs [9], c ≠ 10 := by
    intro fs
    induction fs with
    | nil => intro _ c hm; simp [Lib.join, List.intercalate] at hm
    | cons f l ih =>
      intro hf c hm
      cases l with
      | nil =>
        have e : Lib.join [f] [9] = f := by simp [Lib.join, List.intercalate]
        rw [e] at hm
        exact (hf f (by simp) c hm).1
      | cons g l =>
        have e : Lib.join (f :: g :: l) [9] = f ++ 9 :: Lib.join (g :: l) [9] := by simp [Lib.join, List.intercalate]
        rw [e, List.mem_append, List.mem_cons] at hm
        rcases hm with hm | hm | hm
        · exact (hf f (by simp) c hm).1
        · rw [hm]; decide
        · exact ih (fun x hx => hf x (by simp at hx ⊢; exact .inr hx)) c hm
  exact hj r.fields hc

/-- what is not empty and can be parsed begins with a line of a right record -/
theorem Ln.parse_cut {s : List UInt8} {l : List Rc} (h : Ln.IsParse s l) (hs : s ≠ []) : (Lib.cut s [10]).2.2 = true ∧ Ln.isRec (Lib.cut s [10]).1 = true := by
  obtain ⟨r, l', _, hr, _, _, e, _⟩ := Ln.parse_step h hs
  have el := Rc.line_join r
  have es : s = Lib.join r.fields [9] ++ 10 :: Ln.lines l' := by rw [e, el]; simp
  have ec := Ln.cut_line (Lib.join r.fields [9]) (Ln.lines l') (Ln.join_clean hr)
  rw [← es] at ec
  rw [ec]
  refine ⟨rfl, ?_⟩
  show Ln.isRec (Lib.join r.fields [9]) = true
  cases hb : Ln.isRec (Lib.join r.fields [9]) with
  | true => rfl
  | false => exact absurd el (Ln.isRec_false hb r hr)

/-- the records before are the only ones -/
theorem Ln.parse_after : ∀ (pre : List Rc) (s : List UInt8) (l : List Rc), pre.all Rc.right = true → Ln.IsParse (Ln.lines pre ++ s) l → ∃ l2, Ln.IsParse s l2 := by
  intro pre
  induction pre with
  | nil => intro s l _ h; exact ⟨l, h⟩
  | cons r pre ih =>
    intro s l hp h
    rw [List.all_cons, Bool.and_eq_true] at hp
    have et : Ln.lines (r :: pre) ++ s = r.line ++ (Ln.lines pre ++ s) := by rw [Ln.lines_cons, List.append_assoc]
    rw [et] at h
    have hne : r.line ++ (Ln.lines pre ++ s) ≠ [] := by
      intro e
      have := Rc.line_pos r
      have := congrArg List.length e
      rw [List.length_append, List.length_nil] at this
      omega
    obtain ⟨r1, l1, _, _, f1, _, _, p1⟩ := Ln.parse_step h hne
    rw [(Rc.back r hp.1 _).1] at f1
    simp only [Option.some.injEq, Prod.mk.injEq] at f1
    rw [← f1.2] at p1
    exact ih s l1 hp.2 p1

/-- where the next line is none of a right record, nothing parses the whole -/
theorem Ln.parse_none {pre : List Rc} {s : List UInt8} (hp : pre.all Rc.right = true) (hs : s ≠ []) (h : (Lib.cut s [10]).2.2 = false ∨ Ln.isRec (Lib.cut s [10]).1 = false) : ∀ l, ¬ Ln.IsParse (Ln.lines pre ++ s) l := by
  intro l hl
  obtain ⟨l2, h2⟩ := Ln.parse_after pre s l hp hl
  obtain ⟨c1, c2⟩ := Ln.parse_cut h2 hs
  rcases h with h | h
  · rw [c1] at h; exact absurd h (by simp)
  · rw [c2] at h; exact absurd h (by simp)

/-- where it is, it is laid behind the others -/
theorem Ln.parse_more {pre : List Rc} {s : List UInt8} (hp : pre.all Rc.right = true) (h1 : (Lib.cut s [10]).2.2 = true) (h2 : Ln.isRec (Lib.cut s [10]).1 = true) :
    (pre ++ [Ln.recd (Lib.cut s [10]).1]).all Rc.right = true ∧ Ln.lines (pre ++ [Ln.recd (Lib.cut s [10]).1]) ++ (Lib.cut s [10]).2.1 = Ln.lines pre ++ s := by
  obtain ⟨hr, hl⟩ := Ln.isRec_true h2
  refine ⟨by rw [List.all_append, hp]; simp [hr], ?_⟩
  have e := Ln.cut_parts s h1
  have el : Ln.lines (pre ++ [Ln.recd (Lib.cut s [10]).1]) = Ln.lines pre ++ ((Lib.cut s [10]).1 ++ [10]) := by rw [← hl]; simp [Ln.lines]
  rw [el, List.append_assoc, ← e]

end Go.Proofs.YtfcbgfomhmcikaaGreatDoor
