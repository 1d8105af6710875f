/-
  THE WALKS of 'lentContigs' and 'wholeContigs'. Own text of the verifier.
-/
import Derived.Test.YtjebhbopmfcopaaGreatDoorSeLent
import Derived.Test.YtjebhbopmfcopaaGreatDoorSeOpen
namespace Go.Proofs.YtjebhbopmfcopaaGreatDoor
open Go.RowKit

/-- what 'lentContigs' answers: nil, or a new row -/
def LentC (w w' : World) (cs : List Pr) (lv v : Value) : Prop :=
  (lv = .slice none 0 0 ∧ cs = [] ∧ v = .slice none 0 0 ∧ w' = w) ∨
  (∃ ad cc, lv = .slice (some ad) cs.length cc ∧ v = .slice (some ⟨w.heap.size, 0, none⟩) cs.length (cs.length + 8) ∧
    w'.ownsRow w.heap.size 59 2 (.slice (some ⟨w.heap.size, 0, none⟩) (cs.length + 8) (cs.length + 8)) (cs.length + 8) (Prs (lentC cs)) ∧ Below w.heap.size w w' ∧ w.heap.size < w'.heap.size)

theorem beC_set (cs : List Pr) (k : Nat) (h1 : cs.length ≤ k) (h : k < cs.length + 8) :
    ((Prs (filledP (lentC cs) (cs.length + 8) k)).set (k * 2) (.string ⟨#[98, 101, 121, 111, 110, 100]⟩)).set (k * 2 + 1) (.string ⟨#[65, 65, 65, 65]⟩) = Prs (filledP (lentC cs) (cs.length + 8) (k + 1)) := by
  have h2 := Prs_set (filledP (lentC cs) (cs.length + 8) k) k (by rw [filledP_length _ _ _ (lentC_length cs) (by omega)]; exact h) beC
  refine Eq.trans h2 ?_
  rw [← filledP_set _ _ _ (lentC_length cs) h, lentC_high cs k h1]

theorem otC_set (cs : List Pr) (k : Nat) (h : k < cs.length + 8) :
    ((Prs (wipedP cs k)).set (k * 2) (.string ⟨#[111, 116, 104, 101, 114]⟩)).set (k * 2 + 1) (.string ⟨#[67, 71]⟩) = Prs (wipedP cs (k + 1)) := by
  have h2 := Prs_set (wipedP cs k) k (by rw [wipedP_length _ _ (by omega)]; exact h) otC
  refine Eq.trans h2 ?_
  rw [wipedP_set cs k h]

theorem src_keep {w w' : World} {ad : Addr} {xs : List Value} (h : ∀ j u, xs[j]? = some u → w.cell? (ad.add j) = some u) (hb : Below w.heap.size w w') : ∀ j u, xs[j]? = some u → w'.cell? (ad.add j) = some u := by
  intro j u hj
  have h0 := h j u hj
  rw [hb.cell (World.block_lt_of_cell? w _ h0)]
  exact h0

set_option maxRecDepth 100000 in
set_option maxHeartbeats 1600000 in
theorem lentContigs_any (cs : List Pr) (lv : Value) (w : World) (hr : RefOk w lv cs) :
    Calls Tryz.prog 111 #[lv] w fun e w' => ∃ v, e = .returned v ∧ LentC w w' cs lv v := by
  have hnil := fun (wy : World) (a : Option Addr) (l c : Nat) => Lib.run_eql_slice_nil (P := Tryz.prog) wy 29 59 a l c 0 0 Tryz.underlying29
  obtain ⟨i0, hi, hz0, hz1, hz2⟩ := info_parts Tryz.infoContig2
  have hlen := hr.len
  rcases hr.src with ⟨rfl, hc0, _⟩ | ⟨ad, cc, rfl, hsrc⟩
  · obtain rfl : cs = [] := List.eq_nil_of_length_eq_zero hc0
    clear hlen hr hc0
    go_enter Tryz.func111, Tryz.ntmps111
    go_wp2
    go_ret
    exact ⟨_, rfl, .inl ⟨rfl, rfl, rfl, rfl⟩⟩
  · clear hr
    have HSRC : Hid _ := hsrc
    clear hsrc
    go_enter Tryz.func111, Tryz.ntmps111
    go_wp2_with (at_make; refine wpList_make_full _ rfl _ _ 29 rfl w.heap.size 59 i0 (.agg #[.string ⟨#[]⟩, .string ⟨#[]⟩]) 2 Tryz.underlying29 hi hz0 hz1 _ _ _ _ (cs.length + 8) rfl rfl (by omega) (by omega) (by rw [hz2]; omega) (by unfold maxLen; omega) (Nat.le_refl _) ?_; intro w1 hown0 hgrow; rw [made_two] at hown0; have hb1 : Below w.heap.size w w1 := (Below.refl _ _).grown hgrow (Nat.le_refl _) (fun k hk => by cases hk); obtain ⟨W2, hcopy, hown2, hgrow2⟩ := copy_lentC cs w.heap.size cc ad w1 (src_keep HSRC.out hb1) hown0)
    have hb2 : Below w.heap.size w W2 := hb1.grown hgrow2 (by have := hgrow.size; omega) (fun k hk => by cases hk; exact Nat.le_refl _)
    clear hcopy hown0 hgrow hgrow2 hb1 hnil
    go_loopw [5] (fun i wr => ∃ k : Nat, cs.length ≤ k ∧ k ≤ cs.length + 8 ∧ i = .int .i64 (k : Int) ∧ wr.ownsRow w.heap.size 59 2 (.slice (some ⟨w.heap.size, 0, none⟩) (cs.length + 8) (cs.length + 8)) (cs.length + 8) (Prs (filledP (lentC cs) (cs.length + 8) k)) ∧ Below w.heap.size w wr)
      (fun i _ => cs.length + 8 - (intOf i).toNat)
    case atStart => exact ⟨cs.length, Nat.le_refl _, by omega, rfl, hown2, hb2⟩
    case round =>
      clear hown2 hb2
      obtain ⟨k, hk1, hk, rfl, hown, hbel⟩ := hrel
      by_cases hlt : k < cs.length + 8
      · obtain ⟨p0, p1⟩ := own_pair hown k (by rw [filledP_length _ _ _ (lentC_length cs) (by omega)]; exact hlt)
        have f0 := hown.frozenAt (k * 2)
        have f1 := hown.frozenAt (k * 2 + 1)
        have hs1 := hown.stored (k * 2) (.string ⟨#[98, 101, 121, 111, 110, 100]⟩)
        have hs2 := hs1.1.stored (k * 2 + 1) (.string ⟨#[65, 65, 65, 65]⟩)
        rw [beC_set cs k hk1 hlt] at hs2
        have HST : Hid _ := hs2.1
        have HB1 : Hid _ := (hbel.setCell (p := ⟨w.heap.size, k * 2, none⟩) (Nat.le_refl _) (.string ⟨#[98, 101, 121, 111, 110, 100]⟩)).setCell (p := ⟨w.heap.size, k * 2 + 1, none⟩) (Nat.le_refl _) (.string ⟨#[65, 65, 65, 65]⟩)
        clear hs1 hs2 hown hbel
        have hlt' : (k : Int) < (cs.length : Int) + 8 := by omega
        go_wp2
        go_roundw
        case rel => exact ⟨k + 1, by omega, by omega, by go_num, HST.out, HB1.out⟩
        case measure => simp [intOf]; omega
      · have hke : k = cs.length + 8 := by omega
        rw [hke, filledP_whole _ _ (lentC_length cs)] at hown
        have hlt' : ¬ (k : Int) < (cs.length : Int) + 8 := by omega
        have hlt9 : w.heap.size < wr.heap.size := by
          rcases hown.2 with ⟨h, _⟩ | ⟨g, cap, cur, hv, _, hg, _⟩
          · simp at h
          · simp only [Value.slice.injEq, Option.some.injEq, Addr.mk.injEq, and_true, true_and] at hv
            obtain ⟨rfl, _⟩ := hv
            exact (Array.getElem?_eq_some_iff.1 hg).1
        clear hke
        have HO : Hid _ := hown
        have HB : Hid _ := hbel
        clear hown hbel
        go_wp2
        go_ret
        exact ⟨_, rfl, .inr ⟨_, _, rfl, rfl, HO.out, HB.out, hlt9⟩⟩

end Go.Proofs.YtjebhbopmfcopaaGreatDoor
