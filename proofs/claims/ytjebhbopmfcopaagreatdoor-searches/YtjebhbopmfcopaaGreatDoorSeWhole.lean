/-
  THE WALK of 'wholeContigs'. Own text of the verifier.
-/
import Derived.Test.YtjebhbopmfcopaaGreatDoorSeLents
namespace Go.Proofs.YtjebhbopmfcopaaGreatDoor
open Go.RowKit

set_option maxRecDepth 100000 in
set_option maxHeartbeats 1600000 in
theorem wholeContigs_nil (v : Value) (w : World) :
    Calls Tryz.prog 113 #[v, .slice none 0 0] w fun e w' => e = .returned (.bool true) ∧ w' = w := by
  have hnil := fun (wy : World) (a : Option Addr) (l c : Nat) => Lib.run_eql_slice_nil (P := Tryz.prog) wy 29 59 a l c 0 0 Tryz.underlying29
  go_enter Tryz.func113, Tryz.ntmps113
  go_wp2
  go_ret
  exact ⟨rfl, rfl⟩

theorem src_first {w : World} {ad : Addr} {l : List Pr} (h : ∀ j u, (Prs l)[j]? = some u → w.cell? (ad.add j) = some u) (k : Nat) (hk : k < l.length) : w.cell? (ad.add (k * 2)) = some (.string ⟨l[k].1.toArray⟩) := by
  refine h (k * 2) _ ?_
  have := Prs_at l k hk 0 (by omega)
  rw [Nat.add_zero] at this
  rw [this]
  rfl

theorem grown_new (w : World) (o : Obj) (n : Nat) : w.grownBy ((w.alloc o).drewN n) none :=
  ⟨rfl, rfl, rfl, by show w.heap.size ≤ (w.heap.push o).size; simp, fun k hk _ => Below.heap_alloc w o k hk⟩

theorem wipe_one {w wr Y : World} {cs : List Pr} {G k : Nat} (hgr : w.grownBy wr (some G)) (hown : wr.ownsRow G 59 2 (.slice (some ⟨G, 0, none⟩) (cs.length + 8) (cs.length + 8)) (cs.length + 8) (Prs (wipedP cs k))) (hk : k < cs.length + 8) (hY : wr.grownBy Y none) :
    ((Y.setCell ⟨G, k * 2, none⟩ (.string ⟨#[111, 116, 104, 101, 114]⟩)).setCell ⟨G, k * 2 + 1, none⟩ (.string ⟨#[67, 71]⟩)).ownsRow G 59 2 (.slice (some ⟨G, 0, none⟩) (cs.length + 8) (cs.length + 8)) (cs.length + 8) (Prs (wipedP cs (k + 1))) ∧
      w.grownBy ((Y.setCell ⟨G, k * 2, none⟩ (.string ⟨#[111, 116, 104, 101, 114]⟩)).setCell ⟨G, k * 2 + 1, none⟩ (.string ⟨#[67, 71]⟩)) (some G) := by
  have h0 := hown.kept hY (.inr (by simp [Value.ownBlock]))
  have h1 := h0.stored (k * 2) (.string ⟨#[111, 116, 104, 101, 114]⟩)
  have h2 := h1.1.stored (k * 2 + 1) (.string ⟨#[67, 71]⟩)
  rw [otC_set cs k hk] at h2
  exact ⟨h2.1, grown_trans (grown_trans (grown_trans hgr (grown_weak hY)) h1.2) h2.2⟩

set_option maxRecDepth 100000 in
set_option maxHeartbeats 1600000 in
theorem wholeContigs_row (cs : List Pr) (G cc : Nat) (ad : Addr) (w : World) (hlen : cs.length * 32 ≤ 140737488351232) (hsrc : ∀ j u, (Prs cs)[j]? = some u → w.cell? (ad.add j) = some u) (hne : 0 < cs.length → ad.block ≠ G)
    (hown : w.ownsRow G 59 2 (.slice (some ⟨G, 0, none⟩) (cs.length + 8) (cs.length + 8)) (cs.length + 8) (Prs (lentC cs))) :
    Calls Tryz.prog 113 #[.slice (some ⟨G, 0, none⟩) cs.length (cs.length + 8), .slice (some ad) cs.length cc] w fun e w' => e = .returned (.bool true) ∧ w.grownBy w' (some G) := by
  have hnil := fun (wy : World) (a : Option Addr) (l c : Nat) => Lib.run_eql_slice_nil (P := Tryz.prog) wy 29 59 a l c 0 0 Tryz.underlying29
  have heq := eql_contig
  have HO : Hid _ := hown
  have HSRC : Hid _ := hsrc
  have HNE : Hid _ := hne
  have hGw : G < w.heap.size := by
    rcases hown.2 with ⟨h, _⟩ | ⟨g, cap, cur, hv, _, hg, _⟩
    · simp at h
    · simp only [Value.slice.injEq, Option.some.injEq, Addr.mk.injEq, and_true, true_and] at hv
      obtain ⟨rfl, _⟩ := hv
      exact (Array.getElem?_eq_some_iff.1 hg).1
  clear hown hsrc hne
  have hcut : (0 : Int) ≤ (cs.length : Int) + 8 := by omega
  go_enter Tryz.func113, Tryz.ntmps113
  go_wp2
  clear hnil
  go_loopw [7, 8] (fun ok i wr => ∃ k : Nat, k ≤ cs.length + 8 ∧ i = .int .i64 (k : Int) ∧ ok = .bool true ∧ wr.ownsRow G 59 2 (.slice (some ⟨G, 0, none⟩) (cs.length + 8) (cs.length + 8)) (cs.length + 8) (Prs (wipedP cs k)) ∧ w.grownBy wr (some G))
    (fun _ i _ => cs.length + 8 - (intOf i).toNat)
  case atStart => exact ⟨0, by omega, rfl, rfl, by rw [wipedP_zero]; exact HO.out, World.grownBy.refl _ _⟩
  case round =>
    obtain ⟨k, hk, rfl, rfl, hown, hgr⟩ := hrel
    by_cases hlt : k < cs.length + 8
    · have hGr : G < wr.heap.size := by have := hgr.size; omega
      have hpp := own_pair hown k (by rw [wipedP_length _ _ (by omega)]; exact hlt)
      have hat := wipedP_at cs k hlt (by rw [wipedP_length _ _ (by omega)]; exact hlt)
      rw [hat] at hpp
      have HOW : Hid _ := hown
      have HGR : Hid _ := hgr
      have hsz := hgr.size
      have f0 := hown.frozenAt (k * 2)
      have f1 := hown.frozenAt (k * 2 + 1)
      have hlt' : (k : Int) < (cs.length : Int) + 8 := by omega
      by_cases hin : k < cs.length
      · have hin' : (k : Int) < (cs.length : Int) := by omega
        rw [lentC_low cs k hin] at hpp
        have p0 := hpp.1
        have p1 := hpp.2
        have hc0 := src_first HSRC.out k hin
        have hc1 := src_pair HSRC.out k hin
        have q0 : wr.cell? (ad.add (k * 2)) = some (.string ⟨cs[k].1.toArray⟩) := hgr.cell hc0 (by
          have e : (ad.add (k * 2)).block = ad.block := by unfold Addr.add; split <;> rfl
          rw [e]; intro h; exact HNE.out (by omega) (Option.some.inj h))
        have q1 : wr.cell? (ad.add (k * 2 + 1)) = some (.string ⟨cs[k].2.toArray⟩) := hgr.cell hc1 (by
          have e : (ad.add (k * 2 + 1)).block = ad.block := by unfold Addr.add; split <;> rfl
          rw [e]; intro h; exact HNE.out (by omega) (Option.some.inj h))
        rw [← addr_next] at q1
        have hadr := World.block_lt_of_cell? wr _ q0
        clear hpp hat hown hgr hc0 hc1
        obtain ⟨y, hy⟩ : ∃ y : Pr, y = cs[k] := ⟨_, rfl⟩
        rw [← hy] at p0 p1 q0 q1
        clear hy
        go_wp2_with fail
        go_quiet (fail)
        go_wp2
        go_roundw
        case rel =>
          have hfin := wipe_one HGR.out HOW.out hlt (grown_new wr (.cells #[.string ⟨y.1.toArray⟩, .string ⟨y.2.toArray⟩] 59) nq)
          exact ⟨k + 1, by omega, by go_num, rfl, hfin.1, hfin.2⟩
        case measure => simp [intOf]; omega
      · have hin' : ¬ (k : Int) < (cs.length : Int) := by omega
        rw [lentC_high cs k (by omega)] at hpp
        have p0 : wr.cell? ⟨G, k * 2, none⟩ = some (.string ⟨#[98, 101, 121, 111, 110, 100]⟩) := hpp.1
        have p1 : wr.cell? ⟨G, k * 2 + 1, none⟩ = some (.string ⟨#[65, 65, 65, 65]⟩) := hpp.2
        clear hpp hat hown hgr
        go_wp2_with fail
        go_quiet (fail)
        go_wp2
        go_roundw
        case rel =>
          have hfin := wipe_one HGR.out HOW.out hlt (grown_new wr (.cells #[.string ⟨#[98, 101, 121, 111, 110, 100]⟩, .string ⟨#[65, 65, 65, 65]⟩] 59) nq)
          exact ⟨k + 1, by omega, by go_num, rfl, hfin.1, hfin.2⟩
        case measure => simp [intOf]; omega
    · have hlt' : ¬ (k : Int) < (cs.length : Int) + 8 := by omega
      have HGR : Hid _ := hgr
      clear hown hgr
      go_wp2
      go_ret
      exact ⟨rfl, HGR.out⟩

end Go.Proofs.YtjebhbopmfcopaaGreatDoor
