/-
  PAIRS OF TEXTS IN MEMORY (contigs, reads): a name and letters each; a name among them. Own text of the verifier.
-/
import Derived.Test.YtjebhbopmfcopaaGreatDoorTxName
namespace Go.Proofs.YtjebhbopmfcopaaGreatDoor
open Go.RowKit

abbrev Pr := List UInt8 × List UInt8

def prCells (x : Pr) : List Value := [.string ⟨x.1.toArray⟩, .string ⟨x.2.toArray⟩]
def Prs (l : List Pr) : List Value := l.flatMap prCells

theorem Prs_length (l : List Pr) : (Prs l).length = l.length * 2 := by
  induction l with
  | nil => rfl
  | cons o l ih => rw [Prs, List.flatMap_cons, List.length_append, ← Prs, ih, List.length_cons]; simp [prCells]; omega

theorem Prs_at (l : List Pr) (k : Nat) (h : k < l.length) (j : Nat) (hj : j < 2) : (Prs l)[k * 2 + j]? = (prCells l[k])[j]? := by
  induction l generalizing k with
  | nil => simp at h
  | cons o l ih =>
    rw [Prs, List.flatMap_cons]
    cases k with
    | zero => rw [List.getElem?_append_left (by simp [prCells]; omega)]; simp
    | succ k =>
      rw [List.getElem?_append_right (by simp [prCells]; omega)]
      have e : (k + 1) * 2 + j - (prCells o).length = k * 2 + j := by simp [prCells]; omega
      rw [e]
      have := ih k (by simpa using h)
      rw [Prs] at this
      rw [this]
      simp

theorem Prs_append (l r : List Pr) : Prs (l ++ r) = Prs l ++ Prs r := by simp [Prs]

theorem own_pair {w : World} {base e n cap g : Nat} {l : List Pr} (h : w.ownsRow base e 2 (.slice (some ⟨g, 0, none⟩) n cap) n (Prs l)) (k : Nat) (hk : k < l.length) :
    w.cell? ⟨g, k * 2, none⟩ = some (.string ⟨l[k].1.toArray⟩) ∧ w.cell? ⟨g, k * 2 + 1, none⟩ = some (.string ⟨l[k].2.toArray⟩) := by
  have hl : l.length * 2 = n * 2 := by have := h.1; rw [Prs_length] at this; exact this
  constructor
  · have := h.cellAt (k * 2 + 0) (by omega)
    rw [Prs_at l k hk 0 (by omega)] at this
    simpa [prCells] using this
  · rw [h.cellAt (k * 2 + 1) (by omega), Prs_at l k hk 1 (by omega)]
    simp [prCells]

def hasN (l : List Pr) (nm : List UInt8) : Bool := l.any (fun x => x.1 == nm)

theorem hasN_stop (l : List Pr) (nm : List UInt8) (k : Nat) (h : k < l.length) (he : (l[k].1 == nm) = true) : hasN l nm = true := by
  rw [hasN, List.any_eq_true]
  exact ⟨l[k], List.getElem_mem _, he⟩
theorem hasN_snoc (l : List Pr) (nm : List UInt8) (k : Nat) (h : k < l.length) (h0 : hasN (l.take k) nm = false) (he : (l[k].1 == nm) = false) : hasN (l.take (k + 1)) nm = false := by
  rw [List.take_succ_eq_append_getElem h]
  simp only [hasN, List.any_append, List.any_cons, List.any_nil, Bool.or_false] at *
  rw [h0, he]; rfl
theorem hasN_whole (l : List Pr) (nm : List UInt8) (k : Nat) (h : ¬ k < l.length) (h0 : hasN (l.take k) nm = false) : hasN l nm = false := by
  rwa [List.take_of_length_le (by omega)] at h0

set_option maxRecDepth 100000 in
set_option maxHeartbeats 1600000 in
theorem hasName_any (w : World) (base n : Nat) (v : Value) (l : List Pr) (nm : List UInt8) (hn : l.length = n) (h16 : n ≤ 1000) (hown : w.ownsRow base 59 2 v n (Prs l)) :
    Calls Tryz.prog 65 #[v, .string ⟨nm.toArray⟩] w fun e w' => e = .returned (.bool (hasN l nm)) ∧ Below w.heap.size w w' := by
  have HN : Hid _ := hn
  clear hn
  rcases Nat.eq_zero_or_pos n with h0 | hpos
  · subst h0
    have hl : l = [] := List.eq_nil_of_length_eq_zero HN.out
    subst hl
    obtain ⟨ao, cap, hv⟩ := own_form hown
    subst hv
    clear hown
    go_enter Tryz.func65, Tryz.ntmps65
    go_wp2
    refine wp_loop_rounds 1 ?_
    rw [rounds_succ]
    go_wp2
    go_ret
    exact ⟨rfl, Below.refl _ _⟩
  · obtain ⟨g, cap, hv, _, hg⟩ : ∃ g cap, v = .slice (some ⟨g, 0, none⟩) n cap ∧ base ≤ g ∧ g < w.heap.size := by
      rcases hown.2 with ⟨_, h0⟩ | ⟨g, cap, cur, rfl, hb, hg, _⟩
      · omega
      · exact ⟨g, cap, rfl, hb, (Array.getElem?_eq_some_iff.1 hg).1⟩
    subst hv
    have HC : Hid _ := fun k (hk : k < l.length) => own_pair hown k hk
    clear hown
    go_enter Tryz.func65, Tryz.ntmps65
    go_wp2
    go_loopw [9] (fun i wr => ∃ k : Nat, k ≤ n ∧ i = .int .i64 k ∧ Hid (hasN (l.take k) nm = false) ∧ Below w.heap.size w wr) (fun i _ => n - (intOf i).toNat)
    case atStart => exact ⟨0, Nat.zero_le _, rfl, rfl, Below.refl _ _⟩
    case round =>
      obtain ⟨k, hk, rfl, HA, hbel⟩ := hrel
      have hsz := hbel.size
      by_cases hlt : k < n
      · have hkl : k < l.length := by rw [HN.out]; exact hlt
        have c0 := (hbel.cell (p := ⟨g, k * 2, none⟩) hg).trans (HC.out k hkl).1
        have c1 := (hbel.cell (p := ⟨g, k * 2 + 1, none⟩) hg).trans (HC.out k hkl).2
        have hkn : (k : Int) < (n : Int) := by omega
        have HB1 : Hid (∀ o, Below w.heap.size w (wr.alloc o)) := fun o => hbel.alloc hsz o
        clear hbel
        cases he : (l[k].1 == nm) with
        | true =>
          have HF : Hid _ := hasN_stop l nm k hkl he
          clear HA
          go_wp2
          go_ret
          exact ⟨ret_bool HF.out.symm, HB1.out _⟩
        | false =>
          have HF : Hid _ := hasN_snoc l nm k hkl HA.out he
          clear HA
          go_wp2
          go_roundw
          case rel => exact ⟨k + 1, by omega, by go_num, HF, HB1.out _⟩
          case measure => simp [intOf]; omega
      · have HF : Hid _ := hasN_whole l nm k (by rw [HN.out]; exact hlt) HA.out
        have hkn : ¬ (k : Int) < (n : Int) := by omega
        clear HA
        go_wp2
        go_ret
        exact ⟨ret_bool HF.out.symm, hbel⟩

end Go.Proofs.YtjebhbopmfcopaaGreatDoor
