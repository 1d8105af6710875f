/-
  THE WALK of 'looks', at a book of places alone. Own text of the verifier.
-/
import Derived.Test.YtjebhbopmfcopaaGreatDoorTxKeepsP
namespace Go.Proofs.YtjebhbopmfcopaaGreatDoor
open Go.RowKit

/-- lists of places that came out, each as its owner has marked it -/
structure ShelfP (X : World) (g : Nat) (v : Value) (es : List Value) : Prop where
  list : X.ownsRow (g + 1) 119 1 v es.length es
  ent : ∀ i (h : i < es.length), ∃ n, n ≤ 100000 ∧ X.ownsRow (g + 1) 78 2 es[i] n (reps (mp i) (.int .i64 0) n)
  len : es.length ≤ 7000000000000

theorem shelfP_below {X Y : World} {g : Nat} {v : Value} {es : List Value} (h : ShelfP X g v es) (hb : Below X.heap.size X Y) : ShelfP Y g v es :=
  ⟨own_below h.list hb, fun i hi => let ⟨n, hn, ho⟩ := h.ent i hi; ⟨n, hn, own_below ho hb⟩, h.len⟩

theorem reps_at (A B : Value) (n q : Nat) (h : q < n) : (reps A B n)[q * 2]? = some A := by
  obtain ⟨m, rfl⟩ : ∃ m, n = q + (1 + m) := ⟨n - q - 1, by omega⟩
  rw [reps_add, reps_add, List.getElem?_append_right (by rw [reps_length]; exact Nat.le_refl _), reps_length, Nat.sub_self]
  rfl

theorem shelfP_at {X : World} {g : Nat} {a : Option Addr} {cap : Nat} {es : List Value} (h : ShelfP X g (.slice a es.length cap) es) (k : Nat) (hk : k < es.length) :
    ∃ (g1 : Nat) (la : Option Addr) (n lcap : Nat), a = some ⟨g1, 0, none⟩ ∧ X.cell? ⟨g1, k, none⟩ = some (.slice la n lcap) ∧ n ≤ 100000 ∧
      (0 < n → ∃ g2, la = some ⟨g2, 0, none⟩ ∧ ∀ q, q < n → X.cell? ⟨g2, q * 2, none⟩ = some (mp k)) := by
  obtain ⟨g1, cap1, hv, _, hg1⟩ := own_pos h.list (by omega)
  simp only [Value.slice.injEq, true_and] at hv
  obtain ⟨rfl, rfl⟩ := hv
  obtain ⟨n, hn, ho⟩ := h.ent k hk
  obtain ⟨la, lcap, hf⟩ := own_form ho
  refine ⟨g1, la, n, lcap, rfl, ?_, hn, ?_⟩
  · rw [h.list.cellAt k (by omega), List.getElem?_eq_getElem hk, hf]
  · intro hpos
    rw [hf] at ho
    obtain ⟨g2, cap2, hv2, _, hg2⟩ := own_pos ho hpos
    simp only [Value.slice.injEq, true_and] at hv2
    obtain ⟨rfl, rfl⟩ := hv2
    exact ⟨g2, rfl, fun q hq => (ho.cellAt (q * 2) (by omega)).trans (reps_at _ _ _ _ hq)⟩

set_option maxRecDepth 100000 in
set_option maxHeartbeats 4000000 in
theorem looks_places (w : World) (g : Nat) (lv xv vc : Value) (cs : List Value)
    (hW : w.heap[g]? = some (.cells #[lv, xv, .slice none 0 0, .slice none 0 0, vc, .slice none 0 0] 68 (0, 0))) (hc : ShelfP w g vc cs) :
    Calls Tryz.prog 24 #[.pointer (some ⟨g, 2, none⟩)] w fun e w' => e = .returned (.bool true) ∧ w' = w := by
  obtain ⟨ca, ccap, hcf⟩ := own_form hc.list
  subst hcf
  have c2 : w.cell? ⟨g, 2, none⟩ = some (.slice none 0 0) := cell_of_row w g 2 _ _ _ hW
  have c3 : w.cell? ⟨g, 3, none⟩ = some (.slice none 0 0) := cell_of_row w g 3 _ _ _ hW
  have c4 : w.cell? ⟨g, 4, none⟩ = some (.slice ca cs.length ccap) := cell_of_row w g 4 _ _ _ hW
  have c5 : w.cell? ⟨g, 5, none⟩ = some (.slice none 0 0) := cell_of_row w g 5 _ _ _ hW
  have HS : Hid _ := hc
  have hcl := hc.len
  clear hW hc
  go_enter Tryz.func24, Tryz.ntmps24
  go_wp2
  refine wp_loop_rounds 1 ?_
  rw [rounds_succ]
  go_wp2
  refine wp_loop_rounds 1 ?_
  rw [rounds_succ]
  go_wp2
  go_loop [9] (fun i => ∃ k : Nat, k ≤ cs.length ∧ i = .int .i64 (k : Int)) (fun i => cs.length - (intOf i).toNat)
  case atStart => exact ⟨0, Nat.zero_le _, rfl⟩
  case round =>
    obtain ⟨k, hk, rfl⟩ := hrel
    by_cases hlt : k < cs.length
    · have hlt' : (k : Int) < (cs.length : Int) := by omega
      obtain ⟨g1, la, n, lcap, hca, ck, hn, hnext⟩ := shelfP_at HS.out k hlt
      rw [hca] at c4
      clear HS
      have HNX : Hid _ := hnext
      clear hnext
      go_wp2
      go_loop [10] (fun j => ∃ q : Nat, q ≤ 100000 ∧ j = .int .i64 (q : Int)) (fun j => 100000 - (intOf j).toNat)
      case atStart => exact ⟨0, by omega, rfl⟩
      case round =>
        obtain ⟨q, hq, rfl⟩ := hrel
        by_cases hqn : q < n
        · obtain ⟨g2, hla, hce⟩ := HNX.out (by omega)
          have p0 := hce q hqn
          unfold mp at p0
          clear hce HNX
          subst hla
          have hqn' : (q : Int) < (n : Int) := by omega
          have hmk : (-1 - ((k / 4 : Nat) : Int) != -1 - (k : Int) / 4) = false := by rw [bne_eq_false_iff_eq]; omega
          go_wp2
          go_round
          case rel => exact ⟨q + 1, by omega, by go_num⟩
          case measure => simp [intOf]; omega
        · have hqn' : ¬ (q : Int) < (n : Int) := by omega
          go_wp2
          go_round
          case rel => exact ⟨k + 1, by omega, by go_num⟩
          case measure => simp [intOf]; omega
    · have hlt' : ¬ (k : Int) < (cs.length : Int) := by omega
      go_wp2
      refine wp_loop_rounds 1 ?_
      rw [rounds_succ]
      go_wp2
      go_ret
      exact ⟨rfl, rfl⟩

end Go.Proofs.YtjebhbopmfcopaaGreatDoor
