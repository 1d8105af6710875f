/-
  THE WALK of 'looks', at a book of records alone. Own text of the verifier.
-/
import Derived.Test.YtfcbgfomhmcikaaGreatDoorBun12
import Derived.Test.YtfcbgfomhmcikaaGreatDoorBun15
import Derived.BigQuiet
namespace Go.Proofs.YtfcbgfomhmcikaaGreatDoor
open Go.RowKit

/-- lists of records that came out, each as its owner has marked it -/
structure ShelfR (X : World) (g : Nat) (v : Value) (es : List Value) : Prop where
  list : X.ownsRow (g + 1) 40 1 v es.length es
  ent : ∀ i (h : i < es.length), ∃ n, n ≤ 1000000000 ∧ X.ownsRow (g + 1) 47 8 es[i] n (marksR (mk i) n)
  len : es.length ≤ 7000000000000

theorem shelfR_below {X Y : World} {g : Nat} {v : Value} {es : List Value} (h : ShelfR X g v es) (hb : Below X.heap.size X Y) : ShelfR Y g v es :=
  ⟨own_below h.list hb, fun i hi => let ⟨n, hn, ho⟩ := h.ent i hi; ⟨n, hn, own_below ho hb⟩, h.len⟩

theorem shelfR_at {X : World} {g : Nat} {a : Option Addr} {cap : Nat} {es : List Value} (h : ShelfR X g (.slice a es.length cap) es) (k : Nat) (hk : k < es.length) :
    ∃ (g1 : Nat) (la : Option Addr) (n lcap : Nat), a = some ⟨g1, 0, none⟩ ∧ X.cell? ⟨g1, k, none⟩ = some (.slice la n lcap) ∧ n ≤ 1000000000 ∧
      (0 < n → ∃ g2, la = some ⟨g2, 0, none⟩ ∧ ∀ q, q < n → X.cell? ⟨g2, q * 8, none⟩ = some (.string ⟨(mk k).toArray⟩) ∧ X.cell? ⟨g2, q * 8 + 1, none⟩ = some (.int .i64 0) ∧ X.cell? ⟨g2, q * 8 + 2, none⟩ = some (.int .i64 0) ∧ X.cell? ⟨g2, q * 8 + 3, none⟩ = some (.string ⟨#[]⟩) ∧
        X.cell? ⟨g2, q * 8 + 4, none⟩ = some (.int .i64 0) ∧ X.cell? ⟨g2, q * 8 + 5, none⟩ = some (.int .i64 0) ∧ X.cell? ⟨g2, q * 8 + 6, none⟩ = some (.string ⟨#[]⟩) ∧ X.cell? ⟨g2, q * 8 + 7, none⟩ = some (.string ⟨#[]⟩)) := by
  obtain ⟨g1, cap1, hv, _, hg1⟩ := own_pos h.list (by omega)
  simp only [Value.slice.injEq, true_and] at hv
  obtain ⟨rfl, rfl⟩ := hv
  obtain ⟨n, hn, ho⟩ := h.ent k hk
  obtain ⟨la, lcap, hf⟩ := own_form ho
  refine ⟨g1, la, n, lcap, rfl, ?_, hn, ?_⟩
  · rw [h.list.cellAt k (by omega), List.getElem?_eq_getElem hk, hf]
  · intro hpos
    rw [hf] at ho
    obtain ⟨g2, cap2, hv2, _, hg2⟩ := own_pos ho hpos
    simp only [Value.slice.injEq, true_and] at hv2
    obtain ⟨rfl, rfl⟩ := hv2
    refine ⟨g2, rfl, fun q hq => ?_⟩
    have h8 := own_rec ho q (by rw [List.length_replicate]; exact hq)
    rw [List.getElem_replicate] at h8
    exact h8

theorem neq_rec (n c l k : ByteArray) (v s p m : Int) (w : World) :
    (binOp .neq 47 (.agg #[.string n, .int .i64 v, .int .i64 s, .string c, .int .i64 p, .int .i64 m, .string l, .string k]) (.agg #[.string n, .int .i64 v, .int .i64 s, .string c, .int .i64 p, .int .i64 m, .string l, .string k])).run Tryz.prog w = .ok (.bool false) w := by
  rw [run_neq_struct, eq_rec]; rfl

set_option maxRecDepth 100000 in
set_option maxHeartbeats 4000000 in
theorem looks_records (w : World) (g : Nat) (lv xv vc : Value) (cs : List Value)
    (hW : w.heap[g]? = some (.cells #[lv, xv, .slice none 0 0, .slice none 0 0, .slice none 0 0, vc] 39 (0, 0))) (hc : ShelfR w g vc cs) :
    Calls Tryz.prog 12 #[.pointer (some ⟨g, 2, none⟩)] w fun e w' => e = .returned (.bool true) ∧ Below w.heap.size w w' := by
  have hgw : g < w.heap.size := (Array.getElem?_eq_some_iff.1 hW).1
  obtain ⟨ca, ccap, hcf⟩ := own_form hc.list
  subst hcf
  have HC : Hid (∀ X, Below w.heap.size w X → ∀ j, X.cell? ⟨g, j, none⟩ = (#[lv, xv, .slice none 0 0, .slice none 0 0, .slice none 0 0, .slice ca cs.length ccap] : Array Value)[j]?) := fun X hb j => cell_of_row X g j _ _ _ ((hb.block g hgw).trans hW)
  have HSC : Hid (∀ X, Below w.heap.size w X → ShelfR X g (.slice ca cs.length ccap) cs) := fun X hb => shelfR_below hc hb
  have hcl := hc.len
  clear hW hc hgw
  have hnc := neq_rec
  have c20 : w.cell? ⟨g, 2, none⟩ = some (.slice none 0 0) := HC.out _ (Below.refl _ _) 2
  have c30 : w.cell? ⟨g, 3, none⟩ = some (.slice none 0 0) := HC.out _ (Below.refl _ _) 3
  have c40 : w.cell? ⟨g, 4, none⟩ = some (.slice none 0 0) := HC.out _ (Below.refl _ _) 4
  have c50 : w.cell? ⟨g, 5, none⟩ = some (.slice ca cs.length ccap) := HC.out _ (Below.refl _ _) 5
  go_enter Tryz.func12, Tryz.ntmps12
  go_wp2
  refine wp_loop_rounds 1 ?_
  rw [rounds_succ]
  go_wp2
  refine wp_loop_rounds 1 ?_
  rw [rounds_succ]
  go_wp2
  refine wp_loop_rounds 1 ?_
  rw [rounds_succ]
  go_wp2
  clear c20 c30 c40 c50
  go_loopw [11] (fun i wr => ∃ k : Nat, k ≤ cs.length ∧ i = .int .i64 (k : Int) ∧ Below w.heap.size w wr) (fun i _ => cs.length - (intOf i).toNat)
  case atStart => exact ⟨0, Nat.zero_le _, rfl, Below.refl _ _⟩
  case round =>
    obtain ⟨k, hk, rfl, hbr⟩ := hrel
    have c2 : wr.cell? ⟨g, 5, none⟩ = some (.slice ca cs.length ccap) := HC.out _ hbr 5
    by_cases hlt : k < cs.length
    · have hlt' : (k : Int) < (cs.length : Int) := by omega
      have hsr := hbr.size
      go_wp2_with fail
      refine (mark_any k _ (by omega)).mono ?_
      rintro e w1 ⟨rfl, hb1⟩
      obtain ⟨M, hM⟩ : ∃ M, M = mk k := ⟨_, rfl⟩
      rw [← hM]
      have HM : Hid _ := hM
      clear hM
      have hs1 := hb1.size
      obtain ⟨OB, hOB⟩ : ∃ OB, OB = Obj.cells #[Value.string { data := M.toArray }, Value.int IntKind.i64 0, Value.int IntKind.i64 0, Value.string { data := #[] }, Value.int IntKind.i64 0, Value.int IntKind.i64 0, Value.string { data := #[] }, Value.string { data := #[] }] 47 := ⟨_, rfl⟩
      have hbx : Below w.heap.size w (w1.alloc OB) := (hbr.trans (hb1.mono hsr)).alloc (by omega) _
      have hmx : (w1.alloc OB).heap[w1.heap.size]? = some OB := heap_alloc_new w1 _
      have HOB : Hid _ := hOB
      clear hOB
      go_wp2
      rw [← HOB.out]
      generalize (w1.alloc OB) = W2 at *
      generalize w1.heap.size = gm at *
      clear c2
      go_loopw [13] (fun j wr2 => ∃ q : Nat, q ≤ 1000000000 ∧ j = .int .i64 (q : Int) ∧ Below w.heap.size w wr2 ∧ wr2.heap[gm]? = some OB) (fun j _ => 1000000000 - (intOf j).toNat)
      case atStart => exact ⟨0, by omega, rfl, hbx, hmx⟩
      case round =>
        clear hbx hmx
        obtain ⟨q, hq, rfl, hb2, hm2⟩ := hrel
        have c2 : wr.cell? ⟨g, 5, none⟩ = some (.slice ca cs.length ccap) := HC.out _ hb2 5
        obtain ⟨g1, la, n, lcap, hca, ck, hn, hnext⟩ := shelfR_at (HSC.out _ hb2) k hlt
        rw [← HM.out] at hnext
        by_cases hqn : q < n
        · obtain ⟨g2, hla, hce⟩ := hnext (by omega)
          obtain ⟨p0, p1, p2, p3, p4, p5, p6, p7⟩ := hce q hqn
          clear hce hnext
          have HM2 : Hid _ := hm2
          rw [HOB.out] at hm2
          have m0 : wr.cell? ⟨gm, 0, none⟩ = some (.string ⟨M.toArray⟩) := cell_of_row wr gm 0 _ _ _ hm2
          have m1 : wr.cell? ⟨gm, 1, none⟩ = some (.int .i64 0) := cell_of_row wr gm 1 _ _ _ hm2
          have m2 : wr.cell? ⟨gm, 2, none⟩ = some (.int .i64 0) := cell_of_row wr gm 2 _ _ _ hm2
          have m3 : wr.cell? ⟨gm, 3, none⟩ = some (.string ⟨#[]⟩) := cell_of_row wr gm 3 _ _ _ hm2
          have m4 : wr.cell? ⟨gm, 4, none⟩ = some (.int .i64 0) := cell_of_row wr gm 4 _ _ _ hm2
          have m5 : wr.cell? ⟨gm, 5, none⟩ = some (.int .i64 0) := cell_of_row wr gm 5 _ _ _ hm2
          have m6 : wr.cell? ⟨gm, 6, none⟩ = some (.string ⟨#[]⟩) := cell_of_row wr gm 6 _ _ _ hm2
          have m7 : wr.cell? ⟨gm, 7, none⟩ = some (.string ⟨#[]⟩) := cell_of_row wr gm 7 _ _ _ hm2
          have hqn' : (q : Int) < (n : Int) := by omega
          rw [hca] at c2
          subst hla
          have HB2 : Hid _ := hb2
          clear hb2 hm2
          go_wp2_with fail
          go_quiet (fail)
          go_wp2
          go_roundw
          case rel => exact ⟨q + 1, by omega, by go_num, below_drewN HB2.out _, HM2.out⟩
          case measure => simp [intOf]; omega
        · have hqn' : ¬ (q : Int) < (n : Int) := by omega
          rw [hca] at c2
          clear hnext
          go_wp2
          go_roundw
          case rel => exact ⟨k + 1, by omega, by go_num, hb2⟩
          case measure => simp [intOf]; omega
    · have hlt' : ¬ (k : Int) < (cs.length : Int) := by omega
      go_wp2
      go_ret
      exact ⟨rfl, hbr⟩

end Go.Proofs.YtfcbgfomhmcikaaGreatDoor
