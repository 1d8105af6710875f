/-
  THE WALK of 'looks', at whatever book of contigs and reads. Own text of the verifier.
-/
import Derived.Test.YtjebhbopmfcopaaGreatDoorTxKeepsR
import Derived.Test.YtjebhbopmfcopaaGreatDoorTxSame
import Derived.BigQuiet
namespace Go.Proofs.YtjebhbopmfcopaaGreatDoor
open Go.RowKit

/-- lists that came out, each as its owner has marked it -/
structure Shelf (X : World) (g : Nat) (e el : TypeId) (v : Value) (es : List Value) : Prop where
  list : X.ownsRow (g + 1) el 1 v es.length es
  ent : ∀ i (h : i < es.length), ∃ n, n ≤ 2000 ∧ X.ownsRow (g + 1) e 2 es[i] n (marks (mk i) n)
  len : es.length ≤ 7000000000000

theorem shelf_below {X Y : World} {g : Nat} {e el : TypeId} {v : Value} {es : List Value} (h : Shelf X g e el v es) (hb : Below X.heap.size X Y) : Shelf Y g e el v es :=
  ⟨own_below h.list hb, fun i hi => let ⟨n, hn, ho⟩ := h.ent i hi; ⟨n, hn, own_below ho hb⟩, h.len⟩

/-- an entry of the shelf, and where it lies -/
theorem shelf_at {X : World} {g : Nat} {e el : TypeId} {a : Option Addr} {cap : Nat} {es : List Value} (h : Shelf X g e el (.slice a es.length cap) es) (k : Nat) (hk : k < es.length) :
    ∃ (g1 : Nat) (la : Option Addr) (n lcap : Nat), a = some ⟨g1, 0, none⟩ ∧ X.cell? ⟨g1, k, none⟩ = some (.slice la n lcap) ∧ g1 < X.heap.size ∧ n ≤ 2000 ∧
      (0 < n → ∃ g2, la = some ⟨g2, 0, none⟩ ∧ g2 < X.heap.size ∧ ∀ q, q < n → X.cell? ⟨g2, q * 2, none⟩ = some (.string ⟨(mk k).toArray⟩) ∧ X.cell? ⟨g2, q * 2 + 1, none⟩ = some (.string ⟨#[]⟩)) := by
  obtain ⟨g1, cap1, hv, _, hg1⟩ := own_pos h.list (by omega)
  simp only [Value.slice.injEq, true_and] at hv
  obtain ⟨rfl, rfl⟩ := hv
  obtain ⟨n, hn, ho⟩ := h.ent k hk
  obtain ⟨la, lcap, hf⟩ := own_form ho
  refine ⟨g1, la, n, lcap, rfl, ?_, hg1, hn, ?_⟩
  · rw [h.list.cellAt k (by omega), List.getElem?_eq_getElem hk, hf]
  · intro hpos
    rw [hf] at ho
    obtain ⟨g2, cap2, hv2, _, hg2⟩ := own_pos ho hpos
    simp only [Value.slice.injEq, true_and] at hv2
    obtain ⟨rfl, rfl⟩ := hv2
    refine ⟨g2, rfl, hg2, fun q hq => ?_⟩
    have := own_pair ho q (by rw [List.length_replicate]; exact hq)
    simpa using this

set_option maxRecDepth 100000 in
set_option maxHeartbeats 8000000 in
theorem looks_full (w : World) (g : Nat) (lv xv vc vr : Value) (cs rs : List Value)
    (hW : w.heap[g]? = some (.cells #[lv, xv, vc, vr, .slice none 0 0, .slice none 0 0] 68 (0, 0)))
    (hc : Shelf w g 59 29 vc cs) (hr : Shelf w g 56 88 vr rs) :
    Calls Tryz.prog 24 #[.pointer (some ⟨g, 2, none⟩)] w fun e w' => e = .returned (.bool true) ∧ Below w.heap.size w w' := by
  have hgw : g < w.heap.size := (Array.getElem?_eq_some_iff.1 hW).1
  obtain ⟨ca, ccap, hcf⟩ := own_form hc.list
  obtain ⟨ra, rcap, hrf⟩ := own_form hr.list
  subst hcf hrf
  have HC : Hid (∀ X, Below w.heap.size w X → ∀ j, X.cell? ⟨g, j, none⟩ = (#[lv, xv, .slice ca cs.length ccap, .slice ra rs.length rcap, .slice none 0 0, .slice none 0 0] : Array Value)[j]?) := fun X hb j => cell_of_row X g j _ _ _ ((hb.block g hgw).trans hW)
  have HSC : Hid (∀ X, Below w.heap.size w X → Shelf X g 59 29 (.slice ca cs.length ccap) cs) := fun X hb => shelf_below hc hb
  have HSR : Hid (∀ X, Below w.heap.size w X → Shelf X g 56 88 (.slice ra rs.length rcap) rs) := fun X hb => shelf_below hr hb
  have hcl := hc.len
  have hrl := hr.len
  have HGW : Hid _ := hgw
  clear hW hc hr hgw
  have hnc := neq_contig
  have hnr := neq_read
  go_enter Tryz.func24, Tryz.ntmps24
  have c20 : w.cell? ⟨g, 2, none⟩ = some (.slice ca cs.length ccap) := HC.out _ (Below.refl _ _) 2
  have c30 : w.cell? ⟨g, 3, none⟩ = some (.slice ra rs.length rcap) := HC.out _ (Below.refl _ _) 3
  go_wp2
  clear c20 c30
  go_loopw [3] (fun i wr => ∃ k : Nat, k ≤ cs.length ∧ i = .int .i64 (k : Int) ∧ Below w.heap.size w wr) (fun i _ => cs.length - (intOf i).toNat)
  case atStart => exact ⟨0, Nat.zero_le _, rfl, Below.refl _ _⟩
  case round =>
    obtain ⟨k, hk, rfl, hbr⟩ := hrel
    have c2 : wr.cell? ⟨g, 2, none⟩ = some (.slice ca cs.length ccap) := HC.out _ hbr 2
    by_cases hlt : k < cs.length
    · have hlt' : (k : Int) < (cs.length : Int) := by omega
      have hsr := hbr.size
      go_wp2_with fail
      refine (mark_any k _ (by omega)).mono ?_
      rintro e w1 ⟨rfl, hb1⟩
      obtain ⟨M, hM⟩ : ∃ M, M = mk k := ⟨_, rfl⟩
      rw [← hM]
      have HM : Hid _ := hM
      clear hM
      have hs1 := hb1.size
      have hbx : Below w.heap.size w (w1.alloc (Obj.cells #[Value.string { data := M.toArray }, Value.string { data := #[] }] 59)) := (hbr.trans (hb1.mono hsr)).alloc (by omega) _
      have hmx : (w1.alloc (Obj.cells #[Value.string { data := M.toArray }, Value.string { data := #[] }] 59)).heap[w1.heap.size]? = some (Obj.cells #[Value.string { data := M.toArray }, Value.string { data := #[] }] 59) := heap_alloc_new w1 _
      go_wp2
      generalize (w1.alloc (Obj.cells #[Value.string { data := M.toArray }, Value.string { data := #[] }] 59)) = W2 at *
      generalize w1.heap.size = gm at *
      clear c2
      go_loopw [5] (fun j wr2 => ∃ q : Nat, q ≤ 2000 ∧ j = .int .i64 (q : Int) ∧ Below w.heap.size w wr2 ∧ wr2.heap[gm]? = some (Obj.cells #[Value.string { data := M.toArray }, Value.string { data := #[] }] 59)) (fun j _ => 2000 - (intOf j).toNat)
      case atStart => exact ⟨0, by omega, rfl, hbx, hmx⟩
      case round =>
        clear hbx hmx
        obtain ⟨q, hq, rfl, hb2, hm2⟩ := hrel
        have c2 : wr.cell? ⟨g, 2, none⟩ = some (.slice ca cs.length ccap) := HC.out _ hb2 2
        obtain ⟨g1, la, n, lcap, hca, ck, _, hn, hnext⟩ := shelf_at (HSC.out _ hb2) k hlt
        rw [← HM.out] at hnext
        by_cases hqn : q < n
        · obtain ⟨g2, hla, _, hce⟩ := hnext (by omega)
          obtain ⟨p0, p1⟩ := hce q hqn
          clear hce hnext
          have m0 : wr.cell? ⟨gm, 0, none⟩ = some (.string ⟨M.toArray⟩) := cell_of_row wr gm 0 _ _ _ hm2
          have m1 : wr.cell? ⟨gm, 1, none⟩ = some (.string ⟨#[]⟩) := cell_of_row wr gm 1 _ _ _ hm2
          have hqn' : (q : Int) < (n : Int) := by omega
          rw [hca] at c2
          subst hla
          have HB2 : Hid _ := hb2
          have HM2 : Hid _ := hm2
          clear hb2 hm2
          go_wp2_with fail
          go_quiet (fail)
          go_wp2
          go_roundw
          case rel => exact ⟨q + 1, by omega, by go_num, below_drewN HB2.out _, HM2.out⟩
          case measure => simp [intOf]; omega
        · have hqn' : ¬ (q : Int) < (n : Int) := by omega
          rw [hca] at c2
          clear hnext
          go_wp2
          go_roundw
          case rel => exact ⟨k + 1, by omega, by go_num, hb2⟩
          case measure => simp [intOf]; omega
    · have hlt' : ¬ (k : Int) < (cs.length : Int) := by omega
      have c3 : wr.cell? ⟨g, 3, none⟩ = some (.slice ra rs.length rcap) := HC.out _ hbr 3
      go_wp2
      clear c2 c3 hlt' hlt hk
      have HBR : Hid _ := hbr
      clear hbr
      go_loopw [6] (fun i wr => ∃ k : Nat, k ≤ rs.length ∧ i = .int .i64 (k : Int) ∧ Below w.heap.size w wr) (fun i _ => rs.length - (intOf i).toNat)
      case atStart => exact ⟨0, Nat.zero_le _, rfl, HBR.out⟩
      case round =>
        obtain ⟨k, hk, rfl, hbr⟩ := hrel
        have c2 : wr.cell? ⟨g, 3, none⟩ = some (.slice ra rs.length rcap) := HC.out _ hbr 3
        by_cases hlt : k < rs.length
        · have hlt' : (k : Int) < (rs.length : Int) := by omega
          have hsr := hbr.size
          go_wp2_with fail
          refine (mark_any k _ (by omega)).mono ?_
          rintro e w1 ⟨rfl, hb1⟩
          obtain ⟨M, hM⟩ : ∃ M, M = mk k := ⟨_, rfl⟩
          rw [← hM]
          have HM : Hid _ := hM
          clear hM
          have hs1 := hb1.size
          have hbx : Below w.heap.size w (w1.alloc (Obj.cells #[Value.string { data := M.toArray }, Value.string { data := #[] }] 56)) := (hbr.trans (hb1.mono hsr)).alloc (by omega) _
          have hmx : (w1.alloc (Obj.cells #[Value.string { data := M.toArray }, Value.string { data := #[] }] 56)).heap[w1.heap.size]? = some (Obj.cells #[Value.string { data := M.toArray }, Value.string { data := #[] }] 56) := heap_alloc_new w1 _
          go_wp2
          generalize (w1.alloc (Obj.cells #[Value.string { data := M.toArray }, Value.string { data := #[] }] 56)) = W2 at *
          generalize w1.heap.size = gm at *
          clear c2
          go_loopw [8] (fun j wr2 => ∃ q : Nat, q ≤ 2000 ∧ j = .int .i64 (q : Int) ∧ Below w.heap.size w wr2 ∧ wr2.heap[gm]? = some (Obj.cells #[Value.string { data := M.toArray }, Value.string { data := #[] }] 56)) (fun j _ => 2000 - (intOf j).toNat)
          case atStart => exact ⟨0, by omega, rfl, hbx, hmx⟩
          case round =>
            clear hbx hmx
            obtain ⟨q, hq, rfl, hb2, hm2⟩ := hrel
            have c2 : wr.cell? ⟨g, 3, none⟩ = some (.slice ra rs.length rcap) := HC.out _ hb2 3
            obtain ⟨g1, la, n, lcap, hca, ck, _, hn, hnext⟩ := shelf_at (HSR.out _ hb2) k hlt
            rw [← HM.out] at hnext
            by_cases hqn : q < n
            · obtain ⟨g2, hla, _, hce⟩ := hnext (by omega)
              obtain ⟨p0, p1⟩ := hce q hqn
              clear hce hnext
              have m0 : wr.cell? ⟨gm, 0, none⟩ = some (.string ⟨M.toArray⟩) := cell_of_row wr gm 0 _ _ _ hm2
              have m1 : wr.cell? ⟨gm, 1, none⟩ = some (.string ⟨#[]⟩) := cell_of_row wr gm 1 _ _ _ hm2
              have hqn' : (q : Int) < (n : Int) := by omega
              rw [hca] at c2
              subst hla
              have HB2 : Hid _ := hb2
              have HM2 : Hid _ := hm2
              clear hb2 hm2
              go_wp2_with fail
              go_quiet (fail)
              go_wp2
              go_roundw
              case rel => exact ⟨q + 1, by omega, by go_num, below_drewN HB2.out _, HM2.out⟩
              case measure => simp [intOf]; omega
            · have hqn' : ¬ (q : Int) < (n : Int) := by omega
              rw [hca] at c2
              clear hnext
              go_wp2
              go_roundw
              case rel => exact ⟨k + 1, by omega, by go_num, hb2⟩
              case measure => simp [intOf]; omega
        · have hlt' : ¬ (k : Int) < (rs.length : Int) := by omega
          have c4 : wr.cell? ⟨g, 4, none⟩ = some (.slice none 0 0) := HC.out _ hbr 4
          have c5 : wr.cell? ⟨g, 5, none⟩ = some (.slice none 0 0) := HC.out _ hbr 5
          go_wp2
          refine wp_loop_rounds 1 ?_
          rw [rounds_succ]
          go_wp2
          refine wp_loop_rounds 1 ?_
          rw [rounds_succ]
          go_wp2
          go_ret
          exact ⟨rfl, hbr⟩

end Go.Proofs.YtjebhbopmfcopaaGreatDoor
