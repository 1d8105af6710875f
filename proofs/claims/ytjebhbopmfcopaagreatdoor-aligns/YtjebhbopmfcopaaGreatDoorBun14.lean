/-
  THE WALKS of 'lentRecords' and 'wholeRecords'. Own text of the verifier.
  THE WALK of the law's 'aligned': the program's Align and the document's are held against each other. Own text of the verifier.
  THE WALK of the steps of kind Align. Own text of the verifier.
  THE WALK of the steps of kind Find. Own text of the verifier.
  THE WALKS of the steps of kinds Reverse and Convert, of an empty book, and of the law Strands. Own text of the verifier.
-/
import Derived.Test.YtjebhbopmfcopaaGreatDoorBun11
import Derived.Test.YtjebhbopmfcopaaGreatDoorBun8
import Derived.Test.YtjebhbopmfcopaaGreatDoorBun13
import Derived.Test.YtjebhbopmfcopaaGreatDoorBun9
import Derived.Deep.RegionHeld3
import Derived.Test.YtjebhbopmfcopaaGreatDoorBun1
import Derived.Test.YtjebhbopmfcopaaGreatDoorBun3
import Derived.Test.YtjebhbopmfcopaaGreatDoorBun2
import Derived.Test.YtjebhbopmfcopaaGreatDoorBun4
import Derived.Test.YtjebhbopmfcopaaGreatDoorBun5
import Derived.Test.YtjebhbopmfcopaaGreatDoorBun6
import Derived.Test.YtjebhbopmfcopaaGreatDoorBun7
import Derived.Test.YtjebhbopmfcopaaGreatDoorBun10
import Derived.Test.YtjebhbopmfcopaaGreatDoorBun12
namespace Go.Proofs.YtjebhbopmfcopaaGreatDoor
open Go.RowKit

/-- what 'lentRecords' answers: nil, or a new row -/
def LentR (w w' : World) (rs : List Rc) (lv v : Value) : Prop :=
  (lv = .slice none 0 0 ∧ rs = [] ∧ v = .slice none 0 0 ∧ w' = w) ∨
  (∃ ad cc, lv = .slice (some ad) rs.length cc ∧ v = .slice (some ⟨w.heap.size, 0, none⟩) rs.length (rs.length + 8) ∧
    w'.ownsRow w.heap.size 52 8 (.slice (some ⟨w.heap.size, 0, none⟩) (rs.length + 8) (rs.length + 8)) (rs.length + 8) (Rcs (lentR rs)) ∧ Below w.heap.size w w' ∧ w.heap.size < w'.heap.size)

set_option maxRecDepth 100000 in
set_option maxHeartbeats 1600000 in
theorem lentRecords_any (rs : List Rc) (lv : Value) (w : World) (hr : RecsOk w lv rs) :
    Calls Tryz.prog 105 #[lv] w fun e w' => ∃ v, e = .returned v ∧ LentR w w' rs lv v := by
  have hnil := fun (wy : World) (a : Option Addr) (l c : Nat) => Lib.run_eql_slice_nil (P := Tryz.prog) wy 46 52 a l c 0 0 Tryz.underlying46
  obtain ⟨i0, hi, hz0, hz1, hz2⟩ := info_parts Tryz.infoRec2
  have hlen := hr.len
  rcases hr.src with ⟨rfl, hc0, _⟩ | ⟨ad, cc, rfl, hsrc⟩
  · obtain rfl : rs = [] := List.eq_nil_of_length_eq_zero hc0
    clear hlen hr hc0
    go_enter Tryz.func105, Tryz.ntmps105
    go_wp2
    go_ret
    exact ⟨_, rfl, .inl ⟨rfl, rfl, rfl, rfl⟩⟩
  · clear hr
    have HSRC : Hid _ := hsrc
    clear hsrc
    go_enter Tryz.func105, Tryz.ntmps105
    go_wp2_with (at_make; refine wpList_make_full _ rfl _ _ 46 rfl w.heap.size 52 i0 (.agg #[.string ⟨#[]⟩, .int .i64 0, .int .i64 0, .string ⟨#[]⟩, .int .i64 0, .int .i64 0, .string ⟨#[]⟩, .string ⟨#[]⟩]) 8 Tryz.underlying46 hi hz0 hz1 _ _ _ _ (rs.length + 8) rfl rfl (by omega) (by omega) (by rw [hz2]; omega) (by unfold maxLen; omega) (Nat.le_refl _) ?_; intro w1 hown0 hgrow; rw [made_recs] at hown0; have hb1 : Below w.heap.size w w1 := (Below.refl _ _).grown hgrow (Nat.le_refl _) (fun k hk => by cases hk); obtain ⟨W2, hcopy, hown2, hgrow2⟩ := copy_lentR rs w.heap.size cc ad w1 (src_keep HSRC.out hb1) hown0)
    have hb2 : Below w.heap.size w W2 := hb1.grown hgrow2 (by have := hgrow.size; omega) (fun k hk => by cases hk; exact Nat.le_refl _)
    clear hcopy hown0 hgrow hgrow2 hb1 hnil
    go_loopw [5] (fun i wr => ∃ k : Nat, rs.length ≤ k ∧ k ≤ rs.length + 8 ∧ i = .int .i64 (k : Int) ∧ wr.ownsRow w.heap.size 52 8 (.slice (some ⟨w.heap.size, 0, none⟩) (rs.length + 8) (rs.length + 8)) (rs.length + 8) (Rcs (filledR (lentR rs) (rs.length + 8) k)) ∧ Below w.heap.size w wr)
      (fun i _ => rs.length + 8 - (intOf i).toNat)
    case atStart => exact ⟨rs.length, Nat.le_refl _, by omega, rfl, hown2, hb2⟩
    case round =>
      clear hown2 hb2
      obtain ⟨k, hk1, hk, rfl, hown, hbel⟩ := hrel
      by_cases hlt : k < rs.length + 8
      · have hkl : k < (filledR (lentR rs) (rs.length + 8) k).length := by rw [filledR_length _ _ _ (lentR_length rs) (by omega)]; exact hlt
        obtain ⟨p0, p1, p2, p3, p4, p5, p6, p7⟩ := own_rec hown k hkl
        have f := fun i => hown.frozenAt (k * 8 + i)
        have f0 := f 0
        have f1 := f 1
        have f2 := f 2
        have f3 := f 3
        have f4 := f 4
        have f5 := f 5
        have f6 := f 6
        have f7 := f 7
        rw [Nat.add_zero] at f0
        have hset := own_set8 hown k hkl beR
        rw [show (filledR (lentR rs) (rs.length + 8) k).set k beR = filledR (lentR rs) (rs.length + 8) (k + 1) from by rw [← filledR_set _ _ _ (lentR_length rs) hlt, lentR_high rs k hk1]] at hset
        have HST : Hid _ := hset.1
        have HB1 : Hid _ := hbel.grown hset.2 hbel.size (fun q hq => by cases hq; exact Nat.le_refl _)
        clear hset hown hbel f
        have hlt' : (k : Int) < (rs.length : Int) + 8 := by omega
        go_wp2
        go_roundw
        case rel => exact ⟨k + 1, by omega, by omega, by go_num, HST.out, HB1.out⟩
        case measure => simp [intOf]; omega
      · have hke : k = rs.length + 8 := by omega
        rw [hke, filledR_whole _ _ (lentR_length rs)] at hown
        have hlt' : ¬ (k : Int) < (rs.length : Int) + 8 := by omega
        have hlt9 : w.heap.size < wr.heap.size := by
          rcases hown.2 with ⟨h, _⟩ | ⟨g, cap, cur, hv, _, hg, _⟩
          · simp at h
          · simp only [Value.slice.injEq, Option.some.injEq, Addr.mk.injEq, and_true, true_and] at hv
            obtain ⟨rfl, _⟩ := hv
            exact (Array.getElem?_eq_some_iff.1 hg).1
        clear hke
        have HO : Hid _ := hown
        have HB : Hid _ := hbel
        clear hown hbel
        go_wp2
        go_ret
        exact ⟨_, rfl, .inr ⟨_, _, rfl, rfl, HO.out, HB.out, hlt9⟩⟩

theorem eq_rec (n c l k : ByteArray) (v s p m : Int) (w : World) :
    (Op.equalIn 10000 52 (.agg #[.string n, .int .i64 v, .int .i64 s, .string c, .int .i64 p, .int .i64 m, .string l, .string k]) (.agg #[.string n, .int .i64 v, .int .i64 s, .string c, .int .i64 p, .int .i64 m, .string l, .string k])).run Tryz.prog w = .ok true w := by
  simp [go_sem, Tryz.underlying52, Tryz.underlying9, Tryz.underlying3]
theorem eql_rec (n c l k : ByteArray) (v s p m : Int) (w : World) :
    (binOp .eql 52 (.agg #[.string n, .int .i64 v, .int .i64 s, .string c, .int .i64 p, .int .i64 m, .string l, .string k]) (.agg #[.string n, .int .i64 v, .int .i64 s, .string c, .int .i64 p, .int .i64 m, .string l, .string k])).run Tryz.prog w = .ok (.bool true) w := by
  rw [run_eql_struct, eq_rec]; rfl

set_option maxRecDepth 100000 in
set_option maxHeartbeats 1600000 in
theorem wholeRecords_nil (v : Value) (w : World) :
    Calls Tryz.prog 107 #[v, .slice none 0 0] w fun e w' => e = .returned (.bool true) ∧ w' = w := by
  have hnil := fun (wy : World) (a : Option Addr) (l c : Nat) => Lib.run_eql_slice_nil (P := Tryz.prog) wy 46 52 a l c 0 0 Tryz.underlying46
  go_enter Tryz.func107, Tryz.ntmps107
  go_wp2
  go_ret
  exact ⟨rfl, rfl⟩

theorem wipe_rec {w wr Y : World} {rs : List Rc} {G k : Nat} (hgr : w.grownBy wr (some G)) (hown : wr.ownsRow G 52 8 (.slice (some ⟨G, 0, none⟩) (rs.length + 8) (rs.length + 8)) (rs.length + 8) (Rcs (wipedR rs k))) (hk : k < rs.length + 8) (hY : wr.grownBy Y none) :
    ((((((((Y.setCell ⟨G, k * 8, none⟩ (.string ⟨#[111, 116, 104, 101, 114]⟩)).setCell ⟨G, k * 8 + 1, none⟩ (.int .i64 0)).setCell ⟨G, k * 8 + 2, none⟩ (.int .i64 0)).setCell ⟨G, k * 8 + 3, none⟩ (.string ⟨#[]⟩)).setCell ⟨G, k * 8 + 4, none⟩ (.int .i64 0)).setCell ⟨G, k * 8 + 5, none⟩ (.int .i64 0)).setCell ⟨G, k * 8 + 6, none⟩ (.string ⟨#[]⟩)).setCell ⟨G, k * 8 + 7, none⟩ (.string ⟨#[]⟩)).ownsRow G 52 8 (.slice (some ⟨G, 0, none⟩) (rs.length + 8) (rs.length + 8)) (rs.length + 8) (Rcs (wipedR rs (k + 1))) ∧
      w.grownBy ((((((((Y.setCell ⟨G, k * 8, none⟩ (.string ⟨#[111, 116, 104, 101, 114]⟩)).setCell ⟨G, k * 8 + 1, none⟩ (.int .i64 0)).setCell ⟨G, k * 8 + 2, none⟩ (.int .i64 0)).setCell ⟨G, k * 8 + 3, none⟩ (.string ⟨#[]⟩)).setCell ⟨G, k * 8 + 4, none⟩ (.int .i64 0)).setCell ⟨G, k * 8 + 5, none⟩ (.int .i64 0)).setCell ⟨G, k * 8 + 6, none⟩ (.string ⟨#[]⟩)).setCell ⟨G, k * 8 + 7, none⟩ (.string ⟨#[]⟩)) (some G) := by
  have h0 := hown.kept hY (.inr (by simp [Value.ownBlock]))
  have h1 := own_set8 h0 k (by rw [wipedR_length _ _ (by omega)]; exact hk) otR
  rw [wipedR_set rs k hk] at h1
  exact ⟨h1.1, grown_trans (grown_trans hgr (grown_weak hY)) h1.2⟩

set_option maxRecDepth 100000 in
set_option maxHeartbeats 1600000 in
theorem wholeRecords_row (rs : List Rc) (G cc : Nat) (ad : Addr) (w : World) (hlen : rs.length * 96 ≤ 140737488351232) (hsrc : ∀ j u, (Rcs rs)[j]? = some u → w.cell? (ad.add j) = some u) (hne : 0 < rs.length → ad.block ≠ G)
    (hown : w.ownsRow G 52 8 (.slice (some ⟨G, 0, none⟩) (rs.length + 8) (rs.length + 8)) (rs.length + 8) (Rcs (lentR rs))) :
    Calls Tryz.prog 107 #[.slice (some ⟨G, 0, none⟩) rs.length (rs.length + 8), .slice (some ad) rs.length cc] w fun e w' => e = .returned (.bool true) ∧ w.grownBy w' (some G) := by
  have hnil := fun (wy : World) (a : Option Addr) (l c : Nat) => Lib.run_eql_slice_nil (P := Tryz.prog) wy 46 52 a l c 0 0 Tryz.underlying46
  have heq := eql_rec
  have HO : Hid _ := hown
  have HSRC : Hid _ := hsrc
  have HNE : Hid _ := hne
  have hGw : G < w.heap.size := by
    rcases hown.2 with ⟨h, _⟩ | ⟨g, cap, cur, hv, _, hg, _⟩
    · simp at h
    · simp only [Value.slice.injEq, Option.some.injEq, Addr.mk.injEq, and_true, true_and] at hv
      obtain ⟨rfl, _⟩ := hv
      exact (Array.getElem?_eq_some_iff.1 hg).1
  clear hown hsrc hne
  have hcut : (0 : Int) ≤ (rs.length : Int) + 8 := by omega
  go_enter Tryz.func107, Tryz.ntmps107
  go_wp2
  clear hnil
  go_loopw [7, 8] (fun ok i wr => ∃ k : Nat, k ≤ rs.length + 8 ∧ i = .int .i64 (k : Int) ∧ ok = .bool true ∧ wr.ownsRow G 52 8 (.slice (some ⟨G, 0, none⟩) (rs.length + 8) (rs.length + 8)) (rs.length + 8) (Rcs (wipedR rs k)) ∧ w.grownBy wr (some G))
    (fun _ i _ => rs.length + 8 - (intOf i).toNat)
  case atStart => exact ⟨0, by omega, rfl, rfl, by rw [wipedR_zero]; exact HO.out, World.grownBy.refl _ _⟩
  case round =>
    obtain ⟨k, hk, rfl, rfl, hown, hgr⟩ := hrel
    by_cases hlt : k < rs.length + 8
    · have hGr : G < wr.heap.size := by have := hgr.size; omega
      have hpp := own_rec hown k (by rw [wipedR_length _ _ (by omega)]; exact hlt)
      have hat := wipedR_at rs k hlt (by rw [wipedR_length _ _ (by omega)]; exact hlt)
      rw [hat] at hpp
      have HOW : Hid _ := hown
      have HGR : Hid _ := hgr
      have hsz := hgr.size
      have f := fun i => hown.frozenAt (k * 8 + i)
      have f0 := f 0
      have f1 := f 1
      have f2 := f 2
      have f3 := f 3
      have f4 := f 4
      have f5 := f 5
      have f6 := f 6
      have f7 := f 7
      rw [Nat.add_zero] at f0
      clear f
      have hlt' : (k : Int) < (rs.length : Int) + 8 := by omega
      by_cases hin : k < rs.length
      · have hin' : (k : Int) < (rs.length : Int) := by omega
        rw [lentR_low rs k hin] at hpp
        have hcs := rc_src HSRC.out k hin
        have hb0 : (ad.add (k * 8)).block = ad.block := add_block ad _
        have hbne : some (ad.add (k * 8)).block ≠ some G := by rw [hb0]; intro h; exact HNE.out (by omega) (Option.some.inj h)
        have hq : ∀ (a : Addr) (v : Value), w.cell? a = some v → a.block = (ad.add (k * 8)).block → wr.cell? a = some v := fun a v hc hab => hgr.cell hc (by rw [hab]; exact hbne)
        obtain ⟨y, hy⟩ : ∃ y : Rc, y = rs[k] := ⟨_, rfl⟩
        rw [← hy] at hpp hcs
        clear hy
        obtain ⟨p0, p1, p2, p3, p4, p5, p6, p7⟩ := hpp
        obtain ⟨s0, s1, s2, s3, s4, s5, s6, s7⟩ := hcs
        replace s0 := hq _ _ s0 rfl
        replace s1 := hq _ _ s1 rfl
        replace s2 := hq _ _ s2 rfl
        replace s3 := hq _ _ s3 rfl
        replace s4 := hq _ _ s4 rfl
        replace s5 := hq _ _ s5 rfl
        replace s6 := hq _ _ s6 rfl
        replace s7 := hq _ _ s7 rfl
        have hadr := World.block_lt_of_cell? wr _ s0
        clear hat hown hgr hq hbne hb0
        go_wp2_with fail
        go_quiet (fail)
        go_wp2
        go_roundw
        case rel =>
          have hfin := wipe_rec HGR.out HOW.out hlt (grown_new wr (.cells #[.string ⟨y.nm.toArray⟩, .int .i64 y.vd, .int .i64 y.sd, .string ⟨y.ct.toArray⟩, .int .i64 y.pl, .int .i64 y.mm, .string ⟨y.lt.toArray⟩, .string ⟨y.cl.toArray⟩] 52) nq)
          exact ⟨k + 1, by omega, by go_num, rfl, hfin.1, hfin.2⟩
        case measure => simp [intOf]; omega
      · have hin' : ¬ (k : Int) < (rs.length : Int) := by omega
        rw [lentR_high rs k (by omega)] at hpp
        have p0 : wr.cell? ⟨G, k * 8, none⟩ = some (.string ⟨#[98, 101, 121, 111, 110, 100]⟩) := hpp.1
        have p1 : wr.cell? ⟨G, k * 8 + 1, none⟩ = some (.int .i64 0) := hpp.2.1
        have p2 : wr.cell? ⟨G, k * 8 + 2, none⟩ = some (.int .i64 0) := hpp.2.2.1
        have p3 : wr.cell? ⟨G, k * 8 + 3, none⟩ = some (.string ⟨#[]⟩) := hpp.2.2.2.1
        have p4 : wr.cell? ⟨G, k * 8 + 4, none⟩ = some (.int .i64 0) := hpp.2.2.2.2.1
        have p5 : wr.cell? ⟨G, k * 8 + 5, none⟩ = some (.int .i64 0) := hpp.2.2.2.2.2.1
        have p6 : wr.cell? ⟨G, k * 8 + 6, none⟩ = some (.string ⟨#[]⟩) := hpp.2.2.2.2.2.2.1
        have p7 : wr.cell? ⟨G, k * 8 + 7, none⟩ = some (.string ⟨#[]⟩) := hpp.2.2.2.2.2.2.2
        clear hpp hat hown hgr
        go_wp2_with fail
        go_quiet (fail)
        go_wp2
        go_roundw
        case rel =>
          have hfin := wipe_rec HGR.out HOW.out hlt (grown_new wr (.cells #[.string ⟨#[98, 101, 121, 111, 110, 100]⟩, .int .i64 0, .int .i64 0, .string ⟨#[]⟩, .int .i64 0, .int .i64 0, .string ⟨#[]⟩, .string ⟨#[]⟩] 52) nq)
          exact ⟨k + 1, by omega, by go_num, rfl, hfin.1, hfin.2⟩
        case measure => simp [intOf]; omega
    · have hlt' : ¬ (k : Int) < (rs.length : Int) + 8 := by omega
      have HGR : Hid _ := hgr
      clear hown hgr
      go_wp2
      go_ret
      exact ⟨rfl, HGR.out⟩

end Go.Proofs.YtjebhbopmfcopaaGreatDoor

namespace Go.Proofs.YtjebhbopmfcopaaGreatDoor
open Go.RowKit

theorem refAlign_any (nm lt : List UInt8) (b : Int) (cs : List Pr) (ad : Addr) (cc : Nat) (w : World) (hl : lt.length ≤ 140737488355327) (hR : Se.Right cs) (hsrc : ∀ j u, (Prs cs)[j]? = some u → w.cell? (ad.add j) = some u) :
    Calls Tryz.prog 116 #[.slice (some ad) cs.length cc, .agg #[.string ⟨nm.toArray⟩, .string ⟨lt.toArray⟩], .int .i64 b] w fun e w' =>
      e = .returned (.tuple #[.agg (Rc.vals (Al.align nm lt b cs)), .int .i64 (Al.err b lt)]) ∧ Below w.heap.size w w' := by
  by_cases hE : Al.err b lt = 0
  · have h := refAlign_good nm lt b cs ad cc w hR hE hsrc
    rw [Al.align, if_pos hE, hE]
    exact h
  · rw [Al.align, if_neg hE]
    exact refAlign_bad nm lt b _ _ _ w hl hE

/-- how it stands within 'aligned' -/
structure AlF (X W : World) (x lv : Value) (o : Array Value) : Prop where
  below : Below X.heap.size X W
  size : X.heap.size + 2 ≤ W.heap.size
  pair : W.heap[X.heap.size]? = some (.cells #[x, lv] 115 (0, 0))
  op : W.heap[X.heap.size + 1]? = some (.cells o 70 (0, 0))
theorem AlF.mono {X W W' : World} {x lv : Value} {o : Array Value} (h : AlF X W x lv o) (hb : Below W.heap.size W W') : AlF X W' x lv o := by
  have h2 := h.size
  exact ⟨h.below.trans (hb.mono (by omega)), Nat.le_trans h.size hb.size, (hb.block _ (by omega)).trans h.pair, (hb.block _ (by omega)).trans h.op⟩
theorem AlF.start (X : World) (x lv : Value) (o : Array Value) : AlF X ((X.alloc (.cells #[x, lv] 115)).alloc (.cells o 70)) x lv o := by
  refine ⟨((Below.refl _ _).alloc (Nat.le_refl _) _).alloc (by simp) _, by simp, ?_, ?_⟩
  · rw [Below.heap_alloc _ _ _ (by simp)]
    exact heap_alloc_new X _
  · exact two_heap X _ _
theorem AlF.alloc {X W : World} {x lv : Value} {o : Array Value} (h : AlF X W x lv o) (b : Obj) : AlF X (W.alloc b) x lv o := h.mono ((Below.refl _ _).alloc (Nat.le_refl _) b)

set_option maxRecDepth 100000 in
set_option maxHeartbeats 1600000 in
theorem alignedL_any (X : World) (g : Nat) (p v : Value) (cs : List Pr) (o0 a b c : Int) (nm lt : List UInt8) (la : Option Addr) (ln lc : Nat) (hix : IxAt X (g + 1) p cs) (hne : Se.newErr cs = 0) (hra : RefAt X g v cs) (hg : g ≤ X.heap.size)
    (hnm : nm.length ≤ 140737488351232) (hlt : lt.length ≤ 140737488351232) :
    Calls Tryz.prog 56 #[.agg #[p, v], .agg #[.int .i64 o0, .int .i64 a, .int .i64 b, .int .i64 c, .string ⟨nm.toArray⟩, .string ⟨lt.toArray⟩, .slice la ln lc]] X fun e X' => e = .returned (.bool true) ∧ Below X.heap.size X X' := by
  have hright := Se.right_of cs hne
  obtain ⟨bx, hbx⟩ : ∃ bx, p = .pointer (some ⟨bx, 0, none⟩) := by obtain ⟨bx, _, _, h1, _⟩ := hix; exact ⟨bx, h1⟩
  have hpos := hright.pos
  obtain ⟨ad, cc, hv, hsrc⟩ : ∃ ad cc, v = .slice (some ad) cs.length cc ∧ ∀ j u, (Prs cs)[j]? = some u → X.cell? (ad.add j) = some u := by
    rcases hra.ref.src with ⟨_, h0, _⟩ | ⟨ad, c, hv, hs⟩
    · omega
    · exact ⟨ad, c, hv, hs⟩
  subst hbx hv
  obtain ⟨R, hR⟩ : ∃ R, R = Al.align nm lt b cs := ⟨_, rfl⟩
  obtain ⟨E, hE⟩ : ∃ E, E = Al.err b lt := ⟨_, rfl⟩
  obtain ⟨rn, rv, rs, rc, rp, rm, rl, rk⟩ := R
  have HAL : Hid (∀ (W : World) (G : Nat), Below X.heap.size X W → G < W.heap.size → (∀ j u, (Prs cs)[j]? = some u → W.cell? ((⟨G, 0, none⟩ : Addr).add j) = some u) → Calls Tryz.prog 20 #[.slice (some ⟨G, 0, none⟩) cs.length (cs.length + 8), .pointer (some ⟨bx, 0, none⟩), .agg #[.string ⟨nm.toArray⟩, .string ⟨lt.toArray⟩], .int .i64 b] W fun e w' => e = .returned (.tuple #[.agg #[.string ⟨rn.toArray⟩, .int .i64 rv, .int .i64 rs, .string ⟨rc.toArray⟩, .int .i64 rp, .int .i64 rm, .string ⟨rl.toArray⟩, .string ⟨rk.toArray⟩], .int .i64 E]) ∧ Below W.heap.size W w') := fun W G hb hG hs => by
    have h := palign_any nm lt b cs (g + 1) (.pointer (some ⟨bx, 0, none⟩)) G (cs.length + 8) W (by omega) (by omega) hright (fun x hx => by have := (hra.ref.txt x hx).1; omega) (IxAt.below hix hb) hG hs
    rw [← hR, ← hE] at h
    exact h
  have HRF : Hid (∀ (W : World), Below X.heap.size X W → Calls Tryz.prog 116 #[.slice (some ad) cs.length cc, .agg #[.string ⟨nm.toArray⟩, .string ⟨lt.toArray⟩], .int .i64 b] W fun e w' => e = .returned (.tuple #[.agg #[.string ⟨rn.toArray⟩, .int .i64 rv, .int .i64 rs, .string ⟨rc.toArray⟩, .int .i64 rp, .int .i64 rm, .string ⟨rl.toArray⟩, .string ⟨rk.toArray⟩], .int .i64 E]) ∧ Below W.heap.size W w') := fun W hb => by
    have h := refAlign_any nm lt b cs ad cc W (by omega) hright (src_keep hsrc hb)
    rw [← hR, ← hE] at h
    exact h
  have HRA : Hid (∀ W, Below X.heap.size X W → RefOk W (.slice (some ad) cs.length cc) cs) := fun W hb => (hra.below (hb.mono hg)).ref
  have HF0 : Hid _ := AlF.start X (.pointer (some ⟨bx, 0, none⟩)) (.slice (some ad) cs.length cc) #[.int .i64 o0, .int .i64 a, .int .i64 b, .int .i64 c, .string ⟨nm.toArray⟩, .string ⟨lt.toArray⟩, .slice la ln lc]
  have heq := eql_rec
  clear hR hE hright hix hra hsrc hne
  go_enter Tryz.func56, Tryz.ntmps56
  go_wp2_with fail
  refine (lentContigs_any cs _ _ (HRA.out _ (by exact HF0.out.below))).mono ?_
  rintro e w1 ⟨v1, rfl, hl⟩
  have HWH : Hid (∀ W3, Below w1.heap.size w1 W3 → Calls Tryz.prog 113 #[v1, .slice (some ad) cs.length cc] W3 fun e w' => e = .returned (.bool true) ∧ W3.grownBy w' v1.ownBlock) := fun W3 hb => lentC_whole hl (HRA.out _ (by exact HF0.out.below)) hb
  rcases hl with ⟨h, _⟩ | ⟨ad', cc', _, rfl, ho, hb1, hlt1⟩
  · simp at h
  generalize hGG : ((X.alloc (.cells #[.pointer (some ⟨bx, 0, none⟩), .slice (some ad) cs.length cc] 115)).alloc (.cells #[.int .i64 o0, .int .i64 a, .int .i64 b, .int .i64 c, .string ⟨nm.toArray⟩, .string ⟨lt.toArray⟩, .slice la ln lc] 70)).heap.size = G at *
  have HGG : Hid _ := hGG
  have hG2 : X.heap.size + 2 = G := by rw [← hGG]; simp
  have HOWN : Hid _ := ho
  have HB1 : Hid _ := hb1
  have hF1 : AlF X w1 (.pointer (some ⟨bx, 0, none⟩)) (.slice (some ad) cs.length cc) #[.int .i64 o0, .int .i64 a, .int .i64 b, .int .i64 c, .string ⟨nm.toArray⟩, .string ⟨lt.toArray⟩, .slice la ln lc] := HF0.out.mono (by rw [hGG]; exact hb1)
  have c4 : w1.cell? ⟨X.heap.size + 1, 4, none⟩ = some (.string ⟨nm.toArray⟩) := cell_of_row _ _ 4 _ _ _ hF1.op
  have c5 : w1.cell? ⟨X.heap.size + 1, 5, none⟩ = some (.string ⟨lt.toArray⟩) := cell_of_row _ _ 5 _ _ _ hF1.op
  have hF2 := hF1.alloc (.cells #[.string ⟨nm.toArray⟩, .string ⟨lt.toArray⟩] 56)
  have d0 : (w1.alloc (.cells #[.string ⟨nm.toArray⟩, .string ⟨lt.toArray⟩] 56)).cell? ⟨X.heap.size, 0, none⟩ = some (.pointer (some ⟨bx, 0, none⟩)) := cell_of_row _ _ 0 _ _ _ hF2.pair
  have d2 : (w1.alloc (.cells #[.string ⟨nm.toArray⟩, .string ⟨lt.toArray⟩] 56)).cell? ⟨X.heap.size + 1, 2, none⟩ = some (.int .i64 b) := cell_of_row _ _ 2 _ _ _ hF2.op
  have HF2 : Hid _ := hF2
  have HSR : Hid (∀ j u, (Prs cs)[j]? = some u → (w1.alloc (.cells #[.string ⟨nm.toArray⟩, .string ⟨lt.toArray⟩] 56)).cell? ((⟨G, 0, none⟩ : Addr).add j) = some u) := fun j u hj => by
    have hjl : j < cs.length * 2 := by
      have := (List.getElem?_eq_some_iff.1 hj).1
      rw [Prs_length] at this
      exact this
    have h1 : w1.cell? ((⟨G, 0, none⟩ : Addr).add j) = some u := by
      rw [Addr.add_lit, Nat.zero_add, ho.cellAt j (by omega), lentC, Prs_append, List.getElem?_append_left (by rw [Prs_length]; exact hjl)]
      exact hj
    exact (((Below.refl _ _).alloc (Nat.le_refl _) _).cell (World.block_lt_of_cell? w1 _ h1)).trans h1
  have hG1 : G < w1.heap.size := hlt1
  clear hGG ho hb1 hF1 hF2 hlt1
  go_wp2_with fail
  refine (HAL.out _ G (by exact HF2.out.below) (by simp; omega) (by exact HSR.out)).mono ?_
  rintro e w3 ⟨rfl, hb3⟩
  generalize hgr : w1.heap.size = gr at *
  have HRD : Hid (w3.heap[gr]? = some (.cells #[.string ⟨nm.toArray⟩, .string ⟨lt.toArray⟩] 56 (0, 0))) := by rw [← hgr]; exact (hb3.block _ (by simp)).trans (heap_alloc_new w1 _)
  have hgr3 : gr < w3.heap.size := (Array.getElem?_eq_some_iff.1 HRD.out).1
  have HF3 : Hid _ := HF2.out.mono hb3
  have HB3 : Hid (Below (gr + 1) (w1.alloc (.cells #[.string ⟨nm.toArray⟩, .string ⟨lt.toArray⟩] 56)) w3) := by have h := hb3; rw [World.size_alloc, hgr] at h; exact h
  clear c4 c5 d0 d2 hb3 HF2 HSR
  have hF4 := HF3.out.alloc (.cells #[.string ⟨rn.toArray⟩, .int .i64 rv, .int .i64 rs, .string ⟨rc.toArray⟩, .int .i64 rp, .int .i64 rm, .string ⟨rl.toArray⟩, .string ⟨rk.toArray⟩] 52)
  have hR4 : (w3.alloc (.cells #[.string ⟨rn.toArray⟩, .int .i64 rv, .int .i64 rs, .string ⟨rc.toArray⟩, .int .i64 rp, .int .i64 rm, .string ⟨rl.toArray⟩, .string ⟨rk.toArray⟩] 52)).heap[gr]? = some (.cells #[.string ⟨nm.toArray⟩, .string ⟨lt.toArray⟩] 56 (0, 0)) := (Below.heap_alloc _ _ _ hgr3).trans HRD.out
  have e1 : (w3.alloc (.cells #[.string ⟨rn.toArray⟩, .int .i64 rv, .int .i64 rs, .string ⟨rc.toArray⟩, .int .i64 rp, .int .i64 rm, .string ⟨rl.toArray⟩, .string ⟨rk.toArray⟩] 52)).cell? ⟨X.heap.size, 1, none⟩ = some (.slice (some ad) cs.length cc) := cell_of_row _ _ 1 _ _ _ hF4.pair
  have e2 : (w3.alloc (.cells #[.string ⟨rn.toArray⟩, .int .i64 rv, .int .i64 rs, .string ⟨rc.toArray⟩, .int .i64 rp, .int .i64 rm, .string ⟨rl.toArray⟩, .string ⟨rk.toArray⟩] 52)).cell? ⟨X.heap.size + 1, 2, none⟩ = some (.int .i64 b) := cell_of_row _ _ 2 _ _ _ hF4.op
  have e3 : (w3.alloc (.cells #[.string ⟨rn.toArray⟩, .int .i64 rv, .int .i64 rs, .string ⟨rc.toArray⟩, .int .i64 rp, .int .i64 rm, .string ⟨rl.toArray⟩, .string ⟨rk.toArray⟩] 52)).cell? ⟨gr, 0, none⟩ = some (.string ⟨nm.toArray⟩) := cell_of_row _ _ 0 _ _ _ hR4
  have e4 : (w3.alloc (.cells #[.string ⟨rn.toArray⟩, .int .i64 rv, .int .i64 rs, .string ⟨rc.toArray⟩, .int .i64 rp, .int .i64 rm, .string ⟨rl.toArray⟩, .string ⟨rk.toArray⟩] 52)).cell? ⟨gr, 1, none⟩ = some (.string ⟨lt.toArray⟩) := cell_of_row _ _ 1 _ _ _ hR4
  have HF4 : Hid _ := hF4
  clear hF4 hR4
  go_wp2_with fail
  refine (HRF.out _ (by exact HF4.out.below)).mono ?_
  rintro e w5 ⟨rfl, hb5⟩
  have HF5 : Hid _ := HF4.out.mono hb5
  have HB5 : Hid _ := hb5
  generalize hga : w3.heap.size = ga at *
  have HA5 : Hid (w5.heap[ga]? = some (.cells #[.string ⟨rn.toArray⟩, .int .i64 rv, .int .i64 rs, .string ⟨rc.toArray⟩, .int .i64 rp, .int .i64 rm, .string ⟨rl.toArray⟩, .string ⟨rk.toArray⟩] 52 (0, 0))) := by rw [← hga]; exact (hb5.block _ (by simp)).trans (heap_alloc_new w3 _)
  have hga5 : ga < w5.heap.size := (Array.getElem?_eq_some_iff.1 HA5.out).1
  clear e1 e2 e3 e4 hb5
  have hF6 := HF5.out.alloc (.cells #[.string ⟨rn.toArray⟩, .int .i64 rv, .int .i64 rs, .string ⟨rc.toArray⟩, .int .i64 rp, .int .i64 rm, .string ⟨rl.toArray⟩, .string ⟨rk.toArray⟩] 52)
  have g1 : (w5.alloc (.cells #[.string ⟨rn.toArray⟩, .int .i64 rv, .int .i64 rs, .string ⟨rc.toArray⟩, .int .i64 rp, .int .i64 rm, .string ⟨rl.toArray⟩, .string ⟨rk.toArray⟩] 52)).cell? ⟨X.heap.size, 1, none⟩ = some (.slice (some ad) cs.length cc) := cell_of_row _ _ 1 _ _ _ hF6.pair
  have HF6 : Hid _ := hF6
  have HB6 : Hid (Below w1.heap.size w1 (w5.alloc (.cells #[.string ⟨rn.toArray⟩, .int .i64 rv, .int .i64 rs, .string ⟨rc.toArray⟩, .int .i64 rp, .int .i64 rm, .string ⟨rl.toArray⟩, .string ⟨rk.toArray⟩] 52))) := by
    have h1 : Below gr w1 w3 := by have := ((Below.refl w1.heap.size w1).alloc (Nat.le_refl _) (.cells #[.string ⟨nm.toArray⟩, .string ⟨lt.toArray⟩] 56)); rw [hgr] at this; exact this.trans (HB3.out.mono (by omega))
    have h2 : Below w3.heap.size w3 w5 := ((Below.refl _ _).alloc (Nat.le_refl _) _).trans (HB5.out.mono (by simp))
    have h3 : Below gr w1 w5 := h1.trans (h2.mono (by omega))
    rw [hgr]
    exact h3.alloc (by have := h3.size; omega) _
  clear hF6
  go_wp2_with fail
  refine (HWH.out _ (by have h := HB6.out; rw [hgr] at h; exact h)).mono ?_
  rintro e w6 ⟨rfl, hg6⟩
  have hg6' : (w5.alloc (.cells #[.string ⟨rn.toArray⟩, .int .i64 rv, .int .i64 rs, .string ⟨rc.toArray⟩, .int .i64 rp, .int .i64 rm, .string ⟨rl.toArray⟩, .string ⟨rk.toArray⟩] 52)).grownBy w6 (some G) := hg6
  have hA6 : w6.heap[ga]? = some (.cells #[.string ⟨rn.toArray⟩, .int .i64 rv, .int .i64 rs, .string ⟨rc.toArray⟩, .int .i64 rp, .int .i64 rm, .string ⟨rl.toArray⟩, .string ⟨rk.toArray⟩] 52 (0, 0)) := (hg6'.block ga (by simp; omega) (by simp; omega)).trans ((Below.heap_alloc _ _ _ hga5).trans HA5.out)
  have hB6 : w6.heap[w5.heap.size]? = some (.cells #[.string ⟨rn.toArray⟩, .int .i64 rv, .int .i64 rs, .string ⟨rc.toArray⟩, .int .i64 rp, .int .i64 rm, .string ⟨rl.toArray⟩, .string ⟨rk.toArray⟩] 52 (0, 0)) := (hg6'.block _ (by simp) (by simp; omega)).trans (heap_alloc_new w5 _)
  have HFB : Hid (Below X.heap.size X w6) := HF6.out.below.grown hg6' HF6.out.below.size (fun q hq => by cases hq; omega)
  have a0 : w6.cell? ⟨ga, 0, none⟩ = some (.string ⟨rn.toArray⟩) := cell_of_row _ _ 0 _ _ _ hA6
  have b0 : w6.cell? ⟨w5.heap.size, 0, none⟩ = some (.string ⟨rn.toArray⟩) := cell_of_row _ _ 0 _ _ _ hB6
  have a1 : w6.cell? ⟨ga, 1, none⟩ = some (.int .i64 rv) := cell_of_row _ _ 1 _ _ _ hA6
  have b1 : w6.cell? ⟨w5.heap.size, 1, none⟩ = some (.int .i64 rv) := cell_of_row _ _ 1 _ _ _ hB6
  have a2 : w6.cell? ⟨ga, 2, none⟩ = some (.int .i64 rs) := cell_of_row _ _ 2 _ _ _ hA6
  have b2 : w6.cell? ⟨w5.heap.size, 2, none⟩ = some (.int .i64 rs) := cell_of_row _ _ 2 _ _ _ hB6
  have a3 : w6.cell? ⟨ga, 3, none⟩ = some (.string ⟨rc.toArray⟩) := cell_of_row _ _ 3 _ _ _ hA6
  have b3 : w6.cell? ⟨w5.heap.size, 3, none⟩ = some (.string ⟨rc.toArray⟩) := cell_of_row _ _ 3 _ _ _ hB6
  have a4 : w6.cell? ⟨ga, 4, none⟩ = some (.int .i64 rp) := cell_of_row _ _ 4 _ _ _ hA6
  have b4 : w6.cell? ⟨w5.heap.size, 4, none⟩ = some (.int .i64 rp) := cell_of_row _ _ 4 _ _ _ hB6
  have a5 : w6.cell? ⟨ga, 5, none⟩ = some (.int .i64 rm) := cell_of_row _ _ 5 _ _ _ hA6
  have b5 : w6.cell? ⟨w5.heap.size, 5, none⟩ = some (.int .i64 rm) := cell_of_row _ _ 5 _ _ _ hB6
  have a6 : w6.cell? ⟨ga, 6, none⟩ = some (.string ⟨rl.toArray⟩) := cell_of_row _ _ 6 _ _ _ hA6
  have b6 : w6.cell? ⟨w5.heap.size, 6, none⟩ = some (.string ⟨rl.toArray⟩) := cell_of_row _ _ 6 _ _ _ hB6
  have a7 : w6.cell? ⟨ga, 7, none⟩ = some (.string ⟨rk.toArray⟩) := cell_of_row _ _ 7 _ _ _ hA6
  have b7 : w6.cell? ⟨w5.heap.size, 7, none⟩ = some (.string ⟨rk.toArray⟩) := cell_of_row _ _ 7 _ _ _ hB6
  clear hg6 hg6' hA6 hB6 g1
  go_wp2
  go_ret
  exact ⟨rfl, HFB.out⟩

end Go.Proofs.YtjebhbopmfcopaaGreatDoor

namespace Go.Proofs.YtjebhbopmfcopaaGreatDoor
open Go.RowKit

set_option maxRecDepth 100000 in
set_option maxHeartbeats 1600000 in
theorem step_align (w : World) (g : Nat) (lv : Value) (k : Nat) (a b c : Int) (s t : ByteArray) (la : Option Addr) (ln lc : Nat) (hI : SI w g lv k)
    (ha1 : -9223372036854775808 ≤ a) (ha2 : a ≤ 9223372036854775807) (hk : 4 * k + 4 ≤ 7000000000000) (hs : s.size ≤ 140737488351232) (ht : t.size ≤ 140737488351232) :
    Calls Tryz.prog 23 #[.pointer (some ⟨g, 0, none⟩), .agg #[.int .i64 7, .int .i64 a, .int .i64 b, .int .i64 c, .string s, .string t, .slice la ln lc]] w fun e w' => e = .returned (.bool true) ∧ SI w' g lv (k + 1) ∧ Below g w w' := by
  have hg := si_lt hI
  have HI : Hid _ := hI
  have HIB : Hid (∀ Y, Below w.heap.size w Y → SI Y g lv (k + 1)) := fun Y hb => (si_below hI hb).2
  obtain ⟨xv, vp, ps, es, hW, hx, hok, hsh, e4, e5, e6⟩ := hI
  obtain ⟨xa, xc, hxf⟩ := own_form hx
  subst hxf
  have c1 : w.cell? ⟨g, 1, none⟩ = some (.slice xa ps.length xc) := cell_of_row w g 1 _ _ _ hW
  by_cases h0 : ps.length = 0
  · have hNi : ((ps.length : Int) == 0) = true := by rw [beq_iff_eq]; omega
    have HB0 : Hid (∀ o, Below w.heap.size w (w.alloc o)) := fun o => (Below.refl _ _).alloc (Nat.le_refl _) o
    rw [h0] at c1
    clear hx hok hsh hW HI h0
    go_enter Tryz.func23, Tryz.ntmps23
    go_wp2
    go_ret
    exact ⟨rfl, HIB.out _ (HB0.out _), (HB0.out _).mono (Nat.le_of_lt hg)⟩
  · obtain ⟨gx, cx, hxs, hgx1, hgx2⟩ := own_pos hx (by omega)
    simp only [Value.slice.injEq, true_and] at hxs
    obtain ⟨rfl, rfl⟩ := hxs
    have hNi : ((ps.length : Int) == 0) = false := by rw [beq_eq_false_iff_ne]; omega
    obtain ⟨j, hj, hjv⟩ := pickV_in a ps.length (by omega)
    have HPK : Hid (∀ W : World, Calls Tryz.prog 54 #[.int .i64 a, .int .i64 (ps.length : Int)] W fun e w' => e = .returned (.int .i64 (j : Int)) ∧ w' = W) := fun W => by
      have := pick_any a ps.length W ha1 ha2 (by omega) (by omega)
      rw [hjv] at this
      exact this
    have hj' : (j : Int) < (ps.length : Int) := by omega
    obtain ⟨px, hpx⟩ : ∃ px, px = ps[j] := ⟨_, rfl⟩
    have hmem : px ∈ ps := by rw [hpx]; exact List.getElem_mem _
    obtain ⟨q0, q1⟩ := Pxs_at ps j hj
    rw [← hpx] at q0 q1
    have p0 : w.cell? ⟨gx, j * 2, none⟩ = some px.1 := (hx.cellAt (j * 2) (by omega)).trans q0
    have p1 : w.cell? ⟨gx, j * 2 + 1, none⟩ = some px.2.1 := (hx.cellAt (j * 2 + 1) (by omega)).trans q1
    obtain ⟨hix, _, hra⟩ := hok px hmem
    obtain ⟨bx, hbx⟩ : ∃ bx, px.1 = .pointer (some ⟨bx, 0, none⟩) := by obtain ⟨bx, _, _, h1, _⟩ := hix; exact ⟨bx, h1⟩
    obtain ⟨va, vc, hvf⟩ := hra.form
    obtain ⟨nm, hnm⟩ : ∃ nm : List UInt8, s = ⟨nm.toArray⟩ := ⟨s.data.toList, by cases s; simp⟩
    obtain ⟨lt, hlt⟩ : ∃ lt : List UInt8, t = ⟨lt.toArray⟩ := ⟨t.data.toList, by cases t; simp⟩
    subst hnm hlt
    have HFD : Hid (∀ Y, Below w.heap.size w Y → Calls Tryz.prog 56 #[.agg #[.pointer (some ⟨bx, 0, none⟩), .slice va px.2.2.length vc], .agg #[.int .i64 7, .int .i64 a, .int .i64 b, .int .i64 c, .string ⟨nm.toArray⟩, .string ⟨lt.toArray⟩, .slice la ln lc]] Y fun e X' => e = .returned (.bool true) ∧ SI X' g lv (k + 1) ∧ Below g w X') := fun Y hb => by
      have hokY := hok.move (fun e s v n xs _ _ ho => own_below ho hb) (hb.mono (Nat.le_of_lt hg))
      obtain ⟨hixY, hneY, hraY⟩ := hokY px hmem
      have hsY := hb.size
      have h := alignedL_any Y g px.1 px.2.1 px.2.2 7 a b c nm lt la ln lc hixY hneY hraY (by omega) (by rw [str_size] at hs; exact hs) (by rw [str_size] at ht; exact ht)
      rw [hbx, hvf] at h
      refine h.mono ?_
      rintro e w' ⟨h1, h2⟩
      have hbw := hb.trans (h2.mono hsY)
      exact ⟨h1, HIB.out _ hbw, hbw.mono (Nat.le_of_lt hg)⟩
    rw [hbx] at p0
    rw [hvf] at p1
    generalize px.2.2.length = n0 at *
    clear hx hok hsh hW HI hix hra hbx hvf hpx hmem q0 q1 HIB hs ht
    go_enter Tryz.func23, Tryz.ntmps23
    go_wp2_with fail
    go_region_held3 (fun Y => Y.cell? ⟨g, 1, none⟩ = some (.slice (some ⟨gx, 0, none⟩) ps.length xc) ∧ Y.cell? ⟨w.heap.size, 1, none⟩ = some (.int .i64 a) ∧ Y.cell? ⟨gx, j * 2, none⟩ = some (.pointer (some ⟨bx, 0, none⟩)) ∧ Y.cell? ⟨gx, j * 2 + 1, none⟩ = some (.slice va n0 vc)) (go_keep)
      (first
        | (go_at_call 54; refine (HPK.out _).mono ?_; rintro e w' ⟨rfl, hw⟩; subst w'))
    all_goals
      go_wp2_with fail
      refine (HFD.out _ (by exact (((Below.refl _ _).alloc (Nat.le_refl _) _).alloc (by simp) _).drew)).mono ?_
      rintro e w' ⟨rfl, hsi, hb⟩
      go_wp2
      go_ret
      exact ⟨rfl, hsi, hb⟩

end Go.Proofs.YtjebhbopmfcopaaGreatDoor

namespace Go.Proofs.YtjebhbopmfcopaaGreatDoor
open Go.RowKit

set_option maxRecDepth 100000 in
set_option maxHeartbeats 1600000 in
theorem step_find (w : World) (g : Nat) (lv : Value) (k : Nat) (a b c : Int) (s t : ByteArray) (la : Option Addr) (ln lc : Nat) (hI : SI w g lv k)
    (ha1 : -9223372036854775808 ≤ a) (ha2 : a ≤ 9223372036854775807) (hk : 4 * k + 4 ≤ 7000000000000) (hs : s.size ≤ 140737488351232) :
    Calls Tryz.prog 23 #[.pointer (some ⟨g, 0, none⟩), .agg #[.int .i64 6, .int .i64 a, .int .i64 b, .int .i64 c, .string s, .string t, .slice la ln lc]] w fun e w' => e = .returned (.bool true) ∧ SI w' g lv (k + 1) ∧ Below g w w' := by
  have hg := si_lt hI
  have HI : Hid _ := hI
  have HIB : Hid (∀ Y, Below w.heap.size w Y → SI Y g lv (k + 1)) := fun Y hb => (si_below hI hb).2
  obtain ⟨xv, vp, ps, es, hW, hx, hok, hsh, e4, e5, e6⟩ := hI
  obtain ⟨xa, xc, hxf⟩ := own_form hx
  subst hxf
  have c1 : w.cell? ⟨g, 1, none⟩ = some (.slice xa ps.length xc) := cell_of_row w g 1 _ _ _ hW
  by_cases h0 : ps.length = 0
  · have hNi : ((ps.length : Int) == 0) = true := by rw [beq_iff_eq]; omega
    have HB0 : Hid (∀ o, Below w.heap.size w (w.alloc o)) := fun o => (Below.refl _ _).alloc (Nat.le_refl _) o
    rw [h0] at c1
    clear hx hok hsh hW HI h0
    go_enter Tryz.func23, Tryz.ntmps23
    go_wp2
    go_ret
    exact ⟨rfl, HIB.out _ (HB0.out _), (HB0.out _).mono (Nat.le_of_lt hg)⟩
  · obtain ⟨gx, cx, hxs, hgx1, hgx2⟩ := own_pos hx (by omega)
    simp only [Value.slice.injEq, true_and] at hxs
    obtain ⟨rfl, rfl⟩ := hxs
    have hNi : ((ps.length : Int) == 0) = false := by rw [beq_eq_false_iff_ne]; omega
    obtain ⟨j, hj, hjv⟩ := pickV_in a ps.length (by omega)
    have HPK : Hid (∀ W : World, Calls Tryz.prog 54 #[.int .i64 a, .int .i64 (ps.length : Int)] W fun e w' => e = .returned (.int .i64 (j : Int)) ∧ w' = W) := fun W => by
      have := pick_any a ps.length W ha1 ha2 (by omega) (by omega)
      rw [hjv] at this
      exact this
    have hj' : (j : Int) < (ps.length : Int) := by omega
    obtain ⟨px, hpx⟩ : ∃ px, px = ps[j] := ⟨_, rfl⟩
    have hmem : px ∈ ps := by rw [hpx]; exact List.getElem_mem _
    obtain ⟨q0, q1⟩ := Pxs_at ps j hj
    rw [← hpx] at q0 q1
    have p0 : w.cell? ⟨gx, j * 2, none⟩ = some px.1 := (hx.cellAt (j * 2) (by omega)).trans q0
    have p1 : w.cell? ⟨gx, j * 2 + 1, none⟩ = some px.2.1 := (hx.cellAt (j * 2 + 1) (by omega)).trans q1
    obtain ⟨hix, _, hra⟩ := hok px hmem
    obtain ⟨bx, hbx⟩ : ∃ bx, px.1 = .pointer (some ⟨bx, 0, none⟩) := by obtain ⟨bx, _, _, h1, _⟩ := hix; exact ⟨bx, h1⟩
    obtain ⟨va, vc, hvf⟩ := hra.form
    have HFD : Hid (∀ Y, Below w.heap.size w Y → Calls Tryz.prog 55 #[.pointer (some ⟨g, 0, none⟩), .agg #[.pointer (some ⟨bx, 0, none⟩), .slice va px.2.2.length vc], .agg #[.int .i64 6, .int .i64 a, .int .i64 b, .int .i64 c, .string s, .string t, .slice la ln lc]] Y fun e X' => e = .returned (.bool true) ∧ SI X' g lv (k + 1) ∧ Below g w X') := fun Y hb => by
      have hWY := (hb.block g hg).trans hW
      have hokY := hok.move (fun e s v n xs _ _ ho => own_below ho hb) (hb.mono (Nat.le_of_lt hg))
      have h := found_any Y g lv k _ vp ps es px hmem 6 a b c s t la ln lc hWY (own_below hx hb) hokY (shelfP_below hsh hb) e4 e5 e6 hk hs
      rw [hbx, hvf] at h
      exact h.mono (by rintro e w' ⟨h1, h2, h3⟩; exact ⟨h1, h2, (hb.mono (Nat.le_of_lt hg)).trans h3⟩)
    rw [hbx] at p0
    rw [hvf] at p1
    generalize px.2.2.length = n0 at *
    clear hx hok hsh hW HI hix hra hbx hvf hpx hmem q0 q1 HIB
    go_enter Tryz.func23, Tryz.ntmps23
    go_wp2_with fail
    go_region_held3 (fun Y => Y.cell? ⟨g, 1, none⟩ = some (.slice (some ⟨gx, 0, none⟩) ps.length xc) ∧ Y.cell? ⟨w.heap.size, 1, none⟩ = some (.int .i64 a) ∧ Y.cell? ⟨gx, j * 2, none⟩ = some (.pointer (some ⟨bx, 0, none⟩)) ∧ Y.cell? ⟨gx, j * 2 + 1, none⟩ = some (.slice va n0 vc)) (go_keep)
      (first
        | (go_at_call 54; refine (HPK.out _).mono ?_; rintro e w' ⟨rfl, hw⟩; subst w'))
    all_goals
      go_wp2_with fail
      refine (HFD.out _ (by exact (((Below.refl _ _).alloc (Nat.le_refl _) _).alloc (by simp) _).drew)).mono ?_
      rintro e w' ⟨rfl, hsi, hb⟩
      go_wp2
      go_ret
      exact ⟨rfl, hsi, hb⟩

end Go.Proofs.YtjebhbopmfcopaaGreatDoor

namespace Go.Proofs.YtjebhbopmfcopaaGreatDoor
open Go.RowKit

set_option maxRecDepth 100000 in
set_option maxHeartbeats 800000 in
theorem looks_empty (w : World) (g : Nat) (c2 : w.cell? ⟨g, 2, none⟩ = some (.slice none 0 0)) (c3 : w.cell? ⟨g, 3, none⟩ = some (.slice none 0 0)) (c4 : w.cell? ⟨g, 4, none⟩ = some (.slice none 0 0)) (c5 : w.cell? ⟨g, 5, none⟩ = some (.slice none 0 0)) :
    Calls Tryz.prog 24 #[.pointer (some ⟨g, 2, none⟩)] w fun e w' => e = .returned (.bool true) ∧ w' = w := by
  go_enter Tryz.func24, Tryz.ntmps24
  go_wp2
  refine wp_loop_rounds 1 ?_
  rw [rounds_succ]
  go_wp2
  refine wp_loop_rounds 1 ?_
  rw [rounds_succ]
  go_wp2
  refine wp_loop_rounds 1 ?_
  rw [rounds_succ]
  go_wp2
  refine wp_loop_rounds 1 ?_
  rw [rounds_succ]
  go_wp2
  go_ret
  exact ⟨rfl, rfl⟩

set_option maxRecDepth 100000 in
set_option maxHeartbeats 1600000 in
theorem step_reverse (w : World) (p : Value) (a b c : Int) (s t : ByteArray) (la : Option Addr) (ln lc : Nat) (hs : s.size ≤ 140737488355327) :
    Calls Tryz.prog 23 #[p, .agg #[.int .i64 3, .int .i64 a, .int .i64 b, .int .i64 c, .string s, .string t, .slice la ln lc]] w fun e w' => e = .returned (.bool true) ∧ Below w.heap.size w w' := by
  have hsm : s.size ≤ maxLen := by unfold maxLen; omega
  have hb0 : ∀ o, Below w.heap.size w (w.alloc o) := fun o => (Below.refl _ _).alloc (Nat.le_refl _) o
  cases hL : Lt.allL s.data.toList with
  | false =>
    have HL : Hid _ := hL
    clear hL
    have HB0 : Hid _ := hb0
    clear hb0
    go_enter Tryz.func23, Tryz.ntmps23
    go_wp2_with (first
      | (go_at_call 46; refine (reverse_bad _ _ hsm HL.out).mono ?_; rintro e w' ⟨rfl, hw⟩; subst w')
      | (go_at_call 47; refine (refRev_bad _ _ hsm HL.out).mono ?_; rintro e w' ⟨rfl, hw⟩; subst w'))
    go_ret
    exact ⟨rfl, HB0.out _⟩
  | true =>
    have HL : Hid _ := hL
    clear hL
    have HB0 : Hid _ := hb0
    clear hb0
    go_enter Tryz.func23, Tryz.ntmps23
    go_wp2_with fail
    refine (reverse_good _ _ (by omega) HL.out).mono ?_
    rintro e w1 ⟨rfl, hb1⟩
    have hz1 := hb1.size
    rw [World.size_alloc] at hz1
    have k4 : w1.cell? ⟨w.heap.size, 4, none⟩ = some (.string s) := by rw [hb1.cell (by simp)]; simp
    go_wp2_with fail
    refine (refRev_good _ _ hs HL.out).mono ?_
    rintro e w2 ⟨rfl, hb2⟩
    go_wp2
    go_ret
    exact ⟨rfl, ((HB0.out _).trans (hb1.mono (by simp))).trans (hb2.mono (by omega))⟩

set_option maxRecDepth 100000 in
set_option maxHeartbeats 1600000 in
theorem step_convert (w : World) (p : Value) (a b c : Int) (s t : ByteArray) (la : Option Addr) (ln lc : Nat) (hs : s.size ≤ 140737488355327) :
    Calls Tryz.prog 23 #[p, .agg #[.int .i64 4, .int .i64 a, .int .i64 b, .int .i64 c, .string s, .string t, .slice la ln lc]] w fun e w' => e = .returned (.bool true) ∧ Below w.heap.size w w' := by
  have hsm : s.size ≤ maxLen := by unfold maxLen; omega
  have HB0 : Hid (∀ o, Below w.heap.size w (w.alloc o)) := fun o => (Below.refl _ _).alloc (Nat.le_refl _) o
  cases hL : Lt.allL s.data.toList with
  | false =>
    have HL : Hid _ := hL
    clear hL
    go_enter Tryz.func23, Tryz.ntmps23
    go_wp2_with (first
      | (go_at_call 48; refine (convert_bad _ _ _ hsm HL.out).mono ?_; rintro e w' ⟨rfl, hw⟩; subst w')
      | (go_at_call 49; refine (refConv_bad _ _ _ hsm HL.out).mono ?_; rintro e w' ⟨rfl, hw⟩; subst w'))
    go_ret
    exact ⟨rfl, HB0.out _⟩
  | true =>
    have HL : Hid _ := hL
    clear hL
    cases hN : Lt.strandB a with
    | false =>
      have HN : Hid _ := hN
      clear hN
      go_enter Tryz.func23, Tryz.ntmps23
      go_wp2_with (first
        | (go_at_call 48; refine (convert_none _ _ _ hsm HL.out (frm_none HN.out)).mono ?_; rintro e w' ⟨rfl, hw⟩; subst w')
        | (go_at_call 49; refine (refConv_none _ _ _ hsm HL.out HN.out).mono ?_; rintro e w' ⟨rfl, hw⟩; subst w'))
      go_ret
      exact ⟨rfl, HB0.out _⟩
    | true =>
      have HN : Hid _ := hN
      clear hN
      go_enter Tryz.func23, Tryz.ntmps23
      go_wp2_with fail
      refine (convert_good _ _ (Lt.frm a) (Lt.tow a) _ hsm HL.out rfl rfl (trn_frm HN.out).1).mono ?_
      rintro e w1 ⟨rfl, hb1⟩
      have hz1 := hb1.size
      rw [World.size_alloc] at hz1
      have k4 : w1.cell? ⟨w.heap.size, 4, none⟩ = some (.string s) := by rw [hb1.cell (by simp)]; simp
      have k1 : w1.cell? ⟨w.heap.size, 1, none⟩ = some (.int .i64 a) := by rw [hb1.cell (by simp)]; simp
      go_wp2_with fail
      refine (refConv_good _ _ _ hs HL.out HN.out).mono ?_
      rintro e w2 ⟨rfl, hb2⟩
      go_wp2
      go_ret
      exact ⟨rfl, ((HB0.out _).trans (hb1.mono (by simp))).trans (hb2.mono (by omega))⟩

/-- a kind that is in play, of two -/
theorem inL_two {x y k : Int} (h : inL [x, y] k = true) : k = x ∨ k = y := by
  simp [inL] at h
  rcases h with h | h
  · exact .inl h.symm
  · exact .inr h.symm

theorem firstOps_small (h : Nat) : ∀ o ∈ firstOps h, o.s.size ≤ 100 ∧ o.t.size ≤ 100 := by
  intro o ho
  simp only [firstOps, List.mem_cons, List.not_mem_nil, or_false] at ho
  rcases ho with rfl | rfl | rfl | rfl | rfl | rfl | rfl | rfl | rfl | rfl <;> (dsimp only; decide)

set_option maxRecDepth 100000 in
set_option maxHeartbeats 1600000 in
theorem strands_any (w : World) (refsV scriptV : Value) (rs : List Value) (ss : List OpV)
    (hrefs : Src w refsV rs.length rs) (hrs : ∀ u ∈ rs, u.oneCell' = true) (hrl : (1 + rs.length) * 24 ≤ 140737488355328)
    (hscr : Src w scriptV ss.length (ss.flatMap OpV.cells)) (hsl : (10 + ss.length) * 88 ≤ 140737488355328) (hsz : ∀ o ∈ ss, o.s.size ≤ 140737488355327) :
    Calls Tryz.prog 4 #[refsV, scriptV] w fun e w' => e = .returned (.bool true) ∧ Below w.heap.size w w' := by
  have hb0 : Below w.heap.size w (w.alloc (.cells #[.int .i64 3, .int .i64 4] 3)) := (Below.refl _ _).alloc (Nat.le_refl _) _
  go_enter Tryz.func4, Tryz.ntmps4
  go_wp2_with fail
  refine (plays_any (w.alloc (.cells #[.int .i64 3, .int .i64 4] 3)) refsV scriptV rs ss [3, 4] w.heap.size 2 (hrefs.mono hb0) hrs hrl (hscr.mono hb0) hsl rfl (by decide) ?_ ?_).mono ?_
  · intro j hj
    match j, hj with
    | 0, _ => simp
    | 1, _ => simp
  · intro w0 g h h1 lv hst
    refine ⟨fun _ w1 => w1.heap[g]? = some (.cells #[lv, .slice none 0 0, .slice none 0 0, .slice none 0 0, .slice none 0 0, .slice none 0 0] 68 (0, 0)), hst.world, ?_, ?_, ?_⟩
    · intro _ w1 w2 h1 h2
      have h3 := (h2.block g (Array.getElem?_eq_some_iff.1 h1).1).trans h1
      exact ⟨h3, h3⟩
    · intro o ho hin _ w1 _ hI _ hg
      have hs : o.s.size ≤ 140737488355327 := by
        rcases List.mem_append.1 ho with h | h
        · have := (firstOps_small _ o h).1; omega
        · exact hsz o h
      rcases inL_two hin with hk | hk
      · rw [hk]
        refine (step_reverse w1 _ o.a o.b o.c o.s o.t o.la o.ln o.lc hs).mono ?_
        rintro e w2 ⟨rfl, hb⟩
        exact ⟨rfl, (hb.block g hg).trans hI, hb.mono (by omega)⟩
      · rw [hk]
        refine (step_convert w1 _ o.a o.b o.c o.s o.t o.la o.ln o.lc hs).mono ?_
        rintro e w2 ⟨rfl, hb⟩
        exact ⟨rfl, (hb.block g hg).trans hI, hb.mono (by omega)⟩
    · intro _ w1 _ hI _ _
      have hc : ∀ j, w1.cell? ⟨g, j, none⟩ = (#[lv, .slice none 0 0, .slice none 0 0, .slice none 0 0, .slice none 0 0, .slice none 0 0] : Array Value)[j]? := fun j => cell_of_row w1 g j _ _ _ hI
      refine (looks_empty w1 g (hc 2) (hc 3) (hc 4) (hc 5)).mono ?_
      rintro e w2 ⟨rfl, rfl⟩
      exact ⟨rfl, hI, Below.refl _ _⟩
  · rintro e w1 ⟨rfl, hb1⟩
    go_wp2
    go_ret
    exact ⟨rfl, hb0.trans (hb1.mono (by simp))⟩

end Go.Proofs.YtjebhbopmfcopaaGreatDoor
