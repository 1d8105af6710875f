/-
  THE WALK of the program's 'supposed': fields taken for what they have to be. Own text of the verifier.
-/
import Derived.Test.YtfcbgfomhmcikaaGreatDoorBun18
import Derived.Test.YtfcbgfomhmcikaaGreatDoorBun19
import Derived.Test.YtfcbgfomhmcikaaGreatDoorBun22
import Derived.Deep.RegionHeld3
import Derived.Lib.SmallJoins
namespace Go.Proofs.YtfcbgfomhmcikaaGreatDoor
open Go.RowKit

/-- the number that Atoi gives -/
def Ln.nat (s : List UInt8) : Int := match Lib.atoiAll s with | .ok v => v | .«syntax» => 0 | .range => Lib.atoiSat s
/-- what fields are taken for -/
def Ln.sp : List (List UInt8) → Rc
  | [a, b] => ⟨a, Ln.vo b, 0, [], 0, 0, [], []⟩
  | [a, b, c, d, e, f, g, h] => ⟨a, Ln.vo b, Ln.so c, d, Ln.nat e, Ln.nat f, g, h⟩
  | _ => ⟨[], 0, 0, [], 0, 0, [], []⟩

theorem Pr.bytesBelow (w : World) (e : TypeId) (t : ByteArray) : Below w.heap.size w (Lib.bytesWorld w e t) :=
  Go.Joins.below_bytesWorld _ w e t (Nat.le_refl _)

theorem patoi_any (s : List UInt8) (w : World) (hG : LnG w) (hs : s.length ≤ 1000000000) :
    Calls Tryz.prog 133 #[.string ⟨s.toArray⟩] w fun e w' => ∃ ev, e = .returned (.tuple #[.int .i64 (Ln.nat s), ev]) ∧ Below w.heap.size w w' := by
  have hd : (⟨s.toArray⟩ : ByteArray).data.toList = s := by simp
  have hsz := str_size s
  cases h : Lib.atoiAll s with
  | ok v =>
    refine (Tryz.strconv_Atoi_ok ⟨s.toArray⟩ (by omega) v (by rw [hd]; exact h) w).mono ?_
    rintro e w' ⟨rfl, hw⟩
    refine ⟨_, by unfold Ln.nat; rw [h], ?_⟩
    rcases hw with rfl | ⟨t, rfl⟩
    · exact Below.refl _ _
    · exact Pr.bytesBelow w _ t
  | «syntax» =>
    obtain ⟨ev, h1, h2⟩ := hG.syn
    refine (Tryz.strconv_Atoi_syntax ⟨s.toArray⟩ (by omega) (by rw [hd]; exact h) ev w h1 h2).mono ?_
    rintro e w' ⟨N, rfl, _, _, hb⟩
    exact ⟨_, by unfold Ln.nat; rw [h], hb⟩
  | range =>
    obtain ⟨ev, h1, h2⟩ := hG.rng
    refine (Tryz.strconv_Atoi_range ⟨s.toArray⟩ (by omega) (by rw [hd]; exact h) ev w h1 h2).mono ?_
    rintro e w' ⟨N, rfl, _, _, hb⟩
    exact ⟨_, by unfold Ln.nat; rw [h, hd], hb⟩

/-- supposed's result: a record in a block of its own -/
theorem drew_row {W : World} {g : Nat} {o : Obj} (h : W.heap[g]? = some o) : W.drew.heap[g]? = some o := h
theorem sp_ret {w : World} {g : Nat} {A : Array Value} {tmps : Array Value} (hp : tmps.getD 2 undef = .pointer (some ⟨g, 0, none⟩)) (hg : w.heap[g]? = some (.cells A 47 (0, 0))) (h8 : A.size = 8) :
    (results Tryz.f115 tmps).run Tryz.prog w = .ok (.agg A) w :=
  results_cell_row rfl tmps _ g 47 A (0, 0) _ hp hg Tryz.underlying47 rfl (by rw [Tryz.sizeRec3, h8])

set_option maxRecDepth 100000 in
set_option maxHeartbeats 800000 in
theorem supposed_two (a b : List UInt8) (bk cc : Nat) (w : World) (hG : LnG w) (c0 : w.cell? ⟨bk, 0, none⟩ = some (.string ⟨a.toArray⟩)) (c1 : w.cell? ⟨bk, 1, none⟩ = some (.string ⟨b.toArray⟩)) :
    Calls Tryz.prog 115 #[.slice (some ⟨bk, 0, none⟩) 2 cc] w fun e w' => e = .returned (.agg (Ln.sp [a, b]).vals) ∧ Below w.heap.size w w' := by
  obtain ⟨V, hV⟩ : ∃ V, V = Ln.vo b := ⟨_, rfl⟩
  have HV : Hid ((Ln.sp [a, b]).vals = #[.string ⟨a.toArray⟩, .int .i64 V, .int .i64 0, .string ⟨#[]⟩, .int .i64 0, .int .i64 0, .string ⟨#[]⟩, .string ⟨#[]⟩]) := by rw [hV]; rfl
  have HVO : Hid (∀ W, (W.cell? ⟨bk, 0, none⟩ = some (.string ⟨a.toArray⟩) ∧ W.cell? ⟨bk, 1, none⟩ = some (.string ⟨b.toArray⟩) ∧ LnG W) → Calls Tryz.prog 132 #[.string ⟨b.toArray⟩] W fun e w' => e = .returned (.int .i64 V) ∧ w' = W) := fun W h => by rw [hV]; exact verdictOf_any b W h.2.2
  have HS1 : Hid (∀ o : Obj, (w.alloc o).drew.cell? ⟨bk, 0, none⟩ = some (.string ⟨a.toArray⟩) ∧ (w.alloc o).drew.cell? ⟨bk, 1, none⟩ = some (.string ⟨b.toArray⟩) ∧ LnG (w.alloc o).drew) := fun o => have hA : Below w.heap.size w (w.alloc o) := (Below.refl _ _).alloc (Nat.le_refl _) o; ⟨(hA.cell (World.block_lt_of_cell? w _ c0)).trans c0, (hA.cell (World.block_lt_of_cell? w _ c1)).trans c1, hG.below hG.few hA.drew⟩
  have HB0 : Hid (∀ o, Below w.heap.size w (w.alloc o).drew) := fun o => ((Below.refl _ _).alloc (Nat.le_refl _) o).drew
  obtain ⟨R, hR⟩ : ∃ R, R = (Ln.sp [a, b]).vals := ⟨_, rfl⟩
  rw [← hR] at HV ⊢
  clear hV hR hG c0 c1
  go_enter Tryz.func115, Tryz.ntmps115
  go_wp2_with fail
  go_region_held3 (fun Y => Y.cell? ⟨bk, 0, none⟩ = some (.string ⟨a.toArray⟩) ∧ Y.cell? ⟨bk, 1, none⟩ = some (.string ⟨b.toArray⟩) ∧ LnG Y)
    (first | (with_reducible exact HS1.out _) | assumption)
    (first
      | (go_at_call 132; go_must (with_reducible refine (HVO.out _ (by assumption)).mono ?_); rintro e w1 ⟨rfl, hw⟩; subst w1))
  all_goals
    go_wp2
    refine bodyPost_ret (sp_ret rfl (by exact heap_alloc_new w _) rfl) rfl ?_
    exact ⟨by rw [HV.out], HB0.out _⟩

set_option maxRecDepth 100000 in
set_option maxHeartbeats 800000 in
theorem supposed_eight (a b c d e f g y : List UInt8) (bk cc : Nat) (w : World) (hten : 10 ≤ w.heap.size) (hG : LnG w) (he : e.length ≤ 1000000000) (hf : f.length ≤ 1000000000) (c0 : w.cell? ⟨bk, 0, none⟩ = some (.string ⟨a.toArray⟩)) (c1 : w.cell? ⟨bk, 1, none⟩ = some (.string ⟨b.toArray⟩)) (c2 : w.cell? ⟨bk, 2, none⟩ = some (.string ⟨c.toArray⟩)) (c3 : w.cell? ⟨bk, 3, none⟩ = some (.string ⟨d.toArray⟩)) (c4 : w.cell? ⟨bk, 4, none⟩ = some (.string ⟨e.toArray⟩)) (c5 : w.cell? ⟨bk, 5, none⟩ = some (.string ⟨f.toArray⟩)) (c6 : w.cell? ⟨bk, 6, none⟩ = some (.string ⟨g.toArray⟩)) (c7 : w.cell? ⟨bk, 7, none⟩ = some (.string ⟨y.toArray⟩)) :
    Calls Tryz.prog 115 #[.slice (some ⟨bk, 0, none⟩) 8 cc] w fun en w' => en = .returned (.agg (Ln.sp [a, b, c, d, e, f, g, y]).vals) ∧ Below w.heap.size w w' := by
  obtain ⟨V, hV⟩ : ∃ V, V = Ln.vo b := ⟨_, rfl⟩
  obtain ⟨T, hT⟩ : ∃ T, T = Ln.so c := ⟨_, rfl⟩
  obtain ⟨n1, hn1⟩ : ∃ n1, n1 = Ln.nat e := ⟨_, rfl⟩
  obtain ⟨n2, hn2⟩ : ∃ n2, n2 = Ln.nat f := ⟨_, rfl⟩
  have hbk : bk < w.heap.size := World.block_lt_of_cell? w _ c0
  have HV : Hid ((Ln.sp [a, b, c, d, e, f, g, y]).vals = #[.string ⟨a.toArray⟩, .int .i64 V, .int .i64 T, .string ⟨d.toArray⟩, .int .i64 n1, .int .i64 n2, .string ⟨g.toArray⟩, .string ⟨y.toArray⟩]) := by rw [hV, hT, hn1, hn2]; rfl
  have HVO : Hid (∀ W, (W.cell? ⟨bk, 0, none⟩ = some (.string ⟨a.toArray⟩) ∧ W.cell? ⟨bk, 1, none⟩ = some (.string ⟨b.toArray⟩) ∧ W.cell? ⟨bk, 2, none⟩ = some (.string ⟨c.toArray⟩) ∧ W.cell? ⟨bk, 3, none⟩ = some (.string ⟨d.toArray⟩) ∧ W.cell? ⟨bk, 6, none⟩ = some (.string ⟨g.toArray⟩) ∧ W.cell? ⟨bk, 7, none⟩ = some (.string ⟨y.toArray⟩) ∧ LnG W) → Calls Tryz.prog 132 #[.string ⟨b.toArray⟩] W fun en w' => en = .returned (.int .i64 V) ∧ w' = W) := fun W h => by rw [hV]; exact verdictOf_any b W h.2.2.2.2.2.2
  have HSO : Hid (∀ W, (W.cell? ⟨bk, 0, none⟩ = some (.string ⟨a.toArray⟩) ∧ W.cell? ⟨bk, 1, none⟩ = some (.string ⟨b.toArray⟩) ∧ W.cell? ⟨bk, 2, none⟩ = some (.string ⟨c.toArray⟩) ∧ W.cell? ⟨bk, 3, none⟩ = some (.string ⟨d.toArray⟩) ∧ W.cell? ⟨bk, 6, none⟩ = some (.string ⟨g.toArray⟩) ∧ W.cell? ⟨bk, 7, none⟩ = some (.string ⟨y.toArray⟩) ∧ LnG W) → Calls Tryz.prog 134 #[.string ⟨c.toArray⟩] W fun en w' => en = .returned (.int .i64 T) ∧ w' = W) := fun W h => by rw [hT]; exact strandOf_any c W h.2.2.2.2.2.2
  have HA1 : Hid (∀ W, LnG W → Calls Tryz.prog 133 #[.string ⟨e.toArray⟩] W fun en w' => ∃ ev, en = .returned (.tuple #[.int .i64 n1, ev]) ∧ Below W.heap.size W w') := fun W hg => by rw [hn1]; exact patoi_any e W hg he
  have HA2 : Hid (∀ W, LnG W → Calls Tryz.prog 133 #[.string ⟨f.toArray⟩] W fun en w' => ∃ ev, en = .returned (.tuple #[.int .i64 n2, ev]) ∧ Below W.heap.size W w') := fun W hg => by rw [hn2]; exact patoi_any f W hg hf
  have hA0 : Below w.heap.size w (w.alloc (.cells #[.string ⟨#[]⟩, .int .i64 0, .int .i64 0, .string ⟨#[]⟩, .int .i64 0, .int .i64 0, .string ⟨#[]⟩, .string ⟨#[]⟩] 47)) := (Below.refl _ _).alloc (Nat.le_refl _) _
  have HSW : Hid (∀ W, Below w.heap.size w W → W.cell? ⟨bk, 0, none⟩ = some (.string ⟨a.toArray⟩) ∧ W.cell? ⟨bk, 1, none⟩ = some (.string ⟨b.toArray⟩) ∧ W.cell? ⟨bk, 2, none⟩ = some (.string ⟨c.toArray⟩) ∧ W.cell? ⟨bk, 3, none⟩ = some (.string ⟨d.toArray⟩) ∧ W.cell? ⟨bk, 4, none⟩ = some (.string ⟨e.toArray⟩) ∧ W.cell? ⟨bk, 5, none⟩ = some (.string ⟨f.toArray⟩) ∧ W.cell? ⟨bk, 6, none⟩ = some (.string ⟨g.toArray⟩) ∧ W.cell? ⟨bk, 7, none⟩ = some (.string ⟨y.toArray⟩) ∧ LnG W) := fun W hb =>
    have e9 : ∀ i v, w.cell? ⟨bk, i, none⟩ = some v → W.cell? ⟨bk, i, none⟩ = some v := fun i v h => (hb.cell (World.block_lt_of_cell? w _ h)).trans h
    ⟨e9 _ _ c0, e9 _ _ c1, e9 _ _ c2, e9 _ _ c3, e9 _ _ c4, e9 _ _ c5, e9 _ _ c6, e9 _ _ c7, hG.below hG.few hb⟩
  have HB0 : Hid _ := hA0
  have HZ0 : Hid _ := heap_alloc_new w (.cells #[.string ⟨#[]⟩, .int .i64 0, .int .i64 0, .string ⟨#[]⟩, .int .i64 0, .int .i64 0, .string ⟨#[]⟩, .string ⟨#[]⟩] 47)
  have d4 := (HSW.out _ hA0).2.2.2.2.1
  obtain ⟨R, hR⟩ : ∃ R, R = (Ln.sp [a, b, c, d, e, f, g, y]).vals := ⟨_, rfl⟩
  rw [← hR] at HV ⊢
  clear hV hT hn1 hn2 hR hG he hf c0 c1 c2 c3 c4 c5 c6 c7 hA0
  go_enter Tryz.func115, Tryz.ntmps115
  go_wp2_with fail
  refine (HA1.out _ (HSW.out _ HB0.out).2.2.2.2.2.2.2.2).mono ?_
  rintro en w1 ⟨ev1, rfl, hb1⟩
  have HB1 : Hid (Below w.heap.size w w1) := HB0.out.trans (hb1.mono (by simp))
  have HZ1 : Hid (w1.heap[w.heap.size]? = some (.cells #[.string ⟨#[]⟩, .int .i64 0, .int .i64 0, .string ⟨#[]⟩, .int .i64 0, .int .i64 0, .string ⟨#[]⟩, .string ⟨#[]⟩] 47 (0, 0))) := (hb1.block _ (by simp)).trans HZ0.out
  have d5 := (HSW.out _ HB1.out).2.2.2.2.2.1
  clear d4 hb1 HZ0 HB0
  go_wp2_with fail
  refine (HA2.out _ (HSW.out _ HB1.out).2.2.2.2.2.2.2.2).mono ?_
  rintro en w2 ⟨ev2, rfl, hb2⟩
  have hlt1 : w.heap.size < w1.heap.size := (Array.getElem?_eq_some_iff.1 HZ1.out).1
  have HB2 : Hid (Below w.heap.size w w2) := HB1.out.trans (hb2.mono (by omega))
  have hz2 : w2.heap[w.heap.size]? = some (.cells #[.string ⟨#[]⟩, .int .i64 0, .int .i64 0, .string ⟨#[]⟩, .int .i64 0, .int .i64 0, .string ⟨#[]⟩, .string ⟨#[]⟩] 47 (0, 0)) := (hb2.block _ hlt1).trans HZ1.out
  have r0 : w2.cell? ⟨w.heap.size, 0, none⟩ = some (.string ⟨#[]⟩) := cell_of_row _ _ 0 _ _ _ hz2
  have f0 : w2.frozen? ⟨w.heap.size, 0, none⟩ = false := frozen_of_row _ _ 0 _ _ hz2
  have r1 : w2.cell? ⟨w.heap.size, 1, none⟩ = some (.int .i64 0) := cell_of_row _ _ 1 _ _ _ hz2
  have f1 : w2.frozen? ⟨w.heap.size, 1, none⟩ = false := frozen_of_row _ _ 1 _ _ hz2
  have r2 : w2.cell? ⟨w.heap.size, 2, none⟩ = some (.int .i64 0) := cell_of_row _ _ 2 _ _ _ hz2
  have f2 : w2.frozen? ⟨w.heap.size, 2, none⟩ = false := frozen_of_row _ _ 2 _ _ hz2
  have r3 : w2.cell? ⟨w.heap.size, 3, none⟩ = some (.string ⟨#[]⟩) := cell_of_row _ _ 3 _ _ _ hz2
  have f3 : w2.frozen? ⟨w.heap.size, 3, none⟩ = false := frozen_of_row _ _ 3 _ _ hz2
  have r4 : w2.cell? ⟨w.heap.size, 4, none⟩ = some (.int .i64 0) := cell_of_row _ _ 4 _ _ _ hz2
  have f4 : w2.frozen? ⟨w.heap.size, 4, none⟩ = false := frozen_of_row _ _ 4 _ _ hz2
  have r5 : w2.cell? ⟨w.heap.size, 5, none⟩ = some (.int .i64 0) := cell_of_row _ _ 5 _ _ _ hz2
  have f5 : w2.frozen? ⟨w.heap.size, 5, none⟩ = false := frozen_of_row _ _ 5 _ _ hz2
  have r6 : w2.cell? ⟨w.heap.size, 6, none⟩ = some (.string ⟨#[]⟩) := cell_of_row _ _ 6 _ _ _ hz2
  have f6 : w2.frozen? ⟨w.heap.size, 6, none⟩ = false := frozen_of_row _ _ 6 _ _ hz2
  have r7 : w2.cell? ⟨w.heap.size, 7, none⟩ = some (.string ⟨#[]⟩) := cell_of_row _ _ 7 _ _ _ hz2
  have f7 : w2.frozen? ⟨w.heap.size, 7, none⟩ = false := frozen_of_row _ _ 7 _ _ hz2
  have HZ2 : Hid _ := hz2
  have HS1 : Hid (w2.drew.cell? ⟨bk, 0, none⟩ = some (.string ⟨a.toArray⟩) ∧ w2.drew.cell? ⟨bk, 1, none⟩ = some (.string ⟨b.toArray⟩) ∧ w2.drew.cell? ⟨bk, 2, none⟩ = some (.string ⟨c.toArray⟩) ∧ w2.drew.cell? ⟨bk, 3, none⟩ = some (.string ⟨d.toArray⟩) ∧ w2.drew.cell? ⟨bk, 6, none⟩ = some (.string ⟨g.toArray⟩) ∧ w2.drew.cell? ⟨bk, 7, none⟩ = some (.string ⟨y.toArray⟩) ∧ LnG w2.drew) := by
    obtain ⟨s0, s1, s2, s3, _, _, s6, s7, sg⟩ := HSW.out _ HB2.out
    exact ⟨s0, s1, s2, s3, s6, s7, sg.below sg.few (Below.refl _ _).drew⟩
  have HSET : Hid (∀ Y : World, (Y.cell? ⟨bk, 0, none⟩ = some (.string ⟨a.toArray⟩) ∧ Y.cell? ⟨bk, 1, none⟩ = some (.string ⟨b.toArray⟩) ∧ Y.cell? ⟨bk, 2, none⟩ = some (.string ⟨c.toArray⟩) ∧ Y.cell? ⟨bk, 3, none⟩ = some (.string ⟨d.toArray⟩) ∧ Y.cell? ⟨bk, 6, none⟩ = some (.string ⟨g.toArray⟩) ∧ Y.cell? ⟨bk, 7, none⟩ = some (.string ⟨y.toArray⟩) ∧ LnG Y) → (((((((((Y.setCell ⟨w.heap.size, 0, none⟩ (.string ⟨a.toArray⟩)).setCell ⟨w.heap.size, 1, none⟩ (.int .i64 V)).setCell ⟨w.heap.size, 2, none⟩ (.int .i64 T)).setCell ⟨w.heap.size, 3, none⟩ (.string ⟨d.toArray⟩)).setCell ⟨w.heap.size, 4, none⟩ (.int .i64 n1)).setCell ⟨w.heap.size, 5, none⟩ (.int .i64 n2)).setCell ⟨w.heap.size, 6, none⟩ (.string ⟨g.toArray⟩)).setCell ⟨w.heap.size, 7, none⟩ (.string ⟨y.toArray⟩)).cell? ⟨bk, 0, none⟩ = some (.string ⟨a.toArray⟩) ∧ ((((((((Y.setCell ⟨w.heap.size, 0, none⟩ (.string ⟨a.toArray⟩)).setCell ⟨w.heap.size, 1, none⟩ (.int .i64 V)).setCell ⟨w.heap.size, 2, none⟩ (.int .i64 T)).setCell ⟨w.heap.size, 3, none⟩ (.string ⟨d.toArray⟩)).setCell ⟨w.heap.size, 4, none⟩ (.int .i64 n1)).setCell ⟨w.heap.size, 5, none⟩ (.int .i64 n2)).setCell ⟨w.heap.size, 6, none⟩ (.string ⟨g.toArray⟩)).setCell ⟨w.heap.size, 7, none⟩ (.string ⟨y.toArray⟩)).cell? ⟨bk, 1, none⟩ = some (.string ⟨b.toArray⟩) ∧ ((((((((Y.setCell ⟨w.heap.size, 0, none⟩ (.string ⟨a.toArray⟩)).setCell ⟨w.heap.size, 1, none⟩ (.int .i64 V)).setCell ⟨w.heap.size, 2, none⟩ (.int .i64 T)).setCell ⟨w.heap.size, 3, none⟩ (.string ⟨d.toArray⟩)).setCell ⟨w.heap.size, 4, none⟩ (.int .i64 n1)).setCell ⟨w.heap.size, 5, none⟩ (.int .i64 n2)).setCell ⟨w.heap.size, 6, none⟩ (.string ⟨g.toArray⟩)).setCell ⟨w.heap.size, 7, none⟩ (.string ⟨y.toArray⟩)).cell? ⟨bk, 2, none⟩ = some (.string ⟨c.toArray⟩) ∧ ((((((((Y.setCell ⟨w.heap.size, 0, none⟩ (.string ⟨a.toArray⟩)).setCell ⟨w.heap.size, 1, none⟩ (.int .i64 V)).setCell ⟨w.heap.size, 2, none⟩ (.int .i64 T)).setCell ⟨w.heap.size, 3, none⟩ (.string ⟨d.toArray⟩)).setCell ⟨w.heap.size, 4, none⟩ (.int .i64 n1)).setCell ⟨w.heap.size, 5, none⟩ (.int .i64 n2)).setCell ⟨w.heap.size, 6, none⟩ (.string ⟨g.toArray⟩)).setCell ⟨w.heap.size, 7, none⟩ (.string ⟨y.toArray⟩)).cell? ⟨bk, 3, none⟩ = some (.string ⟨d.toArray⟩) ∧ ((((((((Y.setCell ⟨w.heap.size, 0, none⟩ (.string ⟨a.toArray⟩)).setCell ⟨w.heap.size, 1, none⟩ (.int .i64 V)).setCell ⟨w.heap.size, 2, none⟩ (.int .i64 T)).setCell ⟨w.heap.size, 3, none⟩ (.string ⟨d.toArray⟩)).setCell ⟨w.heap.size, 4, none⟩ (.int .i64 n1)).setCell ⟨w.heap.size, 5, none⟩ (.int .i64 n2)).setCell ⟨w.heap.size, 6, none⟩ (.string ⟨g.toArray⟩)).setCell ⟨w.heap.size, 7, none⟩ (.string ⟨y.toArray⟩)).cell? ⟨bk, 6, none⟩ = some (.string ⟨g.toArray⟩) ∧ ((((((((Y.setCell ⟨w.heap.size, 0, none⟩ (.string ⟨a.toArray⟩)).setCell ⟨w.heap.size, 1, none⟩ (.int .i64 V)).setCell ⟨w.heap.size, 2, none⟩ (.int .i64 T)).setCell ⟨w.heap.size, 3, none⟩ (.string ⟨d.toArray⟩)).setCell ⟨w.heap.size, 4, none⟩ (.int .i64 n1)).setCell ⟨w.heap.size, 5, none⟩ (.int .i64 n2)).setCell ⟨w.heap.size, 6, none⟩ (.string ⟨g.toArray⟩)).setCell ⟨w.heap.size, 7, none⟩ (.string ⟨y.toArray⟩)).cell? ⟨bk, 7, none⟩ = some (.string ⟨y.toArray⟩) ∧ LnG ((((((((Y.setCell ⟨w.heap.size, 0, none⟩ (.string ⟨a.toArray⟩)).setCell ⟨w.heap.size, 1, none⟩ (.int .i64 V)).setCell ⟨w.heap.size, 2, none⟩ (.int .i64 T)).setCell ⟨w.heap.size, 3, none⟩ (.string ⟨d.toArray⟩)).setCell ⟨w.heap.size, 4, none⟩ (.int .i64 n1)).setCell ⟨w.heap.size, 5, none⟩ (.int .i64 n2)).setCell ⟨w.heap.size, 6, none⟩ (.string ⟨g.toArray⟩)).setCell ⟨w.heap.size, 7, none⟩ (.string ⟨y.toArray⟩)))) := fun Y h => by
    have e8 := PaR.other Y (show bk ≠ w.heap.size by omega) (.string ⟨a.toArray⟩) (.int .i64 V) (.int .i64 T) (.string ⟨d.toArray⟩) (.int .i64 n1) (.int .i64 n2) (.string ⟨g.toArray⟩) (.string ⟨y.toArray⟩)
    have hbb := (PaR.beneath Y w.heap.size (.string ⟨a.toArray⟩) (.int .i64 V) (.int .i64 T) (.string ⟨d.toArray⟩) (.int .i64 n1) (.int .i64 n2) (.string ⟨g.toArray⟩) (.string ⟨y.toArray⟩)).mono hten
    generalize ((((((((Y.setCell ⟨w.heap.size, 0, none⟩ (.string ⟨a.toArray⟩)).setCell ⟨w.heap.size, 1, none⟩ (.int .i64 V)).setCell ⟨w.heap.size, 2, none⟩ (.int .i64 T)).setCell ⟨w.heap.size, 3, none⟩ (.string ⟨d.toArray⟩)).setCell ⟨w.heap.size, 4, none⟩ (.int .i64 n1)).setCell ⟨w.heap.size, 5, none⟩ (.int .i64 n2)).setCell ⟨w.heap.size, 6, none⟩ (.string ⟨g.toArray⟩)).setCell ⟨w.heap.size, 7, none⟩ (.string ⟨y.toArray⟩)) = W9 at *
    have e9 : ∀ i v, Y.cell? ⟨bk, i, none⟩ = some v → W9.cell? ⟨bk, i, none⟩ = some v := fun i v h => (Pa.cell_same (p := ⟨bk, i, none⟩) e8).trans h
    exact ⟨e9 _ _ h.1, e9 _ _ h.2.1, e9 _ _ h.2.2.1, e9 _ _ h.2.2.2.1, e9 _ _ h.2.2.2.2.1, e9 _ _ h.2.2.2.2.2.1, h.2.2.2.2.2.2.below (B := 10) (by omega) hbb⟩
  have HS2 : Hid ((((((((((w2.setCell ⟨w.heap.size, 0, none⟩ (.string ⟨a.toArray⟩)).setCell ⟨w.heap.size, 1, none⟩ (.int .i64 V)).setCell ⟨w.heap.size, 2, none⟩ (.int .i64 T)).setCell ⟨w.heap.size, 3, none⟩ (.string ⟨d.toArray⟩)).setCell ⟨w.heap.size, 4, none⟩ (.int .i64 n1)).setCell ⟨w.heap.size, 5, none⟩ (.int .i64 n2)).setCell ⟨w.heap.size, 6, none⟩ (.string ⟨g.toArray⟩)).setCell ⟨w.heap.size, 7, none⟩ (.string ⟨y.toArray⟩))).drew.cell? ⟨bk, 0, none⟩ = some (.string ⟨a.toArray⟩) ∧ (((((((((w2.setCell ⟨w.heap.size, 0, none⟩ (.string ⟨a.toArray⟩)).setCell ⟨w.heap.size, 1, none⟩ (.int .i64 V)).setCell ⟨w.heap.size, 2, none⟩ (.int .i64 T)).setCell ⟨w.heap.size, 3, none⟩ (.string ⟨d.toArray⟩)).setCell ⟨w.heap.size, 4, none⟩ (.int .i64 n1)).setCell ⟨w.heap.size, 5, none⟩ (.int .i64 n2)).setCell ⟨w.heap.size, 6, none⟩ (.string ⟨g.toArray⟩)).setCell ⟨w.heap.size, 7, none⟩ (.string ⟨y.toArray⟩))).drew.cell? ⟨bk, 1, none⟩ = some (.string ⟨b.toArray⟩) ∧ (((((((((w2.setCell ⟨w.heap.size, 0, none⟩ (.string ⟨a.toArray⟩)).setCell ⟨w.heap.size, 1, none⟩ (.int .i64 V)).setCell ⟨w.heap.size, 2, none⟩ (.int .i64 T)).setCell ⟨w.heap.size, 3, none⟩ (.string ⟨d.toArray⟩)).setCell ⟨w.heap.size, 4, none⟩ (.int .i64 n1)).setCell ⟨w.heap.size, 5, none⟩ (.int .i64 n2)).setCell ⟨w.heap.size, 6, none⟩ (.string ⟨g.toArray⟩)).setCell ⟨w.heap.size, 7, none⟩ (.string ⟨y.toArray⟩))).drew.cell? ⟨bk, 2, none⟩ = some (.string ⟨c.toArray⟩) ∧ (((((((((w2.setCell ⟨w.heap.size, 0, none⟩ (.string ⟨a.toArray⟩)).setCell ⟨w.heap.size, 1, none⟩ (.int .i64 V)).setCell ⟨w.heap.size, 2, none⟩ (.int .i64 T)).setCell ⟨w.heap.size, 3, none⟩ (.string ⟨d.toArray⟩)).setCell ⟨w.heap.size, 4, none⟩ (.int .i64 n1)).setCell ⟨w.heap.size, 5, none⟩ (.int .i64 n2)).setCell ⟨w.heap.size, 6, none⟩ (.string ⟨g.toArray⟩)).setCell ⟨w.heap.size, 7, none⟩ (.string ⟨y.toArray⟩))).drew.cell? ⟨bk, 3, none⟩ = some (.string ⟨d.toArray⟩) ∧ (((((((((w2.setCell ⟨w.heap.size, 0, none⟩ (.string ⟨a.toArray⟩)).setCell ⟨w.heap.size, 1, none⟩ (.int .i64 V)).setCell ⟨w.heap.size, 2, none⟩ (.int .i64 T)).setCell ⟨w.heap.size, 3, none⟩ (.string ⟨d.toArray⟩)).setCell ⟨w.heap.size, 4, none⟩ (.int .i64 n1)).setCell ⟨w.heap.size, 5, none⟩ (.int .i64 n2)).setCell ⟨w.heap.size, 6, none⟩ (.string ⟨g.toArray⟩)).setCell ⟨w.heap.size, 7, none⟩ (.string ⟨y.toArray⟩))).drew.cell? ⟨bk, 6, none⟩ = some (.string ⟨g.toArray⟩) ∧ (((((((((w2.setCell ⟨w.heap.size, 0, none⟩ (.string ⟨a.toArray⟩)).setCell ⟨w.heap.size, 1, none⟩ (.int .i64 V)).setCell ⟨w.heap.size, 2, none⟩ (.int .i64 T)).setCell ⟨w.heap.size, 3, none⟩ (.string ⟨d.toArray⟩)).setCell ⟨w.heap.size, 4, none⟩ (.int .i64 n1)).setCell ⟨w.heap.size, 5, none⟩ (.int .i64 n2)).setCell ⟨w.heap.size, 6, none⟩ (.string ⟨g.toArray⟩)).setCell ⟨w.heap.size, 7, none⟩ (.string ⟨y.toArray⟩))).drew.cell? ⟨bk, 7, none⟩ = some (.string ⟨y.toArray⟩) ∧ LnG (((((((((w2.setCell ⟨w.heap.size, 0, none⟩ (.string ⟨a.toArray⟩)).setCell ⟨w.heap.size, 1, none⟩ (.int .i64 V)).setCell ⟨w.heap.size, 2, none⟩ (.int .i64 T)).setCell ⟨w.heap.size, 3, none⟩ (.string ⟨d.toArray⟩)).setCell ⟨w.heap.size, 4, none⟩ (.int .i64 n1)).setCell ⟨w.heap.size, 5, none⟩ (.int .i64 n2)).setCell ⟨w.heap.size, 6, none⟩ (.string ⟨g.toArray⟩)).setCell ⟨w.heap.size, 7, none⟩ (.string ⟨y.toArray⟩))).drew) := by
    obtain ⟨s0, s1, s2, s3, _, _, s6, s7, sg⟩ := HSW.out _ HB2.out
    obtain ⟨t0, t1, t2, t3, t6, t7, tg⟩ := HSET.out w2 ⟨s0, s1, s2, s3, s6, s7, sg⟩
    generalize ((((((((w2.setCell ⟨w.heap.size, 0, none⟩ (.string ⟨a.toArray⟩)).setCell ⟨w.heap.size, 1, none⟩ (.int .i64 V)).setCell ⟨w.heap.size, 2, none⟩ (.int .i64 T)).setCell ⟨w.heap.size, 3, none⟩ (.string ⟨d.toArray⟩)).setCell ⟨w.heap.size, 4, none⟩ (.int .i64 n1)).setCell ⟨w.heap.size, 5, none⟩ (.int .i64 n2)).setCell ⟨w.heap.size, 6, none⟩ (.string ⟨g.toArray⟩)).setCell ⟨w.heap.size, 7, none⟩ (.string ⟨y.toArray⟩)) = W9 at *
    exact ⟨t0, t1, t2, t3, t6, t7, tg.below tg.few (Below.refl _ _).drew⟩
  have HRW : Hid _ := drew_row (PaR.store HZ2.out (.string ⟨a.toArray⟩) (.int .i64 V) (.int .i64 T) (.string ⟨d.toArray⟩) (.int .i64 n1) (.int .i64 n2) (.string ⟨g.toArray⟩) (.string ⟨y.toArray⟩))
  have HBE : Hid (Below w.heap.size w (((((((((w2.setCell ⟨w.heap.size, 0, none⟩ (.string ⟨a.toArray⟩)).setCell ⟨w.heap.size, 1, none⟩ (.int .i64 V)).setCell ⟨w.heap.size, 2, none⟩ (.int .i64 T)).setCell ⟨w.heap.size, 3, none⟩ (.string ⟨d.toArray⟩)).setCell ⟨w.heap.size, 4, none⟩ (.int .i64 n1)).setCell ⟨w.heap.size, 5, none⟩ (.int .i64 n2)).setCell ⟨w.heap.size, 6, none⟩ (.string ⟨g.toArray⟩)).setCell ⟨w.heap.size, 7, none⟩ (.string ⟨y.toArray⟩))).drew) := (HB2.out.trans (PaR.beneath w2 w.heap.size _ _ _ _ _ _ _ _)).drew
  clear d5 hb2 hz2 HZ1 HB1 HSW HA1 HA2 HSET
  go_wp2_with fail
  go_region_held3 (fun Y => Y.cell? ⟨bk, 0, none⟩ = some (.string ⟨a.toArray⟩) ∧ Y.cell? ⟨bk, 1, none⟩ = some (.string ⟨b.toArray⟩) ∧ Y.cell? ⟨bk, 2, none⟩ = some (.string ⟨c.toArray⟩) ∧ Y.cell? ⟨bk, 3, none⟩ = some (.string ⟨d.toArray⟩) ∧ Y.cell? ⟨bk, 6, none⟩ = some (.string ⟨g.toArray⟩) ∧ Y.cell? ⟨bk, 7, none⟩ = some (.string ⟨y.toArray⟩) ∧ LnG Y)
    (first | (with_reducible exact HS1.out) | (with_reducible exact HS2.out) | (with_reducible assumption))
    (first
      | (go_at_call 132; go_must (with_reducible refine (HVO.out _ (by assumption)).mono ?_); rintro en w3 ⟨rfl, hw⟩; subst w3)
      | (go_at_call 134; go_must (with_reducible refine (HSO.out _ (by assumption)).mono ?_); rintro en w3 ⟨rfl, hw⟩; subst w3))
  all_goals
    go_wp2
    refine bodyPost_ret (sp_ret rfl HRW.out rfl) rfl ?_
    exact ⟨by rw [HV.out], HBE.out⟩

end Go.Proofs.YtfcbgfomhmcikaaGreatDoor
