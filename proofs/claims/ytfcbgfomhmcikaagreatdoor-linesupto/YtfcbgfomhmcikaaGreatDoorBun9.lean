/-
  A SCRIPT AND A LIST OF REFERENCES THAT CAME IN, OPENED: what their reading says of the cells. Own text of the verifier.
  THE CONTIGS OF A REFERENCE THAT CAME IN, OPENED: what their reading says of the cells. Own text of the verifier.
  A SCOPE WITH SEVERAL LABELS: what holds at each label, and a measure that every jump lowers; from one label on the run may flow into the next. Own text of the verifier.
  WHAT IS HANDED IN: bytes with spare room, laid by the statement itself, and looked at again behind the call. Own text of the verifier.
-/
import Derived.Test.YtfcbgfomhmcikaaGreatDoorBun7
import Derived.ProofKit
import Derived.OpenShut
import Derived.ShutString
import Derived.ChangeOld
import Derived.Below
import Derived.Deep.Slices
import Derived.SizedLaws
import Derived.Test.YtfcbgfomhmcikaaGreatDoorBun3
import Derived.Test.YtfcbgfomhmcikaaGreatDoorBun1
import Derived.WalkMore
import Derived.ScopeJumps
import Derived.Lib.BufferWrite
namespace Go.Proofs.YtfcbgfomhmcikaaGreatDoor
open Go.ChangeShapes Go.WideShapes Go.ChangeAt Go.RowKit Go.Deep

theorem Tryz.cellsOp : Tryz.prog.cellsOf 42 = 7 := by kernel_rfl
theorem Tryz.cellsConts : Tryz.prog.cellsOf 30 = 1 := by kernel_rfl
theorem Tryz.cellsInt : Tryz.prog.cellsOf 3 = 1 := by kernel_rfl
theorem Tryz.cellsStr : Tryz.prog.cellsOf 9 = 1 := by kernel_rfl
theorem Tryz.cellsRecs : Tryz.prog.cellsOf 40 = 1 := by kernel_rfl
theorem Tryz.bytesOp : Tryz.prog.bytesOf 42 = 88 := by kernel_rfl
theorem Tryz.bytesConts : Tryz.prog.bytesOf 30 = 24 := by kernel_rfl

section
variable {H : Type} {enc : TypeId × Value → H} {w : World} {base : Nat} {spare : Nat → Bool} {held : Bool}

theorem list7 {α : Type} {l : List α} (h : l.length = 7) : ∃ a b c d e f g, l = [a, b, c, d, e, f, g] := by
  match l, h with
  | [a, b, c, d, e, f, g], _ => exact ⟨a, b, c, d, e, f, g, rfl⟩

theorem slice_cell {t e : TypeId} {fuel : Nat} {cs : List Value} {y : DataW H × List MemPlace} (ht : Tryz.prog.underlying t = some (.slice e)) (hf : DataW.trod enc Tryz.prog w base spare held fuel t cs = some y) : ∃ a l c, cs = [.slice a l c] := by
  rcases DataW.trod_slice ht hf with ⟨rfl, _⟩ | ⟨a, len, cap, _, _, _, _, rfl, _⟩
  · exact ⟨none, 0, 0, rfl⟩
  · exact ⟨some a, len, cap, rfl⟩

/-- one step, as it is read -/
theorem open_op {fuel : Nat} {cs : List Value} {x : DataW H × List MemPlace} (h : DataW.trod enc Tryz.prog w base spare held fuel 42 cs = some x) :
    ∃ (o : OpV) (n : Nat) (dl : DataW H) (pl : List MemPlace), cs = o.cells ∧ o.s.size ≤ maxLen ∧ o.t.size ≤ maxLen ∧
      x.1 = .agg [.lit (.int .i64 o.k), .lit (.int .i64 o.a), .lit (.int .i64 o.b), .lit (.int .i64 o.c), .lit (.string o.s.data.toList), .lit (.string o.t.data.toList), dl] ∧
      (Lit.int .i64 o.k).wf = true ∧ (Lit.int .i64 o.a).wf = true ∧ (Lit.int .i64 o.b).wf = true ∧ (Lit.int .i64 o.c).wf = true ∧
      DataW.trod enc Tryz.prog w base spare held n 40 [.slice o.la o.ln o.lc] = some (dl, pl) := by
  obtain ⟨xs, n, _, rfl, hcl, hxl, hf⟩ := DataW.trod_struct Tryz.underlying42 h
  rw [Tryz.cellsOp] at hcl
  obtain ⟨c0, c1, c2, c3, c4, c5, c6, rfl⟩ := list7 hcl
  obtain ⟨x0, x1, x2, x3, x4, x5, x6, rfl⟩ := list7 (show xs.length = 7 from hxl)
  have f0 : DataW.trod enc Tryz.prog w base spare held n 3 (([c0, c1, c2, c3, c4, c5, c6].drop 0).take (Tryz.prog.cellsOf 3)) = some x0 := hf 0 _ rfl
  rw [Tryz.cellsInt] at f0
  have f1 : DataW.trod enc Tryz.prog w base spare held n 3 (([c0, c1, c2, c3, c4, c5, c6].drop 1).take (Tryz.prog.cellsOf 3)) = some x1 := hf 1 _ rfl
  rw [Tryz.cellsInt] at f1
  have f2 : DataW.trod enc Tryz.prog w base spare held n 3 (([c0, c1, c2, c3, c4, c5, c6].drop 2).take (Tryz.prog.cellsOf 3)) = some x2 := hf 2 _ rfl
  rw [Tryz.cellsInt] at f2
  have f3 : DataW.trod enc Tryz.prog w base spare held n 3 (([c0, c1, c2, c3, c4, c5, c6].drop 3).take (Tryz.prog.cellsOf 3)) = some x3 := hf 3 _ rfl
  rw [Tryz.cellsInt] at f3
  have f4 : DataW.trod enc Tryz.prog w base spare held n 9 (([c0, c1, c2, c3, c4, c5, c6].drop 4).take (Tryz.prog.cellsOf 9)) = some x4 := hf 4 _ rfl
  rw [Tryz.cellsStr] at f4
  have f5 : DataW.trod enc Tryz.prog w base spare held n 9 (([c0, c1, c2, c3, c4, c5, c6].drop 5).take (Tryz.prog.cellsOf 9)) = some x5 := hf 5 _ rfl
  rw [Tryz.cellsStr] at f5
  have f6 : DataW.trod enc Tryz.prog w base spare held n 40 (([c0, c1, c2, c3, c4, c5, c6].drop 6).take (Tryz.prog.cellsOf 40)) = some x6 := hf 6 _ rfl
  rw [Tryz.cellsRecs] at f6
  obtain ⟨k, e0, rfl, w0⟩ := DataW.trod_int Tryz.underlying3 f0
  obtain ⟨a, e1, rfl, w1⟩ := DataW.trod_int Tryz.underlying3 f1
  obtain ⟨b, e2, rfl, w2⟩ := DataW.trod_int Tryz.underlying3 f2
  obtain ⟨c, e3, rfl, w3⟩ := DataW.trod_int Tryz.underlying3 f3
  obtain ⟨s, e4, rfl, w4⟩ := DataW.trod_string Tryz.underlying9 f4
  obtain ⟨t, e5, rfl, w5⟩ := DataW.trod_string Tryz.underlying9 f5
  have f6' : DataW.trod enc Tryz.prog w base spare held n 40 [c6] = some x6 := f6
  obtain ⟨la, ln, lc, e6⟩ := slice_cell Tryz.underlying40 f6'
  simp only [List.drop, List.take, List.cons.injEq, and_true] at e0 e1 e2 e3 e4 e5 e6
  subst e0 e1 e2 e3 e4 e5 e6
  exact ⟨⟨k, a, b, c, s, t, la, ln, lc⟩, n, x6.1, x6.2, rfl, w4, w5, rfl, w0, w1, w2, w3, f6'⟩

/-- a script, as it is read: its steps -/
theorem open_script {v : Value} {d : DataW H} {p : List MemPlace} (hv : ∃ a l c, v = .slice a l c) (h : DataW.Trod enc Tryz.prog w 0 (fun _ => true) true 23 v d p) :
    (v = .slice none 0 0 ∧ d = .nil ∧ Src w v 0 []) ∨
    ∃ (ss : List OpV) (elems sp : List (DataW H)), Src w v ss.length (ss.flatMap OpV.cells) ∧ d = .slice elems sp ∧ elems.length = ss.length ∧
      ∀ o ∈ ss, ∃ (n : Nat) (dl : DataW H) (pl : List MemPlace), o.s.size ≤ maxLen ∧ o.t.size ≤ maxLen ∧
        .agg [.lit (.int .i64 o.k), .lit (.int .i64 o.a), .lit (.int .i64 o.b), .lit (.int .i64 o.c), .lit (.string o.s.data.toList), .lit (.string o.t.data.toList), dl] ∈ elems ∧
        (Lit.int .i64 o.k).wf = true ∧ (Lit.int .i64 o.a).wf = true ∧ (Lit.int .i64 o.b).wf = true ∧ (Lit.int .i64 o.c).wf = true ∧
        DataW.trod enc Tryz.prog w 0 (fun _ => true) true n 40 [.slice o.la o.ln o.lc] = some (dl, pl) := by
  obtain ⟨va, vl, vc, rfl⟩ := hv
  obtain ⟨fuel, hf⟩ := h
  rcases open_slice Tryz.underlying23 hf with ⟨hcs, hx⟩ | ⟨a, len, cap, m, n, D, Pl, hcs, _, hl, hm, hmm, hx, hel⟩
  · simp [Value.cells] at hcs
    obtain ⟨rfl, rfl, rfl⟩ := hcs
    simp only [Prod.mk.injEq] at hx
    exact .inl ⟨rfl, hx.1, .inl ⟨rfl, rfl, rfl⟩⟩
  · right
    simp [Value.cells] at hcs
    obtain ⟨rfl, rfl, rfl⟩ := hcs
    simp only [Prod.mk.injEq] at hx
    obtain ⟨rfl, _⟩ := hx
    have hml : vl ≤ m := by rw [hmm]; simpa using hl
    have hel' : ∀ i, i < vl → ∃ o : OpV, ∃ (n' : Nat) (dl : DataW H) (pl : List MemPlace), w.cells? 0 (a.add (i * 7)) 7 = some o.cells ∧ o.s.size ≤ maxLen ∧ o.t.size ≤ maxLen ∧
        D i = .agg [.lit (.int .i64 o.k), .lit (.int .i64 o.a), .lit (.int .i64 o.b), .lit (.int .i64 o.c), .lit (.string o.s.data.toList), .lit (.string o.t.data.toList), dl] ∧
        (Lit.int .i64 o.k).wf = true ∧ (Lit.int .i64 o.a).wf = true ∧ (Lit.int .i64 o.b).wf = true ∧ (Lit.int .i64 o.c).wf = true ∧
        DataW.trod enc Tryz.prog w 0 (fun _ => true) true n' 40 [.slice o.la o.ln o.lc] = some (dl, pl) := by
      intro i hi
      obtain ⟨cs', h1, h2⟩ := hel i (by omega)
      rw [Tryz.cellsOp] at h1
      obtain ⟨o, n', dl, pl, rfl, g1, g2, g3, g4, g5, g6, g7, g8⟩ := open_op h2
      exact ⟨o, n', dl, pl, h1, g1, g2, g3, g4, g5, g6, g7, g8⟩
    have : Inhabited OpV := ⟨⟨0, 0, 0, 0, ⟨#[]⟩, ⟨#[]⟩, none, 0, 0⟩⟩
    obtain ⟨f, hfo⟩ := choose_lt hel'
    refine ⟨(List.range vl).map f, (List.range vl).map D, _, .inr ⟨a, vc, by simp, ?_⟩, rfl, by simp, ?_⟩
    · intro j u hj
      have hlen : j < vl * 7 := by
        have := (List.getElem?_eq_some_iff.1 hj).1
        rw [cells_length] at this
        simpa using this
      have hjk : j / 7 < vl := by omega
      have hj' : j = j / 7 * 7 + j % 7 := by omega
      rw [hj', cells_at _ (j / 7) (by simpa using hjk) (j % 7) (by omega)] at hj
      simp only [List.getElem_map, List.getElem_range] at hj
      obtain ⟨n', dl, pl, h1, _⟩ := hfo (j / 7) hjk
      obtain ⟨_, hlen7, hcell⟩ := World.cells?_some h1
      have := hcell (j % 7) (by omega)
      rw [add_add, hj] at this
      rw [hj']
      exact this
    · intro o ho
      obtain ⟨i, hi, rfl⟩ := List.mem_map.1 ho
      obtain ⟨n', dl, pl, _, g1, g2, g3, g4⟩ := hfo i (List.mem_range.1 hi)
      exact ⟨n', dl, pl, g1, g2, by rw [← g3]; exact List.mem_map.2 ⟨i, hi, rfl⟩, g4⟩

/-- the references, as they are read -/
theorem open_refs {v : Value} {d : DataW H} {p : List MemPlace} (hv : ∃ a l c, v = .slice a l c) (h : DataW.Trod enc Tryz.prog w 0 (fun _ => true) true 22 v d p) :
    (v = .slice none 0 0 ∧ d = .nil ∧ Src w v 0 []) ∨
    ∃ (rs : List Value) (elems sp : List (DataW H)), Src w v rs.length rs ∧ d = .slice elems sp ∧ elems.length = rs.length ∧ (∀ u ∈ rs, u.oneCell' = true) ∧
      ∀ i, i < rs.length → ∃ (n a l c : Nat) (ao : Option Addr) (pl : List MemPlace) (dl : DataW H), rs[i]? = some (.slice ao l c) ∧ elems[i]? = some dl ∧ a = 0 ∧ DataW.trod enc Tryz.prog w 0 (fun _ => true) true n 30 [.slice ao l c] = some (dl, pl) := by
  obtain ⟨va, vl, vc, rfl⟩ := hv
  obtain ⟨fuel, hf⟩ := h
  rcases open_slice Tryz.underlying22 hf with ⟨hcs, hx⟩ | ⟨a, len, cap, m, n, D, Pl, hcs, _, hl, hm, hmm, hx, hel⟩
  · simp [Value.cells] at hcs
    obtain ⟨rfl, rfl, rfl⟩ := hcs
    simp only [Prod.mk.injEq] at hx
    exact .inl ⟨rfl, hx.1, .inl ⟨rfl, rfl, rfl⟩⟩
  · right
    simp [Value.cells] at hcs
    obtain ⟨rfl, rfl, rfl⟩ := hcs
    simp only [Prod.mk.injEq] at hx
    obtain ⟨rfl, _⟩ := hx
    have hml : vl ≤ m := by rw [hmm]; simpa using hl
    have hel' : ∀ i, i < vl → ∃ u : Value, ∃ (l c : Nat) (ao : Option Addr), u = .slice ao l c ∧ w.cell? (a.add i) = some u ∧ DataW.trod enc Tryz.prog w 0 (fun _ => true) true n 30 [u] = some (D i, Pl i) := by
      intro i hi
      obtain ⟨cs', h1, h2⟩ := hel i (by omega)
      rw [Tryz.cellsConts, Nat.mul_one] at h1
      obtain ⟨ao, l, c, rfl⟩ := slice_cell Tryz.underlying30 h2
      exact ⟨_, l, c, ao, rfl, cell_of_cells?_one h1, h2⟩
    have : Inhabited Value := ⟨undef⟩
    obtain ⟨f, hfo⟩ := choose_lt hel'
    refine ⟨(List.range vl).map f, (List.range vl).map D, _, .inr ⟨a, vc, by simp, ?_⟩, rfl, by simp, ?_, ?_⟩
    · intro j u hj
      have hlen : j < vl := by
        have := (List.getElem?_eq_some_iff.1 hj).1
        simpa using this
      obtain ⟨_, _, _, _, h2, _⟩ := hfo j hlen
      rw [h2]
      simpa [hlen] using hj
    · intro u hu
      obtain ⟨i, hi, rfl⟩ := List.mem_map.1 hu
      obtain ⟨_, _, _, h1, _⟩ := hfo i (List.mem_range.1 hi)
      rw [h1]; rfl
    · intro i hi
      have hiv : i < vl := by simpa using hi
      obtain ⟨l, c, ao, h1, h2, h3⟩ := hfo i hiv
      rw [h1] at h3
      exact ⟨n, 0, l, c, ao, Pl i, D i, by simp [hiv, h1], by simp [hiv], rfl, h3⟩

end

section
variable {H : Type}
theorem weightsAll_mem {P : Program} {e : TypeId} {d : DataW H} {elems : List (DataW H)} (h : d ∈ elems) {n : Nat} (hn : n ∈ d.weights P e) : n ∈ DataW.weightsAll P e elems := by
  induction elems with
  | nil => cases h
  | cons x r ih =>
    rw [DataW.weightsAll]
    rcases List.mem_cons.1 h with rfl | h
    · exact List.mem_append_left _ hn
    · exact List.mem_append_right _ (ih h)

/-- a step's texts are within the reach -/
theorem op_sized {elems sp : List (DataW H)} {o : OpV} {dl : DataW H} (h : ∀ n ∈ (DataW.slice elems sp).weights Tryz.prog 23, n ≤ reachBytes)
    (hm : .agg [.lit (.int .i64 o.k), .lit (.int .i64 o.a), .lit (.int .i64 o.b), .lit (.int .i64 o.c), .lit (.string o.s.data.toList), .lit (.string o.t.data.toList), dl] ∈ elems) :
    o.s.size ≤ reachBytes ∧ o.t.size ≤ reachBytes := by
  have hw : ∀ n ∈ DataW.weights Tryz.prog 42 (.agg [.lit (.int .i64 o.k), .lit (.int .i64 o.a), .lit (.int .i64 o.b), .lit (.int .i64 o.c), .lit (.string o.s.data.toList), .lit (.string o.t.data.toList), dl]), n ≤ reachBytes := by
    intro n hn
    refine h n ?_
    simp only [DataW.weights, Tryz.underlying23]
    exact List.mem_cons_of_mem _ (List.mem_append_left _ (weightsAll_mem hm hn))
  simp only [DataW.weights, Tryz.underlying42, DataW.weightsEach, List.map] at hw
  constructor
  · exact hw _ (by simp)
  · exact hw _ (by simp)
end

end Go.Proofs.YtfcbgfomhmcikaaGreatDoor

namespace Go.Proofs.YtfcbgfomhmcikaaGreatDoor
open Go.ChangeShapes Go.WideShapes Go.ChangeAt Go.RowKit Go.Deep

theorem Tryz.cellsContig : Tryz.prog.cellsOf 29 = 2 := by kernel_rfl
theorem Tryz.bytesContig : Tryz.prog.bytesOf 29 = 32 := by kernel_rfl

/-- a reference: contigs that lie somewhere, of a size that can be -/
structure RefOk (w : World) (v : Value) (cs : List Pr) : Prop where
  src : Src w v cs.length (Prs cs)
  len : cs.length * 32 ≤ 140737488351232
  txt : ∀ x ∈ cs, x.1.length ≤ 140737488351232 ∧ x.2.length ≤ 140737488351232

section
variable {H : Type} {enc : TypeId × Value → H} {w : World} {base : Nat} {spare : Nat → Bool} {held : Bool}

theorem list2 {α : Type} {l : List α} (h : l.length = 2) : ∃ a b, l = [a, b] := by
  match l, h with
  | [a, b], _ => exact ⟨a, b, rfl⟩

theorem open_contig {fuel : Nat} {cs : List Value} {x : DataW H × List MemPlace} (h : DataW.trod enc Tryz.prog w base spare held fuel 29 cs = some x) :
    ∃ p : Pr, cs = prCells p ∧ x.1 = .agg [.lit (.string p.1), .lit (.string p.2)] := by
  obtain ⟨xs, n, _, rfl, hcl, hxl, hf⟩ := DataW.trod_struct Tryz.underlying29 h
  rw [Tryz.cellsContig] at hcl
  obtain ⟨c0, c1, rfl⟩ := list2 hcl
  obtain ⟨x0, x1, rfl⟩ := list2 (show xs.length = 2 from hxl)
  have f0 : DataW.trod enc Tryz.prog w base spare held n 9 (([c0, c1].drop 0).take (Tryz.prog.cellsOf 9)) = some x0 := hf 0 _ rfl
  rw [Tryz.cellsStr] at f0
  have f1 : DataW.trod enc Tryz.prog w base spare held n 9 (([c0, c1].drop 1).take (Tryz.prog.cellsOf 9)) = some x1 := hf 1 _ rfl
  rw [Tryz.cellsStr] at f1
  obtain ⟨s, e0, rfl, w0⟩ := DataW.trod_string Tryz.underlying9 f0
  obtain ⟨t, e1, rfl, w1⟩ := DataW.trod_string Tryz.underlying9 f1
  simp only [List.drop, List.take, List.cons.injEq, and_true] at e0 e1
  subst e0 e1
  exact ⟨(s.data.toList, t.data.toList), rfl, rfl⟩

theorem open_ref {fuel l c : Nat} {ao : Option Addr} {dl : DataW H} {pl : List MemPlace} (h : DataW.trod enc Tryz.prog w 0 (fun _ => true) true fuel 30 [.slice ao l c] = some (dl, pl))
    (hs : ∀ n ∈ dl.weights Tryz.prog 30, n ≤ reachBytes) : ∃ cs, RefOk w (.slice ao l c) cs := by
  rcases open_slice Tryz.underlying30 h with ⟨hcs, hx⟩ | ⟨a, len, cap, m, n, D, Pl, hcs, _, hl, hm, hmm, hx, hel⟩
  · simp at hcs
    obtain ⟨rfl, rfl, rfl⟩ := hcs
    exact ⟨[], .inl ⟨rfl, rfl, rfl⟩, by simp, by simp⟩
  · simp at hcs
    obtain ⟨rfl, rfl, rfl⟩ := hcs
    simp only [Prod.mk.injEq] at hx
    obtain ⟨rfl, _⟩ := hx
    have hml : l ≤ m := by rw [hmm]; simpa using hl
    have hel' : ∀ i, i < l → ∃ p : Pr, w.cells? 0 (a.add (i * 2)) 2 = some (prCells p) ∧ D i = .agg [.lit (.string p.1), .lit (.string p.2)] := by
      intro i hi
      obtain ⟨cs', h1, h2⟩ := hel i (by omega)
      rw [Tryz.cellsContig] at h1
      obtain ⟨p, rfl, h3⟩ := open_contig h2
      exact ⟨p, h1, h3⟩
    have : Inhabited Pr := ⟨([], [])⟩
    obtain ⟨f, hfo⟩ := choose_lt hel'
    refine ⟨(List.range l).map f, .inr ⟨a, c, by simp, ?_⟩, ?_, ?_⟩
    · intro j u hj
      have hlen : j < l * 2 := by
        have := (List.getElem?_eq_some_iff.1 hj).1
        rw [Prs_length] at this
        simpa using this
      have hjk : j / 2 < l := by omega
      have hj' : j = j / 2 * 2 + j % 2 := by omega
      rw [hj', Prs_at _ (j / 2) (by simpa using hjk) (j % 2) (by omega)] at hj
      simp only [List.getElem_map, List.getElem_range] at hj
      obtain ⟨h1, _⟩ := hfo (j / 2) hjk
      obtain ⟨_, hlen2, hcell⟩ := World.cells?_some h1
      have := hcell (j % 2) (by omega)
      rw [add_add, hj] at this
      rw [hj']
      exact this
    · have h1 := hs ((((List.range l).map D).length + _) * Tryz.prog.bytesOf 29) (by
        simp only [DataW.weights, Tryz.underlying30]
        exact List.mem_cons_self ..)
      rw [Tryz.bytesContig] at h1
      simp only [reachBytes, List.length_map, List.length_range] at h1 ⊢
      omega
    · intro x hx
      obtain ⟨i, hi, rfl⟩ := List.mem_map.1 hx
      obtain ⟨_, h2⟩ := hfo i (List.mem_range.1 hi)
      have hw : ∀ n ∈ (D i).weights Tryz.prog 29, n ≤ reachBytes := by
        intro n hn
        refine hs n ?_
        simp only [DataW.weights, Tryz.underlying30]
        exact List.mem_cons_of_mem _ (List.mem_append_left _ (weightsAll_mem (List.mem_map.2 ⟨i, hi, rfl⟩) hn))
      rw [h2] at hw
      simp only [DataW.weights, Tryz.underlying29, DataW.weightsEach, List.map] at hw
      have w1 := hw (f i).1.length (by simp)
      have w2 := hw (f i).2.length (by simp)
      simp only [reachBytes] at w1 w2
      omega

end

end Go.Proofs.YtfcbgfomhmcikaaGreatDoor

namespace Go.Proofs.YtfcbgfomhmcikaaGreatDoor
open Go.RowKit

/-- by a goto to label l: J l; else as Q -/
def jumps (J : Nat → Act → World → Prop) (Q : Exit → Act → World → Prop) : Exit → Act → World → Prop
  | .goto l, a, w => J l a w
  | e, a, w => Q e a w

section
variable {P : Program} {a : Act} {w : World} {Q : Exit → Act → World → Prop} {J : Nat → Act → World → Prop}
theorem jumps_goto (l : Nat) : jumps J Q (.goto l) a w = J l a w := rfl
theorem jumps_ret : jumps J Q .ret a w = Q .ret a w := rfl
theorem jumps_normal : jumps J Q .normal a w = Q .normal a w := rfl
theorem jumps_exit (i : Nat) : jumps J Q (.exit i) a w = Q (.exit i) a w := rfl

/-- ONE LABEL'S PASS: from what holds there, with a measure of at most n, to a jump of a lower one, or out -/
def Pass (P : Program) (Q : Exit → Act → World → Prop) (J : Nat → Act → World → Prop) (m : Nat → Act → World → Nat) (l : Nat) (r : Code) : Prop :=
  ∀ n a w, J l a w → m l a w ≤ n → r.wp P (jumps (fun l' a' w' => J l' a' w' ∧ m l' a' w' < n) Q) a w

theorem wp_labels {c : Code} (J : Nat → Act → World → Prop) (m : Nat → Act → World → Nat) (rs : Nat → Code) (hrs : ∀ l a w, J l a w → findLabel c l = some (rs l))
    (pass : ∀ l, (∃ a w, J l a w) → Pass P Q J m l (rs l)) (first : c.wp P (jumps J Q) a w) : (Code.scope c).wp P Q a w := by
  intro b k cs
  have key : ∀ n l a w, m l a w = n → J l a w → ∃ e a' w', Q e a' w' ∧ Arrives P (lone (b.at a (.code (rs l) :: .inScope c :: k)) cs w) b k cs e a' w' := by
    intro n
    induction n using Nat.strongRecOn with
    | _ n ih =>
      intro l a w hn hJ
      obtain ⟨e, a1, w1, hq, harr⟩ := pass l ⟨a, w, hJ⟩ n a w hJ (Nat.le_of_eq hn) b (.inScope c :: k) cs
      cases e with
      | normal => exact ⟨.normal, a1, w1, hq, Steps.trans harr (.one step_inScope)⟩
      | exit id => exact ⟨.exit id, a1, w1, hq, fun k' hk => harr k' (by simp [exitTo, hk])⟩
      | goto l' =>
        obtain ⟨hJ', hlt⟩ := hq
        have hg : gotoIn l' (.inScope c :: k) = some (.code (rs l') :: .inScope c :: k) := by simp [gotoIn, hrs l' a1 w1 hJ']
        obtain ⟨e2, a2, w2, hq2, harr2⟩ := ih _ hlt l' a1 w1 rfl hJ'
        exact ⟨e2, a2, w2, hq2, .of_steps (harr _ hg) harr2⟩
      | ret => exact ⟨_, a1, w1, hq, harr⟩
      | panic ch => exact ⟨_, a1, w1, hq, harr⟩
      | outgrown => exact ⟨_, a1, w1, hq, harr⟩
  obtain ⟨e, a1, w1, hq, harr⟩ := first b (.inScope c :: k) cs
  cases e with
  | normal => exact ⟨.normal, a1, w1, hq, .head step_scope (Steps.trans harr (.one step_inScope))⟩
  | exit id => exact ⟨.exit id, a1, w1, hq, fun k' hk => .head step_scope (harr k' (by simp [exitTo, hk]))⟩
  | goto l' =>
    have hg : gotoIn l' (.inScope c :: k) = some (.code (rs l') :: .inScope c :: k) := by simp [gotoIn, hrs l' a1 w1 hq]
    obtain ⟨e2, a2, w2, hq2, harr2⟩ := key _ l' a1 w1 rfl hq
    exact ⟨e2, a2, w2, hq2, .of_steps (.head step_scope (harr _ hg)) harr2⟩
  | ret => exact ⟨_, a1, w1, hq, .of_steps (.one step_scope) harr⟩
  | panic ch => exact ⟨_, a1, w1, hq, .of_steps (.one step_scope) harr⟩
  | outgrown => exact ⟨_, a1, w1, hq, .of_steps (.one step_scope) harr⟩

/-- four labels, 0 to 3, of which i flows into j and j into k: the passes are handed on from the last to the first -/
theorem wp_four {c r0 r1 r2 r3 : Code} (h0 : findLabel c 0 = some r0) (h1 : findLabel c 1 = some r1) (h2 : findLabel c 2 = some r2) (h3 : findLabel c 3 = some r3)
    (J : Nat → Act → World → Prop) (m : Nat → Act → World → Nat) (hJ : ∀ l a w, J l a w → l < 4)
    (t : Pass P Q J m 0 r0 ∧ Pass P Q J m 1 r1 ∧ Pass P Q J m 2 r2 ∧ Pass P Q J m 3 r3)
    (first : c.wp P (jumps J Q) a w) : (Code.scope c).wp P Q a w := by
  obtain ⟨t0, t1, t2, t3⟩ := t
  refine wp_labels J m (fun l => if l = 0 then r0 else if l = 1 then r1 else if l = 2 then r2 else r3) ?_ ?_ first
  · intro l a w h
    have hl := hJ l a w h
    rcases (show l = 0 ∨ l = 1 ∨ l = 2 ∨ l = 3 by omega) with rfl | rfl | rfl | rfl
    · simpa using h0
    · simpa using h1
    · simpa using h2
    · simpa using h3
  · rintro l ⟨a, w, h⟩
    have hl := hJ l a w h
    rcases (show l = 0 ∨ l = 1 ∨ l = 2 ∨ l = 3 by omega) with rfl | rfl | rfl | rfl
    · simpa using t0
    · simpa using t1
    · simpa using t2
    · simpa using t3
theorem pass_skip {m : Nat → Act → World → Nat} {l : Nat} {r : Code} (t : Pass P Q J m l r) : Pass P Q J m l (.seq .skip r) := fun n a w h hm => wp_seq (wp_skip (t n a w h hm))

/-- 'fault' is 0; 1 flows into 2, 2 into 3 -/
theorem wp_four_a {c r0 r1 r2 r3 : Code} (J : Nat → Act → World → Prop) (m : Nat → Act → World → Nat) (hJ : ∀ l a w, J l a w → l < 4)
    (h0 : findLabel c 0 = some (.seq .skip r0)) (h1 : findLabel c 1 = some (.seq .skip r1)) (h2 : findLabel c 2 = some (.seq .skip r2)) (h3 : findLabel c 3 = some (.seq .skip r3))
    (t0 : Pass P Q J m 0 r0) (t3 : Pass P Q J m 3 r3) (t2 : Pass P Q J m 3 r3 → Pass P Q J m 2 r2) (t1 : Pass P Q J m 2 r2 → Pass P Q J m 1 r1)
    (first : Pass P Q J m 1 r1 → c.wp P (jumps J Q) a w) : (Code.scope c).wp P Q a w :=
  wp_four h0 h1 h2 h3 J m hJ ⟨pass_skip t0, pass_skip (t1 (t2 t3)), pass_skip (t2 t3), pass_skip t3⟩ (first (t1 (t2 t3)))
/-- 'fault' is 1; 0 flows into 2, 2 into 3 -/
theorem wp_four_b {c r0 r1 r2 r3 : Code} (J : Nat → Act → World → Prop) (m : Nat → Act → World → Nat) (hJ : ∀ l a w, J l a w → l < 4)
    (h0 : findLabel c 0 = some (.seq .skip r0)) (h1 : findLabel c 1 = some (.seq .skip r1)) (h2 : findLabel c 2 = some (.seq .skip r2)) (h3 : findLabel c 3 = some (.seq .skip r3))
    (t1 : Pass P Q J m 1 r1) (t3 : Pass P Q J m 3 r3) (t2 : Pass P Q J m 3 r3 → Pass P Q J m 2 r2) (t0 : Pass P Q J m 2 r2 → Pass P Q J m 0 r0)
    (first : Pass P Q J m 0 r0 → c.wp P (jumps J Q) a w) : (Code.scope c).wp P Q a w :=
  wp_four h0 h1 h2 h3 J m hJ ⟨pass_skip (t0 (t2 t3)), pass_skip t1, pass_skip (t2 t3), pass_skip t3⟩ (first (t0 (t2 t3)))
/-- from one label's pass to the post of the whole: what lies below no bound -/
theorem pass_first {J : Nat → Act → World → Prop} {m : Nat → Act → World → Nat} {l : Nat} {r : Code} (t : Pass P Q J m l r) (h : J l a w) : r.wp P (jumps J Q) a w :=
  wp_mono (t _ a w h (Nat.le_refl _)) (fun e a' w' h => by cases e <;> first | exact h | exact h.1)
end

/-- a frame of so many slots, slot by slot -/
theorem frame_of (a : Act) (n : Nat) (h : a.tmps.size = n) (hd : a.defers = []) : a = ⟨((List.range n).map (fun i => a.tmps.getD i undef)).toArray, []⟩ := by
  obtain ⟨tmps, defers⟩ := a
  simp only at hd h
  subst hd
  congr 1
  apply Array.ext
  · simp [h]
  · intro i h1 h2
    simp [Array.getD, h1]

/-- what is owned stays owned while only a row of another type, or what is new, is written -/
theorem own_keep {w w' : World} {b1 e1 s1 n1 b2 e2 s2 n2 : Nat} {v1 v2 : Value} {x1 x2 : List Value} (h1 : w.ownsRow b1 e1 s1 v1 n1 x1) (h2 : w.ownsRow b2 e2 s2 v2 n2 x2) (hne : e1 ≠ e2)
    (keep : ∀ k, k < w.heap.size → some k ≠ v2.ownBlock → w'.heap[k]? = w.heap[k]?) : w'.ownsRow b1 e1 s1 v1 n1 x1 := by
  refine ⟨h1.1, ?_⟩
  rcases h1.2 with h0 | ⟨g, cap, cur, rfl, hb, hg, hr⟩
  · exact .inl h0
  · refine .inr ⟨g, cap, cur, rfl, hb, ?_, hr⟩
    rw [keep g (Array.getElem?_eq_some_iff.1 hg).1 ?_]
    · exact hg
    · rcases h2.2 with ⟨rfl, _⟩ | ⟨g2, cap2, cur2, rfl, _, hg2, _⟩
      · simp [Value.ownBlock]
      · simp only [Value.ownBlock, ne_eq, Option.some.injEq]
        intro he
        rw [he, hg2] at hg
        simp at hg
        exact hne hg.2.symm

/-- 'b = append(b, c)', and what else is as it was -/
theorem app_byte2 {W w : World} {ops : Array Oper} {rest : List Oper} {o : Oper} {a : Act} {Q : Exit → Act → World → Prop} (hgd : o.guard = none) (s x : Operand)
    (ho : o.op = .call { callee := .builtin .append, args := #[s, x], argTypes := #[68, 68] })
    (base : Nat) (v : Value) (l : List UInt8) (c : UInt8) (hs : a.eval s = v) (hx : a.eval x = .slice (some ⟨w.heap.size, 0, none⟩) 1 1)
    (hown : w.ownsRow base 5 1 v l.length (Bys l)) (hbel : Below base W w) (hbase : base ≤ w.heap.size) (hlen : l.length + 1 ≤ 140737488355328)
    (h : ∀ v' w', w'.ownsRow base 5 1 v' (l ++ [c]).length (Bys (l ++ [c])) → Below base W w' → w.heap.size ≤ w'.heap.size → (∀ k, k < w.heap.size → some k ≠ v.ownBlock → w'.heap[k]? = w.heap[k]?) → wpList Tryz.prog ops Q rest (a.put o.dst v') w') :
    wpList Tryz.prog ops Q (o :: rest) a (w.alloc (.cells #[.int .u8 (c.toNat : Int)] 5)) := by
  obtain ⟨i0, hi, hz0, hz1, hz2⟩ := info_parts Tryz.infoU8
  refine wpList_append_own _ hgd s x 68 ho base 5 i0 (.int .u8 0) 1 1 Tryz.underlying68 hi hz0 hz1 hz2 rfl (by decide) v l.length (Bys l) hs (hown.alloc _) ⟨w.heap.size, 0, none⟩ 1 1 [By c] hx rfl ?_ ?_ ?_ ?_ ?_ ?_
  · intro j u hj
    match j, hj with
    | 0, hj => simp at hj; subst hj; simp [Addr.add, By]
  · intro u hu; simp at hu; subst hu; rfl
  · unfold maxLen; omega
  · omega
  · simp; omega
  · intro v' w' h1 h2 _
    refine h v' w' ?_ ?_ ?_ ?_
    · rw [Bys_append, List.length_append]; exact h1
    · exact (hbel.alloc hbase _).grown h2 (by simp; omega) (fun k hk => (hown.lt k hk).1)
    · have := h2.size; simp at this; omega
    · intro k hk hn
      rw [h2.block k (by simp; omega) hn, Below.heap_alloc _ _ _ hk]

end Go.Proofs.YtfcbgfomhmcikaaGreatDoor

namespace Go.Proofs.YtfcbgfomhmcikaaGreatDoor
open Go.RowKit

/-- the bytes of a text, and eight more of the caller's behind them -/
def lent (s : ByteArray) : List UInt8 := s.data.toList ++ List.replicate 8 77

theorem lent_length (s : ByteArray) : (lent s).length = s.size + 8 := by simp [lent]

theorem lent_77 (s : ByteArray) (k : Nat) (h1 : s.size ≤ k) (h : k < (lent s).length) : (lent s)[k] = 77 := by
  have h2 : k < s.size + 8 := by rw [lent_length] at h; exact h
  have h3 : (lent s)[k]? = some 77 := by
    rw [lent, List.getElem?_append_right (by simpa using h1), List.getElem?_replicate, if_pos (by simp; omega)]
  rw [List.getElem?_eq_getElem h] at h3
  exact Option.some.inj h3

/-- what 'lentBytes' answers: nil, or a new row -/
def Lent (w w' : World) (s : ByteArray) (v : Value) : Prop :=
  (s.size = 0 ∧ v = .slice none 0 0 ∧ w' = w) ∨
  (v = .slice (some ⟨w.heap.size, 0, none⟩) s.size (s.size + 8) ∧ w'.ownsRow w.heap.size 5 1 (.slice (some ⟨w.heap.size, 0, none⟩) (s.size + 8) (s.size + 8)) (s.size + 8) (Bys (lent s)) ∧ Below w.heap.size w w' ∧ w.heap.size < w'.heap.size)

theorem isEmpty_size (s : ByteArray) : s.data.toList.isEmpty = decide (s.size = 0) := by
  cases h : s.data.toList with
  | nil => have : s.size = 0 := by have := congrArg List.length h; simpa using this
           simp [this]
  | cons a r => have : s.size = r.length + 1 := by have := congrArg List.length h; simpa using this
                simp [this]

theorem Tryz.sizeU8 : (Tryz.prog.info? 5).map (·.size) = some 1 := by kernel_rfl

/-- 'copy(out, s)' into a row just made -/
theorem copy_lent (s : ByteArray) (G : Nat) (w1 : World) (hown : w1.ownsRow G 5 1 (.slice (some ⟨G, 0, none⟩) (s.size + 8) (s.size + 8)) (s.size + 8) (List.replicate (s.size + 8) (.int .u8 0))) :
    ∃ W2, (∀ ty, (Builtin.copy_ #[68, 9] ty #[.slice (some ⟨G, 0, none⟩) (s.size + 8) (s.size + 8), .string s]).run Tryz.prog w1 = .ok (goInt s.size) W2) ∧
      W2.ownsRow G 5 1 (.slice (some ⟨G, 0, none⟩) (s.size + 8) (s.size + 8)) (s.size + 8) (filled (lent s) (s.size + 8) s.size) ∧ w1.grownBy W2 (some G) := by
  rcases hown.2 with ⟨h, _⟩ | ⟨g, cap, cur, hv, hb, hg, hnc, hcm, hcs, htake⟩
  · simp at h
  · simp only [Value.slice.injEq, Option.some.injEq, Addr.mk.injEq, and_true, true_and] at hv
    obtain ⟨rfl, rfl⟩ := hv
    have hc : cur.toList = List.replicate (s.size + 8) (.int .u8 0) := by
      rw [← htake, List.take_of_length_le (by rw [Array.length_toList, hcs]; exact Nat.le_refl _)]
    refine ⟨_, fun ty => Lib.run_copy_row_string (P := Tryz.prog) w1 68 9 ty 5 G 0 (s.size + 8) (s.size + 8) s cur 5 Tryz.underlying68 Tryz.sizeU8 hg (by omega) (by rw [hcs]; omega), ?_, ⟨rfl, rfl, rfl, by simp, fun k _ hk => setRow_other w1 G k _ (fun e => hk (by simp [e]))⟩⟩
    have he : (cur.toList.take 0 ++ Lib.byteCells s.data.toList ++ cur.toList.drop (0 + s.size)) = filled (lent s) (s.size + 8) s.size := by
      rw [hc, filled, lent, List.take_zero, List.nil_append, List.drop_replicate, List.take_append_of_le_length (by simp), List.take_of_length_le (by simp), Nat.zero_add]
      rfl
    have hl : (filled (lent s) (s.size + 8) s.size).length = s.size + 8 := by
      rw [filled, List.length_append, Bys_length, List.length_take, lent_length, List.length_replicate]; omega
    rw [he]
    refine ⟨by rw [hl]; omega, .inr ⟨G, s.size + 8, _, rfl, hb, setRow_heap w1 G cur _ 5 _ hg, Nat.le_refl _, hcm, by simp [hl], ?_⟩⟩
    rw [List.take_of_length_le (by simp [hl])]

set_option maxRecDepth 100000 in
set_option maxHeartbeats 1600000 in
theorem lentBytes_any (s : ByteArray) (raw : Int) (w : World) (hs : s.size ≤ 140737488351232) :
    Calls Tryz.prog 27 #[.string s, .int .i64 raw] w fun e w' => ∃ v, e = .returned v ∧ Lent w w' s v := by
  obtain ⟨i0, hi, hz0, hz1, hz2⟩ := info_parts Tryz.infoU8
  have hcases : (s.toList = [] ∧ (raw.tmod 2 != 0) = true) ∨ (s.toList = [] ∧ (raw.tmod 2 != 0) = false) ∨ ¬ s.toList = [] := by
    by_cases h : s.toList = []
    · cases hr : (raw.tmod 2 != 0)
      · exact .inr (.inl ⟨h, rfl⟩)
      · exact .inl ⟨h, rfl⟩
    · exact .inr (.inr h)
  rcases hcases with ⟨h1, h2⟩ | h3
  · have h0 : s.size = 0 := by have := congrArg List.length h1; simpa [ByteArray.toList_eq] using this
    have HZ : Hid _ := h0
    clear h0
    go_enter Tryz.func27, Tryz.ntmps27
    go_wp2
    go_ret
    exact ⟨_, rfl, .inl ⟨HZ.out, rfl, rfl⟩⟩
  · rcases h3 with ⟨h1, h2⟩ | h1
    all_goals
      go_enter Tryz.func27, Tryz.ntmps27
      go_wp2_with (at_make; refine wpList_make_full _ rfl _ _ 68 rfl w.heap.size 5 i0 (.int .u8 0) 1 Tryz.underlying68 hi hz0 hz1 _ _ _ _ (s.size + 8) rfl rfl (by omega) (by omega) (by rw [hz2]; omega) (by unfold maxLen; omega) (Nat.le_refl _) ?_; intro w1 hown0 hgrow; rw [show (madeCells (Value.int IntKind.u8 0).cells ((s.size + 8) * 1)).toList = List.replicate (s.size + 8) (.int .u8 0) from by rw [Nat.mul_one]; exact toList_madeCells_one _ _] at hown0; obtain ⟨W2, hcopy, hown2, hgrow2⟩ := copy_lent s w.heap.size w1 hown0)
      have hb2 : Below w.heap.size w W2 := ((Below.refl _ _).grown hgrow (Nat.le_refl _) (fun k hk => by cases hk)).grown hgrow2 (by have := hgrow.size; omega) (fun k hk => by cases hk; exact Nat.le_refl _)
      clear hcopy hown0 hgrow hgrow2
      go_loopw [7] (fun i wr => ∃ k : Nat, s.size ≤ k ∧ k ≤ s.size + 8 ∧ i = .int .i64 (k : Int) ∧ wr.ownsRow w.heap.size 5 1 (.slice (some ⟨w.heap.size, 0, none⟩) (s.size + 8) (s.size + 8)) (s.size + 8) (filled (lent s) (s.size + 8) k) ∧ Below w.heap.size w wr)
        (fun i _ => s.size + 8 - (intOf i).toNat)
      case atStart => exact ⟨s.size, Nat.le_refl _, by omega, rfl, hown2, hb2⟩
      case round =>
        clear hown2 hb2
        obtain ⟨k, hk1, hk, rfl, hown, hbel⟩ := hrel
        by_cases hlt : k < s.size + 8
        · obtain ⟨v0, hc0, _⟩ := own_cell hown k hlt
          have hfr := hown.frozenAt k
          have hst := hown.stored k (.int .u8 77)
          have h77 : (lent s)[k]'(by rw [lent_length]; exact hlt) = 77 := lent_77 s k hk1 _
          have HS : Hid _ := filled_set (lent s) (s.size + 8) k (lent_length s) hlt
          rw [h77] at HS
          have hst1 : _ ∧ _ := hst
          have HST : Hid _ := hst.1
          have HB1 : Hid _ := hbel.setCell (p := ⟨w.heap.size, k, none⟩) (Nat.le_refl _) (.int .u8 77)
          clear hst hst1 hown hbel h77
          have hlt' : (k : Int) < (s.size : Int) + 8 := by omega
          go_wp2
          go_roundw
          case rel => exact ⟨k + 1, by omega, by omega, by go_num, by rw [← HS.out]; exact HST.out, HB1.out⟩
          case measure => simp [intOf]; omega
        · have hke : k = s.size + 8 := by omega
          rw [hke, filled_whole _ _ (lent_length s)] at hown
          have hlt' : ¬ (k : Int) < (s.size : Int) + 8 := by omega
          have hlt9 : w.heap.size < wr.heap.size := by
            rcases hown.2 with ⟨h, _⟩ | ⟨g, cap, cur, hv, _, hg, _⟩
            · simp at h
            · simp only [Value.slice.injEq, Option.some.injEq, Addr.mk.injEq, and_true, true_and] at hv
              obtain ⟨rfl, _⟩ := hv
              exact (Array.getElem?_eq_some_iff.1 hg).1
          clear hke
          go_wp2
          go_ret
          exact ⟨_, rfl, .inr ⟨rfl, hown, hbel, hlt9⟩⟩

/-- while it is looked at: the first k cells written into by the caller -/
def wiped (s : ByteArray) (k : Nat) : List Value := List.replicate k (.int .u8 65) ++ (Bys (lent s)).drop k

theorem wiped_zero (s : ByteArray) : wiped s 0 = Bys (lent s) := by simp [wiped]
theorem wiped_at (s : ByteArray) (k : Nat) (h : k < s.size + 8) : (wiped s k)[k]? = some (.int .u8 ((lent s)[k]'(by rw [lent_length]; exact h)).toNat) := by
  rw [wiped, List.getElem?_append_right (by simp), List.length_replicate, Nat.sub_self, List.getElem?_drop, Nat.add_zero, Bys_at _ _ (by rw [lent_length]; exact h)]
theorem wiped_set (s : ByteArray) (k : Nat) (h : k < s.size + 8) : (wiped s k).set k (.int .u8 65) = wiped s (k + 1) := by
  rw [wiped, wiped, List.set_append, if_neg (by simp), List.length_replicate, Nat.sub_self]
  rw [List.drop_eq_getElem_cons (by rw [Bys_length, lent_length]; exact h), List.set_cons_zero, List.replicate_succ']
  simp

set_option maxRecDepth 100000 in
set_option maxHeartbeats 1600000 in
theorem wholeBytes_nil (s : ByteArray) (w : World) :
    Calls Tryz.prog 30 #[.slice none 0 0, .string s] w fun e w' => e = .returned (.bool true) ∧ w' = w := by
  have hnil := fun (wy : World) (a : Option Addr) (l c : Nat) => Lib.run_eql_slice_nil (P := Tryz.prog) wy 68 5 a l c 0 0 Tryz.underlying68
  go_enter Tryz.func30, Tryz.ntmps30
  go_wp2
  go_ret
  exact ⟨rfl, rfl⟩

set_option maxRecDepth 100000 in
set_option maxHeartbeats 1600000 in
theorem wholeBytes_row (s : ByteArray) (G : Nat) (w : World) (hs : s.size ≤ 140737488351232) (hown : w.ownsRow G 5 1 (.slice (some ⟨G, 0, none⟩) (s.size + 8) (s.size + 8)) (s.size + 8) (Bys (lent s))) :
    Calls Tryz.prog 30 #[.slice (some ⟨G, 0, none⟩) s.size (s.size + 8), .string s] w fun e w' => e = .returned (.bool true) ∧ w.grownBy w' (some G) := by
  have hback : (convert 68 9 (.slice (some ⟨G, 0, none⟩) s.size (s.size + 8))).run Tryz.prog w = .ok (.string s) w := by
    have h := run_convert_bytes_back (P := Tryz.prog) w 68 9 5 ⟨G, 0, none⟩ (s.size + 8) s.data.toList Tryz.underlying68 Tryz.underlying5 Tryz.underlying9 (fun j hj => by
      have hj2 : j < s.size := by simpa using hj
      rw [Addr.add_lit, Nat.zero_add, hown.cellAt j (by omega), Bys_at _ _ (by rw [lent_length]; omega)]
      simp only [lent, List.getElem_append_left hj])
    have hl : s.data.toList.length = s.size := by simp
    rw [hl] at h
    exact h
  have HO : Hid _ := hown
  clear hown
  have hcut : (0 : Int) ≤ (s.size : Int) + 8 := by omega
  have hnil := fun (wy : World) (a : Option Addr) (l c : Nat) => Lib.run_eql_slice_nil (P := Tryz.prog) wy 68 5 a l c 0 0 Tryz.underlying68
  go_enter Tryz.func30, Tryz.ntmps30
  go_wp2
  clear hback hnil
  go_loopw [7, 8] (fun ok i wr => ∃ k : Nat, k ≤ s.size + 8 ∧ i = .int .i64 (k : Int) ∧ ok = .bool true ∧ wr.ownsRow G 5 1 (.slice (some ⟨G, 0, none⟩) (s.size + 8) (s.size + 8)) (s.size + 8) (wiped s k) ∧ w.grownBy wr (some G))
    (fun _ i _ => s.size + 8 - (intOf i).toNat)
  case atStart => exact ⟨0, by omega, rfl, rfl, by rw [wiped_zero]; exact HO.out, World.grownBy.refl _ _⟩
  case round =>
    obtain ⟨k, hk, rfl, rfl, hown, hgr⟩ := hrel
    by_cases hlt : k < s.size + 8
    · have hc0 : wr.cell? ⟨G, k, none⟩ = some (.int .u8 ((lent s)[k]'(by rw [lent_length]; exact hlt)).toNat) := by rw [hown.cellAt k (by omega)]; exact wiped_at s k hlt
      have hfr := hown.frozenAt k
      have hst := hown.stored k (.int .u8 65)
      rw [wiped_set s k hlt] at hst
      have HST : Hid _ := hst.1
      have HG1 : Hid (w.grownBy (wr.setCell ⟨G, k, none⟩ (.int .u8 65)) (some G)) := ⟨hgr.os, hgr.tape, hgr.output, by have := hgr.size; simp [World.setCell]; exact this, fun q hq hn => by rw [hst.2.block q (by have := hgr.size; omega) hn]; exact hgr.block q hq hn⟩
      clear hst hown hgr
      have hlt' : (k : Int) < (s.size : Int) + 8 := by omega
      by_cases hin : k < s.size
      · have hin' : decide ((k : Int) < (s.size : Int)) = true := by simp; omega
        go_wp2
        go_roundw
        case rel => exact ⟨k + 1, by omega, by go_num, rfl, HST.out, HG1.out⟩
        case measure => simp [intOf]; omega
      · have hin' : decide ((k : Int) < (s.size : Int)) = false := by simp; omega
        rw [lent_77 s k (by omega)] at hc0
        have hc1 : wr.cell? ⟨G, k, none⟩ = some (.int .u8 77) := hc0
        clear hc0
        go_wp2
        go_roundw
        case rel => exact ⟨k + 1, by omega, by go_num, rfl, HST.out, HG1.out⟩
        case measure => simp [intOf]; omega
    · have hlt' : ¬ (k : Int) < (s.size : Int) + 8 := by omega
      go_wp2
      go_ret
      exact ⟨rfl, hgr⟩

end Go.Proofs.YtfcbgfomhmcikaaGreatDoor
