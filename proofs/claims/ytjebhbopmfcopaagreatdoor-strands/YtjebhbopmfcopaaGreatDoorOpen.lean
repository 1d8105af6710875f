/-
  A SCRIPT AND A LIST OF REFERENCES THAT CAME IN, OPENED: what their reading says of the cells. Own text of the verifier.
-/
import Derived.Test.YtjebhbopmfcopaaGreatDoorPlays
import Derived.ProofKit
import Derived.OpenShut
import Derived.ShutString
import Derived.ChangeOld
import Derived.Below
import Derived.Deep.Slices
import Derived.SizedLaws
namespace Go.Proofs.YtjebhbopmfcopaaGreatDoor
open Go.ChangeShapes Go.WideShapes Go.ChangeAt Go.RowKit Go.Deep

theorem Tryz.cellsOp : Tryz.prog.cellsOf 70 = 7 := by kernel_rfl
theorem Tryz.cellsConts : Tryz.prog.cellsOf 29 = 1 := by kernel_rfl
theorem Tryz.cellsInt : Tryz.prog.cellsOf 3 = 1 := by kernel_rfl
theorem Tryz.cellsStr : Tryz.prog.cellsOf 9 = 1 := by kernel_rfl
theorem Tryz.cellsRecs : Tryz.prog.cellsOf 46 = 1 := by kernel_rfl
theorem Tryz.bytesOp : Tryz.prog.bytesOf 70 = 88 := by kernel_rfl
theorem Tryz.bytesConts : Tryz.prog.bytesOf 29 = 24 := by kernel_rfl

section
variable {H : Type} {enc : TypeId × Value → H} {w : World} {base : Nat} {spare : Nat → Bool} {held : Bool}

theorem list7 {α : Type} {l : List α} (h : l.length = 7) : ∃ a b c d e f g, l = [a, b, c, d, e, f, g] := by
  match l, h with
  | [a, b, c, d, e, f, g], _ => exact ⟨a, b, c, d, e, f, g, rfl⟩

theorem slice_cell {t e : TypeId} {fuel : Nat} {cs : List Value} {y : DataW H × List MemPlace} (ht : Tryz.prog.underlying t = some (.slice e)) (hf : DataW.trod enc Tryz.prog w base spare held fuel t cs = some y) : ∃ a l c, cs = [.slice a l c] := by
  rcases DataW.trod_slice ht hf with ⟨rfl, _⟩ | ⟨a, len, cap, _, _, _, _, rfl, _⟩
  · exact ⟨none, 0, 0, rfl⟩
  · exact ⟨some a, len, cap, rfl⟩

/-- one step, as it is read -/
theorem open_op {fuel : Nat} {cs : List Value} {x : DataW H × List MemPlace} (h : DataW.trod enc Tryz.prog w base spare held fuel 70 cs = some x) :
    ∃ (o : OpV) (n : Nat) (dl : DataW H) (pl : List MemPlace), cs = o.cells ∧ o.s.size ≤ maxLen ∧ o.t.size ≤ maxLen ∧
      x.1 = .agg [.lit (.int .i64 o.k), .lit (.int .i64 o.a), .lit (.int .i64 o.b), .lit (.int .i64 o.c), .lit (.string o.s.data.toList), .lit (.string o.t.data.toList), dl] ∧
      (Lit.int .i64 o.k).wf = true ∧ (Lit.int .i64 o.a).wf = true ∧ (Lit.int .i64 o.b).wf = true ∧ (Lit.int .i64 o.c).wf = true ∧
      DataW.trod enc Tryz.prog w base spare held n 46 [.slice o.la o.ln o.lc] = some (dl, pl) := by
  obtain ⟨xs, n, _, rfl, hcl, hxl, hf⟩ := DataW.trod_struct Tryz.underlying70 h
  rw [Tryz.cellsOp] at hcl
  obtain ⟨c0, c1, c2, c3, c4, c5, c6, rfl⟩ := list7 hcl
  obtain ⟨x0, x1, x2, x3, x4, x5, x6, rfl⟩ := list7 (show xs.length = 7 from hxl)
  have f0 : DataW.trod enc Tryz.prog w base spare held n 3 (([c0, c1, c2, c3, c4, c5, c6].drop 0).take (Tryz.prog.cellsOf 3)) = some x0 := hf 0 _ rfl
  rw [Tryz.cellsInt] at f0
  have f1 : DataW.trod enc Tryz.prog w base spare held n 3 (([c0, c1, c2, c3, c4, c5, c6].drop 1).take (Tryz.prog.cellsOf 3)) = some x1 := hf 1 _ rfl
  rw [Tryz.cellsInt] at f1
  have f2 : DataW.trod enc Tryz.prog w base spare held n 3 (([c0, c1, c2, c3, c4, c5, c6].drop 2).take (Tryz.prog.cellsOf 3)) = some x2 := hf 2 _ rfl
  rw [Tryz.cellsInt] at f2
  have f3 : DataW.trod enc Tryz.prog w base spare held n 3 (([c0, c1, c2, c3, c4, c5, c6].drop 3).take (Tryz.prog.cellsOf 3)) = some x3 := hf 3 _ rfl
  rw [Tryz.cellsInt] at f3
  have f4 : DataW.trod enc Tryz.prog w base spare held n 9 (([c0, c1, c2, c3, c4, c5, c6].drop 4).take (Tryz.prog.cellsOf 9)) = some x4 := hf 4 _ rfl
  rw [Tryz.cellsStr] at f4
  have f5 : DataW.trod enc Tryz.prog w base spare held n 9 (([c0, c1, c2, c3, c4, c5, c6].drop 5).take (Tryz.prog.cellsOf 9)) = some x5 := hf 5 _ rfl
  rw [Tryz.cellsStr] at f5
  have f6 : DataW.trod enc Tryz.prog w base spare held n 46 (([c0, c1, c2, c3, c4, c5, c6].drop 6).take (Tryz.prog.cellsOf 46)) = some x6 := hf 6 _ rfl
  rw [Tryz.cellsRecs] at f6
  obtain ⟨k, e0, rfl, w0⟩ := DataW.trod_int Tryz.underlying3 f0
  obtain ⟨a, e1, rfl, w1⟩ := DataW.trod_int Tryz.underlying3 f1
  obtain ⟨b, e2, rfl, w2⟩ := DataW.trod_int Tryz.underlying3 f2
  obtain ⟨c, e3, rfl, w3⟩ := DataW.trod_int Tryz.underlying3 f3
  obtain ⟨s, e4, rfl, w4⟩ := DataW.trod_string Tryz.underlying9 f4
  obtain ⟨t, e5, rfl, w5⟩ := DataW.trod_string Tryz.underlying9 f5
  have f6' : DataW.trod enc Tryz.prog w base spare held n 46 [c6] = some x6 := f6
  obtain ⟨la, ln, lc, e6⟩ := slice_cell Tryz.underlying46 f6'
  simp only [List.drop, List.take, List.cons.injEq, and_true] at e0 e1 e2 e3 e4 e5 e6
  subst e0 e1 e2 e3 e4 e5 e6
  exact ⟨⟨k, a, b, c, s, t, la, ln, lc⟩, n, x6.1, x6.2, rfl, w4, w5, rfl, w0, w1, w2, w3, f6'⟩

/-- a script, as it is read: its steps -/
theorem open_script {v : Value} {d : DataW H} {p : List MemPlace} (hv : ∃ a l c, v = .slice a l c) (h : DataW.Trod enc Tryz.prog w 0 (fun _ => true) true 23 v d p) :
    (v = .slice none 0 0 ∧ d = .nil ∧ Src w v 0 []) ∨
    ∃ (ss : List OpV) (elems sp : List (DataW H)), Src w v ss.length (ss.flatMap OpV.cells) ∧ d = .slice elems sp ∧ elems.length = ss.length ∧
      ∀ o ∈ ss, ∃ (n : Nat) (dl : DataW H) (pl : List MemPlace), o.s.size ≤ maxLen ∧ o.t.size ≤ maxLen ∧
        .agg [.lit (.int .i64 o.k), .lit (.int .i64 o.a), .lit (.int .i64 o.b), .lit (.int .i64 o.c), .lit (.string o.s.data.toList), .lit (.string o.t.data.toList), dl] ∈ elems ∧
        (Lit.int .i64 o.k).wf = true ∧ (Lit.int .i64 o.a).wf = true ∧ (Lit.int .i64 o.b).wf = true ∧ (Lit.int .i64 o.c).wf = true ∧
        DataW.trod enc Tryz.prog w 0 (fun _ => true) true n 46 [.slice o.la o.ln o.lc] = some (dl, pl) := by
  obtain ⟨va, vl, vc, rfl⟩ := hv
  obtain ⟨fuel, hf⟩ := h
  rcases open_slice Tryz.underlying23 hf with ⟨hcs, hx⟩ | ⟨a, len, cap, m, n, D, Pl, hcs, _, hl, hm, hmm, hx, hel⟩
  · simp [Value.cells] at hcs
    obtain ⟨rfl, rfl, rfl⟩ := hcs
    simp only [Prod.mk.injEq] at hx
    exact .inl ⟨rfl, hx.1, .inl ⟨rfl, rfl, rfl⟩⟩
  · right
    simp [Value.cells] at hcs
    obtain ⟨rfl, rfl, rfl⟩ := hcs
    simp only [Prod.mk.injEq] at hx
    obtain ⟨rfl, _⟩ := hx
    have hml : vl ≤ m := by rw [hmm]; simpa using hl
    have hel' : ∀ i, i < vl → ∃ o : OpV, ∃ (n' : Nat) (dl : DataW H) (pl : List MemPlace), w.cells? 0 (a.add (i * 7)) 7 = some o.cells ∧ o.s.size ≤ maxLen ∧ o.t.size ≤ maxLen ∧
        D i = .agg [.lit (.int .i64 o.k), .lit (.int .i64 o.a), .lit (.int .i64 o.b), .lit (.int .i64 o.c), .lit (.string o.s.data.toList), .lit (.string o.t.data.toList), dl] ∧
        (Lit.int .i64 o.k).wf = true ∧ (Lit.int .i64 o.a).wf = true ∧ (Lit.int .i64 o.b).wf = true ∧ (Lit.int .i64 o.c).wf = true ∧
        DataW.trod enc Tryz.prog w 0 (fun _ => true) true n' 46 [.slice o.la o.ln o.lc] = some (dl, pl) := by
      intro i hi
      obtain ⟨cs', h1, h2⟩ := hel i (by omega)
      rw [Tryz.cellsOp] at h1
      obtain ⟨o, n', dl, pl, rfl, g1, g2, g3, g4, g5, g6, g7, g8⟩ := open_op h2
      exact ⟨o, n', dl, pl, h1, g1, g2, g3, g4, g5, g6, g7, g8⟩
    have : Inhabited OpV := ⟨⟨0, 0, 0, 0, ⟨#[]⟩, ⟨#[]⟩, none, 0, 0⟩⟩
    obtain ⟨f, hfo⟩ := choose_lt hel'
    refine ⟨(List.range vl).map f, (List.range vl).map D, _, .inr ⟨a, vc, by simp, ?_⟩, rfl, by simp, ?_⟩
    · intro j u hj
      have hlen : j < vl * 7 := by
        have := (List.getElem?_eq_some_iff.1 hj).1
        rw [cells_length] at this
        simpa using this
      have hjk : j / 7 < vl := by omega
      have hj' : j = j / 7 * 7 + j % 7 := by omega
      rw [hj', cells_at _ (j / 7) (by simpa using hjk) (j % 7) (by omega)] at hj
      simp only [List.getElem_map, List.getElem_range] at hj
      obtain ⟨n', dl, pl, h1, _⟩ := hfo (j / 7) hjk
      obtain ⟨_, hlen7, hcell⟩ := World.cells?_some h1
      have := hcell (j % 7) (by omega)
      rw [add_add, hj] at this
      rw [hj']
      exact this
    · intro o ho
      obtain ⟨i, hi, rfl⟩ := List.mem_map.1 ho
      obtain ⟨n', dl, pl, _, g1, g2, g3, g4⟩ := hfo i (List.mem_range.1 hi)
      exact ⟨n', dl, pl, g1, g2, by rw [← g3]; exact List.mem_map.2 ⟨i, hi, rfl⟩, g4⟩

/-- the references, as they are read -/
theorem open_refs {v : Value} {d : DataW H} {p : List MemPlace} (hv : ∃ a l c, v = .slice a l c) (h : DataW.Trod enc Tryz.prog w 0 (fun _ => true) true 22 v d p) :
    (v = .slice none 0 0 ∧ d = .nil ∧ Src w v 0 []) ∨
    ∃ (rs : List Value) (elems sp : List (DataW H)), Src w v rs.length rs ∧ d = .slice elems sp ∧ elems.length = rs.length ∧ (∀ u ∈ rs, u.oneCell' = true) ∧
      ∀ i, i < rs.length → ∃ (n a l c : Nat) (ao : Option Addr) (pl : List MemPlace) (dl : DataW H), rs[i]? = some (.slice ao l c) ∧ elems[i]? = some dl ∧ a = 0 ∧ DataW.trod enc Tryz.prog w 0 (fun _ => true) true n 29 [.slice ao l c] = some (dl, pl) := by
  obtain ⟨va, vl, vc, rfl⟩ := hv
  obtain ⟨fuel, hf⟩ := h
  rcases open_slice Tryz.underlying22 hf with ⟨hcs, hx⟩ | ⟨a, len, cap, m, n, D, Pl, hcs, _, hl, hm, hmm, hx, hel⟩
  · simp [Value.cells] at hcs
    obtain ⟨rfl, rfl, rfl⟩ := hcs
    simp only [Prod.mk.injEq] at hx
    exact .inl ⟨rfl, hx.1, .inl ⟨rfl, rfl, rfl⟩⟩
  · right
    simp [Value.cells] at hcs
    obtain ⟨rfl, rfl, rfl⟩ := hcs
    simp only [Prod.mk.injEq] at hx
    obtain ⟨rfl, _⟩ := hx
    have hml : vl ≤ m := by rw [hmm]; simpa using hl
    have hel' : ∀ i, i < vl → ∃ u : Value, ∃ (l c : Nat) (ao : Option Addr), u = .slice ao l c ∧ w.cell? (a.add i) = some u ∧ DataW.trod enc Tryz.prog w 0 (fun _ => true) true n 29 [u] = some (D i, Pl i) := by
      intro i hi
      obtain ⟨cs', h1, h2⟩ := hel i (by omega)
      rw [Tryz.cellsConts, Nat.mul_one] at h1
      obtain ⟨ao, l, c, rfl⟩ := slice_cell Tryz.underlying29 h2
      exact ⟨_, l, c, ao, rfl, cell_of_cells?_one h1, h2⟩
    have : Inhabited Value := ⟨undef⟩
    obtain ⟨f, hfo⟩ := choose_lt hel'
    refine ⟨(List.range vl).map f, (List.range vl).map D, _, .inr ⟨a, vc, by simp, ?_⟩, rfl, by simp, ?_, ?_⟩
    · intro j u hj
      have hlen : j < vl := by
        have := (List.getElem?_eq_some_iff.1 hj).1
        simpa using this
      obtain ⟨_, _, _, _, h2, _⟩ := hfo j hlen
      rw [h2]
      simpa [hlen] using hj
    · intro u hu
      obtain ⟨i, hi, rfl⟩ := List.mem_map.1 hu
      obtain ⟨_, _, _, h1, _⟩ := hfo i (List.mem_range.1 hi)
      rw [h1]; rfl
    · intro i hi
      have hiv : i < vl := by simpa using hi
      obtain ⟨l, c, ao, h1, h2, h3⟩ := hfo i hiv
      rw [h1] at h3
      exact ⟨n, 0, l, c, ao, Pl i, D i, by simp [hiv, h1], by simp [hiv], rfl, h3⟩

end

section
variable {H : Type}
theorem weightsAll_mem {P : Program} {e : TypeId} {d : DataW H} {elems : List (DataW H)} (h : d ∈ elems) {n : Nat} (hn : n ∈ d.weights P e) : n ∈ DataW.weightsAll P e elems := by
  induction elems with
  | nil => cases h
  | cons x r ih =>
    rw [DataW.weightsAll]
    rcases List.mem_cons.1 h with rfl | h
    · exact List.mem_append_left _ hn
    · exact List.mem_append_right _ (ih h)

/-- a step's texts are within the reach -/
theorem op_sized {elems sp : List (DataW H)} {o : OpV} {dl : DataW H} (h : ∀ n ∈ (DataW.slice elems sp).weights Tryz.prog 23, n ≤ reachBytes)
    (hm : .agg [.lit (.int .i64 o.k), .lit (.int .i64 o.a), .lit (.int .i64 o.b), .lit (.int .i64 o.c), .lit (.string o.s.data.toList), .lit (.string o.t.data.toList), dl] ∈ elems) :
    o.s.size ≤ reachBytes ∧ o.t.size ≤ reachBytes := by
  have hw : ∀ n ∈ DataW.weights Tryz.prog 70 (.agg [.lit (.int .i64 o.k), .lit (.int .i64 o.a), .lit (.int .i64 o.b), .lit (.int .i64 o.c), .lit (.string o.s.data.toList), .lit (.string o.t.data.toList), dl]), n ≤ reachBytes := by
    intro n hn
    refine h n ?_
    simp only [DataW.weights, Tryz.underlying23]
    exact List.mem_cons_of_mem _ (List.mem_append_left _ (weightsAll_mem hm hn))
  simp only [DataW.weights, Tryz.underlying70, DataW.weightsEach, List.map] at hw
  constructor
  · exact hw _ (by simp)
  · exact hw _ (by simp)
end

end Go.Proofs.YtjebhbopmfcopaaGreatDoor
