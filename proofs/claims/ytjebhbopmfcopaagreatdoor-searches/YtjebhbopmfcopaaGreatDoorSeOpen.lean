/-
  THE CONTIGS OF A REFERENCE THAT CAME IN, OPENED: what their reading says of the cells. Own text of the verifier.
-/
import Derived.Test.YtjebhbopmfcopaaGreatDoorOpen
import Derived.Test.YtjebhbopmfcopaaGreatDoorTxPairs
namespace Go.Proofs.YtjebhbopmfcopaaGreatDoor
open Go.ChangeShapes Go.WideShapes Go.ChangeAt Go.RowKit Go.Deep

theorem Tryz.cellsContig : Tryz.prog.cellsOf 59 = 2 := by kernel_rfl
theorem Tryz.bytesContig : Tryz.prog.bytesOf 59 = 32 := by kernel_rfl

/-- a reference: contigs that lie somewhere, of a size that can be -/
structure RefOk (w : World) (v : Value) (cs : List Pr) : Prop where
  src : Src w v cs.length (Prs cs)
  len : cs.length * 32 ≤ 140737488351232
  txt : ∀ x ∈ cs, x.1.length ≤ 140737488351232 ∧ x.2.length ≤ 140737488351232

section
variable {H : Type} {enc : TypeId × Value → H} {w : World} {base : Nat} {spare : Nat → Bool} {held : Bool}

theorem list2 {α : Type} {l : List α} (h : l.length = 2) : ∃ a b, l = [a, b] := by
  match l, h with
  | [a, b], _ => exact ⟨a, b, rfl⟩

theorem open_contig {fuel : Nat} {cs : List Value} {x : DataW H × List MemPlace} (h : DataW.trod enc Tryz.prog w base spare held fuel 59 cs = some x) :
    ∃ p : Pr, cs = prCells p ∧ x.1 = .agg [.lit (.string p.1), .lit (.string p.2)] := by
  obtain ⟨xs, n, _, rfl, hcl, hxl, hf⟩ := DataW.trod_struct Tryz.underlying59 h
  rw [Tryz.cellsContig] at hcl
  obtain ⟨c0, c1, rfl⟩ := list2 hcl
  obtain ⟨x0, x1, rfl⟩ := list2 (show xs.length = 2 from hxl)
  have f0 : DataW.trod enc Tryz.prog w base spare held n 9 (([c0, c1].drop 0).take (Tryz.prog.cellsOf 9)) = some x0 := hf 0 _ rfl
  rw [Tryz.cellsStr] at f0
  have f1 : DataW.trod enc Tryz.prog w base spare held n 9 (([c0, c1].drop 1).take (Tryz.prog.cellsOf 9)) = some x1 := hf 1 _ rfl
  rw [Tryz.cellsStr] at f1
  obtain ⟨s, e0, rfl, w0⟩ := DataW.trod_string Tryz.underlying9 f0
  obtain ⟨t, e1, rfl, w1⟩ := DataW.trod_string Tryz.underlying9 f1
  simp only [List.drop, List.take, List.cons.injEq, and_true] at e0 e1
  subst e0 e1
  exact ⟨(s.data.toList, t.data.toList), rfl, rfl⟩

theorem open_ref {fuel l c : Nat} {ao : Option Addr} {dl : DataW H} {pl : List MemPlace} (h : DataW.trod enc Tryz.prog w 0 (fun _ => true) true fuel 29 [.slice ao l c] = some (dl, pl))
    (hs : ∀ n ∈ dl.weights Tryz.prog 29, n ≤ reachBytes) : ∃ cs, RefOk w (.slice ao l c) cs := by
  rcases open_slice Tryz.underlying29 h with ⟨hcs, hx⟩ | ⟨a, len, cap, m, n, D, Pl, hcs, _, hl, hm, hmm, hx, hel⟩
  · simp at hcs
    obtain ⟨rfl, rfl, rfl⟩ := hcs
    exact ⟨[], .inl ⟨rfl, rfl, rfl⟩, by simp, by simp⟩
  · simp at hcs
    obtain ⟨rfl, rfl, rfl⟩ := hcs
    simp only [Prod.mk.injEq] at hx
    obtain ⟨rfl, _⟩ := hx
    have hml : l ≤ m := by rw [hmm]; simpa using hl
    have hel' : ∀ i, i < l → ∃ p : Pr, w.cells? 0 (a.add (i * 2)) 2 = some (prCells p) ∧ D i = .agg [.lit (.string p.1), .lit (.string p.2)] := by
      intro i hi
      obtain ⟨cs', h1, h2⟩ := hel i (by omega)
      rw [Tryz.cellsContig] at h1
      obtain ⟨p, rfl, h3⟩ := open_contig h2
      exact ⟨p, h1, h3⟩
    have : Inhabited Pr := ⟨([], [])⟩
    obtain ⟨f, hfo⟩ := choose_lt hel'
    refine ⟨(List.range l).map f, .inr ⟨a, c, by simp, ?_⟩, ?_, ?_⟩
    · intro j u hj
      have hlen : j < l * 2 := by
        have := (List.getElem?_eq_some_iff.1 hj).1
        rw [Prs_length] at this
        simpa using this
      have hjk : j / 2 < l := by omega
      have hj' : j = j / 2 * 2 + j % 2 := by omega
      rw [hj', Prs_at _ (j / 2) (by simpa using hjk) (j % 2) (by omega)] at hj
      simp only [List.getElem_map, List.getElem_range] at hj
      obtain ⟨h1, _⟩ := hfo (j / 2) hjk
      obtain ⟨_, hlen2, hcell⟩ := World.cells?_some h1
      have := hcell (j % 2) (by omega)
      rw [add_add, hj] at this
      rw [hj']
      exact this
    · have h1 := hs ((((List.range l).map D).length + _) * Tryz.prog.bytesOf 59) (by
        simp only [DataW.weights, Tryz.underlying29]
        exact List.mem_cons_self ..)
      rw [Tryz.bytesContig] at h1
      simp only [reachBytes, List.length_map, List.length_range] at h1 ⊢
      omega
    · intro x hx
      obtain ⟨i, hi, rfl⟩ := List.mem_map.1 hx
      obtain ⟨_, h2⟩ := hfo i (List.mem_range.1 hi)
      have hw : ∀ n ∈ (D i).weights Tryz.prog 59, n ≤ reachBytes := by
        intro n hn
        refine hs n ?_
        simp only [DataW.weights, Tryz.underlying29]
        exact List.mem_cons_of_mem _ (List.mem_append_left _ (weightsAll_mem (List.mem_map.2 ⟨i, hi, rfl⟩) hn))
      rw [h2] at hw
      simp only [DataW.weights, Tryz.underlying59, DataW.weightsEach, List.map] at hw
      have w1 := hw (f i).1.length (by simp)
      have w2 := hw (f i).2.length (by simp)
      simp only [reachBytes] at w1 w2
      omega

end

end Go.Proofs.YtjebhbopmfcopaaGreatDoor
