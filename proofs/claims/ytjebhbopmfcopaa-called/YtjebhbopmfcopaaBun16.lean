/-
  TEXTS AND A PIECE THAT CAME IN, OPENED: what their reading says of the cells. Own text of the verifier.
-/
import Derived.Test.YtjebhbopmfcopaaBun15
import Derived.ProofKit
import Derived.OpenShut
import Derived.ShutString
import Derived.ChangeOld
import Derived.Below
import Derived.Deep.Slices
import Derived.SizedLaws
import Derived.SliceStrings
import Derived.ChangeSlices
namespace Go.Proofs.Ytjebhbopmfcopaa
open Go.ChangeShapes Go.WideShapes Go.ChangeAt Go.RowKit Go.Deep

theorem Try.cellsCut : Try.prog.cellsOf 31 = 6 := by kernel_rfl
theorem Try.cellsIntK : Try.prog.cellsOf 3 = 1 := by kernel_rfl
theorem Try.cellsStrK : Try.prog.cellsOf 9 = 1 := by kernel_rfl
theorem Try.cellsIntsK : Try.prog.cellsOf 29 = 1 := by kernel_rfl
theorem Try.bytesStrK : Try.prog.bytesOf 9 = 16 := by kernel_rfl
theorem Try.bytesIntK : Try.prog.bytesOf 3 = 8 := by kernel_rfl

theorem Kp.i64_wf {a : Int} (h : (Lit.int .i64 a).wf = true) : Kp.i64 a := by
  have h5 : (decide (IntKind.i64.min ≤ a) && decide (a ≤ IntKind.i64.max)) = true := h
  rw [Bool.and_eq_true] at h5
  have m1 : IntKind.i64.min = -9223372036854775808 := by decide
  have m2 : IntKind.i64.max = 9223372036854775807 := by decide
  have h6 := of_decide_eq_true h5.1
  have h7 := of_decide_eq_true h5.2
  rw [m1] at h6
  rw [m2] at h7
  exact ⟨h6, h7⟩

section
variable {H : Type} {enc : TypeId × Value → H} {w : World}

theorem list6 {α : Type} {l : List α} (h : l.length = 6) : ∃ a b c d e f, l = [a, b, c, d, e, f] := by
  match l, h with
  | [a, b, c, d, e, f], _ => exact ⟨a, b, c, d, e, f, rfl⟩

/-- texts, as they are read -/
theorem Kp.open_texts {v : Value} {d : DataW H} {p : List MemPlace} (hv : ∃ a l c, v = .slice a l c) (h : DataW.Trod enc Try.prog w 0 (fun _ => true) true 28 v d p) :
    ∃ ts : List ByteArray, Src w v ts.length (ts.map Value.string) ∧ (∀ t ∈ ts, t.size ≤ maxLen) ∧ (ts = [] ∨ ∃ elems sp, d = .slice elems sp ∧ elems.length = ts.length) := by
  obtain ⟨va, vl, vc, rfl⟩ := hv
  obtain ⟨fuel, hf⟩ := h
  rcases open_strings Try.underlying28 Try.underlying9 Try.cellsStrK hf with ⟨hcs, _⟩ | ⟨a, len, cap, ss, hcs, _, hl, _, hss, hx, hcell, hsz⟩
  · simp [Value.cells] at hcs
    obtain ⟨rfl, rfl, rfl⟩ := hcs
    exact ⟨[], .inl ⟨rfl, rfl, rfl⟩, fun t ht => (by cases ht), .inl rfl⟩
  · simp [Value.cells] at hcs
    obtain ⟨rfl, rfl, rfl⟩ := hcs
    have hlen : vl ≤ ss.length := by rw [hss]; simpa using hl
    have hts : (ss.take vl).length = vl := by rw [List.length_take]; omega
    refine ⟨ss.take vl, .inr ⟨a, vc, by rw [hts], fun j u hj => ?_⟩, fun t ht => hsz t (List.mem_of_mem_take ht), .inr ?_⟩
    · have hjl : j < vl := by
        have := (List.getElem?_eq_some_iff.1 hj).1
        rw [List.length_map, hts] at this
        exact this
      rw [hcell j (by omega), ← hj, List.getElem?_map, List.getElem?_take, if_pos hjl, List.getD_eq_getElem?_getD, List.getElem?_eq_getElem (by omega)]
      rfl
    · simp only [Prod.mk.injEq] at hx
      exact ⟨_, _, hx.1, by simp [strs]⟩

/-- numbers, as they are read -/
theorem Kp.open_nums {fuel : Nat} {a : Option Addr} {l c : Nat} {x : DataW H × List MemPlace} (h : DataW.trod enc Try.prog w 0 (fun _ => true) true fuel 29 [.slice a l c] = some x) :
    ∃ rs : List Int, Src w (.slice a l c) rs.length (rs.map (Value.int .i64)) ∧ (∀ r ∈ rs, Kp.i64 r) ∧ (rs = [] ∨ ∃ elems sp, x.1 = .slice elems sp ∧ elems.length = rs.length) := by
  rcases open_ints Try.underlying29 Try.underlying3 Try.cellsIntK h with ⟨hcs, _⟩ | ⟨ad, len, cap, zs, hcs, _, hl, _, hzs, hx, hcell, hwf⟩
  · simp at hcs
    obtain ⟨rfl, rfl, rfl⟩ := hcs
    exact ⟨[], .inl ⟨rfl, rfl, rfl⟩, fun t ht => (by cases ht), .inl rfl⟩
  · simp at hcs
    obtain ⟨rfl, rfl, rfl⟩ := hcs
    have hlen : l ≤ zs.length := by rw [hzs]; simpa using hl
    have hts : (zs.take l).length = l := by rw [List.length_take]; omega
    refine ⟨zs.take l, .inr ⟨ad, c, by rw [hts], fun j u hj => ?_⟩, fun r hr => Kp.i64_wf (hwf r (List.mem_of_mem_take hr)), .inr ?_⟩
    · have hjl : j < l := by
        have := (List.getElem?_eq_some_iff.1 hj).1
        rw [List.length_map, hts] at this
        exact this
      rw [hcell j (by omega), ← hj, List.getElem?_map, List.getElem?_take, if_pos hjl, List.getD_eq_getElem?_getD, List.getElem?_eq_getElem (by omega)]
      rfl
    · rw [hx]
      exact ⟨_, _, rfl, by simp [lits]⟩

/-- a piece, as it is read -/
theorem Kp.open_cut {v : Value} {d : DataW H} {p : List MemPlace} {r : Reach} {b0 : Nat} (hval : Value.okWide Try.prog w r b0 31 v) (h : DataW.Trod enc Try.prog w 0 (fun _ => true) true 31 v d p) :
    ∃ (x0 x1 x2 x3 : Int) (s : ByteArray) (a : Option Addr) (l c : Nat) (rs : List Int) (dl : DataW H), v = .agg #[.int .i64 x0, .int .i64 x1, .int .i64 x2, .int .i64 x3, .string s, .slice a l c] ∧ Kp.i64 x0 ∧ Kp.i64 x1 ∧ Kp.i64 x2 ∧ Kp.i64 x3 ∧
      d = .agg [.lit (.int .i64 x0), .lit (.int .i64 x1), .lit (.int .i64 x2), .lit (.int .i64 x3), .lit (.string s.data.toList), dl] ∧
      Src w (.slice a l c) rs.length (rs.map (Value.int .i64)) ∧ (∀ r ∈ rs, Kp.i64 r) ∧ (rs = [] ∨ ∃ elems sp, dl = .slice elems sp ∧ elems.length = rs.length) := by
  obtain ⟨cs, rfl, hsize⟩ := okWide_struct Try.underlying31 hval
  obtain ⟨fuel, hf⟩ := h
  obtain ⟨xs, n, _, hx, hcl, hxl, hfs⟩ := DataW.trod_struct Try.underlying31 hf
  rw [Try.cellsCut] at hcl
  have hvc : (Value.agg cs).cells = cs := rfl
  rw [hvc] at hcl hfs
  obtain ⟨c0, c1, c2, c3, c4, c5, hcs⟩ := list6 hcl
  obtain ⟨y0, y1, y2, y3, y4, y5, rfl⟩ := list6 (show xs.length = 6 from hxl)
  rw [hcs] at hfs
  have f0 : DataW.trod enc Try.prog w 0 (fun _ => true) true n 3 (([c0, c1, c2, c3, c4, c5].drop 0).take (Try.prog.cellsOf 3)) = some y0 := hfs 0 _ rfl
  rw [Try.cellsIntK] at f0
  have f1 : DataW.trod enc Try.prog w 0 (fun _ => true) true n 3 (([c0, c1, c2, c3, c4, c5].drop 1).take (Try.prog.cellsOf 3)) = some y1 := hfs 1 _ rfl
  rw [Try.cellsIntK] at f1
  have f2 : DataW.trod enc Try.prog w 0 (fun _ => true) true n 3 (([c0, c1, c2, c3, c4, c5].drop 2).take (Try.prog.cellsOf 3)) = some y2 := hfs 2 _ rfl
  rw [Try.cellsIntK] at f2
  have f3 : DataW.trod enc Try.prog w 0 (fun _ => true) true n 3 (([c0, c1, c2, c3, c4, c5].drop 3).take (Try.prog.cellsOf 3)) = some y3 := hfs 3 _ rfl
  rw [Try.cellsIntK] at f3
  have f4 : DataW.trod enc Try.prog w 0 (fun _ => true) true n 9 (([c0, c1, c2, c3, c4, c5].drop 4).take (Try.prog.cellsOf 9)) = some y4 := hfs 4 _ rfl
  rw [Try.cellsStrK] at f4
  have f5 : DataW.trod enc Try.prog w 0 (fun _ => true) true n 29 (([c0, c1, c2, c3, c4, c5].drop 5).take (Try.prog.cellsOf 29)) = some y5 := hfs 5 _ rfl
  rw [Try.cellsIntsK] at f5
  obtain ⟨x0, e0, rfl, w0⟩ := DataW.trod_int Try.underlying3 f0
  obtain ⟨x1, e1, rfl, w1⟩ := DataW.trod_int Try.underlying3 f1
  obtain ⟨x2, e2, rfl, w2⟩ := DataW.trod_int Try.underlying3 f2
  obtain ⟨x3, e3, rfl, w3⟩ := DataW.trod_int Try.underlying3 f3
  obtain ⟨s, e4, rfl, w4⟩ := DataW.trod_string Try.underlying9 f4
  have f5' : DataW.trod enc Try.prog w 0 (fun _ => true) true n 29 [c5] = some y5 := f5
  obtain ⟨a, l, c, e5⟩ : ∃ a l c, [c5] = [Value.slice a l c] := by
    rcases DataW.trod_slice Try.underlying29 f5' with ⟨h, _⟩ | ⟨a, len, cap, _, _, _, _, h, _⟩
    · exact ⟨none, 0, 0, h⟩
    · exact ⟨some a, len, cap, h⟩
  simp only [List.drop, List.take, List.cons.injEq, and_true] at e0 e1 e2 e3 e4 e5
  subst e0 e1 e2 e3 e4 e5
  obtain ⟨rs, g1, g2, g3⟩ := Kp.open_nums f5'
  have hcs' : cs = #[.int .i64 x0, .int .i64 x1, .int .i64 x2, .int .i64 x3, .string s, .slice a l c] := by
    apply Array.toList_inj.1
    exact hcs
  simp only [Prod.mk.injEq] at hx
  refine ⟨x0, x1, x2, x3, s, a, l, c, rs, y5.1, by rw [hcs'], Kp.i64_wf w0, Kp.i64_wf w1, Kp.i64_wf w2, Kp.i64_wf w3, hx.1, g1, g2, g3⟩

theorem Kp.cut_sized {ts : List TypeId} {ds : List (DataW H)} {j : Nat} {x0 x1 x2 x3 : Int} {s : ByteArray} {dl : DataW H} (h : (DataW.weightsEach Try.prog ts ds).all (· ≤ reachBytes) = true) (ht : ts[j]? = some 31)
    (hd : ds[j]? = some (.agg [.lit (.int .i64 x0), .lit (.int .i64 x1), .lit (.int .i64 x2), .lit (.int .i64 x3), .lit (.string s.data.toList), dl])) :
    s.size ≤ reachBytes ∧ ∀ elems sp, dl = .slice elems sp → (elems.length + sp.length) * 8 ≤ reachBytes := by
  have hw : ∀ n ∈ DataW.weights Try.prog 31 (.agg [.lit (.int .i64 x0), .lit (.int .i64 x1), .lit (.int .i64 x2), .lit (.int .i64 x3), .lit (.string s.data.toList), dl]), n ≤ reachBytes := by
    intro n hn
    simpa using List.all_eq_true.1 h n (DataW.weights_mem_each ht hd n hn)
  simp only [DataW.weights, Try.underlying31, DataW.weightsEach, List.map] at hw
  constructor
  · exact hw _ (by simp)
  · rintro elems sp rfl
    refine hw _ ?_
    simp [DataW.weights, Try.underlying29, Try.bytesIntK]
end

end Go.Proofs.Ytjebhbopmfcopaa
