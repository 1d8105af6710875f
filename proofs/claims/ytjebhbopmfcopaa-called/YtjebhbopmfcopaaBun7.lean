/-
  WHAT IS HANDED IN: bytes with spare room, laid by the statement itself, and looked at again behind the call. Own text of the verifier.
  TWO STRUCTS OF TWO TEXTS, held against each other. Own text of the verifier.
  CONTIGS THAT ARE HANDED IN: with spare room, laid by the statement itself, and looked at again behind the call. Own text of the verifier.
  A SCRIPT AND A LIST OF REFERENCES THAT CAME IN, OPENED: what their reading says of the cells. Own text of the verifier.
  THE CONTIGS OF A REFERENCE THAT CAME IN, OPENED: what their reading says of the cells. Own text of the verifier.
  THE WALKS of 'lentContigs' and 'wholeContigs'. Own text of the verifier.
  THE WALK of 'wholeContigs'. Own text of the verifier.
  LISTS OF ONE STRUCT OF TWO CELLS, many times: laws on rows that share their room (as TxMarks, for whatever two cells). Own text of the verifier.
-/
import Derived.Test.YtjebhbopmfcopaaBun2
import Derived.Test.YtjebhbopmfcopaaBun1
import Derived.Test.YtjebhbopmfcopaaBun5
import Derived.Lib.BufferWrite
import Derived.Test.YtjebhbopmfcopaaBun3
import Derived.Laws.StructEq
import Derived.BigQuiet
import Derived.Test.YtjebhbopmfcopaaBun6
import Derived.ProofKit
import Derived.OpenShut
import Derived.ShutString
import Derived.ChangeOld
import Derived.Below
import Derived.Deep.Slices
import Derived.SizedLaws
namespace Go.Proofs.Ytjebhbopmfcopaa
open Go.RowKit

/-- the bytes of a text, and eight more of the caller's behind them -/
def lent (s : ByteArray) : List UInt8 := s.data.toList ++ List.replicate 8 77

theorem lent_length (s : ByteArray) : (lent s).length = s.size + 8 := by simp [lent]

theorem lent_77 (s : ByteArray) (k : Nat) (h1 : s.size ≤ k) (h : k < (lent s).length) : (lent s)[k] = 77 := by
  have h2 : k < s.size + 8 := by rw [lent_length] at h; exact h
  have h3 : (lent s)[k]? = some 77 := by
    rw [lent, List.getElem?_append_right (by simpa using h1), List.getElem?_replicate, if_pos (by simp; omega)]
  rw [List.getElem?_eq_getElem h] at h3
  exact Option.some.inj h3

/-- what 'lentBytes' answers: nil, or a new row -/
def Lent (w w' : World) (s : ByteArray) (v : Value) : Prop :=
  (s.size = 0 ∧ v = .slice none 0 0 ∧ w' = w) ∨
  (v = .slice (some ⟨w.heap.size, 0, none⟩) s.size (s.size + 8) ∧ w'.ownsRow w.heap.size 5 1 (.slice (some ⟨w.heap.size, 0, none⟩) (s.size + 8) (s.size + 8)) (s.size + 8) (Bys (lent s)) ∧ Below w.heap.size w w' ∧ w.heap.size < w'.heap.size)

theorem isEmpty_size (s : ByteArray) : s.data.toList.isEmpty = decide (s.size = 0) := by
  cases h : s.data.toList with
  | nil => have : s.size = 0 := by have := congrArg List.length h; simpa using this
           simp [this]
  | cons a r => have : s.size = r.length + 1 := by have := congrArg List.length h; simpa using this
                simp [this]

theorem Try.sizeU8 : (Try.prog.info? 5).map (·.size) = some 1 := by kernel_rfl

/-- 'copy(out, s)' into a row just made -/
theorem copy_lent (s : ByteArray) (G : Nat) (w1 : World) (hown : w1.ownsRow G 5 1 (.slice (some ⟨G, 0, none⟩) (s.size + 8) (s.size + 8)) (s.size + 8) (List.replicate (s.size + 8) (.int .u8 0))) :
    ∃ W2, (∀ ty, (Builtin.copy_ #[59, 9] ty #[.slice (some ⟨G, 0, none⟩) (s.size + 8) (s.size + 8), .string s]).run Try.prog w1 = .ok (goInt s.size) W2) ∧
      W2.ownsRow G 5 1 (.slice (some ⟨G, 0, none⟩) (s.size + 8) (s.size + 8)) (s.size + 8) (filled (lent s) (s.size + 8) s.size) ∧ w1.grownBy W2 (some G) := by
  rcases hown.2 with ⟨h, _⟩ | ⟨g, cap, cur, hv, hb, hg, hnc, hcm, hcs, htake⟩
  · simp at h
  · simp only [Value.slice.injEq, Option.some.injEq, Addr.mk.injEq, and_true, true_and] at hv
    obtain ⟨rfl, rfl⟩ := hv
    have hc : cur.toList = List.replicate (s.size + 8) (.int .u8 0) := by
      rw [← htake, List.take_of_length_le (by rw [Array.length_toList, hcs]; exact Nat.le_refl _)]
    refine ⟨_, fun ty => Lib.run_copy_row_string (P := Try.prog) w1 59 9 ty 5 G 0 (s.size + 8) (s.size + 8) s cur 5 Try.underlying59 Try.sizeU8 hg (by omega) (by rw [hcs]; omega), ?_, ⟨rfl, rfl, rfl, by simp, fun k _ hk => setRow_other w1 G k _ (fun e => hk (by simp [e]))⟩⟩
    have he : (cur.toList.take 0 ++ Lib.byteCells s.data.toList ++ cur.toList.drop (0 + s.size)) = filled (lent s) (s.size + 8) s.size := by
      rw [hc, filled, lent, List.take_zero, List.nil_append, List.drop_replicate, List.take_append_of_le_length (by simp), List.take_of_length_le (by simp), Nat.zero_add]
      rfl
    have hl : (filled (lent s) (s.size + 8) s.size).length = s.size + 8 := by
      rw [filled, List.length_append, Bys_length, List.length_take, lent_length, List.length_replicate]; omega
    rw [he]
    refine ⟨by rw [hl]; omega, .inr ⟨G, s.size + 8, _, rfl, hb, setRow_heap w1 G cur _ 5 _ hg, Nat.le_refl _, hcm, by simp [hl], ?_⟩⟩
    rw [List.take_of_length_le (by simp [hl])]

/-- while it is looked at: the first k cells written into by the caller -/
def wiped (s : ByteArray) (k : Nat) : List Value := List.replicate k (.int .u8 65) ++ (Bys (lent s)).drop k

theorem wiped_zero (s : ByteArray) : wiped s 0 = Bys (lent s) := by simp [wiped]
theorem wiped_at (s : ByteArray) (k : Nat) (h : k < s.size + 8) : (wiped s k)[k]? = some (.int .u8 ((lent s)[k]'(by rw [lent_length]; exact h)).toNat) := by
  rw [wiped, List.getElem?_append_right (by simp), List.length_replicate, Nat.sub_self, List.getElem?_drop, Nat.add_zero, Bys_at _ _ (by rw [lent_length]; exact h)]
theorem wiped_set (s : ByteArray) (k : Nat) (h : k < s.size + 8) : (wiped s k).set k (.int .u8 65) = wiped s (k + 1) := by
  rw [wiped, wiped, List.set_append, if_neg (by simp), List.length_replicate, Nat.sub_self]
  rw [List.drop_eq_getElem_cons (by rw [Bys_length, lent_length]; exact h), List.set_cons_zero, List.replicate_succ']
  simp

end Go.Proofs.Ytjebhbopmfcopaa

namespace Go.Proofs.Ytjebhbopmfcopaa
open Go.RowKit

theorem eq_contig (a b : ByteArray) (w : World) : (Op.equalIn 10000 58 (.agg #[.string a, .string b]) (.agg #[.string a, .string b])).run Try.prog w = .ok true w := by
  simp [go_sem, Try.underlying58, Try.underlying9]
theorem eq_read (a b : ByteArray) (w : World) : (Op.equalIn 10000 46 (.agg #[.string a, .string b]) (.agg #[.string a, .string b])).run Try.prog w = .ok true w := by
  simp [go_sem, Try.underlying46, Try.underlying9]

theorem neq_contig (a b : ByteArray) (w : World) : (binOp .neq 58 (.agg #[.string a, .string b]) (.agg #[.string a, .string b])).run Try.prog w = .ok (.bool false) w := by
  rw [run_neq_struct, eq_contig]; rfl
theorem neq_read (a b : ByteArray) (w : World) : (binOp .neq 46 (.agg #[.string a, .string b]) (.agg #[.string a, .string b])).run Try.prog w = .ok (.bool false) w := by
  rw [run_neq_struct, eq_read]; rfl
theorem eql_contig (a b : ByteArray) (w : World) : (binOp .eql 58 (.agg #[.string a, .string b]) (.agg #[.string a, .string b])).run Try.prog w = .ok (.bool true) w := by
  rw [run_eql_struct, eq_contig]; rfl
theorem eql_read (a b : ByteArray) (w : World) : (binOp .eql 46 (.agg #[.string a, .string b]) (.agg #[.string a, .string b])).run Try.prog w = .ok (.bool true) w := by
  rw [run_eql_struct, eq_read]; rfl

end Go.Proofs.Ytjebhbopmfcopaa

namespace Go.Proofs.Ytjebhbopmfcopaa
open Go.RowKit

/-- what lies behind them; what the caller writes over them -/
def beC : Pr := ([98, 101, 121, 111, 110, 100], [65, 65, 65, 65])
def otC : Pr := ([111, 116, 104, 101, 114], [67, 71])
def lentC (cs : List Pr) : List Pr := cs ++ List.replicate 8 beC

theorem lentC_length (cs : List Pr) : (lentC cs).length = cs.length + 8 := by simp [lentC]
theorem lentC_low (cs : List Pr) (k : Nat) (h1 : k < cs.length) (h : k < (lentC cs).length) : (lentC cs)[k] = cs[k] := by simp only [lentC, List.getElem_append_left h1]
theorem lentC_high (cs : List Pr) (k : Nat) (h1 : cs.length ≤ k) (h : k < (lentC cs).length) : (lentC cs)[k] = beC := by
  simp only [lentC, List.getElem_append_right h1, List.getElem_replicate]

theorem Prs_cons (o : Pr) (l : List Pr) : Prs (o :: l) = .string ⟨o.1.toArray⟩ :: .string ⟨o.2.toArray⟩ :: Prs l := rfl
theorem Prs_set (l : List Pr) (k : Nat) (h : k < l.length) (x : Pr) : ((Prs l).set (k * 2) (.string ⟨x.1.toArray⟩)).set (k * 2 + 1) (.string ⟨x.2.toArray⟩) = Prs (l.set k x) := by
  induction l generalizing k with
  | nil => simp at h
  | cons o l ih =>
    cases k with
    | zero => simp [Prs_cons]
    | succ k =>
      rw [Prs_cons, show (k + 1) * 2 = k * 2 + 1 + 1 by omega, List.set_cons_succ, List.set_cons_succ, List.set_cons_succ, List.set_cons_succ, List.set_cons_succ, Prs_cons, ih k (by simpa using h)]

/-- while they are laid: the first k, then empty ones -/
def filledP (l : List Pr) (n k : Nat) : List Pr := l.take k ++ List.replicate (n - k) ([], [])
theorem filledP_length (l : List Pr) (n k : Nat) (h : l.length = n) (hk : k ≤ n) : (filledP l n k).length = n := by simp [filledP]; omega
theorem filledP_whole (l : List Pr) (n : Nat) (h : l.length = n) : filledP l n n = l := by simp [filledP, ← h]
theorem filledP_set (l : List Pr) (n k : Nat) (h : l.length = n) (hk : k < n) : (filledP l n k).set k (l[k]'(by omega)) = filledP l n (k + 1) := by
  unfold filledP
  have h1 : (l.take k).length = k := by rw [List.length_take]; omega
  rw [List.set_append, if_neg (by omega), h1, Nat.sub_self, List.take_succ_eq_append_getElem (by omega)]
  obtain ⟨m, hm⟩ : ∃ m, n - k = m + 1 := ⟨n - k - 1, by omega⟩
  rw [hm, show n - (k + 1) = m by omega, List.replicate_succ, List.set_cons_zero, List.append_assoc, List.singleton_append]

/-- while they are looked at: the first k written over -/
def wipedP (cs : List Pr) (k : Nat) : List Pr := List.replicate k otC ++ (lentC cs).drop k
theorem wipedP_zero (cs : List Pr) : wipedP cs 0 = lentC cs := by simp [wipedP]
theorem wipedP_length (cs : List Pr) (k : Nat) (h : k ≤ cs.length + 8) : (wipedP cs k).length = cs.length + 8 := by simp [wipedP, lentC_length]; omega
theorem wipedP_at (cs : List Pr) (k : Nat) (h : k < cs.length + 8) (h2 : k < (wipedP cs k).length) : (wipedP cs k)[k] = (lentC cs)[k]'(by rw [lentC_length]; exact h) := by
  simp only [wipedP]
  rw [List.getElem_append_right (by simp)]
  simp
theorem wipedP_set (cs : List Pr) (k : Nat) (h : k < cs.length + 8) : (wipedP cs k).set k otC = wipedP cs (k + 1) := by
  rw [wipedP, wipedP, List.set_append, if_neg (by simp), List.length_replicate, Nat.sub_self]
  rw [List.drop_eq_getElem_cons (by rw [lentC_length]; exact h), List.set_cons_zero, List.replicate_succ']
  simp

theorem Try.infoContig2 : (Try.prog.info? 58).map (fun i => (i.zero, i.size, i.bytes)) = some (some (.agg #[.string ⟨#[]⟩, .string ⟨#[]⟩]), 2, 32) := by kernel_rfl
theorem Try.sizeContig : (Try.prog.info? 58).map (·.size) = some 2 := by kernel_rfl

/-- empty contigs, as they are made -/
theorem made_two (m : Nat) : (madeCells (Value.agg #[.string ⟨#[]⟩, .string ⟨#[]⟩]).cells (m * 2)).toList = Prs (List.replicate m ([], [])) := by
  have h1 : (madeCells (Value.agg #[.string ⟨#[]⟩, .string ⟨#[]⟩]).cells (m * 2)).toList = List.replicate (m * 2) (.string ⟨#[]⟩) := by
    apply List.ext_getElem?
    intro j
    have hc : (Value.agg #[.string ⟨#[]⟩, .string ⟨#[]⟩]).cells = #[.string ⟨#[]⟩, .string ⟨#[]⟩] := rfl
    rw [hc]
    by_cases hj : j < m * 2
    · have h2 : j % 2 = 0 ∨ j % 2 = 1 := by omega
      rcases h2 with h2 | h2 <;> simp [madeCells, hj, h2]
    · simp [madeCells, hj]
  rw [h1]
  induction m with
  | zero => rfl
  | succ m ih =>
    have hm := ih (by
      have := h1
      apply List.ext_getElem?
      intro j
      have hc : (Value.agg #[.string ⟨#[]⟩, .string ⟨#[]⟩]).cells = #[.string ⟨#[]⟩, .string ⟨#[]⟩] := rfl
      rw [hc]
      by_cases hj : j < m * 2
      · have h2 : j % 2 = 0 ∨ j % 2 = 1 := by omega
        rcases h2 with h2 | h2 <;> simp [madeCells, hj, h2]
      · simp [madeCells, hj])
    rw [show (m + 1) * 2 = m * 2 + 1 + 1 by omega, List.replicate_succ, List.replicate_succ, List.replicate_succ, Prs_cons, ← hm]

/-- 'copy(out, l)', elements of several cells -/
theorem run_copy_many {P : Program} (w : World) (dT sT ty elem : TypeId) (g o dLen dCap : Nat) (a : Addr) (sLen sCap : Nat) (cur : Array Value) (t : TypeId) (cs : List Value) (size : Nat)
    (hu : P.underlying dT = some (.slice elem)) (hs : (P.info? elem).map (·.size) = some size)
    (hg : w.heap[g]? = some (.cells cur t (0, 0))) (hn : cs.length = Nat.min sLen dLen * size)
    (hsrc : ∀ j v, cs[j]? = some v → w.cell? (a.add j) = some v) (hfit : o + cs.length ≤ cur.size) (h1 : ∀ v ∈ cs, v.oneCell' = true) :
    (Builtin.copy_ #[dT, sT] ty #[.slice (some ⟨g, o, none⟩) dLen dCap, .slice (some a) sLen sCap]).run P w =
      .ok (goInt (Nat.min sLen dLen)) (w.setRow g (cur.toList.take o ++ cs ++ cur.toList.drop (o + cs.length)).toArray) := by
  have hl := run_loadCells_list (P := P) w a cs hsrc
  have hst := run_storeCells_at P g o t cs 0 cur w hg (by simpa using hfit) h1
  cases hq : P.info? elem with
  | none => simp [hq] at hs
  | some i =>
    have hi : i.size = size := by simpa [hq] using hs
    simp [Builtin.copy_, run_underlying hu, Builtin.lenOf, Builtin.firstCells, sizeOf, typeInfo, hq, hi, ← hn, hl, hst]

/-- 'copy(out, l)' into contigs just made -/
theorem copy_lentC (cs : List Pr) (G cc : Nat) (ad : Addr) (w1 : World) (hsrc : ∀ j u, (Prs cs)[j]? = some u → w1.cell? (ad.add j) = some u)
    (hown : w1.ownsRow G 58 2 (.slice (some ⟨G, 0, none⟩) (cs.length + 8) (cs.length + 8)) (cs.length + 8) (Prs (List.replicate (cs.length + 8) ([], [])))) :
    ∃ W2, (∀ ty, (Builtin.copy_ #[32, 32] ty #[.slice (some ⟨G, 0, none⟩) (cs.length + 8) (cs.length + 8), .slice (some ad) cs.length cc]).run Try.prog w1 = .ok (goInt cs.length) W2) ∧
      W2.ownsRow G 58 2 (.slice (some ⟨G, 0, none⟩) (cs.length + 8) (cs.length + 8)) (cs.length + 8) (Prs (filledP (lentC cs) (cs.length + 8) cs.length)) ∧ w1.grownBy W2 (some G) := by
  rcases hown.2 with ⟨h, _⟩ | ⟨g, cap, cur, hv, hb, hg, hnc, hcm, hcs, htake⟩
  · simp at h
  · simp only [Value.slice.injEq, Option.some.injEq, Addr.mk.injEq, and_true, true_and] at hv
    obtain ⟨rfl, rfl⟩ := hv
    have hmin : Nat.min cs.length (cs.length + 8) = cs.length := Nat.min_eq_left (by omega)
    have hc : cur.toList = Prs (List.replicate (cs.length + 8) ([], [])) := by
      rw [← htake, List.take_of_length_le (by rw [Array.length_toList, hcs]; exact Nat.le_refl _)]
    have hrun := fun ty => run_copy_many (P := Try.prog) w1 32 32 ty 58 G 0 (cs.length + 8) (cs.length + 8) ad cs.length cc cur 58 (Prs cs) 2 Try.underlying32 Try.sizeContig hg (by rw [hmin, Prs_length]) hsrc (by rw [hcs, Prs_length]; omega) (Prs_one cs)
    rw [hmin] at hrun
    refine ⟨_, hrun, ?_, ⟨rfl, rfl, rfl, by simp [World.setRow], fun k _ hk => setRow_other w1 G k _ (fun e => hk (by simp [e]))⟩⟩
    have he : (cur.toList.take 0 ++ Prs cs ++ cur.toList.drop (0 + (Prs cs).length)) = Prs (filledP (lentC cs) (cs.length + 8) cs.length) := by
      rw [hc, filledP, lentC, List.take_zero, List.nil_append, List.take_append_of_le_length (Nat.le_refl _), List.take_length, Prs_append]
      congr 1
      rw [Nat.zero_add, show cs.length + 8 - cs.length = 8 by omega, ← List.replicate_append_replicate, Prs_append, List.drop_append_of_le_length (by rw [Prs_length, Prs_length, List.length_replicate]; exact Nat.le_refl _), List.drop_of_length_le (by rw [Prs_length, Prs_length, List.length_replicate]; exact Nat.le_refl _), List.nil_append]
    have hl : (Prs (filledP (lentC cs) (cs.length + 8) cs.length)).length = (cs.length + 8) * 2 := by
      rw [Prs_length, filledP_length _ _ _ (lentC_length cs) (by omega)]
    rw [he]
    refine ⟨hl, .inr ⟨G, cs.length + 8, _, rfl, hb, setRow_heap w1 G cur _ 58 _ hg, Nat.le_refl _, hcm, by simp [hl], ?_⟩⟩
    rw [List.take_of_length_le (by simp [hl])]

end Go.Proofs.Ytjebhbopmfcopaa

namespace Go.Proofs.Ytjebhbopmfcopaa
open Go.ChangeShapes Go.WideShapes Go.ChangeAt Go.RowKit Go.Deep

theorem Try.cellsConts : Try.prog.cellsOf 32 = 1 := by kernel_rfl
theorem Try.cellsInt : Try.prog.cellsOf 3 = 1 := by kernel_rfl
theorem Try.cellsStr : Try.prog.cellsOf 9 = 1 := by kernel_rfl
theorem Try.bytesConts : Try.prog.bytesOf 32 = 24 := by kernel_rfl

section
variable {H : Type} {enc : TypeId × Value → H} {w : World} {base : Nat} {spare : Nat → Bool} {held : Bool}

theorem list7 {α : Type} {l : List α} (h : l.length = 7) : ∃ a b c d e f g, l = [a, b, c, d, e, f, g] := by
  match l, h with
  | [a, b, c, d, e, f, g], _ => exact ⟨a, b, c, d, e, f, g, rfl⟩

theorem slice_cell {t e : TypeId} {fuel : Nat} {cs : List Value} {y : DataW H × List MemPlace} (ht : Try.prog.underlying t = some (.slice e)) (hf : DataW.trod enc Try.prog w base spare held fuel t cs = some y) : ∃ a l c, cs = [.slice a l c] := by
  rcases DataW.trod_slice ht hf with ⟨rfl, _⟩ | ⟨a, len, cap, _, _, _, _, rfl, _⟩
  · exact ⟨none, 0, 0, rfl⟩
  · exact ⟨some a, len, cap, rfl⟩

end

section
variable {H : Type}
theorem weightsAll_mem {P : Program} {e : TypeId} {d : DataW H} {elems : List (DataW H)} (h : d ∈ elems) {n : Nat} (hn : n ∈ d.weights P e) : n ∈ DataW.weightsAll P e elems := by
  induction elems with
  | nil => cases h
  | cons x r ih =>
    rw [DataW.weightsAll]
    rcases List.mem_cons.1 h with rfl | h
    · exact List.mem_append_left _ hn
    · exact List.mem_append_right _ (ih h)

end

end Go.Proofs.Ytjebhbopmfcopaa

namespace Go.Proofs.Ytjebhbopmfcopaa
open Go.ChangeShapes Go.WideShapes Go.ChangeAt Go.RowKit Go.Deep

theorem Try.cellsContig : Try.prog.cellsOf 58 = 2 := by kernel_rfl
theorem Try.bytesContig : Try.prog.bytesOf 58 = 32 := by kernel_rfl

/-- a reference: contigs that lie somewhere, of a size that can be -/
structure RefOk (w : World) (v : Value) (cs : List Pr) : Prop where
  src : Src w v cs.length (Prs cs)
  len : cs.length * 32 ≤ 140737488351232
  txt : ∀ x ∈ cs, x.1.length ≤ 140737488351232 ∧ x.2.length ≤ 140737488351232

section
variable {H : Type} {enc : TypeId × Value → H} {w : World} {base : Nat} {spare : Nat → Bool} {held : Bool}

theorem list2 {α : Type} {l : List α} (h : l.length = 2) : ∃ a b, l = [a, b] := by
  match l, h with
  | [a, b], _ => exact ⟨a, b, rfl⟩

theorem open_contig {fuel : Nat} {cs : List Value} {x : DataW H × List MemPlace} (h : DataW.trod enc Try.prog w base spare held fuel 58 cs = some x) :
    ∃ p : Pr, cs = prCells p ∧ x.1 = .agg [.lit (.string p.1), .lit (.string p.2)] := by
  obtain ⟨xs, n, _, rfl, hcl, hxl, hf⟩ := DataW.trod_struct Try.underlying58 h
  rw [Try.cellsContig] at hcl
  obtain ⟨c0, c1, rfl⟩ := list2 hcl
  obtain ⟨x0, x1, rfl⟩ := list2 (show xs.length = 2 from hxl)
  have f0 : DataW.trod enc Try.prog w base spare held n 9 (([c0, c1].drop 0).take (Try.prog.cellsOf 9)) = some x0 := hf 0 _ rfl
  rw [Try.cellsStr] at f0
  have f1 : DataW.trod enc Try.prog w base spare held n 9 (([c0, c1].drop 1).take (Try.prog.cellsOf 9)) = some x1 := hf 1 _ rfl
  rw [Try.cellsStr] at f1
  obtain ⟨s, e0, rfl, w0⟩ := DataW.trod_string Try.underlying9 f0
  obtain ⟨t, e1, rfl, w1⟩ := DataW.trod_string Try.underlying9 f1
  simp only [List.drop, List.take, List.cons.injEq, and_true] at e0 e1
  subst e0 e1
  exact ⟨(s.data.toList, t.data.toList), rfl, rfl⟩

theorem open_ref {fuel l c : Nat} {ao : Option Addr} {dl : DataW H} {pl : List MemPlace} (h : DataW.trod enc Try.prog w 0 (fun _ => true) true fuel 32 [.slice ao l c] = some (dl, pl))
    (hs : ∀ n ∈ dl.weights Try.prog 32, n ≤ reachBytes) : ∃ cs, RefOk w (.slice ao l c) cs := by
  rcases open_slice Try.underlying32 h with ⟨hcs, hx⟩ | ⟨a, len, cap, m, n, D, Pl, hcs, _, hl, hm, hmm, hx, hel⟩
  · simp at hcs
    obtain ⟨rfl, rfl, rfl⟩ := hcs
    exact ⟨[], .inl ⟨rfl, rfl, rfl⟩, by simp, by simp⟩
  · simp at hcs
    obtain ⟨rfl, rfl, rfl⟩ := hcs
    simp only [Prod.mk.injEq] at hx
    obtain ⟨rfl, _⟩ := hx
    have hml : l ≤ m := by rw [hmm]; simpa using hl
    have hel' : ∀ i, i < l → ∃ p : Pr, w.cells? 0 (a.add (i * 2)) 2 = some (prCells p) ∧ D i = .agg [.lit (.string p.1), .lit (.string p.2)] := by
      intro i hi
      obtain ⟨cs', h1, h2⟩ := hel i (by omega)
      rw [Try.cellsContig] at h1
      obtain ⟨p, rfl, h3⟩ := open_contig h2
      exact ⟨p, h1, h3⟩
    have : Inhabited Pr := ⟨([], [])⟩
    obtain ⟨f, hfo⟩ := choose_lt hel'
    refine ⟨(List.range l).map f, .inr ⟨a, c, by simp, ?_⟩, ?_, ?_⟩
    · intro j u hj
      have hlen : j < l * 2 := by
        have := (List.getElem?_eq_some_iff.1 hj).1
        rw [Prs_length] at this
        simpa using this
      have hjk : j / 2 < l := by omega
      have hj' : j = j / 2 * 2 + j % 2 := by omega
      rw [hj', Prs_at _ (j / 2) (by simpa using hjk) (j % 2) (by omega)] at hj
      simp only [List.getElem_map, List.getElem_range] at hj
      obtain ⟨h1, _⟩ := hfo (j / 2) hjk
      obtain ⟨_, hlen2, hcell⟩ := World.cells?_some h1
      have := hcell (j % 2) (by omega)
      rw [add_add, hj] at this
      rw [hj']
      exact this
    · have h1 := hs ((((List.range l).map D).length + _) * Try.prog.bytesOf 58) (by
        simp only [DataW.weights, Try.underlying32]
        exact List.mem_cons_self ..)
      rw [Try.bytesContig] at h1
      simp only [reachBytes, List.length_map, List.length_range] at h1 ⊢
      omega
    · intro x hx
      obtain ⟨i, hi, rfl⟩ := List.mem_map.1 hx
      obtain ⟨_, h2⟩ := hfo i (List.mem_range.1 hi)
      have hw : ∀ n ∈ (D i).weights Try.prog 58, n ≤ reachBytes := by
        intro n hn
        refine hs n ?_
        simp only [DataW.weights, Try.underlying32]
        exact List.mem_cons_of_mem _ (List.mem_append_left _ (weightsAll_mem (List.mem_map.2 ⟨i, hi, rfl⟩) hn))
      rw [h2] at hw
      simp only [DataW.weights, Try.underlying58, DataW.weightsEach, List.map] at hw
      have w1 := hw (f i).1.length (by simp)
      have w2 := hw (f i).2.length (by simp)
      simp only [reachBytes] at w1 w2
      omega

end

end Go.Proofs.Ytjebhbopmfcopaa

namespace Go.Proofs.Ytjebhbopmfcopaa
open Go.RowKit

/-- what 'lentContigs' answers: nil, or a new row -/
def LentC (w w' : World) (cs : List Pr) (lv v : Value) : Prop :=
  (lv = .slice none 0 0 ∧ cs = [] ∧ v = .slice none 0 0 ∧ w' = w) ∨
  (∃ ad cc, lv = .slice (some ad) cs.length cc ∧ v = .slice (some ⟨w.heap.size, 0, none⟩) cs.length (cs.length + 8) ∧
    w'.ownsRow w.heap.size 58 2 (.slice (some ⟨w.heap.size, 0, none⟩) (cs.length + 8) (cs.length + 8)) (cs.length + 8) (Prs (lentC cs)) ∧ Below w.heap.size w w' ∧ w.heap.size < w'.heap.size)

theorem beC_set (cs : List Pr) (k : Nat) (h1 : cs.length ≤ k) (h : k < cs.length + 8) :
    ((Prs (filledP (lentC cs) (cs.length + 8) k)).set (k * 2) (.string ⟨#[98, 101, 121, 111, 110, 100]⟩)).set (k * 2 + 1) (.string ⟨#[65, 65, 65, 65]⟩) = Prs (filledP (lentC cs) (cs.length + 8) (k + 1)) := by
  have h2 := Prs_set (filledP (lentC cs) (cs.length + 8) k) k (by rw [filledP_length _ _ _ (lentC_length cs) (by omega)]; exact h) beC
  refine Eq.trans h2 ?_
  rw [← filledP_set _ _ _ (lentC_length cs) h, lentC_high cs k h1]

theorem otC_set (cs : List Pr) (k : Nat) (h : k < cs.length + 8) :
    ((Prs (wipedP cs k)).set (k * 2) (.string ⟨#[111, 116, 104, 101, 114]⟩)).set (k * 2 + 1) (.string ⟨#[67, 71]⟩) = Prs (wipedP cs (k + 1)) := by
  have h2 := Prs_set (wipedP cs k) k (by rw [wipedP_length _ _ (by omega)]; exact h) otC
  refine Eq.trans h2 ?_
  rw [wipedP_set cs k h]

theorem src_keep {w w' : World} {ad : Addr} {xs : List Value} (h : ∀ j u, xs[j]? = some u → w.cell? (ad.add j) = some u) (hb : Below w.heap.size w w') : ∀ j u, xs[j]? = some u → w'.cell? (ad.add j) = some u := by
  intro j u hj
  have h0 := h j u hj
  rw [hb.cell (World.block_lt_of_cell? w _ h0)]
  exact h0

end Go.Proofs.Ytjebhbopmfcopaa

namespace Go.Proofs.Ytjebhbopmfcopaa
open Go.RowKit

theorem src_first {w : World} {ad : Addr} {l : List Pr} (h : ∀ j u, (Prs l)[j]? = some u → w.cell? (ad.add j) = some u) (k : Nat) (hk : k < l.length) : w.cell? (ad.add (k * 2)) = some (.string ⟨l[k].1.toArray⟩) := by
  refine h (k * 2) _ ?_
  have := Prs_at l k hk 0 (by omega)
  rw [Nat.add_zero] at this
  rw [this]
  rfl

theorem grown_new (w : World) (o : Obj) (n : Nat) : w.grownBy ((w.alloc o).drewN n) none :=
  ⟨rfl, rfl, rfl, by show w.heap.size ≤ (w.heap.push o).size; simp, fun k hk _ => Below.heap_alloc w o k hk⟩

theorem wipe_one {w wr Y : World} {cs : List Pr} {G k : Nat} (hgr : w.grownBy wr (some G)) (hown : wr.ownsRow G 58 2 (.slice (some ⟨G, 0, none⟩) (cs.length + 8) (cs.length + 8)) (cs.length + 8) (Prs (wipedP cs k))) (hk : k < cs.length + 8) (hY : wr.grownBy Y none) :
    ((Y.setCell ⟨G, k * 2, none⟩ (.string ⟨#[111, 116, 104, 101, 114]⟩)).setCell ⟨G, k * 2 + 1, none⟩ (.string ⟨#[67, 71]⟩)).ownsRow G 58 2 (.slice (some ⟨G, 0, none⟩) (cs.length + 8) (cs.length + 8)) (cs.length + 8) (Prs (wipedP cs (k + 1))) ∧
      w.grownBy ((Y.setCell ⟨G, k * 2, none⟩ (.string ⟨#[111, 116, 104, 101, 114]⟩)).setCell ⟨G, k * 2 + 1, none⟩ (.string ⟨#[67, 71]⟩)) (some G) := by
  have h0 := hown.kept hY (.inr (by simp [Value.ownBlock]))
  have h1 := h0.stored (k * 2) (.string ⟨#[111, 116, 104, 101, 114]⟩)
  have h2 := h1.1.stored (k * 2 + 1) (.string ⟨#[67, 71]⟩)
  rw [otC_set cs k hk] at h2
  exact ⟨h2.1, grown_trans (grown_trans (grown_trans hgr (grown_weak hY)) h1.2) h2.2⟩

end Go.Proofs.Ytjebhbopmfcopaa

namespace Go.Proofs.Ytjebhbopmfcopaa
open Go.RowKit

/-- n times the cells A, B -/
def reps (A B : Value) (n : Nat) : List Value := (List.replicate n [A, B]).flatten

theorem reps_add (A B : Value) (n m : Nat) : reps A B (n + m) = reps A B n ++ reps A B m := by rw [reps, reps, reps, ← List.flatten_append, List.replicate_append_replicate]
theorem reps_succ (A B : Value) (n : Nat) : reps A B (n + 1) = reps A B n ++ [A, B] := by rw [reps_add]; rfl
theorem reps_length (A B : Value) (n : Nat) : (reps A B n).length = n * 2 := by
  induction n with
  | zero => rfl
  | succ n ih => rw [reps_succ, List.length_append, ih]; simp; omega
theorem reps_one (A B : Value) (hA : A.oneCell' = true) (hB : B.oneCell' = true) (n : Nat) : ∀ u ∈ reps A B n, u.oneCell' = true := by
  induction n with
  | zero => intro u hu; simp [reps] at hu
  | succ n ih =>
    intro u hu
    rw [reps_succ, List.mem_append] at hu
    rcases hu with hu | hu
    · exact ih u hu
    · simp at hu
      rcases hu with rfl | rfl
      · exact hA
      · exact hB
theorem reps_take (A B : Value) (n m : Nat) (h : n ≤ m) : (reps A B m).take (n * 2) = reps A B n := by
  obtain ⟨k, rfl⟩ : ∃ k, m = n + k := ⟨m - n, by omega⟩
  rw [reps_add, List.take_append_of_le_length (by rw [reps_length]; exact Nat.le_refl _), List.take_of_length_le (by rw [reps_length]; exact Nat.le_refl _)]

/-- a marked list stays marked while another that shares its row is written up to at least its end -/
theorem reps_stay {w w' : World} {base e g n N cap : Nat} {A B : Value} (hl : w.ownsRow base e 2 (.slice (some ⟨g, 0, none⟩) n cap) n (reps A B n)) (hl' : w'.ownsRow base e 2 (.slice (some ⟨g, 0, none⟩) N cap) N (reps A B N)) (hg : w.grownBy w' (some g))
    {v0 : Value} {n0 : Nat} (h0 : w.ownsRow base e 2 v0 n0 (reps A B n0)) (hn : n0 ≤ N) : w'.ownsRow base e 2 v0 n0 (reps A B n0) := by
  refine ⟨h0.1, ?_⟩
  rcases h0.2 with h | ⟨g0, cap0, cur0, rfl, hb0, hg0, hnc0, hcm0, hcs0, ht0⟩
  · exact .inl h
  · by_cases he : g0 = g
    · subst he
      rcases hl.2 with ⟨h, _⟩ | ⟨g1, cap1, cur1, hv1, _, hg1, _, _, hcs1, _⟩
      · simp at h
      rcases hl'.2 with ⟨h, _⟩ | ⟨g2, cap2, cur2, hv2, _, hg2, hnc2, hcm2, hcs2, ht2⟩
      · simp at h
      simp only [Value.slice.injEq, Option.some.injEq, Addr.mk.injEq, and_true, true_and] at hv1 hv2
      obtain ⟨rfl, rfl⟩ := hv1
      obtain ⟨rfl, rfl⟩ := hv2
      rw [hg0] at hg1
      simp only [Option.some.injEq, Obj.cells.injEq] at hg1
      have hcc : cap0 = cap := by have := hg1.1; rw [this] at hcs0; omega
      subst hcc
      refine .inr ⟨g0, cap0, cur2, rfl, hb0, hg2, hnc0, hcm0, hcs2, ?_⟩
      rw [← reps_take A B n0 N hn, ← ht2, List.take_take, Nat.min_eq_left (by omega)]
    · refine .inr ⟨g0, cap0, cur0, rfl, hb0, ?_, hnc0, hcm0, hcs0, ht0⟩
      rw [hg.block g0 (Array.getElem?_eq_some_iff.1 hg0).1 (by simpa using he)]
      exact hg0

/-- 'x = append(l, m, ..)', l marked, as many marks more -/
theorem app_reps {w : World} {ops : Array Oper} {rest : List Oper} {o : Oper} {a : Act} {Q : Exit → Act → World → Prop} (hgd : o.guard = none) (s x : Operand) (t : TypeId)
    (ho : o.op = .call { callee := .builtin .append, args := #[s, x], argTypes := #[t, t] })
    (base : Nat) (e : TypeId) (ht : Try.prog.underlying t = some (.slice e)) (hinfo : (Try.prog.info? e).map (fun i => (i.zero, i.size, i.bytes)) = some (some (.agg #[.int .i64 0, .int .i64 0]), 2, 16))
    (lv : Value) (n m : Nat) (A B : Value) (hA : A.oneCell' = true) (hB : B.oneCell' = true) (C : Array Value) (hs : a.eval s = lv) (hx : a.eval x = .slice (some ⟨w.heap.size, 0, none⟩) m m) (hC : C.toList = reps A B m)
    (hown : w.ownsRow base e 2 lv n (reps A B n)) (hbase : base ≤ w.heap.size) (hlen : n + m ≤ 100000) (hm : 0 < m)
    (h : ∀ v' w', w'.ownsRow base e 2 v' (n + m) (reps A B (n + m)) → (∀ v0 n0, n0 ≤ n + m → w.ownsRow base e 2 v0 n0 (reps A B n0) → w'.ownsRow base e 2 v0 n0 (reps A B n0)) → w.grownBy w' lv.ownBlock → wpList Try.prog ops Q rest (a.put o.dst v') w') :
    wpList Try.prog ops Q (o :: rest) a (w.alloc (.cells C e)) := by
  obtain ⟨i0, hi, hz0, hz1, hz2⟩ := info_parts hinfo
  have hnews : ∀ j u, (reps A B m)[j]? = some u → (w.alloc (.cells C e)).cell? ((⟨w.heap.size, 0, none⟩ : Addr).add j) = some u := by
    intro j u hj
    rw [Addr.add_lit, Nat.zero_add, cell_of_row _ _ j C e (0, 0) (heap_alloc_new w _), ← hj, ← hC]
    simp
  have hal := hown.alloc (.cells C e)
  rcases hown.2 with ⟨hv, h0⟩ | ⟨g, cap, cur, hv, hb, hg, hnc, hcm, hcs, htk⟩
  · subst hv h0
    refine wpList_append_grows _ hgd s x t ho e i0 _ 2 16 ht hi hz0 hz1 hz2 rfl (by decide) none 0 0 [] hs (fun _ => ⟨rfl, rfl⟩) rfl (fun b hb => by cases hb) ⟨w.heap.size, 0, none⟩ m m (reps A B m) hx (reps_length A B m) hnews (reps_one A B hA hB m) ?_ (by unfold maxLen; omega) (by omega) ?_
    · omega
    · intro v' w' h1 h2
      have h3 := grown_alloc h2
      refine h v' w' ?_ (fun v0 n0 _ hv0 => hv0.kept h3 ?_) (grown_weak h3)
      · rw [reps_add]; exact own_base h1 (by simp; omega)
      · cases hq : v0.ownBlock <;> simp
  · subst hv
    by_cases hroom : n + m ≤ cap
    · refine wpList_append_fits _ hgd s x t ho base e i0 2 ht hi hz1 g n cap (reps A B n) hs hal ⟨w.heap.size, 0, none⟩ m m (reps A B m) hx (reps_length A B m) hnews (reps_one A B hA hB m) hroom ?_
      intro w' h1 h2
      rw [← reps_add] at h1
      have h3 := grown_alloc h2
      exact h _ w' h1 (fun v0 n0 hn0 hv0 => reps_stay hown h1 h3 hv0 hn0) h3
    · refine wpList_append_grows _ hgd s x t ho e i0 _ 2 16 ht hi hz0 hz1 hz2 rfl (by decide) (some ⟨g, 0, none⟩) n cap (reps A B n) hs (fun h => by cases h) (reps_length A B n) (fun b hb j u hj => ?_) ⟨w.heap.size, 0, none⟩ m m (reps A B m) hx (reps_length A B m) hnews (reps_one A B hA hB m) (by omega) (by unfold maxLen; omega) (by omega) ?_
      · obtain rfl := Option.some.inj hb
        exact hal.cells rfl j u hj
      · intro v' w' h1 h2
        have h3 := grown_alloc h2
        refine h v' w' ?_ (fun v0 n0 _ hv0 => hv0.kept h3 ?_) (grown_weak h3)
        · rw [reps_add]; exact own_base h1 (by simp; omega)
        · cases hq : v0.ownBlock <;> simp

end Go.Proofs.Ytjebhbopmfcopaa
