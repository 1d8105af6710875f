/-
  THE DOCUMENT'S RECORDS: the line of one that is right. Own text of the verifier.
  THE DOCUMENT'S Render. Own text of the verifier.
  RECORDS THAT ARE HANDED IN: with spare room, laid by the statement itself, and looked at again behind the call. Own text of the verifier.
  THE WALK of the document's Align. Own text of the verifier.
  LAWS for the walk of the document's Align, where there is no error. Own text of the verifier.
-/
import Derived.Test.YtfcbgfomhmcikaaBun4
import Derived.BigQuiet
import Derived.Test.YtfcbgfomhmcikaaBun3
import Derived.Test.YtfcbgfomhmcikaaBun9
import Derived.Test.YtfcbgfomhmcikaaBun5
import Derived.Test.YtfcbgfomhmcikaaBun7
import Derived.Laws.ResultCell
import Derived.Test.YtfcbgfomhmcikaaBun10
namespace Go.Proofs.Ytfcbgfomhmcikaa
open Go.RowKit

/-- the line of a record -/
def Rc.line (r : Rc) : List UInt8 :=
  if r.vd = 1 then r.nm ++ [9] ++ Ln.verdict r.vd ++ [9] ++ Ln.strand r.sd ++ [9] ++ r.ct ++ [9] ++ Ln.dig 3 r.pl.toNat ++ [9] ++ Ln.dig 3 r.mm.toNat ++ [9] ++ r.lt ++ [9] ++ r.cl ++ [10]
  else r.nm ++ [9] ++ Ln.verdict r.vd ++ [10]

theorem Ln.verdict_length (n : Int) : (Ln.verdict n).length ≤ 9 := by unfold Ln.verdict; split; decide; split <;> decide
theorem Ln.strand_length (n : Int) : (Ln.strand n).length ≤ 4 := by unfold Ln.strand; split; decide; split; decide; split <;> decide

theorem add_hid (x y z : List UInt8) (hz : z = x ++ y) (h : z.length ≤ 9223372036854775807) : ∀ w : World, (Op.stringOp .add ⟨x.toArray⟩ ⟨y.toArray⟩).run Try.prog w = .ok (.string ⟨z.toArray⟩) w := fun w => by
  have := add_texts w x y (by rw [hz, List.length_append] at h; omega)
  rw [hz]
  exact this

structure Rc.Short (r : Rc) : Prop where
  nm : r.nm.length ≤ 32
  ct : r.ct.length ≤ 32
  lt : r.lt.length ≤ 128
  cl : r.cl.length ≤ 128
  p0 : 0 ≤ r.pl
  p1 : r.pl ≤ 4096
  m0 : 0 ≤ r.mm
  m1 : r.mm ≤ 128

theorem Rc.short_of {r : Rc} (h : r.right = true) : r.nm.length ≤ 32 ∧ (r.vd = 1 → r.Short) := by
  unfold Rc.right at h
  split at h
  · simp at h
  · next hn =>
    have hn' : Ln.name r.nm = true := by simpa using hn
    have h32 : r.nm.length ≤ 32 := by
      simp only [Ln.name, Bool.and_eq_true, decide_eq_true_eq] at hn'
      exact hn'.2.2
    refine ⟨h32, fun hv => ?_⟩
    split at h
    · simp at h
    · split at h
      · simp at h
      · simp only [Rc.full, Ln.name, Bool.and_eq_true, decide_eq_true_eq, beq_iff_eq] at h
        obtain ⟨_, ⟨_, _, hc⟩, _, _, h1, h2, _, h4, h5, h6, h7⟩ := h
        exact ⟨h32, hc, by omega, by omega, h1, h2, h5, by omega⟩

theorem Rc.line_length {r : Rc} (h : r.right = true) : r.line.length ≤ 400 := by
  obtain ⟨h1, h2⟩ := Rc.short_of h
  have hv := Ln.verdict_length r.vd
  unfold Rc.line
  split
  · next hv1 =>
    obtain ⟨s1, s2, s3, s4, _, _, _, _⟩ := h2 hv1
    have := Ln.strand_length r.sd
    have := Ln.dig_length 3 r.pl.toNat
    have := Ln.dig_length 3 r.mm.toNat
    simp only [List.length_append, List.length_cons, List.length_nil]
    omega
  · simp only [List.length_append, List.length_cons, List.length_nil]
    omega

end Go.Proofs.Ytfcbgfomhmcikaa

namespace Go.Proofs.Ytfcbgfomhmcikaa
open Go.RowKit

def rcCells (r : Rc) : List Value := [.string ⟨r.nm.toArray⟩, .int .i64 r.vd, .int .i64 r.sd, .string ⟨r.ct.toArray⟩, .int .i64 r.pl, .int .i64 r.mm, .string ⟨r.lt.toArray⟩, .string ⟨r.cl.toArray⟩]
def Rcs (l : List Rc) : List Value := l.flatMap rcCells
theorem Rcs_length (l : List Rc) : (Rcs l).length = l.length * 8 := by
  induction l with
  | nil => rfl
  | cons a l ih => rw [Rcs, List.flatMap_cons, List.length_append, ← Rcs, ih, List.length_cons]; simp [rcCells]; omega
theorem Rcs_append (l r : List Rc) : Rcs (l ++ r) = Rcs l ++ Rcs r := by simp [Rcs]
theorem Rcs_at (l : List Rc) (k : Nat) (h : k < l.length) (j : Nat) (hj : j < 8) : (Rcs l)[k * 8 + j]? = (rcCells l[k])[j]? := by
  induction l generalizing k with
  | nil => simp at h
  | cons o l ih =>
    rw [Rcs, List.flatMap_cons]
    cases k with
    | zero => rw [List.getElem?_append_left (by simp [rcCells]; omega)]; simp
    | succ k =>
      rw [List.getElem?_append_right (by simp [rcCells]; omega)]
      have e : (k + 1) * 8 + j - (rcCells o).length = k * 8 + j := by simp [rcCells]; omega
      rw [e]
      have := ih k (by simpa using h)
      rw [Rcs] at this
      rw [this]
      simp
theorem Rcs_one (l : List Rc) : ∀ u ∈ Rcs l, u.oneCell' = true := by
  intro u hu
  obtain ⟨o, _, hu⟩ := List.mem_flatMap.1 hu
  simp only [rcCells, List.mem_cons, List.not_mem_nil, or_false] at hu
  rcases hu with rfl | rfl | rfl | rfl | rfl | rfl | rfl | rfl <;> rfl

theorem addr_some (ad : Addr) (k i : Nat) (hi : 0 < i) : (⟨(ad.add k).block, (ad.add k).off + i, none⟩ : Addr) = ad.add (k + i) := by
  unfold Addr.add
  by_cases h : k = 0
  · simp [h]; omega
  · simp [h]; omega

/-- the cells of one record among several, as a walk asks for them -/
theorem rc_src {w : World} {ad : Addr} {l : List Rc} (h : ∀ j u, (Rcs l)[j]? = some u → w.cell? (ad.add j) = some u) (k : Nat) (hk : k < l.length) :
    w.cell? (ad.add (k * 8)) = some (.string ⟨l[k].nm.toArray⟩) ∧ w.cell? ⟨(ad.add (k * 8)).block, (ad.add (k * 8)).off + 1, none⟩ = some (.int .i64 l[k].vd) ∧ w.cell? ⟨(ad.add (k * 8)).block, (ad.add (k * 8)).off + 2, none⟩ = some (.int .i64 l[k].sd) ∧
    w.cell? ⟨(ad.add (k * 8)).block, (ad.add (k * 8)).off + 3, none⟩ = some (.string ⟨l[k].ct.toArray⟩) ∧ w.cell? ⟨(ad.add (k * 8)).block, (ad.add (k * 8)).off + 4, none⟩ = some (.int .i64 l[k].pl) ∧ w.cell? ⟨(ad.add (k * 8)).block, (ad.add (k * 8)).off + 5, none⟩ = some (.int .i64 l[k].mm) ∧
    w.cell? ⟨(ad.add (k * 8)).block, (ad.add (k * 8)).off + 6, none⟩ = some (.string ⟨l[k].lt.toArray⟩) ∧ w.cell? ⟨(ad.add (k * 8)).block, (ad.add (k * 8)).off + 7, none⟩ = some (.string ⟨l[k].cl.toArray⟩) := by
  have g : ∀ j u, j < 8 → (rcCells l[k])[j]? = some u → w.cell? (ad.add (k * 8 + j)) = some u := fun j u hj hu => h _ _ ((Rcs_at l k hk j hj).trans hu)
  refine ⟨g 0 _ (by omega) rfl, ?_, ?_, ?_, ?_, ?_, ?_, ?_⟩
  · rw [addr_some _ _ _ (by omega)]; exact g 1 _ (by omega) rfl
  · rw [addr_some _ _ _ (by omega)]; exact g 2 _ (by omega) rfl
  · rw [addr_some _ _ _ (by omega)]; exact g 3 _ (by omega) rfl
  · rw [addr_some _ _ _ (by omega)]; exact g 4 _ (by omega) rfl
  · rw [addr_some _ _ _ (by omega)]; exact g 5 _ (by omega) rfl
  · rw [addr_some _ _ _ (by omega)]; exact g 6 _ (by omega) rfl
  · rw [addr_some _ _ _ (by omega)]; exact g 7 _ (by omega) rfl

/-- Render: the error, and the text -/
def Ln.renderErr (l : List Rc) : Int := if l.all Rc.right then 0 else 9
def Ln.lines (l : List Rc) : List UInt8 := l.flatMap Rc.line
def Ln.render (l : List Rc) : List UInt8 := if l.all Rc.right then Ln.lines l else []

theorem Ln.lines_snoc (l : List Rc) (k : Nat) (h : k < l.length) : Ln.lines (l.take (k + 1)) = Ln.lines (l.take k) ++ l[k].line := by
  rw [List.take_succ_eq_append_getElem h, Ln.lines, List.flatMap_append, ← Ln.lines]
  simp
theorem Ln.lines_length : ∀ (l : List Rc), l.all Rc.right = true → (Ln.lines l).length ≤ l.length * 400 := by
  intro l
  induction l with
  | nil => intro _; simp [Ln.lines]
  | cons a l ih =>
    intro h
    rw [List.all_cons, Bool.and_eq_true] at h
    have h1 := Rc.line_length h.1
    have h2 := ih h.2
    rw [Ln.lines, List.flatMap_cons, List.length_append, ← Ln.lines, List.length_cons]
    omega

end Go.Proofs.Ytfcbgfomhmcikaa

namespace Go.Proofs.Ytfcbgfomhmcikaa
open Go.RowKit

/-- records that lie somewhere, of a size that can be -/
structure RecsOk (w : World) (v : Value) (rs : List Rc) : Prop where
  src : Src w v rs.length (Rcs rs)
  len : rs.length * 96 ≤ 140737488351232
  txt : ∀ r ∈ rs, r.Small

def beR : Rc := ⟨[98, 101, 121, 111, 110, 100], 0, 0, [], 0, 0, [], []⟩
def otR : Rc := ⟨[111, 116, 104, 101, 114], 0, 0, [], 0, 0, [], []⟩
def zrR : Rc := ⟨[], 0, 0, [], 0, 0, [], []⟩
def lentR (rs : List Rc) : List Rc := rs ++ List.replicate 8 beR

theorem lentR_length (rs : List Rc) : (lentR rs).length = rs.length + 8 := by simp [lentR]
theorem lentR_low (rs : List Rc) (k : Nat) (h1 : k < rs.length) (h : k < (lentR rs).length) : (lentR rs)[k] = rs[k] := by simp only [lentR, List.getElem_append_left h1]
theorem lentR_high (rs : List Rc) (k : Nat) (h1 : rs.length ≤ k) (h : k < (lentR rs).length) : (lentR rs)[k] = beR := by
  simp only [lentR, List.getElem_append_right h1, List.getElem_replicate]

theorem Rcs_cons (r : Rc) (l : List Rc) : Rcs (r :: l) = .string ⟨r.nm.toArray⟩ :: .int .i64 r.vd :: .int .i64 r.sd :: .string ⟨r.ct.toArray⟩ :: .int .i64 r.pl :: .int .i64 r.mm :: .string ⟨r.lt.toArray⟩ :: .string ⟨r.cl.toArray⟩ :: Rcs l := rfl
theorem Rcs_set (l : List Rc) (k : Nat) (h : k < l.length) (x : Rc) :
    ((((((((Rcs l).set (k * 8) (.string ⟨x.nm.toArray⟩)).set (k * 8 + 1) (.int .i64 x.vd)).set (k * 8 + 2) (.int .i64 x.sd)).set (k * 8 + 3) (.string ⟨x.ct.toArray⟩)).set (k * 8 + 4) (.int .i64 x.pl)).set (k * 8 + 5) (.int .i64 x.mm)).set (k * 8 + 6) (.string ⟨x.lt.toArray⟩)).set (k * 8 + 7) (.string ⟨x.cl.toArray⟩) = Rcs (l.set k x) := by
  induction l generalizing k with
  | nil => simp at h
  | cons o l ih =>
    cases k with
    | zero => simp [Rcs_cons]
    | succ k =>
      have e : ∀ i, (k + 1) * 8 + i = k * 8 + i + 1 + 1 + 1 + 1 + 1 + 1 + 1 + 1 := fun i => by omega
      have e0 : (k + 1) * 8 = k * 8 + 1 + 1 + 1 + 1 + 1 + 1 + 1 + 1 := by omega
      rw [e 1, e 2, e 3, e 4, e 5, e 6, e 7, e0, Rcs_cons]
      simp only [List.set_cons_succ]
      rw [ih k (by simpa using h), Rcs_cons]

def filledR (l : List Rc) (n k : Nat) : List Rc := l.take k ++ List.replicate (n - k) zrR
theorem filledR_length (l : List Rc) (n k : Nat) (h : l.length = n) (hk : k ≤ n) : (filledR l n k).length = n := by simp [filledR]; omega
theorem filledR_whole (l : List Rc) (n : Nat) (h : l.length = n) : filledR l n n = l := by simp [filledR, ← h]
theorem filledR_set (l : List Rc) (n k : Nat) (h : l.length = n) (hk : k < n) : (filledR l n k).set k (l[k]'(by omega)) = filledR l n (k + 1) := by
  unfold filledR
  have h1 : (l.take k).length = k := by rw [List.length_take]; omega
  rw [List.set_append, if_neg (by omega), h1, Nat.sub_self, List.take_succ_eq_append_getElem (by omega)]
  obtain ⟨m, hm⟩ : ∃ m, n - k = m + 1 := ⟨n - k - 1, by omega⟩
  rw [hm, show n - (k + 1) = m by omega, List.replicate_succ, List.set_cons_zero, List.append_assoc, List.singleton_append]

def wipedR (rs : List Rc) (k : Nat) : List Rc := List.replicate k otR ++ (lentR rs).drop k
theorem wipedR_zero (rs : List Rc) : wipedR rs 0 = lentR rs := by simp [wipedR]
theorem wipedR_length (rs : List Rc) (k : Nat) (h : k ≤ rs.length + 8) : (wipedR rs k).length = rs.length + 8 := by simp [wipedR, lentR_length]; omega
theorem wipedR_at (rs : List Rc) (k : Nat) (h : k < rs.length + 8) (h2 : k < (wipedR rs k).length) : (wipedR rs k)[k] = (lentR rs)[k]'(by rw [lentR_length]; exact h) := by
  simp only [wipedR]
  rw [List.getElem_append_right (by simp)]
  simp
theorem wipedR_set (rs : List Rc) (k : Nat) (h : k < rs.length + 8) : (wipedR rs k).set k otR = wipedR rs (k + 1) := by
  rw [wipedR, wipedR, List.set_append, if_neg (by simp), List.length_replicate, Nat.sub_self]
  rw [List.drop_eq_getElem_cons (by rw [lentR_length]; exact h), List.set_cons_zero, List.replicate_succ']
  simp

theorem Try.infoRec2 : (Try.prog.info? 42).map (fun i => (i.zero, i.size, i.bytes)) = some (some (.agg #[.string ⟨#[]⟩, .int .i64 0, .int .i64 0, .string ⟨#[]⟩, .int .i64 0, .int .i64 0, .string ⟨#[]⟩, .string ⟨#[]⟩]), 8, 96) := by kernel_rfl
theorem Try.sizeRec2 : (Try.prog.info? 42).map (·.size) = some 8 := by kernel_rfl

/-- empty records, as they are made -/
theorem made_recs (m : Nat) : (madeCells (Value.agg #[.string ⟨#[]⟩, .int .i64 0, .int .i64 0, .string ⟨#[]⟩, .int .i64 0, .int .i64 0, .string ⟨#[]⟩, .string ⟨#[]⟩]).cells (m * 8)).toList = Rcs (List.replicate m zrR) := by
  have hc : (Value.agg #[.string ⟨#[]⟩, .int .i64 0, .int .i64 0, .string ⟨#[]⟩, .int .i64 0, .int .i64 0, .string ⟨#[]⟩, .string ⟨#[]⟩]).cells = #[.string ⟨#[]⟩, .int .i64 0, .int .i64 0, .string ⟨#[]⟩, .int .i64 0, .int .i64 0, .string ⟨#[]⟩, .string ⟨#[]⟩] := rfl
  rw [hc]
  apply List.ext_getElem?
  intro j
  by_cases hj : j < m * 8
  · have hq : j / 8 < m := by omega
    have hj' : j = j / 8 * 8 + j % 8 := by omega
    have h2 := Rcs_at (List.replicate m zrR) (j / 8) (by simpa using hq) (j % 8) (by omega)
    rw [← hj'] at h2
    rw [h2, List.getElem_replicate]
    have h8 : j % 8 = 0 ∨ j % 8 = 1 ∨ j % 8 = 2 ∨ j % 8 = 3 ∨ j % 8 = 4 ∨ j % 8 = 5 ∨ j % 8 = 6 ∨ j % 8 = 7 := by omega
    rcases h8 with h8 | h8 | h8 | h8 | h8 | h8 | h8 | h8 <;> rw [h8] <;> simp [madeCells, hj, h8, rcCells, zrR]
  · rw [List.getElem?_eq_none (by simp [madeCells]; omega), List.getElem?_eq_none (by rw [Rcs_length, List.length_replicate]; omega)]

/-- a record stored into one of several -/
theorem own_set8 {w : World} {b e G n cap : Nat} {l : List Rc} (h : w.ownsRow b e 8 (.slice (some ⟨G, 0, none⟩) n cap) n (Rcs l)) (k : Nat) (hk : k < l.length) (x : Rc) :
    ((((((((w.setCell ⟨G, k * 8, none⟩ (.string ⟨x.nm.toArray⟩)).setCell ⟨G, k * 8 + 1, none⟩ (.int .i64 x.vd)).setCell ⟨G, k * 8 + 2, none⟩ (.int .i64 x.sd)).setCell ⟨G, k * 8 + 3, none⟩ (.string ⟨x.ct.toArray⟩)).setCell ⟨G, k * 8 + 4, none⟩ (.int .i64 x.pl)).setCell ⟨G, k * 8 + 5, none⟩ (.int .i64 x.mm)).setCell ⟨G, k * 8 + 6, none⟩ (.string ⟨x.lt.toArray⟩)).setCell ⟨G, k * 8 + 7, none⟩ (.string ⟨x.cl.toArray⟩)).ownsRow b e 8 (.slice (some ⟨G, 0, none⟩) n cap) n (Rcs (l.set k x)) ∧
    w.grownBy ((((((((w.setCell ⟨G, k * 8, none⟩ (.string ⟨x.nm.toArray⟩)).setCell ⟨G, k * 8 + 1, none⟩ (.int .i64 x.vd)).setCell ⟨G, k * 8 + 2, none⟩ (.int .i64 x.sd)).setCell ⟨G, k * 8 + 3, none⟩ (.string ⟨x.ct.toArray⟩)).setCell ⟨G, k * 8 + 4, none⟩ (.int .i64 x.pl)).setCell ⟨G, k * 8 + 5, none⟩ (.int .i64 x.mm)).setCell ⟨G, k * 8 + 6, none⟩ (.string ⟨x.lt.toArray⟩)).setCell ⟨G, k * 8 + 7, none⟩ (.string ⟨x.cl.toArray⟩)) (some G) := by
  have h0 := h.stored (k * 8) (.string ⟨x.nm.toArray⟩)
  have h1 := h0.1.stored (k * 8 + 1) (.int .i64 x.vd)
  have h2 := h1.1.stored (k * 8 + 2) (.int .i64 x.sd)
  have h3 := h2.1.stored (k * 8 + 3) (.string ⟨x.ct.toArray⟩)
  have h4 := h3.1.stored (k * 8 + 4) (.int .i64 x.pl)
  have h5 := h4.1.stored (k * 8 + 5) (.int .i64 x.mm)
  have h6 := h5.1.stored (k * 8 + 6) (.string ⟨x.lt.toArray⟩)
  have h7 := h6.1.stored (k * 8 + 7) (.string ⟨x.cl.toArray⟩)
  rw [Rcs_set l k hk x] at h7
  exact ⟨h7.1, grown_trans (grown_trans (grown_trans (grown_trans (grown_trans (grown_trans (grown_trans h0.2 h1.2) h2.2) h3.2) h4.2) h5.2) h6.2) h7.2⟩

/-- the cells of one record of a row -/
theorem own_rec {w : World} {b e G n cap : Nat} {l : List Rc} (h : w.ownsRow b e 8 (.slice (some ⟨G, 0, none⟩) n cap) n (Rcs l)) (k : Nat) (hk : k < l.length) :
    w.cell? ⟨G, k * 8, none⟩ = some (.string ⟨l[k].nm.toArray⟩) ∧ w.cell? ⟨G, k * 8 + 1, none⟩ = some (.int .i64 l[k].vd) ∧ w.cell? ⟨G, k * 8 + 2, none⟩ = some (.int .i64 l[k].sd) ∧ w.cell? ⟨G, k * 8 + 3, none⟩ = some (.string ⟨l[k].ct.toArray⟩) ∧
    w.cell? ⟨G, k * 8 + 4, none⟩ = some (.int .i64 l[k].pl) ∧ w.cell? ⟨G, k * 8 + 5, none⟩ = some (.int .i64 l[k].mm) ∧ w.cell? ⟨G, k * 8 + 6, none⟩ = some (.string ⟨l[k].lt.toArray⟩) ∧ w.cell? ⟨G, k * 8 + 7, none⟩ = some (.string ⟨l[k].cl.toArray⟩) := by
  have hl : l.length * 8 = n * 8 := by have := h.1; rw [Rcs_length] at this; exact this
  have g : ∀ j, j < 8 → w.cell? ⟨G, k * 8 + j, none⟩ = (rcCells l[k])[j]? := fun j hj => by rw [h.cellAt (k * 8 + j) (by omega), Rcs_at l k hk j hj]
  exact ⟨g 0 (by omega), g 1 (by omega), g 2 (by omega), g 3 (by omega), g 4 (by omega), g 5 (by omega), g 6 (by omega), g 7 (by omega)⟩

end Go.Proofs.Ytfcbgfomhmcikaa

namespace Go.Proofs.Ytfcbgfomhmcikaa
open Go.RowKit

theorem Try.sizeRec3 : (Try.prog.info? 42).map (·.size) = some 8 := by kernel_rfl

theorem two_heap (w : World) (A B : Obj) : ((w.alloc A).alloc B).heap[w.heap.size + 1]? = some B := by
  have h := heap_alloc_new (w.alloc A) B
  rw [World.size_alloc] at h
  exact h

end Go.Proofs.Ytfcbgfomhmcikaa

namespace Go.Proofs.Ytfcbgfomhmcikaa
open Go.RowKit

/-- how it stands within Align: the read, the result, the best so far -/
structure AlB (w wr : World) (nm lt : List UInt8) (best : Rc) : Prop where
  below : Below w.heap.size w wr
  size : w.heap.size + 3 ≤ wr.heap.size
  read : wr.heap[w.heap.size]? = some (.cells #[.string ⟨nm.toArray⟩, .string ⟨lt.toArray⟩] 46 (0, 0))
  res : wr.heap[w.heap.size + 1]? = some (.cells #[.string ⟨#[]⟩, .int .i64 0, .int .i64 0, .string ⟨#[]⟩, .int .i64 0, .int .i64 0, .string ⟨#[]⟩, .string ⟨#[]⟩] 42 (0, 0))
  box : wr.heap[w.heap.size + 2]? = some (.cells best.vals 42 (0, 0))

theorem AlB.mono {w wr wr' : World} {nm lt : List UInt8} {best : Rc} (h : AlB w wr nm lt best) (hb : Below (w.heap.size + 3) wr wr') : AlB w wr' nm lt best :=
  ⟨h.below.trans (hb.mono (by omega)), Nat.le_trans h.size hb.size, (hb.block _ (by omega)).trans h.read, (hb.block _ (by omega)).trans h.res, (hb.block _ (by omega)).trans h.box⟩

theorem below_set {B : Nat} {a w : World} (h : Below B a w) {g : Nat} (hg : B ≤ g) (i : Nat) (u : Value) : Below B a (w.setCell ⟨g, i, none⟩ u) := h.setCell (p := ⟨g, i, none⟩) hg u

theorem AlB.store {w wr : World} {nm lt : List UInt8} {best : Rc} (h : AlB w wr nm lt best) (x : Rc) (g : Nat) (hg : g = w.heap.size + 2) :
    AlB w ((((((((wr.setCell ⟨g, 0, none⟩ (.string ⟨x.nm.toArray⟩)).setCell ⟨g, 1, none⟩ (.int .i64 x.vd)).setCell ⟨g, 2, none⟩ (.int .i64 x.sd)).setCell ⟨g, 3, none⟩ (.string ⟨x.ct.toArray⟩)).setCell ⟨g, 4, none⟩ (.int .i64 x.pl)).setCell ⟨g, 5, none⟩ (.int .i64 x.mm)).setCell ⟨g, 6, none⟩ (.string ⟨x.lt.toArray⟩)).setCell ⟨g, 7, none⟩ (.string ⟨x.cl.toArray⟩)) nm lt x := by
  have hle : g ≤ g := Nat.le_refl _
  have b_ : Below g wr wr := Below.refl g wr
  have h_ : wr.heap[g]? = some (.cells #[.string ⟨best.nm.toArray⟩, .int .i64 best.vd, .int .i64 best.sd, .string ⟨best.ct.toArray⟩, .int .i64 best.pl, .int .i64 best.mm, .string ⟨best.lt.toArray⟩, .string ⟨best.cl.toArray⟩] 42 (0, 0)) := by rw [hg]; exact h.box
  have b0 := below_set b_ hle 0 (.string ⟨x.nm.toArray⟩)
  have h0 : (wr.setCell ⟨g, 0, none⟩ (.string ⟨x.nm.toArray⟩)).heap[g]? = some (.cells #[.string ⟨x.nm.toArray⟩, .int .i64 best.vd, .int .i64 best.sd, .string ⟨best.ct.toArray⟩, .int .i64 best.pl, .int .i64 best.mm, .string ⟨best.lt.toArray⟩, .string ⟨best.cl.toArray⟩] 42 (0, 0)) := heap_setCell_same wr g 0 _ _ (.string ⟨x.nm.toArray⟩) h_
  generalize wr.setCell ⟨g, 0, none⟩ (.string ⟨x.nm.toArray⟩) = y0 at b0 h0 ⊢
  have b1 := below_set b0 hle 1 (.int .i64 x.vd)
  have h1 : (y0.setCell ⟨g, 1, none⟩ (.int .i64 x.vd)).heap[g]? = some (.cells #[.string ⟨x.nm.toArray⟩, .int .i64 x.vd, .int .i64 best.sd, .string ⟨best.ct.toArray⟩, .int .i64 best.pl, .int .i64 best.mm, .string ⟨best.lt.toArray⟩, .string ⟨best.cl.toArray⟩] 42 (0, 0)) := heap_setCell_same y0 g 1 _ _ (.int .i64 x.vd) h0
  generalize y0.setCell ⟨g, 1, none⟩ (.int .i64 x.vd) = y1 at b1 h1 ⊢
  have b2 := below_set b1 hle 2 (.int .i64 x.sd)
  have h2 : (y1.setCell ⟨g, 2, none⟩ (.int .i64 x.sd)).heap[g]? = some (.cells #[.string ⟨x.nm.toArray⟩, .int .i64 x.vd, .int .i64 x.sd, .string ⟨best.ct.toArray⟩, .int .i64 best.pl, .int .i64 best.mm, .string ⟨best.lt.toArray⟩, .string ⟨best.cl.toArray⟩] 42 (0, 0)) := heap_setCell_same y1 g 2 _ _ (.int .i64 x.sd) h1
  generalize y1.setCell ⟨g, 2, none⟩ (.int .i64 x.sd) = y2 at b2 h2 ⊢
  have b3 := below_set b2 hle 3 (.string ⟨x.ct.toArray⟩)
  have h3 : (y2.setCell ⟨g, 3, none⟩ (.string ⟨x.ct.toArray⟩)).heap[g]? = some (.cells #[.string ⟨x.nm.toArray⟩, .int .i64 x.vd, .int .i64 x.sd, .string ⟨x.ct.toArray⟩, .int .i64 best.pl, .int .i64 best.mm, .string ⟨best.lt.toArray⟩, .string ⟨best.cl.toArray⟩] 42 (0, 0)) := heap_setCell_same y2 g 3 _ _ (.string ⟨x.ct.toArray⟩) h2
  generalize y2.setCell ⟨g, 3, none⟩ (.string ⟨x.ct.toArray⟩) = y3 at b3 h3 ⊢
  have b4 := below_set b3 hle 4 (.int .i64 x.pl)
  have h4 : (y3.setCell ⟨g, 4, none⟩ (.int .i64 x.pl)).heap[g]? = some (.cells #[.string ⟨x.nm.toArray⟩, .int .i64 x.vd, .int .i64 x.sd, .string ⟨x.ct.toArray⟩, .int .i64 x.pl, .int .i64 best.mm, .string ⟨best.lt.toArray⟩, .string ⟨best.cl.toArray⟩] 42 (0, 0)) := heap_setCell_same y3 g 4 _ _ (.int .i64 x.pl) h3
  generalize y3.setCell ⟨g, 4, none⟩ (.int .i64 x.pl) = y4 at b4 h4 ⊢
  have b5 := below_set b4 hle 5 (.int .i64 x.mm)
  have h5 : (y4.setCell ⟨g, 5, none⟩ (.int .i64 x.mm)).heap[g]? = some (.cells #[.string ⟨x.nm.toArray⟩, .int .i64 x.vd, .int .i64 x.sd, .string ⟨x.ct.toArray⟩, .int .i64 x.pl, .int .i64 x.mm, .string ⟨best.lt.toArray⟩, .string ⟨best.cl.toArray⟩] 42 (0, 0)) := heap_setCell_same y4 g 5 _ _ (.int .i64 x.mm) h4
  generalize y4.setCell ⟨g, 5, none⟩ (.int .i64 x.mm) = y5 at b5 h5 ⊢
  have b6 := below_set b5 hle 6 (.string ⟨x.lt.toArray⟩)
  have h6 : (y5.setCell ⟨g, 6, none⟩ (.string ⟨x.lt.toArray⟩)).heap[g]? = some (.cells #[.string ⟨x.nm.toArray⟩, .int .i64 x.vd, .int .i64 x.sd, .string ⟨x.ct.toArray⟩, .int .i64 x.pl, .int .i64 x.mm, .string ⟨x.lt.toArray⟩, .string ⟨best.cl.toArray⟩] 42 (0, 0)) := heap_setCell_same y5 g 6 _ _ (.string ⟨x.lt.toArray⟩) h5
  generalize y5.setCell ⟨g, 6, none⟩ (.string ⟨x.lt.toArray⟩) = y6 at b6 h6 ⊢
  have b7 := below_set b6 hle 7 (.string ⟨x.cl.toArray⟩)
  have h7 : (y6.setCell ⟨g, 7, none⟩ (.string ⟨x.cl.toArray⟩)).heap[g]? = some (.cells #[.string ⟨x.nm.toArray⟩, .int .i64 x.vd, .int .i64 x.sd, .string ⟨x.ct.toArray⟩, .int .i64 x.pl, .int .i64 x.mm, .string ⟨x.lt.toArray⟩, .string ⟨x.cl.toArray⟩] 42 (0, 0)) := heap_setCell_same y6 g 7 _ _ (.string ⟨x.cl.toArray⟩) h6
  generalize y6.setCell ⟨g, 7, none⟩ (.string ⟨x.cl.toArray⟩) = y7 at b7 h7 ⊢
  subst hg
  exact ⟨h.below.trans (b7.mono (by omega)), Nat.le_trans h.size b7.size, (b7.block _ (by omega)).trans h.read, (b7.block _ (by omega)).trans h.res, h7⟩

theorem res_store {wr : World} (x : Rc) (g : Nat) (h_ : wr.heap[g]? = some (.cells #[.string ⟨#[]⟩, .int .i64 0, .int .i64 0, .string ⟨#[]⟩, .int .i64 0, .int .i64 0, .string ⟨#[]⟩, .string ⟨#[]⟩] 42 (0, 0))) :
    (((((((((wr.setCell ⟨g, 0, none⟩ (.string ⟨x.nm.toArray⟩)).setCell ⟨g, 1, none⟩ (.int .i64 x.vd)).setCell ⟨g, 2, none⟩ (.int .i64 x.sd)).setCell ⟨g, 3, none⟩ (.string ⟨x.ct.toArray⟩)).setCell ⟨g, 4, none⟩ (.int .i64 x.pl)).setCell ⟨g, 5, none⟩ (.int .i64 x.mm)).setCell ⟨g, 6, none⟩ (.string ⟨x.lt.toArray⟩)).setCell ⟨g, 7, none⟩ (.string ⟨x.cl.toArray⟩))).heap[g]? = some (.cells x.vals 42 (0, 0)) ∧ Below g wr ((((((((wr.setCell ⟨g, 0, none⟩ (.string ⟨x.nm.toArray⟩)).setCell ⟨g, 1, none⟩ (.int .i64 x.vd)).setCell ⟨g, 2, none⟩ (.int .i64 x.sd)).setCell ⟨g, 3, none⟩ (.string ⟨x.ct.toArray⟩)).setCell ⟨g, 4, none⟩ (.int .i64 x.pl)).setCell ⟨g, 5, none⟩ (.int .i64 x.mm)).setCell ⟨g, 6, none⟩ (.string ⟨x.lt.toArray⟩)).setCell ⟨g, 7, none⟩ (.string ⟨x.cl.toArray⟩)) := by
  have hle : g ≤ g := Nat.le_refl _
  have b_ : Below g wr wr := Below.refl g wr
  have b0 := below_set b_ hle 0 (.string ⟨x.nm.toArray⟩)
  have h0 : (wr.setCell ⟨g, 0, none⟩ (.string ⟨x.nm.toArray⟩)).heap[g]? = some (.cells #[.string ⟨x.nm.toArray⟩, .int .i64 0, .int .i64 0, .string ⟨#[]⟩, .int .i64 0, .int .i64 0, .string ⟨#[]⟩, .string ⟨#[]⟩] 42 (0, 0)) := heap_setCell_same wr g 0 _ _ (.string ⟨x.nm.toArray⟩) h_
  generalize wr.setCell ⟨g, 0, none⟩ (.string ⟨x.nm.toArray⟩) = y0 at b0 h0 ⊢
  have b1 := below_set b0 hle 1 (.int .i64 x.vd)
  have h1 : (y0.setCell ⟨g, 1, none⟩ (.int .i64 x.vd)).heap[g]? = some (.cells #[.string ⟨x.nm.toArray⟩, .int .i64 x.vd, .int .i64 0, .string ⟨#[]⟩, .int .i64 0, .int .i64 0, .string ⟨#[]⟩, .string ⟨#[]⟩] 42 (0, 0)) := heap_setCell_same y0 g 1 _ _ (.int .i64 x.vd) h0
  generalize y0.setCell ⟨g, 1, none⟩ (.int .i64 x.vd) = y1 at b1 h1 ⊢
  have b2 := below_set b1 hle 2 (.int .i64 x.sd)
  have h2 : (y1.setCell ⟨g, 2, none⟩ (.int .i64 x.sd)).heap[g]? = some (.cells #[.string ⟨x.nm.toArray⟩, .int .i64 x.vd, .int .i64 x.sd, .string ⟨#[]⟩, .int .i64 0, .int .i64 0, .string ⟨#[]⟩, .string ⟨#[]⟩] 42 (0, 0)) := heap_setCell_same y1 g 2 _ _ (.int .i64 x.sd) h1
  generalize y1.setCell ⟨g, 2, none⟩ (.int .i64 x.sd) = y2 at b2 h2 ⊢
  have b3 := below_set b2 hle 3 (.string ⟨x.ct.toArray⟩)
  have h3 : (y2.setCell ⟨g, 3, none⟩ (.string ⟨x.ct.toArray⟩)).heap[g]? = some (.cells #[.string ⟨x.nm.toArray⟩, .int .i64 x.vd, .int .i64 x.sd, .string ⟨x.ct.toArray⟩, .int .i64 0, .int .i64 0, .string ⟨#[]⟩, .string ⟨#[]⟩] 42 (0, 0)) := heap_setCell_same y2 g 3 _ _ (.string ⟨x.ct.toArray⟩) h2
  generalize y2.setCell ⟨g, 3, none⟩ (.string ⟨x.ct.toArray⟩) = y3 at b3 h3 ⊢
  have b4 := below_set b3 hle 4 (.int .i64 x.pl)
  have h4 : (y3.setCell ⟨g, 4, none⟩ (.int .i64 x.pl)).heap[g]? = some (.cells #[.string ⟨x.nm.toArray⟩, .int .i64 x.vd, .int .i64 x.sd, .string ⟨x.ct.toArray⟩, .int .i64 x.pl, .int .i64 0, .string ⟨#[]⟩, .string ⟨#[]⟩] 42 (0, 0)) := heap_setCell_same y3 g 4 _ _ (.int .i64 x.pl) h3
  generalize y3.setCell ⟨g, 4, none⟩ (.int .i64 x.pl) = y4 at b4 h4 ⊢
  have b5 := below_set b4 hle 5 (.int .i64 x.mm)
  have h5 : (y4.setCell ⟨g, 5, none⟩ (.int .i64 x.mm)).heap[g]? = some (.cells #[.string ⟨x.nm.toArray⟩, .int .i64 x.vd, .int .i64 x.sd, .string ⟨x.ct.toArray⟩, .int .i64 x.pl, .int .i64 x.mm, .string ⟨#[]⟩, .string ⟨#[]⟩] 42 (0, 0)) := heap_setCell_same y4 g 5 _ _ (.int .i64 x.mm) h4
  generalize y4.setCell ⟨g, 5, none⟩ (.int .i64 x.mm) = y5 at b5 h5 ⊢
  have b6 := below_set b5 hle 6 (.string ⟨x.lt.toArray⟩)
  have h6 : (y5.setCell ⟨g, 6, none⟩ (.string ⟨x.lt.toArray⟩)).heap[g]? = some (.cells #[.string ⟨x.nm.toArray⟩, .int .i64 x.vd, .int .i64 x.sd, .string ⟨x.ct.toArray⟩, .int .i64 x.pl, .int .i64 x.mm, .string ⟨x.lt.toArray⟩, .string ⟨#[]⟩] 42 (0, 0)) := heap_setCell_same y5 g 6 _ _ (.string ⟨x.lt.toArray⟩) h5
  generalize y5.setCell ⟨g, 6, none⟩ (.string ⟨x.lt.toArray⟩) = y6 at b6 h6 ⊢
  have b7 := below_set b6 hle 7 (.string ⟨x.cl.toArray⟩)
  have h7 : (y6.setCell ⟨g, 7, none⟩ (.string ⟨x.cl.toArray⟩)).heap[g]? = some (.cells #[.string ⟨x.nm.toArray⟩, .int .i64 x.vd, .int .i64 x.sd, .string ⟨x.ct.toArray⟩, .int .i64 x.pl, .int .i64 x.mm, .string ⟨x.lt.toArray⟩, .string ⟨x.cl.toArray⟩] 42 (0, 0)) := heap_setCell_same y6 g 7 _ _ (.string ⟨x.cl.toArray⟩) h6
  generalize y6.setCell ⟨g, 7, none⟩ (.string ⟨x.cl.toArray⟩) = y7 at b7 h7 ⊢
  exact ⟨h7, b7⟩

theorem AlB.start (w : World) (nm lt : List UInt8) (best : Rc) :
    AlB w (((w.alloc (.cells #[.string ⟨nm.toArray⟩, .string ⟨lt.toArray⟩] 46)).alloc (.cells #[.string ⟨#[]⟩, .int .i64 0, .int .i64 0, .string ⟨#[]⟩, .int .i64 0, .int .i64 0, .string ⟨#[]⟩, .string ⟨#[]⟩] 42)).alloc (.cells best.vals 42)) nm lt best := by
  refine ⟨(((Below.refl _ _).alloc (Nat.le_refl _) _).alloc (by simp) _).alloc (by simp; omega) _, by simp, ?_, ?_, ?_⟩
  · rw [Below.heap_alloc _ _ _ (by simp; omega), Below.heap_alloc _ _ _ (by simp)]
    exact heap_alloc_new w _
  · rw [Below.heap_alloc _ _ _ (by simp)]
    exact two_heap w _ _
  · have h := heap_alloc_new ((w.alloc (.cells #[.string ⟨nm.toArray⟩, .string ⟨lt.toArray⟩] 46)).alloc (.cells #[.string ⟨#[]⟩, .int .i64 0, .int .i64 0, .string ⟨#[]⟩, .int .i64 0, .int .i64 0, .string ⟨#[]⟩, .string ⟨#[]⟩] 42)) (.cells best.vals 42)
    rw [World.size_alloc, World.size_alloc] at h
    exact h

theorem Al.mis_short (n : Int) : ∀ (s t : List UInt8) (k : Nat), s.length ≤ k → Al.mis n s (t.take k) = Al.mis n s t := by
  intro s
  induction s with
  | nil => intro t k _; simp [Al.mis]
  | cons a s ih =>
    intro t k h
    obtain ⟨k, rfl⟩ : ∃ j, k = j + 1 := ⟨k - 1, by simp at h; omega⟩
    cases t with
    | nil => simp [Al.mis]
    | cons b t => simp only [List.take_succ_cons, Al.mis]; rw [ih t k (by simpa using h)]

theorem Al.err_none {b : Int} {lt : List UInt8} (h : Al.err b lt = 0) : 0 ≤ b ∧ b ≤ 3 ∧ Se.lettersErr lt = 0 ∧ lt.length ≤ 128 := by
  unfold Al.err at h
  split at h
  · simp at h
  · split at h
    · simp at h
    · refine ⟨by omega, by omega, h, ?_⟩
      unfold Se.lettersErr at h
      split at h
      · simp at h
      · split at h
        · simp at h
        · split at h
          · simp at h
          · omega

end Go.Proofs.Ytfcbgfomhmcikaa
