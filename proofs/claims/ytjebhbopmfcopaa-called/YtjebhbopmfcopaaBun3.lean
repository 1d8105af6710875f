/-
  'append(own, src...)': what is appended came in, or is nil. Own text of the verifier.
  THE WALK of the document's own Fasta. Own text of the verifier.
  PLAIN MATHEMATICS of Fastq: what it answers, a read at a time. No program is named here. Own text of the verifier.
  THE WALK of the document's own Fastq. Own text of the verifier.
  THE DOCUMENT'S SEARCH, its small walks: the three-letter mismatches, the error of a read's letters. Own text of the verifier.
  THE DOCUMENT'S SEARCH: every place, in order. Own text of the verifier.
  THE DOCUMENT'S Align, its small walks: letters along the reference, mismatches. Own text of the verifier.
  THE DOCUMENT'S Align: what follows a place, and the call of a position. Own text of the verifier.
  THE DOCUMENT'S Align: the letter of a call. Own text of the verifier.
-/
import Derived.Test.YtjebhbopmfcopaaBun1
import Derived.Laws.AppendOwnNone
import Derived.Test.YtjebhbopmfcopaaBun2
import Derived.Deep.QuietTactic
import Derived.BigQuiet
import Derived.Deep.RegionWith
namespace Go.Proofs.Ytjebhbopmfcopaa
open Go.RowKit

/-- the value sv is a slice of m elements whose cells are xs (or nil, and there are none) -/
def Src (w : World) (sv : Value) (m : Nat) (xs : List Value) : Prop :=
  (sv = .slice none 0 0 ∧ m = 0 ∧ xs = []) ∨ ∃ ad c, sv = .slice (some ad) m c ∧ (∀ j u, xs[j]? = some u → w.cell? (ad.add j) = some u)

theorem Src.mono {w w' : World} {sv : Value} {m : Nat} {xs : List Value} (h : Src w sv m xs) (hb : Below w.heap.size w w') : Src w' sv m xs := by
  rcases h with h | ⟨ad, c, rfl, hc⟩
  · exact .inl h
  · refine .inr ⟨ad, c, rfl, fun j u hj => ?_⟩
    have h0 := hc j u hj
    rw [hb.cell (World.block_lt_of_cell? w _ h0)]
    exact h0

/-- 'own = append(own, src...)' -/
theorem app_src {W w : World} {ops : Array Oper} {rest : List Oper} {o : Oper} {a : Act} {Q : Exit → Act → World → Prop} (hgd : o.guard = none) (s x : Operand) (t : TypeId)
    (ho : o.op = .call { callee := .builtin .append, args := #[s, x], argTypes := #[t, t] })
    (base : Nat) (e : TypeId) (z : Value) (size bytes : Nat) (ht : Try.prog.underlying t = some (.slice e)) (hinfo : (Try.prog.info? e).map (fun i => (i.zero, i.size, i.bytes)) = some (some z, size, bytes)) (hzs : z.cells.size = size) (hsz : 0 < size)
    (v : Value) (n : Nat) (xs : List Value) (sv : Value) (m : Nat) (news : List Value) (hs : a.eval s = v) (hx : a.eval x = sv)
    (hown : w.ownsRow base e size v n xs) (hsrc : Src w sv m news) (hl : news.length = m * size) (h1 : ∀ u ∈ news, u.oneCell' = true)
    (hbel : Below base W w) (hbase : base ≤ w.heap.size) (hlen : (n + m) * bytes ≤ 140737488355328) (hb0 : 0 < bytes)
    (h : ∀ v' w', w'.ownsRow base e size v' (n + m) (xs ++ news) → Below base W w' → w.heap.size ≤ w'.heap.size → (∀ k, k < w.heap.size → some k ≠ v.ownBlock → w'.heap[k]? = w.heap[k]?) → wpList Try.prog ops Q rest (a.put o.dst v') w') :
    wpList Try.prog ops Q (o :: rest) a w := by
  obtain ⟨i0, hi, hz0, hz1, hz2⟩ := info_parts hinfo
  have hle : (n + m) * 1 ≤ (n + m) * bytes := Nat.mul_le_mul_left _ hb0
  rcases hsrc with ⟨rfl, rfl, rfl⟩ | ⟨ad, c, rfl, hc⟩
  · refine wpList_append_own_none hgd s x t ho base e i0 size ht hi v n xs hs hown hx ?_
    refine h v w ?_ hbel (Nat.le_refl _) (fun _ _ _ => rfl)
    rw [Nat.add_zero, List.append_nil]; exact hown
  · refine wpList_append_own _ hgd s x t ho base e i0 z size bytes ht hi hz0 hz1 hz2 hzs hsz v n xs hs hown ad m c news hx hl hc h1 ?_ hlen hbase ?_
    · unfold maxLen; omega
    · intro v' w' g1 g2 _
      exact h v' w' g1 (hbel.grown g2 hbase (fun k hk => (hown.lt k hk).1)) g2.size g2.block

end Go.Proofs.Ytjebhbopmfcopaa

namespace Go.Proofs.Ytjebhbopmfcopaa
open Go.RowKit

theorem Try.infoContig : (Try.prog.info? 58).map (fun i => (i.zero, i.size, i.bytes)) = some (some (.agg #[.string ⟨#[]⟩, .string ⟨#[]⟩]), 2, 32) := by kernel_rfl
theorem Try.infoRead : (Try.prog.info? 46).map (fun i => (i.zero, i.size, i.bytes)) = some (some (.agg #[.string ⟨#[]⟩, .string ⟨#[]⟩]), 2, 32) := by kernel_rfl

theorem Prs_one (l : List Pr) : ∀ u ∈ Prs l, u.oneCell' = true := by
  intro u hu
  obtain ⟨o, ho, hu⟩ := List.mem_flatMap.1 hu
  simp only [prCells, List.mem_cons, List.not_mem_nil, or_false] at hu
  rcases hu with rfl | rfl <;> rfl

/-- 'out = append(out, T{name, letters})' -/
theorem app_pair {W w : World} {ops : Array Oper} {rest : List Oper} {o : Oper} {a : Act} {Q : Exit → Act → World → Prop} (hgd : o.guard = none) (s x : Operand) (t : TypeId)
    (ho : o.op = .call { callee := .builtin .append, args := #[s, x], argTypes := #[t, t] })
    (base : Nat) (e : TypeId) (ht : Try.prog.underlying t = some (.slice e)) (hinfo : (Try.prog.info? e).map (fun i => (i.zero, i.size, i.bytes)) = some (some (.agg #[.string ⟨#[]⟩, .string ⟨#[]⟩]), 2, 32))
    (v : Value) (l : List Pr) (nm lt : ByteArray) (y : Pr) (hs : a.eval s = v) (hx : a.eval x = .slice (some ⟨w.heap.size, 0, none⟩) 1 1) (hnm : nm = ⟨y.1.toArray⟩) (hlt : lt = ⟨y.2.toArray⟩)
    (hown : w.ownsRow base e 2 v l.length (Prs l)) (hbel : Below base W w) (hbase : base ≤ w.heap.size) (hlen : l.length + 1 ≤ 100000)
    (h : ∀ v' w', w'.ownsRow base e 2 v' (l ++ [y]).length (Prs (l ++ [y])) → Below base W w' → w.heap.size ≤ w'.heap.size → wpList Try.prog ops Q rest (a.put o.dst v') w') :
    wpList Try.prog ops Q (o :: rest) a (w.alloc (.cells #[.string nm, .string lt] e)) := by
  subst hnm hlt
  refine app_src hgd s x t ho base e _ 2 32 ht hinfo rfl (by decide) v l.length (Prs l) (.slice (some ⟨w.heap.size, 0, none⟩) 1 1) 1 (Prs [y]) hs hx (hown.alloc _) (.inr ⟨_, _, rfl, ?_⟩) (by simp [Prs, prCells]) (Prs_one _) (hbel.alloc hbase _) (by simp; omega) (by omega) (by decide) ?_
  · intro j u hj
    match j, hj with
    | 0, hj => simp [Prs, prCells] at hj; subst hj; simp [Addr.add]
    | 1, hj => simp [Prs, prCells] at hj; subst hj; simp [Addr.add]
  · intro v' w' h1 h2 h3 _
    refine h v' w' ?_ h2 (by simp at h3; omega)
    rw [Prs_append, List.length_append]
    exact h1

theorem u8_cmp {c : UInt8} (n : Nat) (hn : n < 256) : ((c.toNat : Int) != (n : Int)) = true ↔ c ≠ UInt8.ofNat n := by
  rw [bne_iff_ne]
  constructor
  · intro h h2
    exact h (by have := (Lt.toNat_inj hn).2 h2; omega)
  · intro h h2
    exact h ((Lt.toNat_inj hn).1 (by omega))
theorem u8_62 {c : UInt8} (h : c = 62) : ((c.toNat : Int) != 62) = false := by rw [h]; rfl
theorem u8_n62 {c : UInt8} (h : c ≠ 62) : ((c.toNat : Int) != 62) = true := (u8_cmp 62 (by omega)).2 h

theorem ans3 {v : Value} {x y : Int} {R : Tx.Ans} (h : R = ⟨R.out, x, y⟩) : Ending.returned (.tuple #[v, .int .i64 x, .int .i64 y]) = .returned (.tuple #[v, .int .i64 R.err, .int .i64 R.pos]) := by rw [h]

/-- what a reader's call ends with: the slice owned, the error, the place -/
def Reads (w : World) (e : TypeId) (R : Tx.Ans) (en : Ending) (w' : World) : Prop :=
  ∃ v, en = .returned (.tuple #[v, .int .i64 R.err, .int .i64 R.pos]) ∧ w'.ownsRow w.heap.size e 2 v R.out.length (Prs R.out) ∧ Below w.heap.size w w' ∧ (R.err ≠ 0 → v = .slice none 0 0)

theorem reads_bad {w w' : World} {e : TypeId} {R : Tx.Ans} {x : Int} {p : Nat} {y : Int} (h : R = Tx.bad x p) (hy : y = (p : Int)) (hb : Below w.heap.size w w') :
    Reads w e R (.returned (.tuple #[.slice none 0 0, .int .i64 x, .int .i64 y])) w' := by
  subst h hy
  exact ⟨_, rfl, World.ownsRow_nil _ _ _ _, hb, fun _ => rfl⟩

/-- what is owned stays owned while nothing old is written -/
theorem own_below {w w' : World} {base e size n : Nat} {v : Value} {xs : List Value} (h : w.ownsRow base e size v n xs) (hb : Below w.heap.size w w') : w'.ownsRow base e size v n xs := by
  refine ⟨h.1, ?_⟩
  rcases h.2 with h0 | ⟨g, cap, cur, rfl, h1, hg, h2⟩
  · exact .inl h0
  · exact .inr ⟨g, cap, cur, rfl, h1, by rw [hb.block g (Array.getElem?_eq_some_iff.1 hg).1]; exact hg, h2⟩

end Go.Proofs.Ytjebhbopmfcopaa

namespace Go.Proofs.Ytjebhbopmfcopaa.Tx

/-- how many qualities stand from a place on, at most so many -/
def qlen (s : ByteArray) : Nat → Nat → Nat
  | _, 0 => 0
  | p, f + 1 => if ql (bt s p) then qlen s (p + 1) f + 1 else 0

theorem qlen_le (s : ByteArray) : ∀ (f p : Nat), qlen s p f ≤ f := by
  intro f
  induction f with
  | zero => intro p; simp [qlen]
  | succ f ih => intro p; unfold qlen; split
                 · have := ih (p + 1); omega
                 · omega

/-- a read's last line -/
def fqQual (s : ByteArray) (j c : Nat) (k : Nat → Ans) : Ans :=
  if qlen s j c < c ∨ bt s (j + qlen s j c) ≠ 10 then bad 6 (j + qlen s j c) else k (j + c + 1)

/-- the line of the plus, from the end of the letters' line on -/
def fqPlus (s : ByteArray) (i : Nat) (k : Nat → Ans) : Ans :=
  if bt s i ≠ 10 then bad 5 i else if bt s (i + 1) ≠ 43 then bad 5 (i + 1) else if bt s (i + 2) ≠ 10 then bad 5 (i + 2) else k (i + 3)

/-- a read's lines behind its name -/
def fqTail (s : ByteArray) (q : Nat) (k : Nat → List UInt8 → Ans) : Ans :=
  if rlen s q 128 = 0 ∨ bt s (q + rlen s q 128) ≠ 10 then bad (wr s (q + rlen s q 128) 5 7) (q + rlen s q 128)
  else fqPlus s (q + rlen s q 128) (fun j => fqQual s j (rlen s q 128) (fun p => k p (caps s q (rlen s q 128))))

def fq (s : ByteArray) : Nat → Nat → List (List UInt8 × List UInt8) → Ans
  | 0, _, _ => bad 0 0
  | f + 1, p, out =>
    if ¬ p < s.size then ⟨out, 0, 0⟩
    else if bt s p ≠ 64 then bad 5 p
    else if out.length = 256 then bad 4 p
    else if nEnd s (p + 1) = p + 1 ∨ bt s (nEnd s (p + 1)) ≠ 10 then bad 5 (nEnd s (p + 1))
    else fqTail s (nEnd s (p + 1) + 1) (fun q x => fq s f q (out ++ [(piece s (p + 1) (nEnd s (p + 1)), x)]))

def fastq (s : ByteArray) : Ans := fq s (s.size + 1) 0 []

theorem tail_bad (s : ByteArray) (q : Nat) (k : Nat → List UInt8 → Ans) (h : rlen s q 128 = 0 ∨ bt s (q + rlen s q 128) ≠ 10) : fqTail s q k = bad (wr s (q + rlen s q 128) 5 7) (q + rlen s q 128) := by
  rw [fqTail, if_pos h]
theorem tail_good (s : ByteArray) (q : Nat) (k : Nat → List UInt8 → Ans) (h : ¬ (rlen s q 128 = 0 ∨ bt s (q + rlen s q 128) ≠ 10)) :
    fqTail s q k = fqPlus s (q + rlen s q 128) (fun j => fqQual s j (rlen s q 128) (fun p => k p (caps s q (rlen s q 128)))) ∧ bt s (q + rlen s q 128) = 10 ∧ 0 < rlen s q 128 ∧ q + rlen s q 128 < s.size := by
  have h10 : bt s (q + rlen s q 128) = 10 := by
    by_cases h1 : bt s (q + rlen s q 128) = 10
    · exact h1
    · exact absurd (.inr h1) h
  refine ⟨by rw [fqTail, if_neg h], h10, ?_, bt_lt (by rw [h10]; decide)⟩
  rcases Nat.eq_zero_or_pos (rlen s q 128) with h0 | h0
  · exact absurd (.inl h0) h
  · exact h0

/-- the letters' line as the program reads it: the letters are at their end at i = q + c -/
theorem tail_end (s : ByteArray) (q c : Nat) (k : Nat → List UInt8 → Ans) (hc : rlen s q 128 = c) (h0 : cap (bt s (q + c)) = 0) (hpos : 0 < c) : fqTail s q k = fqPlus s (q + c) (fun j => fqQual s j c (fun p => k p (caps s q c))) := by
  subst hc
  by_cases h : bt s (q + rlen s q 128) = 10
  · rw [fqTail, if_neg (by simp [h]; omega)]
  · rw [fqTail, if_pos (.inr h), fqPlus, if_pos h, wr, if_neg (by simp [h0])]
theorem tail_none (s : ByteArray) (q : Nat) (k : Nat → List UInt8 → Ans) (hc : rlen s q 128 = 0) (h0 : cap (bt s q) = 0) : fqTail s q k = bad 5 q := by
  rw [tail_bad s q k (.inl hc), hc, wr, Nat.add_zero, if_neg (by simp [h0])]
theorem tail_long (s : ByteArray) (q : Nat) (k : Nat → List UInt8 → Ans) (hc : rlen s q 128 = 128) (h0 : cap (bt s (q + 128)) ≠ 0) : fqTail s q k = bad 7 (q + 128) := by
  have h10 : bt s (q + 128) ≠ 10 := fun h => h0 (by rw [h]; exact cap_10)
  rw [tail_bad s q k (.inr (by rw [hc]; exact h10)), hc, wr, if_pos h0]

theorem plus_bad0 (s : ByteArray) (i : Nat) (k : Nat → Ans) (h : bt s i ≠ 10) : fqPlus s i k = bad 5 i := by rw [fqPlus, if_pos h]
theorem plus_bad1 (s : ByteArray) (i : Nat) (k : Nat → Ans) (h : bt s i = 10) (h1 : bt s (i + 1) ≠ 43) : fqPlus s i k = bad 5 (i + 1) := by rw [fqPlus, if_neg (by simp [h]), if_pos h1]
theorem plus_bad2 (s : ByteArray) (i : Nat) (k : Nat → Ans) (h : bt s i = 10) (h1 : bt s (i + 1) = 43) (h2 : bt s (i + 2) ≠ 10) : fqPlus s i k = bad 5 (i + 2) := by rw [fqPlus, if_neg (by simp [h]), if_neg (by simp [h1]), if_pos h2]
theorem plus_good (s : ByteArray) (i : Nat) (k : Nat → Ans) (h : bt s i = 10) (h1 : bt s (i + 1) = 43) (h2 : bt s (i + 2) = 10) : fqPlus s i k = k (i + 3) := by rw [fqPlus, if_neg (by simp [h]), if_neg (by simp [h1]), if_neg (by simp [h2])]

theorem qlen_step (s : ByteArray) (p m j : Nat) (hj : j < m) : qlen s (p + j) (m - j) = if ql (bt s (p + j)) then qlen s (p + (j + 1)) (m - (j + 1)) + 1 else 0 := by
  obtain ⟨f, hf⟩ : ∃ f, m - j = f + 1 := ⟨m - j - 1, by omega⟩
  rw [hf, qlen, show m - (j + 1) = f by omega, show p + (j + 1) = p + j + 1 by omega]

theorem fq_end (s : ByteArray) (f p : Nat) (out : List (List UInt8 × List UInt8)) (h : ¬ p < s.size) : fq s (f + 1) p out = ⟨out, 0, 0⟩ := by rw [fq, if_pos h]
theorem fq_stop (s : ByteArray) (f p : Nat) (out : List (List UInt8 × List UInt8)) (h : p < s.size) (hb : bt s p ≠ 64) : fq s (f + 1) p out = bad 5 p := by rw [fq, if_neg (by omega), if_pos hb]
theorem fq_many (s : ByteArray) (f p : Nat) (out : List (List UInt8 × List UInt8)) (h : p < s.size) (hb : bt s p = 64) (hn : out.length = 256) : fq s (f + 1) p out = bad 4 p := by rw [fq, if_neg (by omega), if_neg (by simp [hb]), if_pos hn]
theorem fq_name (s : ByteArray) (f p : Nat) (out : List (List UInt8 × List UInt8)) (h : p < s.size) (hb : bt s p = 64) (hn : out.length ≠ 256) (he : nEnd s (p + 1) = p + 1 ∨ bt s (nEnd s (p + 1)) ≠ 10) : fq s (f + 1) p out = bad 5 (nEnd s (p + 1)) := by rw [fq, if_neg (by omega), if_neg (by simp [hb]), if_neg hn, if_pos he]
theorem fq_go (s : ByteArray) (f p : Nat) (out : List (List UInt8 × List UInt8)) (h : p < s.size) (hb : bt s p = 64) (hn : out.length ≠ 256) (he : ¬ (nEnd s (p + 1) = p + 1 ∨ bt s (nEnd s (p + 1)) ≠ 10)) :
    fq s (f + 1) p out = fqTail s (nEnd s (p + 1) + 1) (fun q x => fq s f q (out ++ [(piece s (p + 1) (nEnd s (p + 1)), x)])) := by rw [fq, if_neg (by omega), if_neg (by simp [hb]), if_neg hn, if_neg he]

end Go.Proofs.Ytjebhbopmfcopaa.Tx

namespace Go.Proofs.Ytjebhbopmfcopaa
open Go.RowKit

theorem u8_64 {c : UInt8} (h : c = 64) : ((c.toNat : Int) != 64) = false := by rw [h]; rfl
theorem u8_n64 {c : UInt8} (h : c ≠ 64) : ((c.toNat : Int) != 64) = true := (u8_cmp 64 (by omega)).2 h
theorem u8_43 {c : UInt8} (h : c = 43) : ((c.toNat : Int) != 43) = false := by rw [h]; rfl
theorem u8_n43 {c : UInt8} (h : c ≠ 43) : ((c.toNat : Int) != 43) = true := (u8_cmp 43 (by omega)).2 h

theorem ix_str (s : ByteArray) (k : Nat) (h : k < s.size) (x : Int) (hx : x = (k : Int)) (wy : World) : (Instr.index 9 (.string s) (.int .i64 x)).run Try.prog wy = .ok (.int .u8 (s[k].toNat : Int)) wy := by
  subst hx
  have h0 : (0 : Int) ≤ (k : Int) := by omega
  have h1 : (k : Int) < (s.size : Int) := by omega
  go_simp

theorem wrap_small (x : Int) (h0 : 0 ≤ x) (h1 : x ≤ 1000000000000000) : IntKind.i64.wrap x = x := by
  simp [IntKind.wrap, IntKind.bits, IntKind.signed]
  omega

end Go.Proofs.Ytjebhbopmfcopaa

namespace Go.Proofs.Ytjebhbopmfcopaa
open Go.RowKit

/-- two letters that do not stand for one another, on a strand -/
def Se.off (n : Int) (a b : UInt8) : Bool := a == 78 || b == 78 || Lt.trn a n != Lt.trn b n
/-- the three-letter mismatches -/
def Se.three (n : Int) : List UInt8 → List UInt8 → Nat
  | a :: s, b :: t => (if Se.off n a b then 1 else 0) + Se.three n s t
  | _, _ => 0

theorem Se.three_take (n : Int) : ∀ (s t : List UInt8) (k : Nat) (h1 : k < s.length) (h2 : k < t.length), Se.three n (s.take (k + 1)) (t.take (k + 1)) = Se.three n (s.take k) (t.take k) + (if Se.off n s[k] t[k] then 1 else 0) := by
  intro s
  induction s with
  | nil => intro t k h1; simp at h1
  | cons a s ih =>
    intro t k h1 h2
    cases t with
    | nil => simp at h2
    | cons b t =>
      cases k with
      | zero => simp [Se.three]
      | succ k =>
        have := ih t k (by simpa using h1) (by simpa using h2)
        simp only [List.take_succ_cons, Se.three, List.getElem_cons_succ] at this ⊢
        omega

theorem Se.three_le (n : Int) : ∀ (s t : List UInt8), Se.three n s t ≤ s.length := by
  intro s
  induction s with
  | nil => intro t; simp [Se.three]
  | cons a s ih =>
    intro t
    cases t with
    | nil => simp [Se.three]
    | cons b t => have := ih t; simp only [Se.three, List.length_cons]; split <;> omega

theorem Se.three_whole (n : Int) : ∀ (s t : List UInt8) (k : Nat), s.length ≤ k → Se.three n (s.take k) (t.take k) = Se.three n s t := by
  intro s
  induction s with
  | nil => intro t k _; simp [Se.three]
  | cons a s ih =>
    intro t k h
    obtain ⟨k, rfl⟩ : ∃ j, k = j + 1 := ⟨k - 1, by simp at h; omega⟩
    cases t with
    | nil => simp [Se.three]
    | cons b t => simp only [List.take_succ_cons, Se.three]; rw [ih t k (by simpa using h)]

theorem u8_is78 (c : UInt8) : (c == 78) = ((c.toNat : Int) == 78) := u8_beq c 78 (by omega)
theorem u8_bne (a b : UInt8) : (a != b) = ((a.toNat : Int) != (b.toNat : Int)) := by
  rw [Bool.eq_iff_iff, bne_iff_ne, bne_iff_ne]
  constructor
  · intro h h2; exact h (UInt8.toNat_inj.1 (by omega))
  · intro h h2; exact h (by rw [h2])

theorem drewN_more (w : World) (a b : Nat) : (w.drewN a).drewN b = w.drewN (a + b) := by simp [World.drewN, Nat.add_assoc]

/-- the error of a read's letters -/
def Se.lettersErr (l : List UInt8) : Int := if Lt.allL l = false then 8 else if l.length = 0 then 8 else if 128 < l.length then 7 else 0

end Go.Proofs.Ytjebhbopmfcopaa

namespace Go.Proofs.Ytjebhbopmfcopaa
open Go.RowKit

theorem Se.three_short (n : Int) : ∀ (s t : List UInt8) (k : Nat), s.length ≤ k → Se.three n s (t.take k) = Se.three n s t := by
  intro s
  induction s with
  | nil => intro t k _; simp [Se.three]
  | cons a s ih =>
    intro t k h
    obtain ⟨k, rfl⟩ : ∃ j, k = j + 1 := ⟨k - 1, by simp at h; omega⟩
    cases t with
    | nil => simp [Se.three]
    | cons b t => simp only [List.take_succ_cons, Se.three]; rw [ih t k (by simpa using h)]

/-- do the letters s stand in t at a place, within a budget? -/
def Se.stands (n b : Int) (s t : List UInt8) (p : Nat) : Bool := decide ((Se.three n s (t.drop p) : Int) ≤ b)
/-- the places of one contig, of the first m that may be -/
def Se.upto (n b : Int) (s t : List UInt8) (c m : Nat) : List (Nat × Nat) := ((List.range m).filter (Se.stands n b s t)).map (fun p => (c, p))
/-- all places of one contig -/
def Se.inOne (n b : Int) (s t : List UInt8) (c : Nat) : List (Nat × Nat) := Se.upto n b s t c (t.length + 1 - s.length)
/-- all places of the first k contigs -/
def Se.inAll (n b : Int) (s : List UInt8) (cs : List Pr) : Nat → List (Nat × Nat)
  | 0 => []
  | k + 1 => Se.inAll n b s cs k ++ (match cs[k]? with | some x => Se.inOne n b s x.2 k | none => [])

theorem Se.upto_length (n b : Int) (s t : List UInt8) (c m : Nat) : (Se.upto n b s t c m).length ≤ m := by
  rw [Se.upto, List.length_map]
  have := List.length_filter_le (Se.stands n b s t) (List.range m)
  simpa using this
theorem Se.upto_succ (n b : Int) (s t : List UInt8) (c m : Nat) : Se.upto n b s t c (m + 1) = Se.upto n b s t c m ++ (if Se.stands n b s t m then [(c, m)] else []) := by
  rw [Se.upto, Se.upto, List.range_succ, List.filter_append, List.map_append]
  congr 1
  by_cases h : Se.stands n b s t m = true
  · simp [h]
  · simp [h]
theorem Se.inAll_length (n b : Int) (s : List UInt8) (cs : List Pr) (N : Nat) (hN : ∀ x ∈ cs, x.2.length ≤ N) : ∀ k, (Se.inAll n b s cs k).length ≤ k * (N + 1) := by
  intro k
  induction k with
  | zero => simp [Se.inAll]
  | succ k ih =>
    rw [Se.inAll, List.length_append, Nat.succ_mul]
    have : (match cs[k]? with | some x => Se.inOne n b s x.2 k | none => []).length ≤ N + 1 := by
      split
      · next x hx =>
        have h1 := Se.upto_length n b s x.2 k (x.2.length + 1 - s.length)
        have h2 := hN x (List.mem_of_getElem? hx)
        rw [Se.inOne]
        omega
      · simp
    omega

/-- places, as cells -/
def Se.pls (l : List (Nat × Nat)) : List Value := l.flatMap (fun p => [.int .i64 (p.1 : Int), .int .i64 (p.2 : Int)])
theorem Se.pls_length (l : List (Nat × Nat)) : (Se.pls l).length = l.length * 2 := by
  induction l with
  | nil => rfl
  | cons a l ih => simp only [Se.pls, List.flatMap_cons, List.length_append, List.length_cons, List.length_nil] at ih ⊢; omega
theorem Se.pls_append (a b : List (Nat × Nat)) : Se.pls (a ++ b) = Se.pls a ++ Se.pls b := by simp [Se.pls]

theorem Try.infoPlace : (Try.prog.info? 37).map (fun i => (i.zero, i.size, i.bytes)) = some (some (.agg #[.int .i64 0, .int .i64 0]), 2, 16) := by kernel_rfl

theorem src_pair {w : World} {ad : Addr} {l : List Pr} (h : ∀ j u, (Prs l)[j]? = some u → w.cell? (ad.add j) = some u) (k : Nat) (hk : k < l.length) : w.cell? (ad.add (k * 2 + 1)) = some (.string ⟨l[k].2.toArray⟩) := by
  refine h (k * 2 + 1) _ ?_
  have e : l = l.take k ++ l.drop k := (List.take_append_drop k l).symm
  have hl : (Prs (l.take k)).length = k * 2 := by rw [Prs_length, List.length_take]; omega
  conv => lhs; rw [e, Prs_append]
  rw [List.getElem?_append_right (by omega), hl, show k * 2 + 1 - k * 2 = 1 by omega, List.drop_eq_getElem_cons hk]
  simp only [Prs, List.flatMap_cons, prCells, List.cons_append, List.nil_append]
  rfl

/-- two cells of a row just made -/
theorem two_cells (w : World) (a b : Value) (e : TypeId) : ∀ j u, [a, b][j]? = some u → (w.alloc (.cells #[a, b] e)).cell? ((⟨w.heap.size, 0, none⟩ : Addr).add j) = some u := by
  intro j u hj
  rw [Addr.add_lit, Nat.zero_add, cell_of_row _ _ j #[a, b] e (0, 0) (heap_alloc_new w _), ← hj]
  simp

theorem addr_next (ad : Addr) (k : Nat) : (⟨(ad.add k).block, (ad.add k).off + 1, none⟩ : Addr) = ad.add (k + 1) := by
  unfold Addr.add
  by_cases h : k = 0
  · simp [h]
  · simp [h]; omega

/-- Find's error -/
def Se.findErr (n b : Int) (S : List UInt8) : Int := if Lt.strandB n = false then 1 else if b < 0 then 1 else if 3 < b then 1 else Se.lettersErr S
/-- Find's places -/
def Se.findOut (n b : Int) (S : List UInt8) (cs : List Pr) : List (Nat × Nat) := if Se.findErr n b S = 0 then Se.inAll n b S cs cs.length else []

theorem ret_two {v : Value} {a b : Int} (h : a = b) : Ending.returned (.tuple #[v, .int .i64 a]) = .returned (.tuple #[v, .int .i64 b]) := by rw [h]

end Go.Proofs.Ytjebhbopmfcopaa

namespace Go.Proofs.Ytjebhbopmfcopaa
open Go.RowKit

/-- a read's letters along the reference -/
def Al.along (s : List UInt8) (n : Int) : List UInt8 := if n == 2 || n == 3 then Lt.rev s else s

/-- a mismatch of a read's letter a with the reference's b -/
def Al.mm (n : Int) (a b : UInt8) : Bool := !(a == b && a != 78) && !((Lt.topB n && b == 67 && a == 84) || (!Lt.topB n && b == 71 && a == 65))
/-- the mismatches -/
def Al.mis (n : Int) : List UInt8 → List UInt8 → Nat
  | a :: s, b :: t => (if Al.mm n a b then 1 else 0) + Al.mis n s t
  | _, _ => 0

theorem Al.mis_take (n : Int) : ∀ (s t : List UInt8) (k : Nat) (h1 : k < s.length) (h2 : k < t.length), Al.mis n (s.take (k + 1)) (t.take (k + 1)) = Al.mis n (s.take k) (t.take k) + (if Al.mm n s[k] t[k] then 1 else 0) := by
  intro s
  induction s with
  | nil => intro t k h1; simp at h1
  | cons a s ih =>
    intro t k h1 h2
    cases t with
    | nil => simp at h2
    | cons b t =>
      cases k with
      | zero => simp [Al.mis]
      | succ k =>
        have := ih t k (by simpa using h1) (by simpa using h2)
        simp only [List.take_succ_cons, Al.mis, List.getElem_cons_succ] at this ⊢
        omega
theorem Al.mis_le (n : Int) : ∀ (s t : List UInt8), Al.mis n s t ≤ s.length := by
  intro s
  induction s with
  | nil => intro t; simp [Al.mis]
  | cons a s ih =>
    intro t
    cases t with
    | nil => simp [Al.mis]
    | cons b t => have := ih t; simp only [Al.mis, List.length_cons]; split <;> omega
theorem Al.mis_whole (n : Int) : ∀ (s t : List UInt8) (k : Nat), s.length ≤ k → Al.mis n (s.take k) (t.take k) = Al.mis n s t := by
  intro s
  induction s with
  | nil => intro t k _; simp [Al.mis]
  | cons a s ih =>
    intro t k h
    obtain ⟨k, rfl⟩ : ∃ j, k = j + 1 := ⟨k - 1, by simp at h; omega⟩
    cases t with
    | nil => simp [Al.mis]
    | cons b t => simp only [List.take_succ_cons, Al.mis]; rw [ih t k (by simpa using h)]

theorem u8_eqI (a b : UInt8) : (a == b) = ((a.toNat : Int) == (b.toNat : Int)) := by
  have e1 := u8_bne a b
  simp only [bne] at e1
  exact Bool.not_inj e1

theorem Al.mm_int (n : Int) (a b : UInt8) : Al.mm n a b = (!(((a.toNat : Int) == (b.toNat : Int)) && ((a.toNat : Int) != 78)) && !((Lt.topB n && ((b.toNat : Int) == 67) && ((a.toNat : Int) == 84)) || (!Lt.topB n && ((b.toNat : Int) == 71) && ((a.toNat : Int) == 65)))) := by
  unfold Al.mm
  rw [u8_eqI a b, u8_bne a 78, u8_eqI b 67, u8_eqI a 84, u8_eqI b 71, u8_eqI a 65]
  rfl

end Go.Proofs.Ytjebhbopmfcopaa

namespace Go.Proofs.Ytjebhbopmfcopaa
open Go.RowKit

/-- is it A, C or T? -/
def Al.rest (c : UInt8) : Bool := c == 65 || c == 67 || c == 84

/-- the k-th letter that follows a place; 0: there is none -/
def Al.next (n : Int) (t : List UInt8) (p k : Nat) : UInt8 :=
  if Lt.topB n then (match t[p + k]? with | some c => c | none => 0) else if p < k then 0 else (match t[p - k]? with | some c => Lt.comp c | none => 0)

end Go.Proofs.Ytjebhbopmfcopaa

namespace Go.Proofs.Ytjebhbopmfcopaa
open Go.RowKit

/-- the letter of a call, in lower case -/
def Al.follows (n : Int) (t : List UInt8) (p : Nat) : UInt8 :=
  if Al.next n t p 1 == 71 then 122 else if Al.rest (Al.next n t p 1) && Al.next n t p 2 == 71 then 120 else if Al.rest (Al.next n t p 1) && Al.rest (Al.next n t p 2) then 104 else 117

theorem Al.follows_cases (n : Int) (t : List UInt8) (p : Nat) : Al.follows n t p = 122 ∨ Al.follows n t p = 120 ∨ Al.follows n t p = 104 ∨ Al.follows n t p = 117 := by
  unfold Al.follows
  split
  · exact .inl rfl
  · split
    · exact .inr (.inl rfl)
    · split
      · exact .inr (.inr (.inl rfl))
      · exact .inr (.inr (.inr rfl))

/-- the letter that a strand's treatment turns, and what it turns into -/
def Al.bare (n : Int) : UInt8 := if Lt.topB n then 67 else 71
def Al.gone (n : Int) : UInt8 := if Lt.topB n then 84 else 65
/-- the call of a position: the read's letter c, the contig's letters t -/
def Al.call (n : Int) (c : UInt8) (t : List UInt8) (p : Nat) : UInt8 :=
  if t[p]? ≠ some (Al.bare n) then 46 else if c = Al.bare n then Al.follows n t p - 32 else if c = Al.gone n then Al.follows n t p else 46

theorem follows_up (n : Int) (t : List UInt8) (p : Nat) : ((Al.follows n t p).toNat : Int) - 32 = ((Al.follows n t p - 32).toNat : Int) ∧ 32 ≤ ((Al.follows n t p).toNat : Int) := by
  rcases Al.follows_cases n t p with h | h | h | h <;> rw [h] <;> decide

end Go.Proofs.Ytjebhbopmfcopaa
