/-
  PAIRS OF TEXTS IN MEMORY (contigs, reads): a name and letters each; a name among them. Own text of the verifier.
  PLAIN MATHEMATICS of Fasta's machine: its steps a line at a time. Own text of the verifier.
  'append(own, src...)': what is appended came in, or is nil. Own text of the verifier.
  THE WALK of the document's own Fasta. Own text of the verifier.
  PLAIN MATHEMATICS of Fastq: what it answers, a read at a time. No program is named here. Own text of the verifier.
-/
import Derived.Test.YtfcbgfomhmcikaaBun2
import Derived.Test.YtfcbgfomhmcikaaBun1
import Derived.Laws.AppendOwnNone
namespace Go.Proofs.Ytfcbgfomhmcikaa
open Go.RowKit

abbrev Pr := List UInt8 × List UInt8

def prCells (x : Pr) : List Value := [.string ⟨x.1.toArray⟩, .string ⟨x.2.toArray⟩]
def Prs (l : List Pr) : List Value := l.flatMap prCells

theorem Prs_length (l : List Pr) : (Prs l).length = l.length * 2 := by
  induction l with
  | nil => rfl
  | cons o l ih => rw [Prs, List.flatMap_cons, List.length_append, ← Prs, ih, List.length_cons]; simp [prCells]; omega

theorem Prs_at (l : List Pr) (k : Nat) (h : k < l.length) (j : Nat) (hj : j < 2) : (Prs l)[k * 2 + j]? = (prCells l[k])[j]? := by
  induction l generalizing k with
  | nil => simp at h
  | cons o l ih =>
    rw [Prs, List.flatMap_cons]
    cases k with
    | zero => rw [List.getElem?_append_left (by simp [prCells]; omega)]; simp
    | succ k =>
      rw [List.getElem?_append_right (by simp [prCells]; omega)]
      have e : (k + 1) * 2 + j - (prCells o).length = k * 2 + j := by simp [prCells]; omega
      rw [e]
      have := ih k (by simpa using h)
      rw [Prs] at this
      rw [this]
      simp

theorem Prs_append (l r : List Pr) : Prs (l ++ r) = Prs l ++ Prs r := by simp [Prs]

theorem own_pair {w : World} {base e n cap g : Nat} {l : List Pr} (h : w.ownsRow base e 2 (.slice (some ⟨g, 0, none⟩) n cap) n (Prs l)) (k : Nat) (hk : k < l.length) :
    w.cell? ⟨g, k * 2, none⟩ = some (.string ⟨l[k].1.toArray⟩) ∧ w.cell? ⟨g, k * 2 + 1, none⟩ = some (.string ⟨l[k].2.toArray⟩) := by
  have hl : l.length * 2 = n * 2 := by have := h.1; rw [Prs_length] at this; exact this
  constructor
  · have := h.cellAt (k * 2 + 0) (by omega)
    rw [Prs_at l k hk 0 (by omega)] at this
    simpa [prCells] using this
  · rw [h.cellAt (k * 2 + 1) (by omega), Prs_at l k hk 1 (by omega)]
    simp [prCells]

def hasN (l : List Pr) (nm : List UInt8) : Bool := l.any (fun x => x.1 == nm)

theorem hasN_stop (l : List Pr) (nm : List UInt8) (k : Nat) (h : k < l.length) (he : (l[k].1 == nm) = true) : hasN l nm = true := by
  rw [hasN, List.any_eq_true]
  exact ⟨l[k], List.getElem_mem _, he⟩
theorem hasN_snoc (l : List Pr) (nm : List UInt8) (k : Nat) (h : k < l.length) (h0 : hasN (l.take k) nm = false) (he : (l[k].1 == nm) = false) : hasN (l.take (k + 1)) nm = false := by
  rw [List.take_succ_eq_append_getElem h]
  simp only [hasN, List.any_append, List.any_cons, List.any_nil, Bool.or_false] at *
  rw [h0, he]; rfl
theorem hasN_whole (l : List Pr) (nm : List UInt8) (k : Nat) (h : ¬ k < l.length) (h0 : hasN (l.take k) nm = false) : hasN l nm = false := by
  rwa [List.take_of_length_le (by omega)] at h0

end Go.Proofs.Ytfcbgfomhmcikaa

namespace Go.Proofs.Ytfcbgfomhmcikaa.Tx

/-- where a contig may begin, or the text end -/
def head (s : ByteArray) (f p : Nat) (out : List (List UInt8 × List UInt8)) (total : Nat) : Ans :=
  if p < s.size ∨ p = 0 then faMark s p out (fun q nm => faIn s f q q nm [] out total) else ⟨out, 0, 0⟩

theorem cap_62 : cap 62 = 0 := by decide
theorem cap_10 : cap 10 = 0 := by decide

theorem fa_bad (s : ByteArray) (f p : Nat) (name letters : List UInt8) (out : List (List UInt8 × List UInt8)) (total : Nat) (hp : p ≤ s.size) (hf : s.size + 1 ≤ f + p) (ht : total ≤ 4096)
    (hc : (p < s.size ∧ bt s p ≠ 62) ∨ letters = []) (hb : rlen s p (4096 - total) = 0 ∨ bt s (p + rlen s p (4096 - total)) ≠ 10) :
    faIn s f p p name letters out total = bad (wr s (p + rlen s p (4096 - total)) 2 4) (p + rlen s p (4096 - total)) := by
  generalize hcc : rlen s p (4096 - total) = c at *
  have hle : c ≤ 4096 - total := by rw [← hcc]; exact rlen_le _ _ _
  have hsz : p + c ≤ s.size := by rw [← hcc]; exact rlen_size _ _ _ hp
  rw [faIn_run s p name out c f p letters total (fun j hj => rlen_all s (4096 - total) p j (by omega)) (by omega) (by omega)]
  obtain ⟨g, hg⟩ : ∃ g, f - c = g + 1 := ⟨f - c - 1, by omega⟩
  rw [hg, faIn, wr]
  by_cases h0 : cap (bt s (p + c)) ≠ 0
  · have hfull : c = 4096 - total := by
      by_cases hlt : c < 4096 - total
      · have := rlen_stop s (4096 - total) p (by omega)
        rw [hcc] at this
        exact absurd this h0
      · omega
    rw [if_pos h0, if_pos (by omega), if_pos h0]
  · rw [if_neg h0, if_neg h0]
    by_cases hc0 : c = 0
    · subst hc0
      simp only [Nat.add_zero] at *
      rw [if_neg (by omega)]
      by_cases hl : letters = []
      · subst hl
        rw [if_pos (.inr (by simp [caps]))]
      · rw [if_neg (by simp [caps, hl])]
        rcases hc with ⟨h1, h2⟩ | h
        · rw [if_pos h1, faMark, if_pos h2]
        · exact absurd h hl
    · rcases hb with h | h
      · exact absurd h hc0
      · rw [if_neg (fun x => h x.1), if_pos (.inl (by omega))]

theorem fa_good (s : ByteArray) (f p : Nat) (name letters : List UInt8) (out : List (List UInt8 × List UInt8)) (total : Nat) (hf : s.size + 1 ≤ f + p) (ht : total ≤ 4096)
    (hb : ¬ (rlen s p (4096 - total) = 0 ∨ bt s (p + rlen s p (4096 - total)) ≠ 10)) :
    ∃ g, s.size + 1 ≤ g + (p + rlen s p (4096 - total) + 1) ∧ p + rlen s p (4096 - total) < s.size ∧ 0 < rlen s p (4096 - total) ∧ rlen s p (4096 - total) ≤ 4096 - total ∧
      faIn s f p p name letters out total = faIn s g (p + rlen s p (4096 - total) + 1) (p + rlen s p (4096 - total) + 1) name (letters ++ caps s p (rlen s p (4096 - total))) out (total + rlen s p (4096 - total)) := by
  generalize hcc : rlen s p (4096 - total) = c at *
  have hle : c ≤ 4096 - total := by rw [← hcc]; exact rlen_le _ _ _
  have h10 : bt s (p + c) = 10 := by
    by_cases h : bt s (p + c) = 10
    · exact h
    · exact absurd (.inr h) hb
  have hc0 : c ≠ 0 := fun h => hb (.inl h)
  have hlt : p + c < s.size := bt_lt (by rw [h10]; decide)
  refine ⟨f - c - 1, by omega, hlt, by omega, hle, ?_⟩
  rw [faIn_run s p name out c f p letters total (fun j hj => rlen_all s (4096 - total) p j (by omega)) (by omega) (by omega)]
  obtain ⟨g, hg⟩ : ∃ g, f - c = g + 1 := ⟨f - c - 1, by omega⟩
  rw [hg, faIn, h10, if_neg (by simp [cap_10]), if_pos ⟨rfl, by omega⟩]
  rfl

theorem fa_whole (s : ByteArray) (f p : Nat) (name letters : List UInt8) (out : List (List UInt8 × List UInt8)) (total : Nat) (hf : s.size + 1 ≤ f + p) (hp : p ≤ s.size) (hp0 : 0 < p)
    (hl : letters ≠ []) (hc : ¬ (p < s.size ∧ bt s p ≠ 62)) :
    ∃ g, s.size ≤ g + p ∧ faIn s f p p name letters out total = head s g p (out ++ [(name, letters)]) total := by
  obtain ⟨g, rfl⟩ : ∃ g, f = g + 1 := ⟨f - 1, by omega⟩
  refine ⟨g, by omega, ?_⟩
  have hb : cap (bt s p) = 0 ∧ bt s p ≠ 10 := by
    by_cases h : p < s.size
    · have h62 : bt s p = 62 := by
        by_cases h2 : bt s p = 62
        · exact h2
        · exact absurd ⟨h, h2⟩ hc
      rw [h62]; exact ⟨cap_62, by decide⟩
    · rw [bt_out h]; exact ⟨cap_zero, by decide⟩
  rw [faIn, if_neg (by simp [hb.1]), if_neg (by omega), if_neg (by simp [hl]), head]
  by_cases h : p < s.size
  · rw [if_pos h, if_pos (.inl h)]
  · rw [if_neg h, if_neg (by omega)]

/-- the ends of a mark -/
theorem mark_stop (s : ByteArray) (f p : Nat) (out : List (List UInt8 × List UInt8)) (total : Nat) (h : p < s.size ∨ p = 0) (hb : bt s p ≠ 62) : head s f p out total = bad 2 p := by
  rw [head, if_pos h, faMark, if_pos hb]
theorem mark_many (s : ByteArray) (f p : Nat) (out : List (List UInt8 × List UInt8)) (total : Nat) (h : p < s.size ∨ p = 0) (hb : bt s p = 62) (hn : out.length = 16) : head s f p out total = bad 4 p := by
  rw [head, if_pos h, faMark, if_neg (by simp [hb]), if_pos hn]
theorem mark_name (s : ByteArray) (f p : Nat) (out : List (List UInt8 × List UInt8)) (total : Nat) (h : p < s.size ∨ p = 0) (hb : bt s p = 62) (hn : out.length ≠ 16) (he : nEnd s (p + 1) = p + 1 ∨ bt s (nEnd s (p + 1)) ≠ 10) : head s f p out total = bad 2 (nEnd s (p + 1)) := by
  rw [head, if_pos h, faMark, if_neg (by simp [hb]), if_neg hn, if_pos he]
theorem mark_twice (s : ByteArray) (f p : Nat) (out : List (List UInt8 × List UInt8)) (total : Nat) (h : p < s.size ∨ p = 0) (hb : bt s p = 62) (hn : out.length ≠ 16) (he : ¬ (nEnd s (p + 1) = p + 1 ∨ bt s (nEnd s (p + 1)) ≠ 10))
    (ht : out.any (fun x => x.1 == piece s (p + 1) (nEnd s (p + 1))) = true) : head s f p out total = bad 3 (p + 1) := by
  rw [head, if_pos h, faMark, if_neg (by simp [hb]), if_neg hn, if_neg he, if_pos ht]
theorem mark_go (s : ByteArray) (f p : Nat) (out : List (List UInt8 × List UInt8)) (total : Nat) (h : p < s.size ∨ p = 0) (hb : bt s p = 62) (hn : out.length ≠ 16) (he : ¬ (nEnd s (p + 1) = p + 1 ∨ bt s (nEnd s (p + 1)) ≠ 10))
    (ht : out.any (fun x => x.1 == piece s (p + 1) (nEnd s (p + 1))) = false) : head s f p out total = faIn s f (nEnd s (p + 1) + 1) (nEnd s (p + 1) + 1) (piece s (p + 1) (nEnd s (p + 1))) [] out total := by
  rw [head, if_pos h, faMark, if_neg (by simp [hb]), if_neg hn, if_neg he, if_neg (by simp [ht])]
theorem head_end (s : ByteArray) (f p : Nat) (out : List (List UInt8 × List UInt8)) (total : Nat) (h : ¬ (p < s.size ∨ p = 0)) : head s f p out total = ⟨out, 0, 0⟩ := by
  rw [head, if_neg h]

theorem fasta_head (s : ByteArray) : fasta s = head s (s.size + 1) 0 [] 0 := by
  rw [head, if_pos (.inr rfl)]; rfl

theorem nEnd_lt {s : ByteArray} {p : Nat} (he : ¬ (nEnd s (p + 1) = p + 1 ∨ bt s (nEnd s (p + 1)) ≠ 10)) : nEnd s (p + 1) < s.size ∧ p + 1 ≤ nEnd s (p + 1) := by
  have h10 : bt s (nEnd s (p + 1)) = 10 := by
    by_cases h : bt s (nEnd s (p + 1)) = 10
    · exact h
    · exact absurd (.inr h) he
  exact ⟨bt_lt (by rw [h10]; decide), by unfold nEnd; omega⟩

end Go.Proofs.Ytfcbgfomhmcikaa.Tx

namespace Go.Proofs.Ytfcbgfomhmcikaa
open Go.RowKit

/-- the value sv is a slice of m elements whose cells are xs (or nil, and there are none) -/
def Src (w : World) (sv : Value) (m : Nat) (xs : List Value) : Prop :=
  (sv = .slice none 0 0 ∧ m = 0 ∧ xs = []) ∨ ∃ ad c, sv = .slice (some ad) m c ∧ (∀ j u, xs[j]? = some u → w.cell? (ad.add j) = some u)

theorem Src.mono {w w' : World} {sv : Value} {m : Nat} {xs : List Value} (h : Src w sv m xs) (hb : Below w.heap.size w w') : Src w' sv m xs := by
  rcases h with h | ⟨ad, c, rfl, hc⟩
  · exact .inl h
  · refine .inr ⟨ad, c, rfl, fun j u hj => ?_⟩
    have h0 := hc j u hj
    rw [hb.cell (World.block_lt_of_cell? w _ h0)]
    exact h0

/-- 'own = append(own, src...)' -/
theorem app_src {W w : World} {ops : Array Oper} {rest : List Oper} {o : Oper} {a : Act} {Q : Exit → Act → World → Prop} (hgd : o.guard = none) (s x : Operand) (t : TypeId)
    (ho : o.op = .call { callee := .builtin .append, args := #[s, x], argTypes := #[t, t] })
    (base : Nat) (e : TypeId) (z : Value) (size bytes : Nat) (ht : Try.prog.underlying t = some (.slice e)) (hinfo : (Try.prog.info? e).map (fun i => (i.zero, i.size, i.bytes)) = some (some z, size, bytes)) (hzs : z.cells.size = size) (hsz : 0 < size)
    (v : Value) (n : Nat) (xs : List Value) (sv : Value) (m : Nat) (news : List Value) (hs : a.eval s = v) (hx : a.eval x = sv)
    (hown : w.ownsRow base e size v n xs) (hsrc : Src w sv m news) (hl : news.length = m * size) (h1 : ∀ u ∈ news, u.oneCell' = true)
    (hbel : Below base W w) (hbase : base ≤ w.heap.size) (hlen : (n + m) * bytes ≤ 140737488355328) (hb0 : 0 < bytes)
    (h : ∀ v' w', w'.ownsRow base e size v' (n + m) (xs ++ news) → Below base W w' → w.heap.size ≤ w'.heap.size → (∀ k, k < w.heap.size → some k ≠ v.ownBlock → w'.heap[k]? = w.heap[k]?) → wpList Try.prog ops Q rest (a.put o.dst v') w') :
    wpList Try.prog ops Q (o :: rest) a w := by
  obtain ⟨i0, hi, hz0, hz1, hz2⟩ := info_parts hinfo
  have hle : (n + m) * 1 ≤ (n + m) * bytes := Nat.mul_le_mul_left _ hb0
  rcases hsrc with ⟨rfl, rfl, rfl⟩ | ⟨ad, c, rfl, hc⟩
  · refine wpList_append_own_none hgd s x t ho base e i0 size ht hi v n xs hs hown hx ?_
    refine h v w ?_ hbel (Nat.le_refl _) (fun _ _ _ => rfl)
    rw [Nat.add_zero, List.append_nil]; exact hown
  · refine wpList_append_own _ hgd s x t ho base e i0 z size bytes ht hi hz0 hz1 hz2 hzs hsz v n xs hs hown ad m c news hx hl hc h1 ?_ hlen hbase ?_
    · unfold maxLen; omega
    · intro v' w' g1 g2 _
      exact h v' w' g1 (hbel.grown g2 hbase (fun k hk => (hown.lt k hk).1)) g2.size g2.block

end Go.Proofs.Ytfcbgfomhmcikaa

namespace Go.Proofs.Ytfcbgfomhmcikaa
open Go.RowKit

theorem Try.infoContig : (Try.prog.info? 58).map (fun i => (i.zero, i.size, i.bytes)) = some (some (.agg #[.string ⟨#[]⟩, .string ⟨#[]⟩]), 2, 32) := by kernel_rfl
theorem Try.infoRead : (Try.prog.info? 46).map (fun i => (i.zero, i.size, i.bytes)) = some (some (.agg #[.string ⟨#[]⟩, .string ⟨#[]⟩]), 2, 32) := by kernel_rfl

theorem Prs_one (l : List Pr) : ∀ u ∈ Prs l, u.oneCell' = true := by
  intro u hu
  obtain ⟨o, ho, hu⟩ := List.mem_flatMap.1 hu
  simp only [prCells, List.mem_cons, List.not_mem_nil, or_false] at hu
  rcases hu with rfl | rfl <;> rfl

/-- 'out = append(out, T{name, letters})' -/
theorem app_pair {W w : World} {ops : Array Oper} {rest : List Oper} {o : Oper} {a : Act} {Q : Exit → Act → World → Prop} (hgd : o.guard = none) (s x : Operand) (t : TypeId)
    (ho : o.op = .call { callee := .builtin .append, args := #[s, x], argTypes := #[t, t] })
    (base : Nat) (e : TypeId) (ht : Try.prog.underlying t = some (.slice e)) (hinfo : (Try.prog.info? e).map (fun i => (i.zero, i.size, i.bytes)) = some (some (.agg #[.string ⟨#[]⟩, .string ⟨#[]⟩]), 2, 32))
    (v : Value) (l : List Pr) (nm lt : ByteArray) (y : Pr) (hs : a.eval s = v) (hx : a.eval x = .slice (some ⟨w.heap.size, 0, none⟩) 1 1) (hnm : nm = ⟨y.1.toArray⟩) (hlt : lt = ⟨y.2.toArray⟩)
    (hown : w.ownsRow base e 2 v l.length (Prs l)) (hbel : Below base W w) (hbase : base ≤ w.heap.size) (hlen : l.length + 1 ≤ 100000)
    (h : ∀ v' w', w'.ownsRow base e 2 v' (l ++ [y]).length (Prs (l ++ [y])) → Below base W w' → w.heap.size ≤ w'.heap.size → wpList Try.prog ops Q rest (a.put o.dst v') w') :
    wpList Try.prog ops Q (o :: rest) a (w.alloc (.cells #[.string nm, .string lt] e)) := by
  subst hnm hlt
  refine app_src hgd s x t ho base e _ 2 32 ht hinfo rfl (by decide) v l.length (Prs l) (.slice (some ⟨w.heap.size, 0, none⟩) 1 1) 1 (Prs [y]) hs hx (hown.alloc _) (.inr ⟨_, _, rfl, ?_⟩) (by simp [Prs, prCells]) (Prs_one _) (hbel.alloc hbase _) (by simp; omega) (by omega) (by decide) ?_
  · intro j u hj
    match j, hj with
    | 0, hj => simp [Prs, prCells] at hj; subst hj; simp [Addr.add]
    | 1, hj => simp [Prs, prCells] at hj; subst hj; simp [Addr.add]
  · intro v' w' h1 h2 h3 _
    refine h v' w' ?_ h2 (by simp at h3; omega)
    rw [Prs_append, List.length_append]
    exact h1

theorem u8_cmp {c : UInt8} (n : Nat) (hn : n < 256) : ((c.toNat : Int) != (n : Int)) = true ↔ c ≠ UInt8.ofNat n := by
  rw [bne_iff_ne]
  constructor
  · intro h h2
    exact h (by have := (Lt.toNat_inj hn).2 h2; omega)
  · intro h h2
    exact h ((Lt.toNat_inj hn).1 (by omega))
theorem u8_62 {c : UInt8} (h : c = 62) : ((c.toNat : Int) != 62) = false := by rw [h]; rfl
theorem u8_n62 {c : UInt8} (h : c ≠ 62) : ((c.toNat : Int) != 62) = true := (u8_cmp 62 (by omega)).2 h

theorem ans3 {v : Value} {x y : Int} {R : Tx.Ans} (h : R = ⟨R.out, x, y⟩) : Ending.returned (.tuple #[v, .int .i64 x, .int .i64 y]) = .returned (.tuple #[v, .int .i64 R.err, .int .i64 R.pos]) := by rw [h]

/-- what a reader's call ends with: the slice owned, the error, the place -/
def Reads (w : World) (e : TypeId) (R : Tx.Ans) (en : Ending) (w' : World) : Prop :=
  ∃ v, en = .returned (.tuple #[v, .int .i64 R.err, .int .i64 R.pos]) ∧ w'.ownsRow w.heap.size e 2 v R.out.length (Prs R.out) ∧ Below w.heap.size w w' ∧ (R.err ≠ 0 → v = .slice none 0 0)

theorem reads_bad {w w' : World} {e : TypeId} {R : Tx.Ans} {x : Int} {p : Nat} {y : Int} (h : R = Tx.bad x p) (hy : y = (p : Int)) (hb : Below w.heap.size w w') :
    Reads w e R (.returned (.tuple #[.slice none 0 0, .int .i64 x, .int .i64 y])) w' := by
  subst h hy
  exact ⟨_, rfl, World.ownsRow_nil _ _ _ _, hb, fun _ => rfl⟩

/-- what is owned stays owned while nothing old is written -/
theorem own_below {w w' : World} {base e size n : Nat} {v : Value} {xs : List Value} (h : w.ownsRow base e size v n xs) (hb : Below w.heap.size w w') : w'.ownsRow base e size v n xs := by
  refine ⟨h.1, ?_⟩
  rcases h.2 with h0 | ⟨g, cap, cur, rfl, h1, hg, h2⟩
  · exact .inl h0
  · exact .inr ⟨g, cap, cur, rfl, h1, by rw [hb.block g (Array.getElem?_eq_some_iff.1 hg).1]; exact hg, h2⟩

end Go.Proofs.Ytfcbgfomhmcikaa

namespace Go.Proofs.Ytfcbgfomhmcikaa.Tx

/-- how many qualities stand from a place on, at most so many -/
def qlen (s : ByteArray) : Nat → Nat → Nat
  | _, 0 => 0
  | p, f + 1 => if ql (bt s p) then qlen s (p + 1) f + 1 else 0

theorem qlen_le (s : ByteArray) : ∀ (f p : Nat), qlen s p f ≤ f := by
  intro f
  induction f with
  | zero => intro p; simp [qlen]
  | succ f ih => intro p; unfold qlen; split
                 · have := ih (p + 1); omega
                 · omega

/-- a read's last line -/
def fqQual (s : ByteArray) (j c : Nat) (k : Nat → Ans) : Ans :=
  if qlen s j c < c ∨ bt s (j + qlen s j c) ≠ 10 then bad 6 (j + qlen s j c) else k (j + c + 1)

/-- the line of the plus, from the end of the letters' line on -/
def fqPlus (s : ByteArray) (i : Nat) (k : Nat → Ans) : Ans :=
  if bt s i ≠ 10 then bad 5 i else if bt s (i + 1) ≠ 43 then bad 5 (i + 1) else if bt s (i + 2) ≠ 10 then bad 5 (i + 2) else k (i + 3)

/-- a read's lines behind its name -/
def fqTail (s : ByteArray) (q : Nat) (k : Nat → List UInt8 → Ans) : Ans :=
  if rlen s q 128 = 0 ∨ bt s (q + rlen s q 128) ≠ 10 then bad (wr s (q + rlen s q 128) 5 7) (q + rlen s q 128)
  else fqPlus s (q + rlen s q 128) (fun j => fqQual s j (rlen s q 128) (fun p => k p (caps s q (rlen s q 128))))

def fq (s : ByteArray) : Nat → Nat → List (List UInt8 × List UInt8) → Ans
  | 0, _, _ => bad 0 0
  | f + 1, p, out =>
    if ¬ p < s.size then ⟨out, 0, 0⟩
    else if bt s p ≠ 64 then bad 5 p
    else if out.length = 256 then bad 4 p
    else if nEnd s (p + 1) = p + 1 ∨ bt s (nEnd s (p + 1)) ≠ 10 then bad 5 (nEnd s (p + 1))
    else fqTail s (nEnd s (p + 1) + 1) (fun q x => fq s f q (out ++ [(piece s (p + 1) (nEnd s (p + 1)), x)]))

def fastq (s : ByteArray) : Ans := fq s (s.size + 1) 0 []

theorem tail_bad (s : ByteArray) (q : Nat) (k : Nat → List UInt8 → Ans) (h : rlen s q 128 = 0 ∨ bt s (q + rlen s q 128) ≠ 10) : fqTail s q k = bad (wr s (q + rlen s q 128) 5 7) (q + rlen s q 128) := by
  rw [fqTail, if_pos h]
theorem tail_good (s : ByteArray) (q : Nat) (k : Nat → List UInt8 → Ans) (h : ¬ (rlen s q 128 = 0 ∨ bt s (q + rlen s q 128) ≠ 10)) :
    fqTail s q k = fqPlus s (q + rlen s q 128) (fun j => fqQual s j (rlen s q 128) (fun p => k p (caps s q (rlen s q 128)))) ∧ bt s (q + rlen s q 128) = 10 ∧ 0 < rlen s q 128 ∧ q + rlen s q 128 < s.size := by
  have h10 : bt s (q + rlen s q 128) = 10 := by
    by_cases h1 : bt s (q + rlen s q 128) = 10
    · exact h1
    · exact absurd (.inr h1) h
  refine ⟨by rw [fqTail, if_neg h], h10, ?_, bt_lt (by rw [h10]; decide)⟩
  rcases Nat.eq_zero_or_pos (rlen s q 128) with h0 | h0
  · exact absurd (.inl h0) h
  · exact h0

/-- the letters' line as the program reads it: the letters are at their end at i = q + c -/
theorem tail_end (s : ByteArray) (q c : Nat) (k : Nat → List UInt8 → Ans) (hc : rlen s q 128 = c) (h0 : cap (bt s (q + c)) = 0) (hpos : 0 < c) : fqTail s q k = fqPlus s (q + c) (fun j => fqQual s j c (fun p => k p (caps s q c))) := by
  subst hc
  by_cases h : bt s (q + rlen s q 128) = 10
  · rw [fqTail, if_neg (by simp [h]; omega)]
  · rw [fqTail, if_pos (.inr h), fqPlus, if_pos h, wr, if_neg (by simp [h0])]
theorem tail_none (s : ByteArray) (q : Nat) (k : Nat → List UInt8 → Ans) (hc : rlen s q 128 = 0) (h0 : cap (bt s q) = 0) : fqTail s q k = bad 5 q := by
  rw [tail_bad s q k (.inl hc), hc, wr, Nat.add_zero, if_neg (by simp [h0])]
theorem tail_long (s : ByteArray) (q : Nat) (k : Nat → List UInt8 → Ans) (hc : rlen s q 128 = 128) (h0 : cap (bt s (q + 128)) ≠ 0) : fqTail s q k = bad 7 (q + 128) := by
  have h10 : bt s (q + 128) ≠ 10 := fun h => h0 (by rw [h]; exact cap_10)
  rw [tail_bad s q k (.inr (by rw [hc]; exact h10)), hc, wr, if_pos h0]

theorem plus_bad0 (s : ByteArray) (i : Nat) (k : Nat → Ans) (h : bt s i ≠ 10) : fqPlus s i k = bad 5 i := by rw [fqPlus, if_pos h]
theorem plus_bad1 (s : ByteArray) (i : Nat) (k : Nat → Ans) (h : bt s i = 10) (h1 : bt s (i + 1) ≠ 43) : fqPlus s i k = bad 5 (i + 1) := by rw [fqPlus, if_neg (by simp [h]), if_pos h1]
theorem plus_bad2 (s : ByteArray) (i : Nat) (k : Nat → Ans) (h : bt s i = 10) (h1 : bt s (i + 1) = 43) (h2 : bt s (i + 2) ≠ 10) : fqPlus s i k = bad 5 (i + 2) := by rw [fqPlus, if_neg (by simp [h]), if_neg (by simp [h1]), if_pos h2]
theorem plus_good (s : ByteArray) (i : Nat) (k : Nat → Ans) (h : bt s i = 10) (h1 : bt s (i + 1) = 43) (h2 : bt s (i + 2) = 10) : fqPlus s i k = k (i + 3) := by rw [fqPlus, if_neg (by simp [h]), if_neg (by simp [h1]), if_neg (by simp [h2])]

theorem qlen_step (s : ByteArray) (p m j : Nat) (hj : j < m) : qlen s (p + j) (m - j) = if ql (bt s (p + j)) then qlen s (p + (j + 1)) (m - (j + 1)) + 1 else 0 := by
  obtain ⟨f, hf⟩ : ∃ f, m - j = f + 1 := ⟨m - j - 1, by omega⟩
  rw [hf, qlen, show m - (j + 1) = f by omega, show p + (j + 1) = p + j + 1 by omega]

theorem fq_end (s : ByteArray) (f p : Nat) (out : List (List UInt8 × List UInt8)) (h : ¬ p < s.size) : fq s (f + 1) p out = ⟨out, 0, 0⟩ := by rw [fq, if_pos h]
theorem fq_stop (s : ByteArray) (f p : Nat) (out : List (List UInt8 × List UInt8)) (h : p < s.size) (hb : bt s p ≠ 64) : fq s (f + 1) p out = bad 5 p := by rw [fq, if_neg (by omega), if_pos hb]
theorem fq_many (s : ByteArray) (f p : Nat) (out : List (List UInt8 × List UInt8)) (h : p < s.size) (hb : bt s p = 64) (hn : out.length = 256) : fq s (f + 1) p out = bad 4 p := by rw [fq, if_neg (by omega), if_neg (by simp [hb]), if_pos hn]
theorem fq_name (s : ByteArray) (f p : Nat) (out : List (List UInt8 × List UInt8)) (h : p < s.size) (hb : bt s p = 64) (hn : out.length ≠ 256) (he : nEnd s (p + 1) = p + 1 ∨ bt s (nEnd s (p + 1)) ≠ 10) : fq s (f + 1) p out = bad 5 (nEnd s (p + 1)) := by rw [fq, if_neg (by omega), if_neg (by simp [hb]), if_neg hn, if_pos he]
theorem fq_go (s : ByteArray) (f p : Nat) (out : List (List UInt8 × List UInt8)) (h : p < s.size) (hb : bt s p = 64) (hn : out.length ≠ 256) (he : ¬ (nEnd s (p + 1) = p + 1 ∨ bt s (nEnd s (p + 1)) ≠ 10)) :
    fq s (f + 1) p out = fqTail s (nEnd s (p + 1) + 1) (fun q x => fq s f q (out ++ [(piece s (p + 1) (nEnd s (p + 1)), x)])) := by rw [fq, if_neg (by omega), if_neg (by simp [hb]), if_neg hn, if_neg he]

end Go.Proofs.Ytfcbgfomhmcikaa.Tx
