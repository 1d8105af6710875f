/-
  PAIRS OF TEXTS IN MEMORY (contigs, reads): a name and letters each; a name among them. Own text of the verifier.
  PLAIN MATHEMATICS of Fasta's machine: its steps a line at a time. Own text of the verifier.
  'append(own, src...)': what is appended came in, or is nil. Own text of the verifier.
  THE WALK of the document's own Fasta. Own text of the verifier.
  THE WALK of 'mark': a text of its own for the n-th list. Own text of the verifier.
-/
import Derived.Test.YtfcbgfomhmcikaaGreatDoorBun2
import Derived.Test.YtfcbgfomhmcikaaGreatDoorBun1
import Derived.Laws.AppendOwnNone
namespace Go.Proofs.YtfcbgfomhmcikaaGreatDoor
open Go.RowKit

abbrev Pr := List UInt8 × List UInt8

def prCells (x : Pr) : List Value := [.string ⟨x.1.toArray⟩, .string ⟨x.2.toArray⟩]
def Prs (l : List Pr) : List Value := l.flatMap prCells

theorem Prs_length (l : List Pr) : (Prs l).length = l.length * 2 := by
  induction l with
  | nil => rfl
  | cons o l ih => rw [Prs, List.flatMap_cons, List.length_append, ← Prs, ih, List.length_cons]; simp [prCells]; omega

theorem Prs_at (l : List Pr) (k : Nat) (h : k < l.length) (j : Nat) (hj : j < 2) : (Prs l)[k * 2 + j]? = (prCells l[k])[j]? := by
  induction l generalizing k with
  | nil => simp at h
  | cons o l ih =>
    rw [Prs, List.flatMap_cons]
    cases k with
    | zero => rw [List.getElem?_append_left (by simp [prCells]; omega)]; simp
    | succ k =>
      rw [List.getElem?_append_right (by simp [prCells]; omega)]
      have e : (k + 1) * 2 + j - (prCells o).length = k * 2 + j := by simp [prCells]; omega
      rw [e]
      have := ih k (by simpa using h)
      rw [Prs] at this
      rw [this]
      simp

theorem Prs_append (l r : List Pr) : Prs (l ++ r) = Prs l ++ Prs r := by simp [Prs]

theorem own_pair {w : World} {base e n cap g : Nat} {l : List Pr} (h : w.ownsRow base e 2 (.slice (some ⟨g, 0, none⟩) n cap) n (Prs l)) (k : Nat) (hk : k < l.length) :
    w.cell? ⟨g, k * 2, none⟩ = some (.string ⟨l[k].1.toArray⟩) ∧ w.cell? ⟨g, k * 2 + 1, none⟩ = some (.string ⟨l[k].2.toArray⟩) := by
  have hl : l.length * 2 = n * 2 := by have := h.1; rw [Prs_length] at this; exact this
  constructor
  · have := h.cellAt (k * 2 + 0) (by omega)
    rw [Prs_at l k hk 0 (by omega)] at this
    simpa [prCells] using this
  · rw [h.cellAt (k * 2 + 1) (by omega), Prs_at l k hk 1 (by omega)]
    simp [prCells]

def hasN (l : List Pr) (nm : List UInt8) : Bool := l.any (fun x => x.1 == nm)

theorem hasN_stop (l : List Pr) (nm : List UInt8) (k : Nat) (h : k < l.length) (he : (l[k].1 == nm) = true) : hasN l nm = true := by
  rw [hasN, List.any_eq_true]
  exact ⟨l[k], List.getElem_mem _, he⟩
theorem hasN_snoc (l : List Pr) (nm : List UInt8) (k : Nat) (h : k < l.length) (h0 : hasN (l.take k) nm = false) (he : (l[k].1 == nm) = false) : hasN (l.take (k + 1)) nm = false := by
  rw [List.take_succ_eq_append_getElem h]
  simp only [hasN, List.any_append, List.any_cons, List.any_nil, Bool.or_false] at *
  rw [h0, he]; rfl
theorem hasN_whole (l : List Pr) (nm : List UInt8) (k : Nat) (h : ¬ k < l.length) (h0 : hasN (l.take k) nm = false) : hasN l nm = false := by
  rwa [List.take_of_length_le (by omega)] at h0

set_option maxRecDepth 100000 in
set_option maxHeartbeats 1600000 in
theorem hasName_any (w : World) (base n : Nat) (v : Value) (l : List Pr) (nm : List UInt8) (hn : l.length = n) (h16 : n ≤ 1000) (hown : w.ownsRow base 29 2 v n (Prs l)) :
    Calls Tryz.prog 62 #[v, .string ⟨nm.toArray⟩] w fun e w' => e = .returned (.bool (hasN l nm)) ∧ Below w.heap.size w w' := by
  have HN : Hid _ := hn
  clear hn
  rcases Nat.eq_zero_or_pos n with h0 | hpos
  · subst h0
    have hl : l = [] := List.eq_nil_of_length_eq_zero HN.out
    subst hl
    obtain ⟨ao, cap, hv⟩ := own_form hown
    subst hv
    clear hown
    go_enter Tryz.func62, Tryz.ntmps62
    go_wp2
    refine wp_loop_rounds 1 ?_
    rw [rounds_succ]
    go_wp2
    go_ret
    exact ⟨rfl, Below.refl _ _⟩
  · obtain ⟨g, cap, hv, _, hg⟩ : ∃ g cap, v = .slice (some ⟨g, 0, none⟩) n cap ∧ base ≤ g ∧ g < w.heap.size := by
      rcases hown.2 with ⟨_, h0⟩ | ⟨g, cap, cur, rfl, hb, hg, _⟩
      · omega
      · exact ⟨g, cap, rfl, hb, (Array.getElem?_eq_some_iff.1 hg).1⟩
    subst hv
    have HC : Hid _ := fun k (hk : k < l.length) => own_pair hown k hk
    clear hown
    go_enter Tryz.func62, Tryz.ntmps62
    go_wp2
    go_loopw [9] (fun i wr => ∃ k : Nat, k ≤ n ∧ i = .int .i64 k ∧ Hid (hasN (l.take k) nm = false) ∧ Below w.heap.size w wr) (fun i _ => n - (intOf i).toNat)
    case atStart => exact ⟨0, Nat.zero_le _, rfl, rfl, Below.refl _ _⟩
    case round =>
      obtain ⟨k, hk, rfl, HA, hbel⟩ := hrel
      have hsz := hbel.size
      by_cases hlt : k < n
      · have hkl : k < l.length := by rw [HN.out]; exact hlt
        have c0 := (hbel.cell (p := ⟨g, k * 2, none⟩) hg).trans (HC.out k hkl).1
        have c1 := (hbel.cell (p := ⟨g, k * 2 + 1, none⟩) hg).trans (HC.out k hkl).2
        have hkn : (k : Int) < (n : Int) := by omega
        have HB1 : Hid (∀ o, Below w.heap.size w (wr.alloc o)) := fun o => hbel.alloc hsz o
        clear hbel
        cases he : (l[k].1 == nm) with
        | true =>
          have HF : Hid _ := hasN_stop l nm k hkl he
          clear HA
          go_wp2
          go_ret
          exact ⟨ret_bool HF.out.symm, HB1.out _⟩
        | false =>
          have HF : Hid _ := hasN_snoc l nm k hkl HA.out he
          clear HA
          go_wp2
          go_roundw
          case rel => exact ⟨k + 1, by omega, by go_num, HF, HB1.out _⟩
          case measure => simp [intOf]; omega
      · have HF : Hid _ := hasN_whole l nm k (by rw [HN.out]; exact hlt) HA.out
        have hkn : ¬ (k : Int) < (n : Int) := by omega
        clear HA
        go_wp2
        go_ret
        exact ⟨ret_bool HF.out.symm, hbel⟩

end Go.Proofs.YtfcbgfomhmcikaaGreatDoor

namespace Go.Proofs.YtfcbgfomhmcikaaGreatDoor.Tx

/-- where a contig may begin, or the text end -/
def head (s : ByteArray) (f p : Nat) (out : List (List UInt8 × List UInt8)) (total : Nat) : Ans :=
  if p < s.size ∨ p = 0 then faMark s p out (fun q nm => faIn s f q q nm [] out total) else ⟨out, 0, 0⟩

theorem cap_62 : cap 62 = 0 := by decide
theorem cap_10 : cap 10 = 0 := by decide

theorem fa_bad (s : ByteArray) (f p : Nat) (name letters : List UInt8) (out : List (List UInt8 × List UInt8)) (total : Nat) (hp : p ≤ s.size) (hf : s.size + 1 ≤ f + p) (ht : total ≤ 4096)
    (hc : (p < s.size ∧ bt s p ≠ 62) ∨ letters = []) (hb : rlen s p (4096 - total) = 0 ∨ bt s (p + rlen s p (4096 - total)) ≠ 10) :
    faIn s f p p name letters out total = bad (wr s (p + rlen s p (4096 - total)) 2 4) (p + rlen s p (4096 - total)) := by
  generalize hcc : rlen s p (4096 - total) = c at *
  have hle : c ≤ 4096 - total := by rw [← hcc]; exact rlen_le _ _ _
  have hsz : p + c ≤ s.size := by rw [← hcc]; exact rlen_size _ _ _ hp
  rw [faIn_run s p name out c f p letters total (fun j hj => rlen_all s (4096 - total) p j (by omega)) (by omega) (by omega)]
  obtain ⟨g, hg⟩ : ∃ g, f - c = g + 1 := ⟨f - c - 1, by omega⟩
  rw [hg, faIn, wr]
  by_cases h0 : cap (bt s (p + c)) ≠ 0
  · have hfull : c = 4096 - total := by
      by_cases hlt : c < 4096 - total
      · have := rlen_stop s (4096 - total) p (by omega)
        rw [hcc] at this
        exact absurd this h0
      · omega
    rw [if_pos h0, if_pos (by omega), if_pos h0]
  · rw [if_neg h0, if_neg h0]
    by_cases hc0 : c = 0
    · subst hc0
      simp only [Nat.add_zero] at *
      rw [if_neg (by omega)]
      by_cases hl : letters = []
      · subst hl
        rw [if_pos (.inr (by simp [caps]))]
      · rw [if_neg (by simp [caps, hl])]
        rcases hc with ⟨h1, h2⟩ | h
        · rw [if_pos h1, faMark, if_pos h2]
        · exact absurd h hl
    · rcases hb with h | h
      · exact absurd h hc0
      · rw [if_neg (fun x => h x.1), if_pos (.inl (by omega))]

theorem fa_good (s : ByteArray) (f p : Nat) (name letters : List UInt8) (out : List (List UInt8 × List UInt8)) (total : Nat) (hf : s.size + 1 ≤ f + p) (ht : total ≤ 4096)
    (hb : ¬ (rlen s p (4096 - total) = 0 ∨ bt s (p + rlen s p (4096 - total)) ≠ 10)) :
    ∃ g, s.size + 1 ≤ g + (p + rlen s p (4096 - total) + 1) ∧ p + rlen s p (4096 - total) < s.size ∧ 0 < rlen s p (4096 - total) ∧ rlen s p (4096 - total) ≤ 4096 - total ∧
      faIn s f p p name letters out total = faIn s g (p + rlen s p (4096 - total) + 1) (p + rlen s p (4096 - total) + 1) name (letters ++ caps s p (rlen s p (4096 - total))) out (total + rlen s p (4096 - total)) := by
  generalize hcc : rlen s p (4096 - total) = c at *
  have hle : c ≤ 4096 - total := by rw [← hcc]; exact rlen_le _ _ _
  have h10 : bt s (p + c) = 10 := by
    by_cases h : bt s (p + c) = 10
    · exact h
    · exact absurd (.inr h) hb
  have hc0 : c ≠ 0 := fun h => hb (.inl h)
  have hlt : p + c < s.size := bt_lt (by rw [h10]; decide)
  refine ⟨f - c - 1, by omega, hlt, by omega, hle, ?_⟩
  rw [faIn_run s p name out c f p letters total (fun j hj => rlen_all s (4096 - total) p j (by omega)) (by omega) (by omega)]
  obtain ⟨g, hg⟩ : ∃ g, f - c = g + 1 := ⟨f - c - 1, by omega⟩
  rw [hg, faIn, h10, if_neg (by simp [cap_10]), if_pos ⟨rfl, by omega⟩]
  rfl

theorem fa_whole (s : ByteArray) (f p : Nat) (name letters : List UInt8) (out : List (List UInt8 × List UInt8)) (total : Nat) (hf : s.size + 1 ≤ f + p) (hp : p ≤ s.size) (hp0 : 0 < p)
    (hl : letters ≠ []) (hc : ¬ (p < s.size ∧ bt s p ≠ 62)) :
    ∃ g, s.size ≤ g + p ∧ faIn s f p p name letters out total = head s g p (out ++ [(name, letters)]) total := by
  obtain ⟨g, rfl⟩ : ∃ g, f = g + 1 := ⟨f - 1, by omega⟩
  refine ⟨g, by omega, ?_⟩
  have hb : cap (bt s p) = 0 ∧ bt s p ≠ 10 := by
    by_cases h : p < s.size
    · have h62 : bt s p = 62 := by
        by_cases h2 : bt s p = 62
        · exact h2
        · exact absurd ⟨h, h2⟩ hc
      rw [h62]; exact ⟨cap_62, by decide⟩
    · rw [bt_out h]; exact ⟨cap_zero, by decide⟩
  rw [faIn, if_neg (by simp [hb.1]), if_neg (by omega), if_neg (by simp [hl]), head]
  by_cases h : p < s.size
  · rw [if_pos h, if_pos (.inl h)]
  · rw [if_neg h, if_neg (by omega)]

/-- the ends of a mark -/
theorem mark_stop (s : ByteArray) (f p : Nat) (out : List (List UInt8 × List UInt8)) (total : Nat) (h : p < s.size ∨ p = 0) (hb : bt s p ≠ 62) : head s f p out total = bad 2 p := by
  rw [head, if_pos h, faMark, if_pos hb]
theorem mark_many (s : ByteArray) (f p : Nat) (out : List (List UInt8 × List UInt8)) (total : Nat) (h : p < s.size ∨ p = 0) (hb : bt s p = 62) (hn : out.length = 16) : head s f p out total = bad 4 p := by
  rw [head, if_pos h, faMark, if_neg (by simp [hb]), if_pos hn]
theorem mark_name (s : ByteArray) (f p : Nat) (out : List (List UInt8 × List UInt8)) (total : Nat) (h : p < s.size ∨ p = 0) (hb : bt s p = 62) (hn : out.length ≠ 16) (he : nEnd s (p + 1) = p + 1 ∨ bt s (nEnd s (p + 1)) ≠ 10) : head s f p out total = bad 2 (nEnd s (p + 1)) := by
  rw [head, if_pos h, faMark, if_neg (by simp [hb]), if_neg hn, if_pos he]
theorem mark_twice (s : ByteArray) (f p : Nat) (out : List (List UInt8 × List UInt8)) (total : Nat) (h : p < s.size ∨ p = 0) (hb : bt s p = 62) (hn : out.length ≠ 16) (he : ¬ (nEnd s (p + 1) = p + 1 ∨ bt s (nEnd s (p + 1)) ≠ 10))
    (ht : out.any (fun x => x.1 == piece s (p + 1) (nEnd s (p + 1))) = true) : head s f p out total = bad 3 (p + 1) := by
  rw [head, if_pos h, faMark, if_neg (by simp [hb]), if_neg hn, if_neg he, if_pos ht]
theorem mark_go (s : ByteArray) (f p : Nat) (out : List (List UInt8 × List UInt8)) (total : Nat) (h : p < s.size ∨ p = 0) (hb : bt s p = 62) (hn : out.length ≠ 16) (he : ¬ (nEnd s (p + 1) = p + 1 ∨ bt s (nEnd s (p + 1)) ≠ 10))
    (ht : out.any (fun x => x.1 == piece s (p + 1) (nEnd s (p + 1))) = false) : head s f p out total = faIn s f (nEnd s (p + 1) + 1) (nEnd s (p + 1) + 1) (piece s (p + 1) (nEnd s (p + 1))) [] out total := by
  rw [head, if_pos h, faMark, if_neg (by simp [hb]), if_neg hn, if_neg he, if_neg (by simp [ht])]
theorem head_end (s : ByteArray) (f p : Nat) (out : List (List UInt8 × List UInt8)) (total : Nat) (h : ¬ (p < s.size ∨ p = 0)) : head s f p out total = ⟨out, 0, 0⟩ := by
  rw [head, if_neg h]

theorem fasta_head (s : ByteArray) : fasta s = head s (s.size + 1) 0 [] 0 := by
  rw [head, if_pos (.inr rfl)]; rfl

theorem nEnd_lt {s : ByteArray} {p : Nat} (he : ¬ (nEnd s (p + 1) = p + 1 ∨ bt s (nEnd s (p + 1)) ≠ 10)) : nEnd s (p + 1) < s.size ∧ p + 1 ≤ nEnd s (p + 1) := by
  have h10 : bt s (nEnd s (p + 1)) = 10 := by
    by_cases h : bt s (nEnd s (p + 1)) = 10
    · exact h
    · exact absurd (.inr h) he
  exact ⟨bt_lt (by rw [h10]; decide), by unfold nEnd; omega⟩

end Go.Proofs.YtfcbgfomhmcikaaGreatDoor.Tx

namespace Go.Proofs.YtfcbgfomhmcikaaGreatDoor
open Go.RowKit

/-- the value sv is a slice of m elements whose cells are xs (or nil, and there are none) -/
def Src (w : World) (sv : Value) (m : Nat) (xs : List Value) : Prop :=
  (sv = .slice none 0 0 ∧ m = 0 ∧ xs = []) ∨ ∃ ad c, sv = .slice (some ad) m c ∧ (∀ j u, xs[j]? = some u → w.cell? (ad.add j) = some u)

theorem Src.mono {w w' : World} {sv : Value} {m : Nat} {xs : List Value} (h : Src w sv m xs) (hb : Below w.heap.size w w') : Src w' sv m xs := by
  rcases h with h | ⟨ad, c, rfl, hc⟩
  · exact .inl h
  · refine .inr ⟨ad, c, rfl, fun j u hj => ?_⟩
    have h0 := hc j u hj
    rw [hb.cell (World.block_lt_of_cell? w _ h0)]
    exact h0

/-- 'own = append(own, src...)' -/
theorem app_src {W w : World} {ops : Array Oper} {rest : List Oper} {o : Oper} {a : Act} {Q : Exit → Act → World → Prop} (hgd : o.guard = none) (s x : Operand) (t : TypeId)
    (ho : o.op = .call { callee := .builtin .append, args := #[s, x], argTypes := #[t, t] })
    (base : Nat) (e : TypeId) (z : Value) (size bytes : Nat) (ht : Tryz.prog.underlying t = some (.slice e)) (hinfo : (Tryz.prog.info? e).map (fun i => (i.zero, i.size, i.bytes)) = some (some z, size, bytes)) (hzs : z.cells.size = size) (hsz : 0 < size)
    (v : Value) (n : Nat) (xs : List Value) (sv : Value) (m : Nat) (news : List Value) (hs : a.eval s = v) (hx : a.eval x = sv)
    (hown : w.ownsRow base e size v n xs) (hsrc : Src w sv m news) (hl : news.length = m * size) (h1 : ∀ u ∈ news, u.oneCell' = true)
    (hbel : Below base W w) (hbase : base ≤ w.heap.size) (hlen : (n + m) * bytes ≤ 140737488355328) (hb0 : 0 < bytes)
    (h : ∀ v' w', w'.ownsRow base e size v' (n + m) (xs ++ news) → Below base W w' → w.heap.size ≤ w'.heap.size → (∀ k, k < w.heap.size → some k ≠ v.ownBlock → w'.heap[k]? = w.heap[k]?) → wpList Tryz.prog ops Q rest (a.put o.dst v') w') :
    wpList Tryz.prog ops Q (o :: rest) a w := by
  obtain ⟨i0, hi, hz0, hz1, hz2⟩ := info_parts hinfo
  have hle : (n + m) * 1 ≤ (n + m) * bytes := Nat.mul_le_mul_left _ hb0
  rcases hsrc with ⟨rfl, rfl, rfl⟩ | ⟨ad, c, rfl, hc⟩
  · refine wpList_append_own_none hgd s x t ho base e i0 size ht hi v n xs hs hown hx ?_
    refine h v w ?_ hbel (Nat.le_refl _) (fun _ _ _ => rfl)
    rw [Nat.add_zero, List.append_nil]; exact hown
  · refine wpList_append_own _ hgd s x t ho base e i0 z size bytes ht hi hz0 hz1 hz2 hzs hsz v n xs hs hown ad m c news hx hl hc h1 ?_ hlen hbase ?_
    · unfold maxLen; omega
    · intro v' w' g1 g2 _
      exact h v' w' g1 (hbel.grown g2 hbase (fun k hk => (hown.lt k hk).1)) g2.size g2.block

end Go.Proofs.YtfcbgfomhmcikaaGreatDoor

namespace Go.Proofs.YtfcbgfomhmcikaaGreatDoor
open Go.RowKit

theorem Tryz.infoContig : (Tryz.prog.info? 29).map (fun i => (i.zero, i.size, i.bytes)) = some (some (.agg #[.string ⟨#[]⟩, .string ⟨#[]⟩]), 2, 32) := by kernel_rfl
theorem Tryz.infoRead : (Tryz.prog.info? 63).map (fun i => (i.zero, i.size, i.bytes)) = some (some (.agg #[.string ⟨#[]⟩, .string ⟨#[]⟩]), 2, 32) := by kernel_rfl

theorem Prs_one (l : List Pr) : ∀ u ∈ Prs l, u.oneCell' = true := by
  intro u hu
  obtain ⟨o, ho, hu⟩ := List.mem_flatMap.1 hu
  simp only [prCells, List.mem_cons, List.not_mem_nil, or_false] at hu
  rcases hu with rfl | rfl <;> rfl

/-- 'out = append(out, T{name, letters})' -/
theorem app_pair {W w : World} {ops : Array Oper} {rest : List Oper} {o : Oper} {a : Act} {Q : Exit → Act → World → Prop} (hgd : o.guard = none) (s x : Operand) (t : TypeId)
    (ho : o.op = .call { callee := .builtin .append, args := #[s, x], argTypes := #[t, t] })
    (base : Nat) (e : TypeId) (ht : Tryz.prog.underlying t = some (.slice e)) (hinfo : (Tryz.prog.info? e).map (fun i => (i.zero, i.size, i.bytes)) = some (some (.agg #[.string ⟨#[]⟩, .string ⟨#[]⟩]), 2, 32))
    (v : Value) (l : List Pr) (nm lt : ByteArray) (y : Pr) (hs : a.eval s = v) (hx : a.eval x = .slice (some ⟨w.heap.size, 0, none⟩) 1 1) (hnm : nm = ⟨y.1.toArray⟩) (hlt : lt = ⟨y.2.toArray⟩)
    (hown : w.ownsRow base e 2 v l.length (Prs l)) (hbel : Below base W w) (hbase : base ≤ w.heap.size) (hlen : l.length + 1 ≤ 100000)
    (h : ∀ v' w', w'.ownsRow base e 2 v' (l ++ [y]).length (Prs (l ++ [y])) → Below base W w' → w.heap.size ≤ w'.heap.size → wpList Tryz.prog ops Q rest (a.put o.dst v') w') :
    wpList Tryz.prog ops Q (o :: rest) a (w.alloc (.cells #[.string nm, .string lt] e)) := by
  subst hnm hlt
  refine app_src hgd s x t ho base e _ 2 32 ht hinfo rfl (by decide) v l.length (Prs l) (.slice (some ⟨w.heap.size, 0, none⟩) 1 1) 1 (Prs [y]) hs hx (hown.alloc _) (.inr ⟨_, _, rfl, ?_⟩) (by simp [Prs, prCells]) (Prs_one _) (hbel.alloc hbase _) (by simp; omega) (by omega) (by decide) ?_
  · intro j u hj
    match j, hj with
    | 0, hj => simp [Prs, prCells] at hj; subst hj; simp [Addr.add]
    | 1, hj => simp [Prs, prCells] at hj; subst hj; simp [Addr.add]
  · intro v' w' h1 h2 h3 _
    refine h v' w' ?_ h2 (by simp at h3; omega)
    rw [Prs_append, List.length_append]
    exact h1

theorem u8_cmp {c : UInt8} (n : Nat) (hn : n < 256) : ((c.toNat : Int) != (n : Int)) = true ↔ c ≠ UInt8.ofNat n := by
  rw [bne_iff_ne]
  constructor
  · intro h h2
    exact h (by have := (Lt.toNat_inj hn).2 h2; omega)
  · intro h h2
    exact h ((Lt.toNat_inj hn).1 (by omega))
theorem u8_62 {c : UInt8} (h : c = 62) : ((c.toNat : Int) != 62) = false := by rw [h]; rfl
theorem u8_n62 {c : UInt8} (h : c ≠ 62) : ((c.toNat : Int) != 62) = true := (u8_cmp 62 (by omega)).2 h

theorem ans3 {v : Value} {x y : Int} {R : Tx.Ans} (h : R = ⟨R.out, x, y⟩) : Ending.returned (.tuple #[v, .int .i64 x, .int .i64 y]) = .returned (.tuple #[v, .int .i64 R.err, .int .i64 R.pos]) := by rw [h]

/-- what a reader's call ends with: the slice owned, the error, the place -/
def Reads (w : World) (e : TypeId) (R : Tx.Ans) (en : Ending) (w' : World) : Prop :=
  ∃ v, en = .returned (.tuple #[v, .int .i64 R.err, .int .i64 R.pos]) ∧ w'.ownsRow w.heap.size e 2 v R.out.length (Prs R.out) ∧ Below w.heap.size w w' ∧ (R.err ≠ 0 → v = .slice none 0 0)

theorem reads_bad {w w' : World} {e : TypeId} {R : Tx.Ans} {x : Int} {p : Nat} {y : Int} (h : R = Tx.bad x p) (hy : y = (p : Int)) (hb : Below w.heap.size w w') :
    Reads w e R (.returned (.tuple #[.slice none 0 0, .int .i64 x, .int .i64 y])) w' := by
  subst h hy
  exact ⟨_, rfl, World.ownsRow_nil _ _ _ _, hb, fun _ => rfl⟩

/-- what is owned stays owned while nothing old is written -/
theorem own_below {w w' : World} {base e size n : Nat} {v : Value} {xs : List Value} (h : w.ownsRow base e size v n xs) (hb : Below w.heap.size w w') : w'.ownsRow base e size v n xs := by
  refine ⟨h.1, ?_⟩
  rcases h.2 with h0 | ⟨g, cap, cur, rfl, h1, hg, h2⟩
  · exact .inl h0
  · exact .inr ⟨g, cap, cur, rfl, h1, by rw [hb.block g (Array.getElem?_eq_some_iff.1 hg).1]; exact hg, h2⟩

set_option maxRecDepth 100000 in
set_option maxHeartbeats 8000000 in
theorem refFasta_any (s : ByteArray) (w : World) (hs : s.size ≤ 140737488351232) :
    Calls Tryz.prog 29 #[.string s] w fun e w' => Reads w 29 (Tx.fasta s) e w' := by
  obtain ⟨R, hR⟩ : ∃ R, R = Tx.fasta s := ⟨_, rfl⟩
  rw [← hR]
  have HR : Hid _ := hR.trans (Tx.fasta_head s)
  clear hR
  go_enter Tryz.func29, Tryz.ntmps29
  go_wp2
  go_loopw [5, 6, 7] (fun v lf at_ wr => ∃ (out : List Pr) (p total f : Nat), at_ = .int .i64 (p : Int) ∧ lf = .int .i64 ((4096 - total : Nat) : Int) ∧ total ≤ 4096 ∧ out.length ≤ 16 ∧ p ≤ s.size ∧ s.size ≤ f + p ∧ Hid (R = Tx.head s f p out total) ∧ wr.ownsRow w.heap.size 29 2 v out.length (Prs out) ∧ Below w.heap.size w wr)
    (fun _ _ at_ _ => s.size + 1 - (intOf at_).toNat)
  case atStart => exact ⟨[], 0, 0, s.size + 1, rfl, rfl, by omega, by simp, by omega, by omega, HR, World.ownsRow_nil _ _ _ _, Below.refl _ _⟩
  case round =>
    clear HR
    obtain ⟨out, p, total, f, rfl, rfl, ht, hol, hps, hfp, HR, hown, hbel⟩ := hrel
    have hsz := hbel.size
    obtain ⟨ao, cp, hv⟩ := own_form hown
    subst hv
    by_cases hgo : p < s.size ∨ p = 0
    · by_cases h62 : Tx.bt s p = 62
      · have hlt : p < s.size := Tx.bt_lt (by rw [h62]; decide)
        have h62' := u8_62 ((Tx.bt_in hlt).symm.trans h62)
        have hlt' : (p : Int) < (s.size : Int) := by omega
        by_cases h16 : out.length = 16
        · have HB : Hid _ := HR.out.trans (Tx.mark_many s f p out total hgo h62 h16)
          clear hgo h62 HR
          go_wp2
          go_ret3
          exact reads_bad HB.out rfl hbel
        · have h16' : (out.length : Int) < 16 := by omega
          go_wp2_with fail
          rw [show (p : Int) + 1 = ((p + 1 : Nat) : Int) from by omega]
          refine (nameAt_any s (p + 1) _ hs (by omega)).mono ?_
          rintro e w' ⟨hna, hw⟩
          subst w'
          rcases hna with ⟨he, rfl⟩ | ⟨he, rfl⟩
          · have HB : Hid _ := HR.out.trans (Tx.mark_name s f p out total hgo h62 h16 he)
            clear hgo h62 HR he
            go_wp2
            go_ret3
            exact reads_bad HB.out rfl hbel
          · obtain ⟨hen1, hen2⟩ := Tx.nEnd_lt he
            have HG : Hid (out.any (fun x => x.1 == Tx.piece s (p + 1) (Tx.nEnd s (p + 1))) = false → R = Tx.faIn s f (Tx.nEnd s (p + 1) + 1) (Tx.nEnd s (p + 1) + 1) (Tx.piece s (p + 1) (Tx.nEnd s (p + 1))) [] out total) := fun ht => HR.out.trans (Tx.mark_go s f p out total hgo h62 h16 he ht)
            have HT : Hid (out.any (fun x => x.1 == Tx.piece s (p + 1) (Tx.nEnd s (p + 1))) = true → R = Tx.bad 3 (p + 1)) := fun ht => HR.out.trans (Tx.mark_twice s f p out total hgo h62 h16 he ht)
            clear hgo h62 HR he
            generalize hnm : Tx.piece s (p + 1) (Tx.nEnd s (p + 1)) = nm at *
            clear hnm
            generalize Tx.nEnd s (p + 1) = en at *
            have HC : Hid (∀ k (hk : k < out.length), ∃ g, ao = some ⟨g, 0, none⟩ ∧ wr.cell? ⟨g, k * 2, none⟩ = some (.string ⟨out[k].1.toArray⟩)) := by
              intro k hk
              rcases hown.2 with ⟨_, h0⟩ | ⟨g, cap, cur, hvv, _⟩
              · omega
              · simp only [Value.slice.injEq] at hvv
                obtain ⟨rfl, _, rfl⟩ := hvv
                exact ⟨g, rfl, (own_pair hown k hk).1⟩
            have HO : Hid _ := hown
            clear hown
            go_wp2
            go_loop [11] (fun i => ∃ k : Nat, k ≤ out.length ∧ i = .int .i64 (k : Int) ∧ Hid (hasN (out.take k) nm = false)) (fun i => out.length - (intOf i).toNat)
            case atStart => exact ⟨0, Nat.zero_le _, rfl, rfl⟩
            case round =>
              obtain ⟨k, hk, rfl, HA⟩ := hrel
              by_cases hkl : k < out.length
              · obtain ⟨g, hg, c0⟩ := HC.out k hkl
                subst hg
                have hkl' : (k : Int) < (out.length : Int) := by omega
                cases hq : (out[k].1 == nm) with
                | true =>
                  have HB : Hid _ := HT.out (hasN_stop out nm k hkl hq)
                  clear HA HT HG
                  go_wp2
                  go_ret3
                  exact reads_bad HB.out (by omega) hbel
                | false =>
                  have HF : Hid _ := hasN_snoc out nm k hkl HA.out hq
                  clear HA
                  go_wp2
                  go_round
                  case rel => exact ⟨k + 1, by omega, by go_num, HF⟩
                  case measure => simp [intOf]; omega
              · have hkl' : ¬ (k : Int) < (out.length : Int) := by omega
                have HI : Hid _ := HG.out (hasN_whole out nm k hkl HA.out)
                clear HA HT HG HC
                go_wp2
                go_loopw [6, 9, 12] (fun lf nx lt wx => ∃ (letters : List UInt8) (q tot g : Nat), nx = .int .i64 (q : Int) ∧ lf = .int .i64 ((4096 - tot : Nat) : Int) ∧ lt = .string ⟨letters.toArray⟩ ∧ tot ≤ 4096 ∧ p < q ∧ q ≤ s.size ∧ s.size + 1 ≤ g + q ∧ letters.length ≤ tot ∧ Hid (R = Tx.faIn s g q q nm letters out tot) ∧ Below wr.heap.size wr wx)
                  (fun _ nx _ _ => s.size + 1 - (intOf nx).toNat)
                case atStart => exact ⟨[], en + 1, total, f, by go_num, rfl, rfl, ht, by omega, by omega, by omega, by simp, HI, Below.refl _ _⟩
                case round =>
                  clear HI
                  obtain ⟨letters, q, tot, g, rfl, rfl, rfl, htt, hpq, hqs, hgq, hll, HI, hbx⟩ := hrel
                  have hsx := hbx.size
                  by_cases hc : (q < s.size ∧ Tx.bt s q ≠ 62) ∨ letters = []
                  · have HBAD : Hid _ := fun hb => HI.out.trans (Tx.fa_bad s g q nm letters out tot hqs hgq htt hc hb)
                    have HGOOD : Hid _ := fun hb => Tx.fa_good s g q nm letters out tot hgq htt hb
                    have hpos : (0 : Int) ≤ (q : Int) := by omega
                    have hcases : (q < s.size ∧ ∃ h : q < s.size, ((s[q].toNat : Int) != 62) = true) ∨ ((q < s.size ∧ ∃ h : q < s.size, ((s[q].toNat : Int) != 62) = false) ∧ letters.isEmpty = true) ∨ (¬ q < s.size ∧ letters.isEmpty = true) := by
                      by_cases hq1 : q < s.size
                      · by_cases hq3 : Tx.bt s q = 62
                        · refine .inr (.inl ⟨⟨hq1, hq1, u8_62 ((Tx.bt_in hq1).symm.trans hq3)⟩, ?_⟩)
                          rcases hc with h | h
                          · exact absurd hq3 h.2
                          · rw [h]; rfl
                        · exact .inl ⟨hq1, hq1, u8_n62 (fun h => hq3 ((Tx.bt_in hq1).trans h))⟩
                      · refine .inr (.inr ⟨hq1, ?_⟩)
                        rcases hc with h | h
                        · exact absurd h.1 hq1
                        · rw [h]; rfl
                    clear hc
                    rcases hcases with ⟨hq1, hq2, h62q⟩ | ⟨⟨hq1, hq2, h62q⟩, hemp⟩ | ⟨hq1, hemp⟩
                    all_goals
                      go_wp2_with fail
                      refine (lettersAt_any s q (4096 - tot) _ hs hqs (by omega)).mono ?_
                      rintro e w2 ⟨hla, hb2⟩
                      rcases hla with ⟨hbad, rfl⟩ | ⟨hgood, rfl⟩
                      · have HB : Hid _ := HBAD.out hbad
                        clear HBAD HGOOD HI hbad
                        go_wp2_with (go_at_call 66; refine (wrong_any s _ _ _ _).mono ?_; rintro e w' ⟨rfl, hw⟩; subst w')
                        go_ret3
                        exact reads_bad HB.out rfl ((hbel.trans (hbx.mono hsz)).trans (hb2.mono (by omega)))
                      · obtain ⟨g2, hg2, hlt2, hpos2, hle2, hfa⟩ := HGOOD.out hgood
                        have HFA : Hid _ := HI.out.trans hfa
                        have hcl := Tx.caps_length s (Tx.rlen s q (4096 - tot)) q
                        clear HBAD HGOOD HI hgood hfa
                        generalize Tx.rlen s q (4096 - tot) = c at *
                        generalize Tx.caps s q c = cs at *
                        have hadd : ∀ wy, (Op.stringOp .add ⟨letters.toArray⟩ ⟨cs.toArray⟩).run Tryz.prog wy = .ok (.string ⟨(letters ++ cs).toArray⟩) wy := fun wy => run_string_add_lists wy letters cs (by omega) (by omega)
                        first
                          | (exfalso; omega)
                          | (go_wp2
                             go_roundw
                             case rel => exact ⟨letters ++ cs, q + c + 1, tot + c, g2, by go_num, by go_num, rfl, by omega, by omega, by omega, by omega, by simp; omega, HFA, hbx.trans (hb2.mono (by omega))⟩
                             case measure => simp [intOf]; omega)
                  · have hne : letters ≠ [] := fun h => hc (.inr h)
                    have hemp : letters.isEmpty = false := by cases letters with
                      | nil => exact absurd rfl hne
                      | cons a r => rfl
                    obtain ⟨g2, hg2, hwh⟩ := Tx.fa_whole s g q nm letters out tot hgq hqs (by omega) hne (fun h => hc (.inl h))
                    have HW : Hid _ := HI.out.trans hwh
                    have hcases : (q < s.size ∧ ∃ h : q < s.size, ((s[q].toNat : Int) != 62) = false) ∨ ¬ q < s.size := by
                      by_cases hq1 : q < s.size
                      · refine .inl ⟨hq1, hq1, ?_⟩
                        by_cases hq3 : Tx.bt s q = 62
                        · exact u8_62 ((Tx.bt_in hq1).symm.trans hq3)
                        · exact absurd (.inl ⟨hq1, hq3⟩) hc
                      · exact .inr hq1
                    clear hc hwh HI hne
                    have hbw := hbel.trans (hbx.mono hsz)
                    have HOX : Hid _ := own_below HO.out hbx
                    rcases hcases with ⟨hq1, hq2, h62q⟩ | hq1
                    all_goals
                      go_wp2_with (at_builtin; refine app_pair rfl _ _ 30 rfl w.heap.size 29 Tryz.underlying30 Tryz.infoContig _ out _ _ (nm, letters) rfl rfl rfl rfl (by exact HOX.out) hbw (by omega) (by omega) ?_; intro v' w3 hown3 hbel3 hsz3)
                      go_roundw
                      case rel => exact ⟨out ++ [(nm, letters)], q, tot, g2, rfl, rfl, htt, by simp; omega, hqs, hg2, HW, hown3, hbel3⟩
                      case measure => simp [intOf]; omega
      · have HB : Hid _ := HR.out.trans (Tx.mark_stop s f p out total hgo h62)
        by_cases hlt : p < s.size
        · have h62' := u8_n62 (fun h => h62 ((Tx.bt_in hlt).trans h))
          have hlt' : (p : Int) < (s.size : Int) := by omega
          clear hgo h62 HR
          go_wp2
          go_ret3
          exact reads_bad HB.out rfl hbel
        · have hp0 : p = 0 := by omega
          subst hp0
          have hs0 : s.size = 0 := by omega
          clear hgo h62 HR
          go_wp2
          go_ret3
          exact reads_bad HB.out rfl hbel
    · have HB : Hid _ := HR.out.trans (Tx.head_end s f p out total hgo)
      have hlt' : ¬ (p : Int) < (s.size : Int) := by omega
      have hp0 : ((p : Int) == 0) = false := by rw [beq_eq_false_iff_ne]; omega
      clear hgo HR
      go_wp2
      go_ret3
      rw [HB.out]
      exact ⟨_, rfl, hown, hbel, fun h => absurd rfl h⟩

end Go.Proofs.YtfcbgfomhmcikaaGreatDoor

namespace Go.Proofs.YtfcbgfomhmcikaaGreatDoor
open Go.RowKit

/-- a number's bits, the lowest first, as digits -/
def bits : Nat → Nat → List UInt8
  | 0, _ => []
  | f + 1, k => if k = 0 then [] else UInt8.ofNat (48 + k % 2) :: bits f (k / 2)

theorem bits_log : ∀ (f k j : Nat), k < 2 ^ j → (bits f k).length ≤ j := by
  intro f
  induction f with
  | zero => intro k j _; simp [bits]
  | succ f ih =>
    intro k j h
    unfold bits
    split
    · simp
    · next hk =>
      obtain ⟨j, rfl⟩ : ∃ i, j = i + 1 := by
        cases j with
        | zero => simp at h; omega
        | succ i => exact ⟨i, rfl⟩
      have := ih (k / 2) j (by rw [Nat.pow_succ] at h; omega)
      simp; omega

/-- the mark of the n-th list -/
def mk (n : Nat) : List UInt8 := 109 :: bits (n / 4 + 1) (n / 4)

theorem mk_length (n : Nat) (hn : n ≤ 8000000000000) : (mk n).length ≤ 51 := by
  have := bits_log (n / 4 + 1) (n / 4) 50 (by omega)
  simp [mk]; omega
theorem mk_same (n i : Nat) (h : n % 4 = 0) (hi : i < 4) : mk (n + i) = mk n := by
  unfold mk
  rw [show (n + i) / 4 = n / 4 by omega]

theorem bits_step (f k : Nat) (hk : 0 < k) : bits (f + 1) k = UInt8.ofNat (48 + k % 2) :: bits f (k / 2) := by rw [bits, if_neg (by omega)]
theorem bits_zero (f : Nat) : bits f 0 = [] := by cases f <;> simp [bits]

theorem digit_int (k : Nat) : (48 + (k : Int) % 2) = ((UInt8.ofNat (48 + k % 2)).toNat : Int) := by
  rw [UInt8.toNat_ofNat']
  omega

set_option maxRecDepth 100000 in
set_option maxHeartbeats 1600000 in
theorem mark_any (n : Nat) (w : World) (hn : n ≤ 8000000000000) :
    Calls Tryz.prog 26 #[.int .i64 (n : Int)] w fun e w' => e = .returned (.string ⟨(mk n).toArray⟩) ∧ Below w.heap.size w w' := by
  have HL : Hid _ := mk_length n hn
  obtain ⟨M, hM⟩ : ∃ M, M = mk n := ⟨_, rfl⟩
  rw [← hM] at HL ⊢
  have HM : Hid (M = [109] ++ bits (n / 4 + 1) (n / 4)) := hM
  clear hM
  go_enter Tryz.func26, Tryz.ntmps26
  go_wp2
  go_loopw [3, 4] (fun st kv wr => ∃ (l : List UInt8) (f k : Nat), st = .string ⟨l.toArray⟩ ∧ kv = .int .i64 (k : Int) ∧ k ≤ n / 4 ∧ k < f ∧ Hid (M = l ++ bits f k) ∧ Below w.heap.size w wr) (fun _ kv _ => (intOf kv).toNat)
  case atStart => exact ⟨[109], n / 4 + 1, n / 4, rfl, by go_num, Nat.le_refl _, by omega, HM, Below.refl _ _⟩
  case round =>
    clear HM
    obtain ⟨l, f, k, rfl, rfl, hk, hf, HM, hbel⟩ := hrel
    have hsz := hbel.size
    by_cases hpos : 0 < k
    · obtain ⟨f, rfl⟩ : ∃ f', f = f' + 1 := ⟨f - 1, by omega⟩
      have hb := bits_step f k hpos
      obtain ⟨d, hd⟩ : ∃ d, d = UInt8.ofNat (48 + k % 2) := ⟨_, rfl⟩
      have hdi := digit_int k
      rw [← hd] at hb hdi
      have HM2 : Hid (M = (l ++ [d]) ++ bits f (k / 2)) := by show _ = _; rw [HM.out, hb]; simp
      have hll : l.length ≤ 8388607 := by
        have h1 := HL.out
        have h2 := congrArg List.length HM2.out
        simp at h2
        omega
      have HDI : Hid _ := hdi
      clear HM hd hb hdi
      have hadd : ∀ wy, (Op.stringOp .add ⟨l.toArray⟩ ⟨[d].toArray⟩).run Tryz.prog wy = .ok (.string ⟨(l ++ [d]).toArray⟩) wy := fun wy => run_string_add_lists wy l [d] (by omega) (by simp)
      have hconv : (convert 68 9 (.slice (some ⟨wr.heap.size, 0, none⟩) 1 1)).run Tryz.prog (wr.alloc (Obj.cells #[Value.int IntKind.u8 (48 + (k : Int) % 2)] 5)) = .ok (.string ⟨[d].toArray⟩) (wr.alloc (Obj.cells #[Value.int IntKind.u8 (48 + (k : Int) % 2)] 5)) := by
        rw [HDI.out]
        exact run_convert_bytes_back (P := Tryz.prog) _ 68 9 5 ⟨wr.heap.size, 0, none⟩ 1 [d] Tryz.underlying68 Tryz.underlying5 Tryz.underlying9 (fun j hj => by
          match j, hj with
          | 0, _ => simp [Addr.add])
      have HB1 : Hid (∀ o, Below w.heap.size w (wr.alloc o)) := fun o => hbel.alloc hsz o
      go_wp2
      go_roundw
      case rel => exact ⟨l ++ [d], f, k / 2, rfl, by go_num, by omega, by omega, HM2, HB1.out _⟩
      case measure => simp [intOf]; omega
    · have hk0 : k = 0 := by omega
      subst hk0
      have HF : Hid (l = M) := by show _ = _; rw [HM.out, bits_zero]; simp
      clear HM
      go_wp2
      go_ret
      exact ⟨by rw [← HF.out]; rfl, hbel⟩

end Go.Proofs.YtfcbgfomhmcikaaGreatDoor
