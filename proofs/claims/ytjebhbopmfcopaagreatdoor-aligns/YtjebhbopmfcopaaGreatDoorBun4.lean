/-
  PAIRS OF TEXTS IN MEMORY (contigs, reads): a name and letters each; a name among them. Own text of the verifier.
  PLAIN MATHEMATICS of Fasta's machine: its steps a line at a time. Own text of the verifier.
  THE WALK of the document's own Fasta. Own text of the verifier.
  PLAIN MATHEMATICS of Fastq: what it answers, a read at a time. No program is named here. Own text of the verifier.
  THE WALK of the document's own Fastq. Own text of the verifier.
-/
import Derived.Test.YtjebhbopmfcopaaGreatDoorBun3
import Derived.Test.YtjebhbopmfcopaaGreatDoorBun2
import Derived.Test.YtjebhbopmfcopaaGreatDoorBun1
import Derived.Deep.QuietTactic
import Derived.BigQuiet
namespace Go.Proofs.YtjebhbopmfcopaaGreatDoor
open Go.RowKit

abbrev Pr := List UInt8 × List UInt8

def prCells (x : Pr) : List Value := [.string ⟨x.1.toArray⟩, .string ⟨x.2.toArray⟩]
def Prs (l : List Pr) : List Value := l.flatMap prCells

theorem Prs_length (l : List Pr) : (Prs l).length = l.length * 2 := by
  induction l with
  | nil => rfl
  | cons o l ih => rw [Prs, List.flatMap_cons, List.length_append, ← Prs, ih, List.length_cons]; simp [prCells]; omega

theorem Prs_at (l : List Pr) (k : Nat) (h : k < l.length) (j : Nat) (hj : j < 2) : (Prs l)[k * 2 + j]? = (prCells l[k])[j]? := by
  induction l generalizing k with
  | nil => simp at h
  | cons o l ih =>
    rw [Prs, List.flatMap_cons]
    cases k with
    | zero => rw [List.getElem?_append_left (by simp [prCells]; omega)]; simp
    | succ k =>
      rw [List.getElem?_append_right (by simp [prCells]; omega)]
      have e : (k + 1) * 2 + j - (prCells o).length = k * 2 + j := by simp [prCells]; omega
      rw [e]
      have := ih k (by simpa using h)
      rw [Prs] at this
      rw [this]
      simp

theorem Prs_append (l r : List Pr) : Prs (l ++ r) = Prs l ++ Prs r := by simp [Prs]

theorem own_pair {w : World} {base e n cap g : Nat} {l : List Pr} (h : w.ownsRow base e 2 (.slice (some ⟨g, 0, none⟩) n cap) n (Prs l)) (k : Nat) (hk : k < l.length) :
    w.cell? ⟨g, k * 2, none⟩ = some (.string ⟨l[k].1.toArray⟩) ∧ w.cell? ⟨g, k * 2 + 1, none⟩ = some (.string ⟨l[k].2.toArray⟩) := by
  have hl : l.length * 2 = n * 2 := by have := h.1; rw [Prs_length] at this; exact this
  constructor
  · have := h.cellAt (k * 2 + 0) (by omega)
    rw [Prs_at l k hk 0 (by omega)] at this
    simpa [prCells] using this
  · rw [h.cellAt (k * 2 + 1) (by omega), Prs_at l k hk 1 (by omega)]
    simp [prCells]

def hasN (l : List Pr) (nm : List UInt8) : Bool := l.any (fun x => x.1 == nm)

theorem hasN_stop (l : List Pr) (nm : List UInt8) (k : Nat) (h : k < l.length) (he : (l[k].1 == nm) = true) : hasN l nm = true := by
  rw [hasN, List.any_eq_true]
  exact ⟨l[k], List.getElem_mem _, he⟩
theorem hasN_snoc (l : List Pr) (nm : List UInt8) (k : Nat) (h : k < l.length) (h0 : hasN (l.take k) nm = false) (he : (l[k].1 == nm) = false) : hasN (l.take (k + 1)) nm = false := by
  rw [List.take_succ_eq_append_getElem h]
  simp only [hasN, List.any_append, List.any_cons, List.any_nil, Bool.or_false] at *
  rw [h0, he]; rfl
theorem hasN_whole (l : List Pr) (nm : List UInt8) (k : Nat) (h : ¬ k < l.length) (h0 : hasN (l.take k) nm = false) : hasN l nm = false := by
  rwa [List.take_of_length_le (by omega)] at h0

set_option maxRecDepth 100000 in
set_option maxHeartbeats 1600000 in
theorem hasName_any (w : World) (base n : Nat) (v : Value) (l : List Pr) (nm : List UInt8) (hn : l.length = n) (h16 : n ≤ 1000) (hown : w.ownsRow base 59 2 v n (Prs l)) :
    Calls Tryz.prog 65 #[v, .string ⟨nm.toArray⟩] w fun e w' => e = .returned (.bool (hasN l nm)) ∧ Below w.heap.size w w' := by
  have HN : Hid _ := hn
  clear hn
  rcases Nat.eq_zero_or_pos n with h0 | hpos
  · subst h0
    have hl : l = [] := List.eq_nil_of_length_eq_zero HN.out
    subst hl
    obtain ⟨ao, cap, hv⟩ := own_form hown
    subst hv
    clear hown
    go_enter Tryz.func65, Tryz.ntmps65
    go_wp2
    refine wp_loop_rounds 1 ?_
    rw [rounds_succ]
    go_wp2
    go_ret
    exact ⟨rfl, Below.refl _ _⟩
  · obtain ⟨g, cap, hv, _, hg⟩ : ∃ g cap, v = .slice (some ⟨g, 0, none⟩) n cap ∧ base ≤ g ∧ g < w.heap.size := by
      rcases hown.2 with ⟨_, h0⟩ | ⟨g, cap, cur, rfl, hb, hg, _⟩
      · omega
      · exact ⟨g, cap, rfl, hb, (Array.getElem?_eq_some_iff.1 hg).1⟩
    subst hv
    have HC : Hid _ := fun k (hk : k < l.length) => own_pair hown k hk
    clear hown
    go_enter Tryz.func65, Tryz.ntmps65
    go_wp2
    go_loopw [9] (fun i wr => ∃ k : Nat, k ≤ n ∧ i = .int .i64 k ∧ Hid (hasN (l.take k) nm = false) ∧ Below w.heap.size w wr) (fun i _ => n - (intOf i).toNat)
    case atStart => exact ⟨0, Nat.zero_le _, rfl, rfl, Below.refl _ _⟩
    case round =>
      obtain ⟨k, hk, rfl, HA, hbel⟩ := hrel
      have hsz := hbel.size
      by_cases hlt : k < n
      · have hkl : k < l.length := by rw [HN.out]; exact hlt
        have c0 := (hbel.cell (p := ⟨g, k * 2, none⟩) hg).trans (HC.out k hkl).1
        have c1 := (hbel.cell (p := ⟨g, k * 2 + 1, none⟩) hg).trans (HC.out k hkl).2
        have hkn : (k : Int) < (n : Int) := by omega
        have HB1 : Hid (∀ o, Below w.heap.size w (wr.alloc o)) := fun o => hbel.alloc hsz o
        clear hbel
        cases he : (l[k].1 == nm) with
        | true =>
          have HF : Hid _ := hasN_stop l nm k hkl he
          clear HA
          go_wp2
          go_ret
          exact ⟨ret_bool HF.out.symm, HB1.out _⟩
        | false =>
          have HF : Hid _ := hasN_snoc l nm k hkl HA.out he
          clear HA
          go_wp2
          go_roundw
          case rel => exact ⟨k + 1, by omega, by go_num, HF, HB1.out _⟩
          case measure => simp [intOf]; omega
      · have HF : Hid _ := hasN_whole l nm k (by rw [HN.out]; exact hlt) HA.out
        have hkn : ¬ (k : Int) < (n : Int) := by omega
        clear HA
        go_wp2
        go_ret
        exact ⟨ret_bool HF.out.symm, hbel⟩

end Go.Proofs.YtjebhbopmfcopaaGreatDoor

namespace Go.Proofs.YtjebhbopmfcopaaGreatDoor.Tx

/-- where a contig may begin, or the text end -/
def head (s : ByteArray) (f p : Nat) (out : List (List UInt8 × List UInt8)) (total : Nat) : Ans :=
  if p < s.size ∨ p = 0 then faMark s p out (fun q nm => faIn s f q q nm [] out total) else ⟨out, 0, 0⟩

theorem cap_62 : cap 62 = 0 := by decide
theorem cap_10 : cap 10 = 0 := by decide

theorem fa_bad (s : ByteArray) (f p : Nat) (name letters : List UInt8) (out : List (List UInt8 × List UInt8)) (total : Nat) (hp : p ≤ s.size) (hf : s.size + 1 ≤ f + p) (ht : total ≤ 4096)
    (hc : (p < s.size ∧ bt s p ≠ 62) ∨ letters = []) (hb : rlen s p (4096 - total) = 0 ∨ bt s (p + rlen s p (4096 - total)) ≠ 10) :
    faIn s f p p name letters out total = bad (wr s (p + rlen s p (4096 - total)) 2 4) (p + rlen s p (4096 - total)) := by
  generalize hcc : rlen s p (4096 - total) = c at *
  have hle : c ≤ 4096 - total := by rw [← hcc]; exact rlen_le _ _ _
  have hsz : p + c ≤ s.size := by rw [← hcc]; exact rlen_size _ _ _ hp
  rw [faIn_run s p name out c f p letters total (fun j hj => rlen_all s (4096 - total) p j (by omega)) (by omega) (by omega)]
  obtain ⟨g, hg⟩ : ∃ g, f - c = g + 1 := ⟨f - c - 1, by omega⟩
  rw [hg, faIn, wr]
  by_cases h0 : cap (bt s (p + c)) ≠ 0
  · have hfull : c = 4096 - total := by
      by_cases hlt : c < 4096 - total
      · have := rlen_stop s (4096 - total) p (by omega)
        rw [hcc] at this
        exact absurd this h0
      · omega
    rw [if_pos h0, if_pos (by omega), if_pos h0]
  · rw [if_neg h0, if_neg h0]
    by_cases hc0 : c = 0
    · subst hc0
      simp only [Nat.add_zero] at *
      rw [if_neg (by omega)]
      by_cases hl : letters = []
      · subst hl
        rw [if_pos (.inr (by simp [caps]))]
      · rw [if_neg (by simp [caps, hl])]
        rcases hc with ⟨h1, h2⟩ | h
        · rw [if_pos h1, faMark, if_pos h2]
        · exact absurd h hl
    · rcases hb with h | h
      · exact absurd h hc0
      · rw [if_neg (fun x => h x.1), if_pos (.inl (by omega))]

theorem fa_good (s : ByteArray) (f p : Nat) (name letters : List UInt8) (out : List (List UInt8 × List UInt8)) (total : Nat) (hf : s.size + 1 ≤ f + p) (ht : total ≤ 4096)
    (hb : ¬ (rlen s p (4096 - total) = 0 ∨ bt s (p + rlen s p (4096 - total)) ≠ 10)) :
    ∃ g, s.size + 1 ≤ g + (p + rlen s p (4096 - total) + 1) ∧ p + rlen s p (4096 - total) < s.size ∧ 0 < rlen s p (4096 - total) ∧ rlen s p (4096 - total) ≤ 4096 - total ∧
      faIn s f p p name letters out total = faIn s g (p + rlen s p (4096 - total) + 1) (p + rlen s p (4096 - total) + 1) name (letters ++ caps s p (rlen s p (4096 - total))) out (total + rlen s p (4096 - total)) := by
  generalize hcc : rlen s p (4096 - total) = c at *
  have hle : c ≤ 4096 - total := by rw [← hcc]; exact rlen_le _ _ _
  have h10 : bt s (p + c) = 10 := by
    by_cases h : bt s (p + c) = 10
    · exact h
    · exact absurd (.inr h) hb
  have hc0 : c ≠ 0 := fun h => hb (.inl h)
  have hlt : p + c < s.size := bt_lt (by rw [h10]; decide)
  refine ⟨f - c - 1, by omega, hlt, by omega, hle, ?_⟩
  rw [faIn_run s p name out c f p letters total (fun j hj => rlen_all s (4096 - total) p j (by omega)) (by omega) (by omega)]
  obtain ⟨g, hg⟩ : ∃ g, f - c = g + 1 := ⟨f - c - 1, by omega⟩
  rw [hg, faIn, h10, if_neg (by simp [cap_10]), if_pos ⟨rfl, by omega⟩]
  rfl

theorem fa_whole (s : ByteArray) (f p : Nat) (name letters : List UInt8) (out : List (List UInt8 × List UInt8)) (total : Nat) (hf : s.size + 1 ≤ f + p) (hp : p ≤ s.size) (hp0 : 0 < p)
    (hl : letters ≠ []) (hc : ¬ (p < s.size ∧ bt s p ≠ 62)) :
    ∃ g, s.size ≤ g + p ∧ faIn s f p p name letters out total = head s g p (out ++ [(name, letters)]) total := by
  obtain ⟨g, rfl⟩ : ∃ g, f = g + 1 := ⟨f - 1, by omega⟩
  refine ⟨g, by omega, ?_⟩
  have hb : cap (bt s p) = 0 ∧ bt s p ≠ 10 := by
    by_cases h : p < s.size
    · have h62 : bt s p = 62 := by
        by_cases h2 : bt s p = 62
        · exact h2
        · exact absurd ⟨h, h2⟩ hc
      rw [h62]; exact ⟨cap_62, by decide⟩
    · rw [bt_out h]; exact ⟨cap_zero, by decide⟩
  rw [faIn, if_neg (by simp [hb.1]), if_neg (by omega), if_neg (by simp [hl]), head]
  by_cases h : p < s.size
  · rw [if_pos h, if_pos (.inl h)]
  · rw [if_neg h, if_neg (by omega)]

/-- the ends of a mark -/
theorem mark_stop (s : ByteArray) (f p : Nat) (out : List (List UInt8 × List UInt8)) (total : Nat) (h : p < s.size ∨ p = 0) (hb : bt s p ≠ 62) : head s f p out total = bad 2 p := by
  rw [head, if_pos h, faMark, if_pos hb]
theorem mark_many (s : ByteArray) (f p : Nat) (out : List (List UInt8 × List UInt8)) (total : Nat) (h : p < s.size ∨ p = 0) (hb : bt s p = 62) (hn : out.length = 16) : head s f p out total = bad 4 p := by
  rw [head, if_pos h, faMark, if_neg (by simp [hb]), if_pos hn]
theorem mark_name (s : ByteArray) (f p : Nat) (out : List (List UInt8 × List UInt8)) (total : Nat) (h : p < s.size ∨ p = 0) (hb : bt s p = 62) (hn : out.length ≠ 16) (he : nEnd s (p + 1) = p + 1 ∨ bt s (nEnd s (p + 1)) ≠ 10) : head s f p out total = bad 2 (nEnd s (p + 1)) := by
  rw [head, if_pos h, faMark, if_neg (by simp [hb]), if_neg hn, if_pos he]
theorem mark_twice (s : ByteArray) (f p : Nat) (out : List (List UInt8 × List UInt8)) (total : Nat) (h : p < s.size ∨ p = 0) (hb : bt s p = 62) (hn : out.length ≠ 16) (he : ¬ (nEnd s (p + 1) = p + 1 ∨ bt s (nEnd s (p + 1)) ≠ 10))
    (ht : out.any (fun x => x.1 == piece s (p + 1) (nEnd s (p + 1))) = true) : head s f p out total = bad 3 (p + 1) := by
  rw [head, if_pos h, faMark, if_neg (by simp [hb]), if_neg hn, if_neg he, if_pos ht]
theorem mark_go (s : ByteArray) (f p : Nat) (out : List (List UInt8 × List UInt8)) (total : Nat) (h : p < s.size ∨ p = 0) (hb : bt s p = 62) (hn : out.length ≠ 16) (he : ¬ (nEnd s (p + 1) = p + 1 ∨ bt s (nEnd s (p + 1)) ≠ 10))
    (ht : out.any (fun x => x.1 == piece s (p + 1) (nEnd s (p + 1))) = false) : head s f p out total = faIn s f (nEnd s (p + 1) + 1) (nEnd s (p + 1) + 1) (piece s (p + 1) (nEnd s (p + 1))) [] out total := by
  rw [head, if_pos h, faMark, if_neg (by simp [hb]), if_neg hn, if_neg he, if_neg (by simp [ht])]
theorem head_end (s : ByteArray) (f p : Nat) (out : List (List UInt8 × List UInt8)) (total : Nat) (h : ¬ (p < s.size ∨ p = 0)) : head s f p out total = ⟨out, 0, 0⟩ := by
  rw [head, if_neg h]

theorem fasta_head (s : ByteArray) : fasta s = head s (s.size + 1) 0 [] 0 := by
  rw [head, if_pos (.inr rfl)]; rfl

theorem nEnd_lt {s : ByteArray} {p : Nat} (he : ¬ (nEnd s (p + 1) = p + 1 ∨ bt s (nEnd s (p + 1)) ≠ 10)) : nEnd s (p + 1) < s.size ∧ p + 1 ≤ nEnd s (p + 1) := by
  have h10 : bt s (nEnd s (p + 1)) = 10 := by
    by_cases h : bt s (nEnd s (p + 1)) = 10
    · exact h
    · exact absurd (.inr h) he
  exact ⟨bt_lt (by rw [h10]; decide), by unfold nEnd; omega⟩

end Go.Proofs.YtjebhbopmfcopaaGreatDoor.Tx

namespace Go.Proofs.YtjebhbopmfcopaaGreatDoor
open Go.RowKit

theorem Tryz.infoContig : (Tryz.prog.info? 59).map (fun i => (i.zero, i.size, i.bytes)) = some (some (.agg #[.string ⟨#[]⟩, .string ⟨#[]⟩]), 2, 32) := by kernel_rfl
theorem Tryz.infoRead : (Tryz.prog.info? 56).map (fun i => (i.zero, i.size, i.bytes)) = some (some (.agg #[.string ⟨#[]⟩, .string ⟨#[]⟩]), 2, 32) := by kernel_rfl

theorem Prs_one (l : List Pr) : ∀ u ∈ Prs l, u.oneCell' = true := by
  intro u hu
  obtain ⟨o, ho, hu⟩ := List.mem_flatMap.1 hu
  simp only [prCells, List.mem_cons, List.not_mem_nil, or_false] at hu
  rcases hu with rfl | rfl <;> rfl

/-- 'out = append(out, T{name, letters})' -/
theorem app_pair {W w : World} {ops : Array Oper} {rest : List Oper} {o : Oper} {a : Act} {Q : Exit → Act → World → Prop} (hgd : o.guard = none) (s x : Operand) (t : TypeId)
    (ho : o.op = .call { callee := .builtin .append, args := #[s, x], argTypes := #[t, t] })
    (base : Nat) (e : TypeId) (ht : Tryz.prog.underlying t = some (.slice e)) (hinfo : (Tryz.prog.info? e).map (fun i => (i.zero, i.size, i.bytes)) = some (some (.agg #[.string ⟨#[]⟩, .string ⟨#[]⟩]), 2, 32))
    (v : Value) (l : List Pr) (nm lt : ByteArray) (y : Pr) (hs : a.eval s = v) (hx : a.eval x = .slice (some ⟨w.heap.size, 0, none⟩) 1 1) (hnm : nm = ⟨y.1.toArray⟩) (hlt : lt = ⟨y.2.toArray⟩)
    (hown : w.ownsRow base e 2 v l.length (Prs l)) (hbel : Below base W w) (hbase : base ≤ w.heap.size) (hlen : l.length + 1 ≤ 100000)
    (h : ∀ v' w', w'.ownsRow base e 2 v' (l ++ [y]).length (Prs (l ++ [y])) → Below base W w' → w.heap.size ≤ w'.heap.size → wpList Tryz.prog ops Q rest (a.put o.dst v') w') :
    wpList Tryz.prog ops Q (o :: rest) a (w.alloc (.cells #[.string nm, .string lt] e)) := by
  subst hnm hlt
  refine app_src hgd s x t ho base e _ 2 32 ht hinfo rfl (by decide) v l.length (Prs l) (.slice (some ⟨w.heap.size, 0, none⟩) 1 1) 1 (Prs [y]) hs hx (hown.alloc _) (.inr ⟨_, _, rfl, ?_⟩) (by simp [Prs, prCells]) (Prs_one _) (hbel.alloc hbase _) (by simp; omega) (by omega) (by decide) ?_
  · intro j u hj
    match j, hj with
    | 0, hj => simp [Prs, prCells] at hj; subst hj; simp [Addr.add]
    | 1, hj => simp [Prs, prCells] at hj; subst hj; simp [Addr.add]
  · intro v' w' h1 h2 h3 _
    refine h v' w' ?_ h2 (by simp at h3; omega)
    rw [Prs_append, List.length_append]
    exact h1

theorem u8_cmp {c : UInt8} (n : Nat) (hn : n < 256) : ((c.toNat : Int) != (n : Int)) = true ↔ c ≠ UInt8.ofNat n := by
  rw [bne_iff_ne]
  constructor
  · intro h h2
    exact h (by have := (Lt.toNat_inj hn).2 h2; omega)
  · intro h h2
    exact h ((Lt.toNat_inj hn).1 (by omega))
theorem u8_62 {c : UInt8} (h : c = 62) : ((c.toNat : Int) != 62) = false := by rw [h]; rfl
theorem u8_n62 {c : UInt8} (h : c ≠ 62) : ((c.toNat : Int) != 62) = true := (u8_cmp 62 (by omega)).2 h

theorem ans3 {v : Value} {x y : Int} {R : Tx.Ans} (h : R = ⟨R.out, x, y⟩) : Ending.returned (.tuple #[v, .int .i64 x, .int .i64 y]) = .returned (.tuple #[v, .int .i64 R.err, .int .i64 R.pos]) := by rw [h]

/-- what a reader's call ends with: the slice owned, the error, the place -/
def Reads (w : World) (e : TypeId) (R : Tx.Ans) (en : Ending) (w' : World) : Prop :=
  ∃ v, en = .returned (.tuple #[v, .int .i64 R.err, .int .i64 R.pos]) ∧ w'.ownsRow w.heap.size e 2 v R.out.length (Prs R.out) ∧ Below w.heap.size w w' ∧ (R.err ≠ 0 → v = .slice none 0 0)

theorem reads_bad {w w' : World} {e : TypeId} {R : Tx.Ans} {x : Int} {p : Nat} {y : Int} (h : R = Tx.bad x p) (hy : y = (p : Int)) (hb : Below w.heap.size w w') :
    Reads w e R (.returned (.tuple #[.slice none 0 0, .int .i64 x, .int .i64 y])) w' := by
  subst h hy
  exact ⟨_, rfl, World.ownsRow_nil _ _ _ _, hb, fun _ => rfl⟩

/-- what is owned stays owned while nothing old is written -/
theorem own_below {w w' : World} {base e size n : Nat} {v : Value} {xs : List Value} (h : w.ownsRow base e size v n xs) (hb : Below w.heap.size w w') : w'.ownsRow base e size v n xs := by
  refine ⟨h.1, ?_⟩
  rcases h.2 with h0 | ⟨g, cap, cur, rfl, h1, hg, h2⟩
  · exact .inl h0
  · exact .inr ⟨g, cap, cur, rfl, h1, by rw [hb.block g (Array.getElem?_eq_some_iff.1 hg).1]; exact hg, h2⟩

set_option maxRecDepth 100000 in
set_option maxHeartbeats 8000000 in
theorem refFasta_any (s : ByteArray) (w : World) (hs : s.size ≤ 140737488351232) :
    Calls Tryz.prog 93 #[.string s] w fun e w' => Reads w 59 (Tx.fasta s) e w' := by
  obtain ⟨R, hR⟩ : ∃ R, R = Tx.fasta s := ⟨_, rfl⟩
  rw [← hR]
  have HR : Hid _ := hR.trans (Tx.fasta_head s)
  clear hR
  go_enter Tryz.func93, Tryz.ntmps93
  go_wp2
  go_loopw [5, 6, 7] (fun v lf at_ wr => ∃ (out : List Pr) (p total f : Nat), at_ = .int .i64 (p : Int) ∧ lf = .int .i64 ((4096 - total : Nat) : Int) ∧ total ≤ 4096 ∧ out.length ≤ 16 ∧ p ≤ s.size ∧ s.size ≤ f + p ∧ Hid (R = Tx.head s f p out total) ∧ wr.ownsRow w.heap.size 59 2 v out.length (Prs out) ∧ Below w.heap.size w wr)
    (fun _ _ at_ _ => s.size + 1 - (intOf at_).toNat)
  case atStart => exact ⟨[], 0, 0, s.size + 1, rfl, rfl, by omega, by simp, by omega, by omega, HR, World.ownsRow_nil _ _ _ _, Below.refl _ _⟩
  case round =>
    clear HR
    obtain ⟨out, p, total, f, rfl, rfl, ht, hol, hps, hfp, HR, hown, hbel⟩ := hrel
    have hsz := hbel.size
    obtain ⟨ao, cp, hv⟩ := own_form hown
    subst hv
    by_cases hgo : p < s.size ∨ p = 0
    · by_cases h62 : Tx.bt s p = 62
      · have hlt : p < s.size := Tx.bt_lt (by rw [h62]; decide)
        have h62' := u8_62 ((Tx.bt_in hlt).symm.trans h62)
        have hlt' : (p : Int) < (s.size : Int) := by omega
        by_cases h16 : out.length = 16
        · have HB : Hid _ := HR.out.trans (Tx.mark_many s f p out total hgo h62 h16)
          clear hgo h62 HR
          go_wp2
          go_ret3
          exact reads_bad HB.out rfl hbel
        · have h16' : (out.length : Int) < 16 := by omega
          go_wp2_with fail
          rw [show (p : Int) + 1 = ((p + 1 : Nat) : Int) from by omega]
          refine (nameAt_any s (p + 1) _ hs (by omega)).mono ?_
          rintro e w' ⟨hna, hw⟩
          subst w'
          rcases hna with ⟨he, rfl⟩ | ⟨he, rfl⟩
          · have HB : Hid _ := HR.out.trans (Tx.mark_name s f p out total hgo h62 h16 he)
            clear hgo h62 HR he
            go_wp2
            go_ret3
            exact reads_bad HB.out rfl hbel
          · obtain ⟨hen1, hen2⟩ := Tx.nEnd_lt he
            have HG : Hid (out.any (fun x => x.1 == Tx.piece s (p + 1) (Tx.nEnd s (p + 1))) = false → R = Tx.faIn s f (Tx.nEnd s (p + 1) + 1) (Tx.nEnd s (p + 1) + 1) (Tx.piece s (p + 1) (Tx.nEnd s (p + 1))) [] out total) := fun ht => HR.out.trans (Tx.mark_go s f p out total hgo h62 h16 he ht)
            have HT : Hid (out.any (fun x => x.1 == Tx.piece s (p + 1) (Tx.nEnd s (p + 1))) = true → R = Tx.bad 3 (p + 1)) := fun ht => HR.out.trans (Tx.mark_twice s f p out total hgo h62 h16 he ht)
            clear hgo h62 HR he
            generalize hnm : Tx.piece s (p + 1) (Tx.nEnd s (p + 1)) = nm at *
            clear hnm
            generalize Tx.nEnd s (p + 1) = en at *
            have HC : Hid (∀ k (hk : k < out.length), ∃ g, ao = some ⟨g, 0, none⟩ ∧ wr.cell? ⟨g, k * 2, none⟩ = some (.string ⟨out[k].1.toArray⟩)) := by
              intro k hk
              rcases hown.2 with ⟨_, h0⟩ | ⟨g, cap, cur, hvv, _⟩
              · omega
              · simp only [Value.slice.injEq] at hvv
                obtain ⟨rfl, _, rfl⟩ := hvv
                exact ⟨g, rfl, (own_pair hown k hk).1⟩
            have HO : Hid _ := hown
            clear hown
            go_wp2
            go_loop [11] (fun i => ∃ k : Nat, k ≤ out.length ∧ i = .int .i64 (k : Int) ∧ Hid (hasN (out.take k) nm = false)) (fun i => out.length - (intOf i).toNat)
            case atStart => exact ⟨0, Nat.zero_le _, rfl, rfl⟩
            case round =>
              obtain ⟨k, hk, rfl, HA⟩ := hrel
              by_cases hkl : k < out.length
              · obtain ⟨g, hg, c0⟩ := HC.out k hkl
                subst hg
                have hkl' : (k : Int) < (out.length : Int) := by omega
                cases hq : (out[k].1 == nm) with
                | true =>
                  have HB : Hid _ := HT.out (hasN_stop out nm k hkl hq)
                  clear HA HT HG
                  go_wp2
                  go_ret3
                  exact reads_bad HB.out (by omega) hbel
                | false =>
                  have HF : Hid _ := hasN_snoc out nm k hkl HA.out hq
                  clear HA
                  go_wp2
                  go_round
                  case rel => exact ⟨k + 1, by omega, by go_num, HF⟩
                  case measure => simp [intOf]; omega
              · have hkl' : ¬ (k : Int) < (out.length : Int) := by omega
                have HI : Hid _ := HG.out (hasN_whole out nm k hkl HA.out)
                clear HA HT HG HC
                go_wp2
                go_loopw [6, 9, 12] (fun lf nx lt wx => ∃ (letters : List UInt8) (q tot g : Nat), nx = .int .i64 (q : Int) ∧ lf = .int .i64 ((4096 - tot : Nat) : Int) ∧ lt = .string ⟨letters.toArray⟩ ∧ tot ≤ 4096 ∧ p < q ∧ q ≤ s.size ∧ s.size + 1 ≤ g + q ∧ letters.length ≤ tot ∧ Hid (R = Tx.faIn s g q q nm letters out tot) ∧ Below wr.heap.size wr wx)
                  (fun _ nx _ _ => s.size + 1 - (intOf nx).toNat)
                case atStart => exact ⟨[], en + 1, total, f, by go_num, rfl, rfl, ht, by omega, by omega, by omega, by simp, HI, Below.refl _ _⟩
                case round =>
                  clear HI
                  obtain ⟨letters, q, tot, g, rfl, rfl, rfl, htt, hpq, hqs, hgq, hll, HI, hbx⟩ := hrel
                  have hsx := hbx.size
                  by_cases hc : (q < s.size ∧ Tx.bt s q ≠ 62) ∨ letters = []
                  · have HBAD : Hid _ := fun hb => HI.out.trans (Tx.fa_bad s g q nm letters out tot hqs hgq htt hc hb)
                    have HGOOD : Hid _ := fun hb => Tx.fa_good s g q nm letters out tot hgq htt hb
                    have hpos : (0 : Int) ≤ (q : Int) := by omega
                    have hcases : (q < s.size ∧ ∃ h : q < s.size, ((s[q].toNat : Int) != 62) = true) ∨ ((q < s.size ∧ ∃ h : q < s.size, ((s[q].toNat : Int) != 62) = false) ∧ letters.isEmpty = true) ∨ (¬ q < s.size ∧ letters.isEmpty = true) := by
                      by_cases hq1 : q < s.size
                      · by_cases hq3 : Tx.bt s q = 62
                        · refine .inr (.inl ⟨⟨hq1, hq1, u8_62 ((Tx.bt_in hq1).symm.trans hq3)⟩, ?_⟩)
                          rcases hc with h | h
                          · exact absurd hq3 h.2
                          · rw [h]; rfl
                        · exact .inl ⟨hq1, hq1, u8_n62 (fun h => hq3 ((Tx.bt_in hq1).trans h))⟩
                      · refine .inr (.inr ⟨hq1, ?_⟩)
                        rcases hc with h | h
                        · exact absurd h.1 hq1
                        · rw [h]; rfl
                    clear hc
                    rcases hcases with ⟨hq1, hq2, h62q⟩ | ⟨⟨hq1, hq2, h62q⟩, hemp⟩ | ⟨hq1, hemp⟩
                    all_goals
                      go_wp2_with fail
                      refine (lettersAt_any s q (4096 - tot) _ hs hqs (by omega)).mono ?_
                      rintro e w2 ⟨hla, hb2⟩
                      rcases hla with ⟨hbad, rfl⟩ | ⟨hgood, rfl⟩
                      · have HB : Hid _ := HBAD.out hbad
                        clear HBAD HGOOD HI hbad
                        go_wp2_with (go_at_call 154; refine (wrong_any s _ _ _ _).mono ?_; rintro e w' ⟨rfl, hw⟩; subst w')
                        go_ret3
                        exact reads_bad HB.out rfl ((hbel.trans (hbx.mono hsz)).trans (hb2.mono (by omega)))
                      · obtain ⟨g2, hg2, hlt2, hpos2, hle2, hfa⟩ := HGOOD.out hgood
                        have HFA : Hid _ := HI.out.trans hfa
                        have hcl := Tx.caps_length s (Tx.rlen s q (4096 - tot)) q
                        clear HBAD HGOOD HI hgood hfa
                        generalize Tx.rlen s q (4096 - tot) = c at *
                        generalize Tx.caps s q c = cs at *
                        have hadd : ∀ wy, (Op.stringOp .add ⟨letters.toArray⟩ ⟨cs.toArray⟩).run Tryz.prog wy = .ok (.string ⟨(letters ++ cs).toArray⟩) wy := fun wy => run_string_add_lists wy letters cs (by omega) (by omega)
                        first
                          | (exfalso; omega)
                          | (go_wp2
                             go_roundw
                             case rel => exact ⟨letters ++ cs, q + c + 1, tot + c, g2, by go_num, by go_num, rfl, by omega, by omega, by omega, by omega, by simp; omega, HFA, hbx.trans (hb2.mono (by omega))⟩
                             case measure => simp [intOf]; omega)
                  · have hne : letters ≠ [] := fun h => hc (.inr h)
                    have hemp : letters.isEmpty = false := by cases letters with
                      | nil => exact absurd rfl hne
                      | cons a r => rfl
                    obtain ⟨g2, hg2, hwh⟩ := Tx.fa_whole s g q nm letters out tot hgq hqs (by omega) hne (fun h => hc (.inl h))
                    have HW : Hid _ := HI.out.trans hwh
                    have hcases : (q < s.size ∧ ∃ h : q < s.size, ((s[q].toNat : Int) != 62) = false) ∨ ¬ q < s.size := by
                      by_cases hq1 : q < s.size
                      · refine .inl ⟨hq1, hq1, ?_⟩
                        by_cases hq3 : Tx.bt s q = 62
                        · exact u8_62 ((Tx.bt_in hq1).symm.trans hq3)
                        · exact absurd (.inl ⟨hq1, hq3⟩) hc
                      · exact .inr hq1
                    clear hc hwh HI hne
                    have hbw := hbel.trans (hbx.mono hsz)
                    have HOX : Hid _ := own_below HO.out hbx
                    rcases hcases with ⟨hq1, hq2, h62q⟩ | hq1
                    all_goals
                      go_wp2_with (at_builtin; refine app_pair rfl _ _ 29 rfl w.heap.size 59 Tryz.underlying29 Tryz.infoContig _ out _ _ (nm, letters) rfl rfl rfl rfl (by exact HOX.out) hbw (by omega) (by omega) ?_; intro v' w3 hown3 hbel3 hsz3)
                      go_roundw
                      case rel => exact ⟨out ++ [(nm, letters)], q, tot, g2, rfl, rfl, htt, by simp; omega, hqs, hg2, HW, hown3, hbel3⟩
                      case measure => simp [intOf]; omega
      · have HB : Hid _ := HR.out.trans (Tx.mark_stop s f p out total hgo h62)
        by_cases hlt : p < s.size
        · have h62' := u8_n62 (fun h => h62 ((Tx.bt_in hlt).trans h))
          have hlt' : (p : Int) < (s.size : Int) := by omega
          clear hgo h62 HR
          go_wp2
          go_ret3
          exact reads_bad HB.out rfl hbel
        · have hp0 : p = 0 := by omega
          subst hp0
          have hs0 : s.size = 0 := by omega
          clear hgo h62 HR
          go_wp2
          go_ret3
          exact reads_bad HB.out rfl hbel
    · have HB : Hid _ := HR.out.trans (Tx.head_end s f p out total hgo)
      have hlt' : ¬ (p : Int) < (s.size : Int) := by omega
      have hp0 : ((p : Int) == 0) = false := by rw [beq_eq_false_iff_ne]; omega
      clear hgo HR
      go_wp2
      go_ret3
      rw [HB.out]
      exact ⟨_, rfl, hown, hbel, fun h => absurd rfl h⟩

end Go.Proofs.YtjebhbopmfcopaaGreatDoor

namespace Go.Proofs.YtjebhbopmfcopaaGreatDoor.Tx

/-- how many qualities stand from a place on, at most so many -/
def qlen (s : ByteArray) : Nat → Nat → Nat
  | _, 0 => 0
  | p, f + 1 => if ql (bt s p) then qlen s (p + 1) f + 1 else 0

theorem qlen_le (s : ByteArray) : ∀ (f p : Nat), qlen s p f ≤ f := by
  intro f
  induction f with
  | zero => intro p; simp [qlen]
  | succ f ih => intro p; unfold qlen; split
                 · have := ih (p + 1); omega
                 · omega

/-- a read's last line -/
def fqQual (s : ByteArray) (j c : Nat) (k : Nat → Ans) : Ans :=
  if qlen s j c < c ∨ bt s (j + qlen s j c) ≠ 10 then bad 6 (j + qlen s j c) else k (j + c + 1)

/-- the line of the plus, from the end of the letters' line on -/
def fqPlus (s : ByteArray) (i : Nat) (k : Nat → Ans) : Ans :=
  if bt s i ≠ 10 then bad 5 i else if bt s (i + 1) ≠ 43 then bad 5 (i + 1) else if bt s (i + 2) ≠ 10 then bad 5 (i + 2) else k (i + 3)

/-- a read's lines behind its name -/
def fqTail (s : ByteArray) (q : Nat) (k : Nat → List UInt8 → Ans) : Ans :=
  if rlen s q 128 = 0 ∨ bt s (q + rlen s q 128) ≠ 10 then bad (wr s (q + rlen s q 128) 5 7) (q + rlen s q 128)
  else fqPlus s (q + rlen s q 128) (fun j => fqQual s j (rlen s q 128) (fun p => k p (caps s q (rlen s q 128))))

def fq (s : ByteArray) : Nat → Nat → List (List UInt8 × List UInt8) → Ans
  | 0, _, _ => bad 0 0
  | f + 1, p, out =>
    if ¬ p < s.size then ⟨out, 0, 0⟩
    else if bt s p ≠ 64 then bad 5 p
    else if out.length = 256 then bad 4 p
    else if nEnd s (p + 1) = p + 1 ∨ bt s (nEnd s (p + 1)) ≠ 10 then bad 5 (nEnd s (p + 1))
    else fqTail s (nEnd s (p + 1) + 1) (fun q x => fq s f q (out ++ [(piece s (p + 1) (nEnd s (p + 1)), x)]))

def fastq (s : ByteArray) : Ans := fq s (s.size + 1) 0 []

theorem tail_bad (s : ByteArray) (q : Nat) (k : Nat → List UInt8 → Ans) (h : rlen s q 128 = 0 ∨ bt s (q + rlen s q 128) ≠ 10) : fqTail s q k = bad (wr s (q + rlen s q 128) 5 7) (q + rlen s q 128) := by
  rw [fqTail, if_pos h]
theorem tail_good (s : ByteArray) (q : Nat) (k : Nat → List UInt8 → Ans) (h : ¬ (rlen s q 128 = 0 ∨ bt s (q + rlen s q 128) ≠ 10)) :
    fqTail s q k = fqPlus s (q + rlen s q 128) (fun j => fqQual s j (rlen s q 128) (fun p => k p (caps s q (rlen s q 128)))) ∧ bt s (q + rlen s q 128) = 10 ∧ 0 < rlen s q 128 ∧ q + rlen s q 128 < s.size := by
  have h10 : bt s (q + rlen s q 128) = 10 := by
    by_cases h1 : bt s (q + rlen s q 128) = 10
    · exact h1
    · exact absurd (.inr h1) h
  refine ⟨by rw [fqTail, if_neg h], h10, ?_, bt_lt (by rw [h10]; decide)⟩
  rcases Nat.eq_zero_or_pos (rlen s q 128) with h0 | h0
  · exact absurd (.inl h0) h
  · exact h0

/-- the letters' line as the program reads it: the letters are at their end at i = q + c -/
theorem tail_end (s : ByteArray) (q c : Nat) (k : Nat → List UInt8 → Ans) (hc : rlen s q 128 = c) (h0 : cap (bt s (q + c)) = 0) (hpos : 0 < c) : fqTail s q k = fqPlus s (q + c) (fun j => fqQual s j c (fun p => k p (caps s q c))) := by
  subst hc
  by_cases h : bt s (q + rlen s q 128) = 10
  · rw [fqTail, if_neg (by simp [h]; omega)]
  · rw [fqTail, if_pos (.inr h), fqPlus, if_pos h, wr, if_neg (by simp [h0])]
theorem tail_none (s : ByteArray) (q : Nat) (k : Nat → List UInt8 → Ans) (hc : rlen s q 128 = 0) (h0 : cap (bt s q) = 0) : fqTail s q k = bad 5 q := by
  rw [tail_bad s q k (.inl hc), hc, wr, Nat.add_zero, if_neg (by simp [h0])]
theorem tail_long (s : ByteArray) (q : Nat) (k : Nat → List UInt8 → Ans) (hc : rlen s q 128 = 128) (h0 : cap (bt s (q + 128)) ≠ 0) : fqTail s q k = bad 7 (q + 128) := by
  have h10 : bt s (q + 128) ≠ 10 := fun h => h0 (by rw [h]; exact cap_10)
  rw [tail_bad s q k (.inr (by rw [hc]; exact h10)), hc, wr, if_pos h0]

theorem plus_bad0 (s : ByteArray) (i : Nat) (k : Nat → Ans) (h : bt s i ≠ 10) : fqPlus s i k = bad 5 i := by rw [fqPlus, if_pos h]
theorem plus_bad1 (s : ByteArray) (i : Nat) (k : Nat → Ans) (h : bt s i = 10) (h1 : bt s (i + 1) ≠ 43) : fqPlus s i k = bad 5 (i + 1) := by rw [fqPlus, if_neg (by simp [h]), if_pos h1]
theorem plus_bad2 (s : ByteArray) (i : Nat) (k : Nat → Ans) (h : bt s i = 10) (h1 : bt s (i + 1) = 43) (h2 : bt s (i + 2) ≠ 10) : fqPlus s i k = bad 5 (i + 2) := by rw [fqPlus, if_neg (by simp [h]), if_neg (by simp [h1]), if_pos h2]
theorem plus_good (s : ByteArray) (i : Nat) (k : Nat → Ans) (h : bt s i = 10) (h1 : bt s (i + 1) = 43) (h2 : bt s (i + 2) = 10) : fqPlus s i k = k (i + 3) := by rw [fqPlus, if_neg (by simp [h]), if_neg (by simp [h1]), if_neg (by simp [h2])]

theorem qlen_step (s : ByteArray) (p m j : Nat) (hj : j < m) : qlen s (p + j) (m - j) = if ql (bt s (p + j)) then qlen s (p + (j + 1)) (m - (j + 1)) + 1 else 0 := by
  obtain ⟨f, hf⟩ : ∃ f, m - j = f + 1 := ⟨m - j - 1, by omega⟩
  rw [hf, qlen, show m - (j + 1) = f by omega, show p + (j + 1) = p + j + 1 by omega]

theorem fq_end (s : ByteArray) (f p : Nat) (out : List (List UInt8 × List UInt8)) (h : ¬ p < s.size) : fq s (f + 1) p out = ⟨out, 0, 0⟩ := by rw [fq, if_pos h]
theorem fq_stop (s : ByteArray) (f p : Nat) (out : List (List UInt8 × List UInt8)) (h : p < s.size) (hb : bt s p ≠ 64) : fq s (f + 1) p out = bad 5 p := by rw [fq, if_neg (by omega), if_pos hb]
theorem fq_many (s : ByteArray) (f p : Nat) (out : List (List UInt8 × List UInt8)) (h : p < s.size) (hb : bt s p = 64) (hn : out.length = 256) : fq s (f + 1) p out = bad 4 p := by rw [fq, if_neg (by omega), if_neg (by simp [hb]), if_pos hn]
theorem fq_name (s : ByteArray) (f p : Nat) (out : List (List UInt8 × List UInt8)) (h : p < s.size) (hb : bt s p = 64) (hn : out.length ≠ 256) (he : nEnd s (p + 1) = p + 1 ∨ bt s (nEnd s (p + 1)) ≠ 10) : fq s (f + 1) p out = bad 5 (nEnd s (p + 1)) := by rw [fq, if_neg (by omega), if_neg (by simp [hb]), if_neg hn, if_pos he]
theorem fq_go (s : ByteArray) (f p : Nat) (out : List (List UInt8 × List UInt8)) (h : p < s.size) (hb : bt s p = 64) (hn : out.length ≠ 256) (he : ¬ (nEnd s (p + 1) = p + 1 ∨ bt s (nEnd s (p + 1)) ≠ 10)) :
    fq s (f + 1) p out = fqTail s (nEnd s (p + 1) + 1) (fun q x => fq s f q (out ++ [(piece s (p + 1) (nEnd s (p + 1)), x)])) := by rw [fq, if_neg (by omega), if_neg (by simp [hb]), if_neg hn, if_neg he]

end Go.Proofs.YtjebhbopmfcopaaGreatDoor.Tx

namespace Go.Proofs.YtjebhbopmfcopaaGreatDoor
open Go.RowKit

theorem u8_64 {c : UInt8} (h : c = 64) : ((c.toNat : Int) != 64) = false := by rw [h]; rfl
theorem u8_n64 {c : UInt8} (h : c ≠ 64) : ((c.toNat : Int) != 64) = true := (u8_cmp 64 (by omega)).2 h
theorem u8_43 {c : UInt8} (h : c = 43) : ((c.toNat : Int) != 43) = false := by rw [h]; rfl
theorem u8_n43 {c : UInt8} (h : c ≠ 43) : ((c.toNat : Int) != 43) = true := (u8_cmp 43 (by omega)).2 h

theorem ix_str (s : ByteArray) (k : Nat) (h : k < s.size) (x : Int) (hx : x = (k : Int)) (wy : World) : (Instr.index 9 (.string s) (.int .i64 x)).run Tryz.prog wy = .ok (.int .u8 (s[k].toNat : Int)) wy := by
  subst hx
  have h0 : (0 : Int) ≤ (k : Int) := by omega
  have h1 : (k : Int) < (s.size : Int) := by omega
  go_simp

theorem wrap_small (x : Int) (h0 : 0 ≤ x) (h1 : x ≤ 1000000000000000) : IntKind.i64.wrap x = x := by
  simp [IntKind.wrap, IntKind.bits, IntKind.signed]
  omega

set_option maxRecDepth 100000 in
set_option maxHeartbeats 8000000 in
theorem refFastq_any (s : ByteArray) (w : World) (hs : s.size ≤ 140737488351232) :
    Calls Tryz.prog 96 #[.string s] w fun e w' => Reads w 56 (Tx.fastq s) e w' := by
  obtain ⟨R, hR⟩ : ∃ R, R = Tx.fastq s := ⟨_, rfl⟩
  rw [← hR]
  have HR : Hid _ := hR
  clear hR
  go_enter Tryz.func96, Tryz.ntmps96
  go_wp2
  go_loopw [5, 6] (fun v at_ wr => ∃ (out : List Pr) (p f : Nat), at_ = .int .i64 (p : Int) ∧ out.length ≤ 256 ∧ p ≤ s.size ∧ s.size ≤ f + p ∧ Hid (R = Tx.fq s (f + 1) p out) ∧ wr.ownsRow w.heap.size 56 2 v out.length (Prs out) ∧ Below w.heap.size w wr)
    (fun _ at_ _ => s.size - (intOf at_).toNat)
  case atStart => exact ⟨[], 0, s.size, rfl, by simp, by omega, by omega, HR, World.ownsRow_nil _ _ _ _, Below.refl _ _⟩
  case round =>
    clear HR
    obtain ⟨out, p, f, rfl, hol, hps, hfp, HR, hown, hbel⟩ := hrel
    have hsz := hbel.size
    obtain ⟨ao, cp, hv⟩ := own_form hown
    subst hv
    by_cases hlt : p < s.size
    · have hlt' : (p : Int) < (s.size : Int) := by omega
      by_cases h64 : Tx.bt s p = 64
      · have h64' := u8_64 ((Tx.bt_in hlt).symm.trans h64)
        by_cases h256 : out.length = 256
        · have HB : Hid _ := HR.out.trans (Tx.fq_many s f p out hlt h64 h256)
          clear h64 HR
          go_wp2
          go_ret3
          exact reads_bad HB.out rfl hbel
        · have h256' : (out.length : Int) < 256 := by omega
          go_wp2_with fail
          rw [show (p : Int) + 1 = ((p + 1 : Nat) : Int) from by omega]
          refine (nameAt_any s (p + 1) _ hs (by omega)).mono ?_
          rintro e w' ⟨hna, hw⟩
          subst w'
          rcases hna with ⟨he, rfl⟩ | ⟨he, rfl⟩
          · have HB : Hid _ := HR.out.trans (Tx.fq_name s f p out hlt h64 h256 he)
            clear h64 HR he
            go_wp2
            go_ret3
            exact reads_bad HB.out rfl hbel
          · obtain ⟨hen1, hen2⟩ := Tx.nEnd_lt he
            have HG : Hid _ := HR.out.trans (Tx.fq_go s f p out hlt h64 h256 he)
            clear h64 HR he
            generalize hnm : Tx.piece s (p + 1) (Tx.nEnd s (p + 1)) = nm at *
            clear hnm
            generalize Tx.nEnd s (p + 1) = en at *
            go_wp2_with fail
            rw [show (en : Int) + 1 = ((en + 1 : Nat) : Int) from by omega]
            refine (lettersAt_any s (en + 1) 128 _ hs (by omega) (by omega)).mono ?_
            rintro e w2 ⟨hla, hb2⟩
            have hb02 := hbel.trans (hb2.mono hsz)
            have hO2 := own_below hown hb2
            have hsz2 := hb02.size
            clear hown hb2 hbel
            rcases hla with ⟨hbad, rfl⟩ | ⟨hgood, rfl⟩
            · have HB : Hid _ := HG.out.trans (Tx.tail_bad s _ _ hbad)
              clear HG hbad
              go_wp2_with (go_at_call 154; refine (wrong_any s _ _ _ _).mono ?_; rintro e w' ⟨rfl, hw⟩; subst w')
              go_ret3
              exact reads_bad HB.out rfl hb02
            · obtain ⟨htg, h10, hpos, hsi⟩ := Tx.tail_good s (en + 1) (fun q x => Tx.fq s f q (out ++ [(nm, x)])) hgood
              have HP : Hid _ := HG.out.trans htg
              have hcl := Tx.caps_length s (Tx.rlen s (en + 1) 128) (en + 1)
              have hcle := Tx.rlen_le s 128 (en + 1)
              clear HG htg hgood
              generalize Tx.rlen s (en + 1) 128 = c at *
              generalize Tx.caps s (en + 1) c = cs at *
              obtain ⟨n1, hn1⟩ : ∃ n1, n1 = en + 1 + c + 1 := ⟨_, rfl⟩
              have HP1 : Hid (Tx.bt s n1 ≠ 43 → R = Tx.bad 5 n1) := fun h => by rw [hn1] at h ⊢; exact HP.out.trans (Tx.plus_bad1 s _ _ h10 h)
              have HP2 : Hid (Tx.bt s n1 = 43 → Tx.bt s (n1 + 1) ≠ 10 → R = Tx.bad 5 (n1 + 1)) := fun h h2 => by rw [hn1] at h h2 ⊢; exact HP.out.trans (Tx.plus_bad2 s _ _ h10 h h2)
              have HP3 : Hid (Tx.bt s n1 = 43 → Tx.bt s (n1 + 1) = 10 → R = Tx.fqQual s (n1 + 2) c (fun q => Tx.fq s f q (out ++ [(nm, cs)]))) := fun h h2 => by rw [hn1] at h h2 ⊢; exact HP.out.trans (Tx.plus_good s _ _ h10 h h2)
              rw [show ((en + 1 + c : Nat) : Int) + 1 = (n1 : Int) from by omega]
              have hpi : p + 3 ≤ n1 := by omega
              have hn1s : n1 ≤ s.size := by omega
              clear hn1 HP h10 hsi
              have hwr : IntKind.i64.wrap ((n1 : Int) + 1) = (n1 : Int) + 1 := wrap_small _ (by omega) (by omega)
              have k0 : ∀ wy, (Instr.index 9 (.string ⟨#[43, 10]⟩) (.int .i64 0)).run Tryz.prog wy = .ok (.int .u8 43) wy := fun _ => by kernel_rfl
              have k1 : ∀ wy, (Instr.index 9 (.string ⟨#[43, 10]⟩) (.int .i64 1)).run Tryz.prog wy = .ok (.int .u8 10) wy := fun _ => by kernel_rfl
              by_cases hA : Tx.bt s n1 = 43
              · have hA1 : n1 < s.size := Tx.bt_lt (by rw [hA]; decide)
                have hA2 := u8_43 ((Tx.bt_in hA1).symm.trans hA)
                have hd1 : decide ((s.size : Int) ≤ (n1 : Int)) = false := by simp; omega
                have hd1n : decide (s.size ≤ n1) = false := by simp; omega
                have hd2 : (n1 : Int) < (s.size : Int) := by omega
                by_cases hB : Tx.bt s (n1 + 1) = 10
                · have hB1 : n1 + 1 < s.size := Tx.bt_lt (by rw [hB]; decide)
                  have hB2 := u8_is10 ((Tx.bt_in hB1).symm.trans hB)
                  have HQ : Hid _ := HP3.out hA hB
                  have hd3 : decide ((s.size : Int) ≤ (n1 : Int) + 1) = false := by simp; omega
                  have hd4 : (n1 : Int) + 1 < (s.size : Int) := by omega
                  have hix := ix_str s (n1 + 1) hB1 ((n1 : Int) + 1) (by omega)
                  clear HP1 HP2 HP3 hA hB
                  go_wp2
                  refine wp_loop_rounds 3 ?_
                  rw [rounds_succ]
                  go_wp2_with fail
                  go_quiet (fail)
                  have hba := below_drewN hb02 nq
                  have hOa : (w2.drewN nq).ownsRow w.heap.size 56 2 (.slice ao out.length cp) out.length (Prs out) := own_below hO2 (below_drewN (Below.refl _ _) nq)
                  generalize w2.drewN nq = wa at *
                  go_wp2
                  rw [rounds_succ]
                  go_wp2_with fail
                  go_quiet (fail)
                  have hbb := below_drewN hba nq
                  have hOb : (wa.drewN nq).ownsRow w.heap.size 56 2 (.slice ao out.length cp) out.length (Prs out) := own_below hOa (below_drewN (Below.refl _ _) nq)
                  generalize wa.drewN nq = wb at *
                  go_wp2
                  rw [rounds_succ]
                  go_wp2
                  obtain ⟨j, hj⟩ : ∃ j, j = n1 + 2 := ⟨_, rfl⟩
                  rw [show (n1 : Int) + 2 = (j : Int) from by omega]
                  have HQ2 : Hid (R = Tx.fqQual s j c (fun q => Tx.fq s f q (out ++ [(nm, cs)]))) := by rw [hj]; exact HQ.out
                  have hjs : j ≤ s.size := by omega
                  have hpj : p < j := by omega
                  have HO2 : Hid _ := hOb
                  clear HQ hj hix k0 k1 hd1 hd1n hd2 hd3 hd4 hwr hB2 hA2 hO2 hOa hOb hb02 hba
                  go_loop [13] (fun i => ∃ k : Nat, k ≤ c + 1 ∧ i = .int .i64 (k : Int) ∧ (k ≤ c → j + k ≤ s.size) ∧ Hid (k ≤ c → Tx.qlen s j c = k + Tx.qlen s (j + k) (c - k)) ∧ Hid (k = c + 1 → R = Tx.fq s f (j + c + 1) (out ++ [(nm, cs)]) ∧ j + c < s.size)) (fun i => c + 1 - (intOf i).toNat)
                  case atStart => exact ⟨0, by omega, rfl, fun _ => by omega, fun _ => by simp, fun h => by omega⟩
                  case round =>
                    obtain ⟨k, hk, rfl, hjk, HK, HE⟩ := hrel
                    by_cases hkc : k ≤ c
                    · have hjk2 := hjk hkc
                      have hql := HK.out hkc
                      clear hjk HK HE
                      have hkc' : (k : Int) ≤ (cs.length : Int) := by omega
                      by_cases hin : j + k < s.size
                      · have hin' : ¬ (s.size : Int) ≤ (j : Int) + (k : Int) := by omega
                        have hbt := Tx.bt_in hin
                        rcases Nat.lt_or_ge k c with hlt2 | hge2
                        · have hlt3 : (k : Int) < (cs.length : Int) := by omega
                          rw [Tx.qlen_step s j c k hlt2, hbt] at hql
                          cases hq : Tx.ql s[j + k] with
                          | true =>
                            rw [hq, if_pos rfl] at hql
                            have hr := of_decide_eq_true hq
                            obtain ⟨hr1, hr2⟩ := hr
                            have HN : Hid (Tx.qlen s j c = (k + 1) + Tx.qlen s (j + (k + 1)) (c - (k + 1))) := by show _ = _; omega
                            have hke : ((k : Int) == (cs.length : Int)) = false := by rw [beq_eq_false_iff_ne]; omega
                            clear hql hq hbt
                            go_wp2
                            go_round
                            case rel => exact ⟨k + 1, by omega, by go_num, fun _ => by omega, fun _ => HN.out, fun h => by omega⟩
                            case measure => simp [intOf]; omega
                          | false =>
                            rw [hq, if_neg (by simp)] at hql
                            have hr : (s[j + k].toNat : Int) < 33 ∨ 126 < (s[j + k].toNat : Int) := by have := of_decide_eq_false hq; omega
                            have HB : Hid (R = Tx.bad 6 (j + k)) := by show _ = _; rw [HQ2.out, Tx.fqQual, hql, if_pos (.inl (by omega))]; rfl
                            clear hql hq hbt HQ2
                            rcases hr with hr | hr
                            all_goals
                              go_wp2
                              go_ret3
                              exact reads_bad HB.out (by omega) hbb
                        · have hkc3 : k = c := by omega
                          have hlt3 : ¬ (k : Int) < (cs.length : Int) := by omega
                          have hke : ((k : Int) == (cs.length : Int)) = true := by rw [beq_iff_eq]; omega
                          have hqc : Tx.qlen s j c = c := by rw [hql, hkc3, Nat.sub_self, Tx.qlen]; omega
                          by_cases h10 : s[j + k] = 10
                          · have h10' := u8_is10 h10
                            have HN : Hid (R = Tx.fq s f (j + c + 1) (out ++ [(nm, cs)]) ∧ j + c < s.size) := ⟨by
                              rw [HQ2.out, Tx.fqQual, hqc, if_neg (by rw [← hkc3, hbt]; simp [h10])], by omega⟩
                            have hkc4 : c ≤ k := by omega
                            clear hql hqc hbt h10 HQ2 hkc3
                            go_wp2
                            go_round
                            case rel => exact ⟨k + 1, by omega, by go_num, fun _ => by omega, fun h => by omega, fun _ => HN.out⟩
                            case measure => simp [intOf]; omega
                          · have h10' := u8_ne10 h10
                            have HB : Hid (R = Tx.bad 6 (j + k)) := by show _ = _; rw [HQ2.out, Tx.fqQual, hqc, if_pos (.inr (by rw [← hkc3, hbt]; exact h10)), hkc3]
                            clear hql hqc hbt h10 HQ2 hkc3
                            go_wp2
                            go_ret3
                            exact reads_bad HB.out (by omega) hbb
                      · have hjs2 : j + k = s.size := by omega
                        have hin' : (s.size : Int) ≤ (j : Int) + (k : Int) := by omega
                        have hqk : Tx.qlen s j c = k := by
                          rw [hql]
                          rcases Nat.lt_or_ge k c with hlt2 | hge2
                          · rw [Tx.qlen_step s j c k hlt2, Tx.bt_out hin, Tx.ql_zero]; simp
                          · rw [show c - k = 0 by omega, Tx.qlen]; omega
                        have HB : Hid (R = Tx.bad 6 s.size) := by
                          show _ = _
                          rw [HQ2.out, Tx.fqQual, hqk, if_pos ?_, hjs2]
                          right
                          rw [Tx.bt_out hin]; decide
                        clear hql hqk HQ2 hjs2
                        go_wp2
                        go_ret3
                        exact reads_bad HB.out rfl hbb
                    · obtain ⟨hE1, hE2⟩ := HE.out (by omega)
                      have HE1 : Hid _ := hE1
                      have hkc' : ¬ (k : Int) ≤ (cs.length : Int) := by omega
                      clear hjk HK HE HQ2 hE1
                      go_wp2_with (at_builtin; refine app_pair rfl _ _ 88 rfl w.heap.size 56 Tryz.underlying88 Tryz.infoRead _ out _ _ (nm, cs) rfl rfl rfl rfl (by exact HO2.out) hbb (by have := hbb.size; omega) (by omega) ?_; intro v' w3 hown3 hbel3 hsz3)
                      go_roundw
                      case rel => exact ⟨out ++ [(nm, cs)], j + c + 1, f - 1, by go_num, by simp; omega, by omega, by omega, by rw [show f - 1 + 1 = f by omega]; exact HE1, hown3, hbel3⟩
                      case measure => simp [intOf]; omega
                · have HB : Hid _ := HP2.out hA hB
                  have hcase : ¬ n1 + 1 < s.size ∨ (∃ h : n1 + 1 < s.size, ((s[n1 + 1].toNat : Int) != 10) = true) := by
                    by_cases h : n1 + 1 < s.size
                    · exact .inr ⟨h, u8_ne10 (fun h2 => hB ((Tx.bt_in h).trans h2))⟩
                    · exact .inl h
                  clear HP1 HP2 HP3 hA hB
                  rcases hcase with h1 | ⟨h1, h2⟩
                  · have hd3 : decide ((s.size : Int) ≤ (n1 : Int) + 1) = true := by simp; omega
                    go_wp2
                    refine wp_loop_rounds 2 ?_
                    rw [rounds_succ]
                    go_wp2_with fail
                    go_quiet (fail)
                    go_wp2
                    rw [rounds_succ]
                    go_wp2_with fail
                    go_quiet (fail)
                    go_wp2
                    go_ret3
                    exact reads_bad HB.out (by omega) (below_drewN hb02 _)
                  · have hd3 : decide ((s.size : Int) ≤ (n1 : Int) + 1) = false := by simp; omega
                    have hd4 : (n1 : Int) + 1 < (s.size : Int) := by omega
                    have hix := ix_str s (n1 + 1) h1 ((n1 : Int) + 1) (by omega)
                    go_wp2
                    refine wp_loop_rounds 2 ?_
                    rw [rounds_succ]
                    go_wp2_with fail
                    go_quiet (fail)
                    go_wp2
                    rw [rounds_succ]
                    go_wp2_with fail
                    go_quiet (fail)
                    go_wp2
                    go_ret3
                    exact reads_bad HB.out (by omega) (below_drewN hb02 _)
              · have HB : Hid _ := HP1.out hA
                have hcase : ¬ n1 < s.size ∨ (∃ h : n1 < s.size, ((s[n1].toNat : Int) != 43) = true) := by
                  by_cases h : n1 < s.size
                  · exact .inr ⟨h, u8_n43 (fun h2 => hA ((Tx.bt_in h).trans h2))⟩
                  · exact .inl h
                clear HP1 HP2 HP3 hA
                rcases hcase with h1 | ⟨h1, h2⟩
                · have hd : decide (s.size ≤ n1) = true := by simp; omega
                  go_wp2
                  refine wp_loop_rounds 1 ?_
                  rw [rounds_succ]
                  go_wp2_with fail
                  go_quiet (fail)
                  go_wp2
                  go_ret3
                  exact reads_bad HB.out (by omega) (below_drewN hb02 _)
                · have hd : decide (s.size ≤ n1) = false := by simp; omega
                  have hd2 : (n1 : Int) < (s.size : Int) := by omega
                  go_wp2
                  refine wp_loop_rounds 1 ?_
                  rw [rounds_succ]
                  go_wp2_with fail
                  go_quiet (fail)
                  go_wp2
                  go_ret3
                  exact reads_bad HB.out (by omega) (below_drewN hb02 _)
      · have HB : Hid _ := HR.out.trans (Tx.fq_stop s f p out hlt h64)
        have h64' := u8_n64 (fun h => h64 ((Tx.bt_in hlt).trans h))
        clear h64 HR
        go_wp2
        go_ret3
        exact reads_bad HB.out rfl hbel
    · have HB : Hid _ := HR.out.trans (Tx.fq_end s f p out hlt)
      have hlt' : ¬ (p : Int) < (s.size : Int) := by omega
      clear HR
      go_wp2
      go_ret3
      rw [HB.out]
      exact ⟨_, rfl, hown, hbel, fun h => absurd rfl h⟩

end Go.Proofs.YtjebhbopmfcopaaGreatDoor
