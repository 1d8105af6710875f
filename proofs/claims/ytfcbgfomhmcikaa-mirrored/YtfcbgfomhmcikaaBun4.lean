/-
  THE WALK of the document's own Fastq. Own text of the verifier.
  THE DOCUMENT'S SEARCH, its small walks: the three-letter mismatches, the error of a read's letters. Own text of the verifier.
  THE DOCUMENT'S SEARCH: every place, in order. Own text of the verifier.
  THE DOCUMENT'S Align, its small walks: letters along the reference, mismatches. Own text of the verifier.
  THE DOCUMENT'S Align: what follows a place, and the call of a position. Own text of the verifier.
  THE DOCUMENT'S Align: the letter of a call. Own text of the verifier.
  THE WALK of 'mark': a text of its own for the n-th list. Own text of the verifier.
  THE DOCUMENT'S RECORDS, its small walks: names, calls, digits, words. Own text of the verifier.
  THE DOCUMENT'S RECORDS: right, and the line of one. Own text of the verifier.
-/
import Derived.Test.YtfcbgfomhmcikaaBun3
import Derived.Deep.QuietTactic
import Derived.BigQuiet
import Derived.Test.YtfcbgfomhmcikaaBun2
import Derived.Deep.RegionWith
import Derived.Deep.RegionHeld3
import Derived.Laws.StructEq
namespace Go.Proofs.Ytfcbgfomhmcikaa
open Go.RowKit

theorem u8_64 {c : UInt8} (h : c = 64) : ((c.toNat : Int) != 64) = false := by rw [h]; rfl
theorem u8_n64 {c : UInt8} (h : c ≠ 64) : ((c.toNat : Int) != 64) = true := (u8_cmp 64 (by omega)).2 h
theorem u8_43 {c : UInt8} (h : c = 43) : ((c.toNat : Int) != 43) = false := by rw [h]; rfl
theorem u8_n43 {c : UInt8} (h : c ≠ 43) : ((c.toNat : Int) != 43) = true := (u8_cmp 43 (by omega)).2 h

theorem ix_str (s : ByteArray) (k : Nat) (h : k < s.size) (x : Int) (hx : x = (k : Int)) (wy : World) : (Instr.index 9 (.string s) (.int .i64 x)).run Try.prog wy = .ok (.int .u8 (s[k].toNat : Int)) wy := by
  subst hx
  have h0 : (0 : Int) ≤ (k : Int) := by omega
  have h1 : (k : Int) < (s.size : Int) := by omega
  go_simp

theorem wrap_small (x : Int) (h0 : 0 ≤ x) (h1 : x ≤ 1000000000000000) : IntKind.i64.wrap x = x := by
  simp [IntKind.wrap, IntKind.bits, IntKind.signed]
  omega

end Go.Proofs.Ytfcbgfomhmcikaa

namespace Go.Proofs.Ytfcbgfomhmcikaa
open Go.RowKit

/-- two letters that do not stand for one another, on a strand -/
def Se.off (n : Int) (a b : UInt8) : Bool := a == 78 || b == 78 || Lt.trn a n != Lt.trn b n
/-- the three-letter mismatches -/
def Se.three (n : Int) : List UInt8 → List UInt8 → Nat
  | a :: s, b :: t => (if Se.off n a b then 1 else 0) + Se.three n s t
  | _, _ => 0

theorem Se.three_take (n : Int) : ∀ (s t : List UInt8) (k : Nat) (h1 : k < s.length) (h2 : k < t.length), Se.three n (s.take (k + 1)) (t.take (k + 1)) = Se.three n (s.take k) (t.take k) + (if Se.off n s[k] t[k] then 1 else 0) := by
  intro s
  induction s with
  | nil => intro t k h1; simp at h1
  | cons a s ih =>
    intro t k h1 h2
    cases t with
    | nil => simp at h2
    | cons b t =>
      cases k with
      | zero => simp [Se.three]
      | succ k =>
        have := ih t k (by simpa using h1) (by simpa using h2)
        simp only [List.take_succ_cons, Se.three, List.getElem_cons_succ] at this ⊢
        omega

theorem Se.three_le (n : Int) : ∀ (s t : List UInt8), Se.three n s t ≤ s.length := by
  intro s
  induction s with
  | nil => intro t; simp [Se.three]
  | cons a s ih =>
    intro t
    cases t with
    | nil => simp [Se.three]
    | cons b t => have := ih t; simp only [Se.three, List.length_cons]; split <;> omega

theorem Se.three_whole (n : Int) : ∀ (s t : List UInt8) (k : Nat), s.length ≤ k → Se.three n (s.take k) (t.take k) = Se.three n s t := by
  intro s
  induction s with
  | nil => intro t k _; simp [Se.three]
  | cons a s ih =>
    intro t k h
    obtain ⟨k, rfl⟩ : ∃ j, k = j + 1 := ⟨k - 1, by simp at h; omega⟩
    cases t with
    | nil => simp [Se.three]
    | cons b t => simp only [List.take_succ_cons, Se.three]; rw [ih t k (by simpa using h)]

theorem u8_is78 (c : UInt8) : (c == 78) = ((c.toNat : Int) == 78) := u8_beq c 78 (by omega)
theorem u8_bne (a b : UInt8) : (a != b) = ((a.toNat : Int) != (b.toNat : Int)) := by
  rw [Bool.eq_iff_iff, bne_iff_ne, bne_iff_ne]
  constructor
  · intro h h2; exact h (UInt8.toNat_inj.1 (by omega))
  · intro h h2; exact h (by rw [h2])

theorem drewN_more (w : World) (a b : Nat) : (w.drewN a).drewN b = w.drewN (a + b) := by simp [World.drewN, Nat.add_assoc]

/-- the error of a read's letters -/
def Se.lettersErr (l : List UInt8) : Int := if Lt.allL l = false then 8 else if l.length = 0 then 8 else if 128 < l.length then 7 else 0

end Go.Proofs.Ytfcbgfomhmcikaa

namespace Go.Proofs.Ytfcbgfomhmcikaa
open Go.RowKit

theorem Se.three_short (n : Int) : ∀ (s t : List UInt8) (k : Nat), s.length ≤ k → Se.three n s (t.take k) = Se.three n s t := by
  intro s
  induction s with
  | nil => intro t k _; simp [Se.three]
  | cons a s ih =>
    intro t k h
    obtain ⟨k, rfl⟩ : ∃ j, k = j + 1 := ⟨k - 1, by simp at h; omega⟩
    cases t with
    | nil => simp [Se.three]
    | cons b t => simp only [List.take_succ_cons, Se.three]; rw [ih t k (by simpa using h)]

/-- do the letters s stand in t at a place, within a budget? -/
def Se.stands (n b : Int) (s t : List UInt8) (p : Nat) : Bool := decide ((Se.three n s (t.drop p) : Int) ≤ b)
/-- the places of one contig, of the first m that may be -/
def Se.upto (n b : Int) (s t : List UInt8) (c m : Nat) : List (Nat × Nat) := ((List.range m).filter (Se.stands n b s t)).map (fun p => (c, p))
/-- all places of one contig -/
def Se.inOne (n b : Int) (s t : List UInt8) (c : Nat) : List (Nat × Nat) := Se.upto n b s t c (t.length + 1 - s.length)
/-- all places of the first k contigs -/
def Se.inAll (n b : Int) (s : List UInt8) (cs : List Pr) : Nat → List (Nat × Nat)
  | 0 => []
  | k + 1 => Se.inAll n b s cs k ++ (match cs[k]? with | some x => Se.inOne n b s x.2 k | none => [])

theorem Se.upto_length (n b : Int) (s t : List UInt8) (c m : Nat) : (Se.upto n b s t c m).length ≤ m := by
  rw [Se.upto, List.length_map]
  have := List.length_filter_le (Se.stands n b s t) (List.range m)
  simpa using this
theorem Se.upto_succ (n b : Int) (s t : List UInt8) (c m : Nat) : Se.upto n b s t c (m + 1) = Se.upto n b s t c m ++ (if Se.stands n b s t m then [(c, m)] else []) := by
  rw [Se.upto, Se.upto, List.range_succ, List.filter_append, List.map_append]
  congr 1
  by_cases h : Se.stands n b s t m = true
  · simp [h]
  · simp [h]
theorem Se.inAll_length (n b : Int) (s : List UInt8) (cs : List Pr) (N : Nat) (hN : ∀ x ∈ cs, x.2.length ≤ N) : ∀ k, (Se.inAll n b s cs k).length ≤ k * (N + 1) := by
  intro k
  induction k with
  | zero => simp [Se.inAll]
  | succ k ih =>
    rw [Se.inAll, List.length_append, Nat.succ_mul]
    have : (match cs[k]? with | some x => Se.inOne n b s x.2 k | none => []).length ≤ N + 1 := by
      split
      · next x hx =>
        have h1 := Se.upto_length n b s x.2 k (x.2.length + 1 - s.length)
        have h2 := hN x (List.mem_of_getElem? hx)
        rw [Se.inOne]
        omega
      · simp
    omega

/-- places, as cells -/
def Se.pls (l : List (Nat × Nat)) : List Value := l.flatMap (fun p => [.int .i64 (p.1 : Int), .int .i64 (p.2 : Int)])
theorem Se.pls_length (l : List (Nat × Nat)) : (Se.pls l).length = l.length * 2 := by
  induction l with
  | nil => rfl
  | cons a l ih => simp only [Se.pls, List.flatMap_cons, List.length_append, List.length_cons, List.length_nil] at ih ⊢; omega
theorem Se.pls_append (a b : List (Nat × Nat)) : Se.pls (a ++ b) = Se.pls a ++ Se.pls b := by simp [Se.pls]

theorem Try.infoPlace : (Try.prog.info? 37).map (fun i => (i.zero, i.size, i.bytes)) = some (some (.agg #[.int .i64 0, .int .i64 0]), 2, 16) := by kernel_rfl

theorem src_pair {w : World} {ad : Addr} {l : List Pr} (h : ∀ j u, (Prs l)[j]? = some u → w.cell? (ad.add j) = some u) (k : Nat) (hk : k < l.length) : w.cell? (ad.add (k * 2 + 1)) = some (.string ⟨l[k].2.toArray⟩) := by
  refine h (k * 2 + 1) _ ?_
  have e : l = l.take k ++ l.drop k := (List.take_append_drop k l).symm
  have hl : (Prs (l.take k)).length = k * 2 := by rw [Prs_length, List.length_take]; omega
  conv => lhs; rw [e, Prs_append]
  rw [List.getElem?_append_right (by omega), hl, show k * 2 + 1 - k * 2 = 1 by omega, List.drop_eq_getElem_cons hk]
  simp only [Prs, List.flatMap_cons, prCells, List.cons_append, List.nil_append]
  rfl

/-- two cells of a row just made -/
theorem two_cells (w : World) (a b : Value) (e : TypeId) : ∀ j u, [a, b][j]? = some u → (w.alloc (.cells #[a, b] e)).cell? ((⟨w.heap.size, 0, none⟩ : Addr).add j) = some u := by
  intro j u hj
  rw [Addr.add_lit, Nat.zero_add, cell_of_row _ _ j #[a, b] e (0, 0) (heap_alloc_new w _), ← hj]
  simp

theorem addr_next (ad : Addr) (k : Nat) : (⟨(ad.add k).block, (ad.add k).off + 1, none⟩ : Addr) = ad.add (k + 1) := by
  unfold Addr.add
  by_cases h : k = 0
  · simp [h]
  · simp [h]; omega

/-- Find's error -/
def Se.findErr (n b : Int) (S : List UInt8) : Int := if Lt.strandB n = false then 1 else if b < 0 then 1 else if 3 < b then 1 else Se.lettersErr S
/-- Find's places -/
def Se.findOut (n b : Int) (S : List UInt8) (cs : List Pr) : List (Nat × Nat) := if Se.findErr n b S = 0 then Se.inAll n b S cs cs.length else []

theorem ret_two {v : Value} {a b : Int} (h : a = b) : Ending.returned (.tuple #[v, .int .i64 a]) = .returned (.tuple #[v, .int .i64 b]) := by rw [h]

end Go.Proofs.Ytfcbgfomhmcikaa

namespace Go.Proofs.Ytfcbgfomhmcikaa
open Go.RowKit

/-- a read's letters along the reference -/
def Al.along (s : List UInt8) (n : Int) : List UInt8 := if n == 2 || n == 3 then Lt.rev s else s

/-- a mismatch of a read's letter a with the reference's b -/
def Al.mm (n : Int) (a b : UInt8) : Bool := !(a == b && a != 78) && !((Lt.topB n && b == 67 && a == 84) || (!Lt.topB n && b == 71 && a == 65))
/-- the mismatches -/
def Al.mis (n : Int) : List UInt8 → List UInt8 → Nat
  | a :: s, b :: t => (if Al.mm n a b then 1 else 0) + Al.mis n s t
  | _, _ => 0

theorem Al.mis_take (n : Int) : ∀ (s t : List UInt8) (k : Nat) (h1 : k < s.length) (h2 : k < t.length), Al.mis n (s.take (k + 1)) (t.take (k + 1)) = Al.mis n (s.take k) (t.take k) + (if Al.mm n s[k] t[k] then 1 else 0) := by
  intro s
  induction s with
  | nil => intro t k h1; simp at h1
  | cons a s ih =>
    intro t k h1 h2
    cases t with
    | nil => simp at h2
    | cons b t =>
      cases k with
      | zero => simp [Al.mis]
      | succ k =>
        have := ih t k (by simpa using h1) (by simpa using h2)
        simp only [List.take_succ_cons, Al.mis, List.getElem_cons_succ] at this ⊢
        omega
theorem Al.mis_le (n : Int) : ∀ (s t : List UInt8), Al.mis n s t ≤ s.length := by
  intro s
  induction s with
  | nil => intro t; simp [Al.mis]
  | cons a s ih =>
    intro t
    cases t with
    | nil => simp [Al.mis]
    | cons b t => have := ih t; simp only [Al.mis, List.length_cons]; split <;> omega
theorem Al.mis_whole (n : Int) : ∀ (s t : List UInt8) (k : Nat), s.length ≤ k → Al.mis n (s.take k) (t.take k) = Al.mis n s t := by
  intro s
  induction s with
  | nil => intro t k _; simp [Al.mis]
  | cons a s ih =>
    intro t k h
    obtain ⟨k, rfl⟩ : ∃ j, k = j + 1 := ⟨k - 1, by simp at h; omega⟩
    cases t with
    | nil => simp [Al.mis]
    | cons b t => simp only [List.take_succ_cons, Al.mis]; rw [ih t k (by simpa using h)]

theorem u8_eqI (a b : UInt8) : (a == b) = ((a.toNat : Int) == (b.toNat : Int)) := by
  have e1 := u8_bne a b
  simp only [bne] at e1
  exact Bool.not_inj e1

theorem Al.mm_int (n : Int) (a b : UInt8) : Al.mm n a b = (!(((a.toNat : Int) == (b.toNat : Int)) && ((a.toNat : Int) != 78)) && !((Lt.topB n && ((b.toNat : Int) == 67) && ((a.toNat : Int) == 84)) || (!Lt.topB n && ((b.toNat : Int) == 71) && ((a.toNat : Int) == 65)))) := by
  unfold Al.mm
  rw [u8_eqI a b, u8_bne a 78, u8_eqI b 67, u8_eqI a 84, u8_eqI b 71, u8_eqI a 65]
  rfl

end Go.Proofs.Ytfcbgfomhmcikaa

namespace Go.Proofs.Ytfcbgfomhmcikaa
open Go.RowKit

/-- is it A, C or T? -/
def Al.rest (c : UInt8) : Bool := c == 65 || c == 67 || c == 84

/-- the k-th letter that follows a place; 0: there is none -/
def Al.next (n : Int) (t : List UInt8) (p k : Nat) : UInt8 :=
  if Lt.topB n then (match t[p + k]? with | some c => c | none => 0) else if p < k then 0 else (match t[p - k]? with | some c => Lt.comp c | none => 0)

end Go.Proofs.Ytfcbgfomhmcikaa

namespace Go.Proofs.Ytfcbgfomhmcikaa
open Go.RowKit

/-- the letter of a call, in lower case -/
def Al.follows (n : Int) (t : List UInt8) (p : Nat) : UInt8 :=
  if Al.next n t p 1 == 71 then 122 else if Al.rest (Al.next n t p 1) && Al.next n t p 2 == 71 then 120 else if Al.rest (Al.next n t p 1) && Al.rest (Al.next n t p 2) then 104 else 117

theorem Al.follows_cases (n : Int) (t : List UInt8) (p : Nat) : Al.follows n t p = 122 ∨ Al.follows n t p = 120 ∨ Al.follows n t p = 104 ∨ Al.follows n t p = 117 := by
  unfold Al.follows
  split
  · exact .inl rfl
  · split
    · exact .inr (.inl rfl)
    · split
      · exact .inr (.inr (.inl rfl))
      · exact .inr (.inr (.inr rfl))

/-- the letter that a strand's treatment turns, and what it turns into -/
def Al.bare (n : Int) : UInt8 := if Lt.topB n then 67 else 71
def Al.gone (n : Int) : UInt8 := if Lt.topB n then 84 else 65
/-- the call of a position: the read's letter c, the contig's letters t -/
def Al.call (n : Int) (c : UInt8) (t : List UInt8) (p : Nat) : UInt8 :=
  if t[p]? ≠ some (Al.bare n) then 46 else if c = Al.bare n then Al.follows n t p - 32 else if c = Al.gone n then Al.follows n t p else 46

theorem follows_up (n : Int) (t : List UInt8) (p : Nat) : ((Al.follows n t p).toNat : Int) - 32 = ((Al.follows n t p - 32).toNat : Int) ∧ 32 ≤ ((Al.follows n t p).toNat : Int) := by
  rcases Al.follows_cases n t p with h | h | h | h <;> rw [h] <;> decide

end Go.Proofs.Ytfcbgfomhmcikaa

namespace Go.Proofs.Ytfcbgfomhmcikaa
open Go.RowKit

/-- a number's bits, the lowest first, as digits -/
def bits : Nat → Nat → List UInt8
  | 0, _ => []
  | f + 1, k => if k = 0 then [] else UInt8.ofNat (48 + k % 2) :: bits f (k / 2)

theorem bits_log : ∀ (f k j : Nat), k < 2 ^ j → (bits f k).length ≤ j := by
  intro f
  induction f with
  | zero => intro k j _; simp [bits]
  | succ f ih =>
    intro k j h
    unfold bits
    split
    · simp
    · next hk =>
      obtain ⟨j, rfl⟩ : ∃ i, j = i + 1 := by
        cases j with
        | zero => simp at h; omega
        | succ i => exact ⟨i, rfl⟩
      have := ih (k / 2) j (by rw [Nat.pow_succ] at h; omega)
      simp; omega

/-- the mark of the n-th list -/
def mk (n : Nat) : List UInt8 := 109 :: bits (n / 4 + 1) (n / 4)

theorem mk_length (n : Nat) (hn : n ≤ 8000000000000) : (mk n).length ≤ 51 := by
  have := bits_log (n / 4 + 1) (n / 4) 50 (by omega)
  simp [mk]; omega
theorem mk_same (n i : Nat) (h : n % 4 = 0) (hi : i < 4) : mk (n + i) = mk n := by
  unfold mk
  rw [show (n + i) / 4 = n / 4 by omega]

theorem bits_step (f k : Nat) (hk : 0 < k) : bits (f + 1) k = UInt8.ofNat (48 + k % 2) :: bits f (k / 2) := by rw [bits, if_neg (by omega)]
theorem bits_zero (f : Nat) : bits f 0 = [] := by cases f <;> simp [bits]

theorem digit_int (k : Nat) : (48 + (k : Int) % 2) = ((UInt8.ofNat (48 + k % 2)).toNat : Int) := by
  rw [UInt8.toNat_ofNat']
  omega

end Go.Proofs.Ytfcbgfomhmcikaa

namespace Go.Proofs.Ytfcbgfomhmcikaa
open Go.RowKit

theorem all_take_succ (p : UInt8 → Bool) (s : ByteArray) (k : Nat) (h : k < s.size) : (s.data.toList.take (k + 1)).all p = ((s.data.toList.take k).all p && p s[k]) := by
  rw [show s.data.toList.take (k + 1) = s.data.toList.take k ++ [s[k]] from Lt.take_snoc s k h, List.all_append]
  simp
theorem all_stop (p : UInt8 → Bool) (s : ByteArray) (k : Nat) (h : k < s.size) (hn : p s[k] = false) : s.data.toList.all p = false := by
  rw [List.all_eq_false]
  exact ⟨s[k], by have : s[k] = s.data.toList[k]'(by simpa using h) := rfl
                  rw [this]; exact List.getElem_mem _, by simp [hn]⟩
theorem all_whole (p : UInt8 → Bool) (s : ByteArray) (k : Nat) (h : ¬ k < s.size) (ht : (s.data.toList.take k).all p = true) : s.data.toList.all p = true := by
  rwa [List.take_of_length_le (by simp; omega)] at ht

/-- a name -/
def Ln.name (l : List UInt8) : Bool := l.all Tx.nb && (decide (1 ≤ l.length) && decide (l.length ≤ 32))

/-- a call's byte -/
def Ln.isCall (c : UInt8) : Bool := c == 46 || c == 122 || c == 120 || c == 104 || c == 117 || c == 90 || c == 88 || c == 72 || c == 85

def Ln.calls (l : List UInt8) : Bool := l.all Ln.isCall

theorem isCall_yes {c : UInt8} (h : Ln.isCall c = true) : (c.toNat : Int) = 46 ∨ (c.toNat : Int) = 122 ∨ (c.toNat : Int) = 120 ∨ (c.toNat : Int) = 104 ∨ (c.toNat : Int) = 117 ∨ (c.toNat : Int) = 90 ∨ (c.toNat : Int) = 88 ∨ (c.toNat : Int) = 72 ∨ (c.toNat : Int) = 85 :=
  Lt.every (p := fun c => Ln.isCall c = true → (c.toNat : Int) = 46 ∨ (c.toNat : Int) = 122 ∨ (c.toNat : Int) = 120 ∨ (c.toNat : Int) = 104 ∨ (c.toNat : Int) = 117 ∨ (c.toNat : Int) = 90 ∨ (c.toNat : Int) = 88 ∨ (c.toNat : Int) = 72 ∨ (c.toNat : Int) = 85) (by decide +kernel) c h
theorem isCall_no {c : UInt8} (h : Ln.isCall c = false) : (((c.toNat : Int) == 46) = false ∧ ((c.toNat : Int) == 122) = false ∧ ((c.toNat : Int) == 120) = false ∧ ((c.toNat : Int) == 104) = false ∧ ((c.toNat : Int) == 117) = false) ∧ (((c.toNat : Int) == 90) = false ∧ ((c.toNat : Int) == 88) = false ∧ ((c.toNat : Int) == 72) = false ∧ ((c.toNat : Int) == 85) = false) :=
  Lt.every (p := fun c => Ln.isCall c = false → (((c.toNat : Int) == 46) = false ∧ ((c.toNat : Int) == 122) = false ∧ ((c.toNat : Int) == 120) = false ∧ ((c.toNat : Int) == 104) = false ∧ ((c.toNat : Int) == 117) = false) ∧ (((c.toNat : Int) == 90) = false ∧ ((c.toNat : Int) == 88) = false ∧ ((c.toNat : Int) == 72) = false ∧ ((c.toNat : Int) == 85) = false)) (by decide +kernel) c h

/-- a verdict, a strand, in words -/
def Ln.verdict (n : Int) : List UInt8 := if n == 0 then [117, 110, 109, 97, 112, 112, 101, 100] else if n == 1 then [97, 108, 105, 103, 110, 101, 100] else [97, 109, 98, 105, 103, 117, 111, 117, 115]
def Ln.strand (n : Int) : List UInt8 := if n == 1 then [79, 84] else if n == 2 then [79, 66] else if n == 3 then [67, 84, 79, 84] else [67, 84, 79, 66]

/-- a number's digits -/
def Ln.dig : Nat → Nat → List UInt8
  | 0, n => [UInt8.ofNat (48 + n)]
  | f + 1, n => if n < 10 then [UInt8.ofNat (48 + n)] else Ln.dig f (n / 10) ++ [UInt8.ofNat (48 + n % 10)]

theorem Ln.dig_low (f n : Nat) (h : n < 10) : Ln.dig f n = [UInt8.ofNat (48 + n)] := by cases f <;> simp [Ln.dig, h]
theorem Ln.dig_length : ∀ (f n : Nat), (Ln.dig f n).length ≤ f + 1 := by
  intro f
  induction f with
  | zero => intro n; simp [Ln.dig]
  | succ f ih => intro n; unfold Ln.dig; split; simp; have := ih (n / 10); simp; omega

theorem dig_int (n : Nat) (h : n < 10) : (48 : Int) + (n : Int) = ((UInt8.ofNat (48 + n)).toNat : Int) := by
  rw [UInt8.toNat_ofNat']
  omega

/-- one byte just made, as a text -/
theorem conv_one (w : World) (b : Nat) (d : UInt8) (h : w.cell? ⟨b, 0, none⟩ = some (.int .u8 (d.toNat : Int))) :
    (convert 59 9 (.slice (some ⟨b, 0, none⟩) 1 1)).run Try.prog w = .ok (.string ⟨#[d]⟩) w :=
  run_convert_bytes_back (P := Try.prog) w 59 9 5 ⟨b, 0, none⟩ 1 [d] Try.underlying59 Try.underlying5 Try.underlying9 (fun j hj => by
    match j, hj with
    | 0, _ => simpa [Addr.add] using h)

/-- two texts, put together -/
theorem add_texts (w : World) (x y : List UInt8) (h : x.length + y.length ≤ 9223372036854775807) : (Op.stringOp .add ⟨x.toArray⟩ ⟨y.toArray⟩).run Try.prog w = .ok (.string ⟨(x ++ y).toArray⟩) w := by
  have e : ((⟨x.toArray⟩ : ByteArray) ++ ⟨y.toArray⟩) = ⟨(x ++ y).toArray⟩ := by
    apply ByteArray.ext
    simp [ByteArray.data_append]
  have hm : IntKind.i64.max = 9223372036854775807 := by decide
  have hs : ¬ (((⟨x.toArray⟩ : ByteArray).size + (⟨y.toArray⟩ : ByteArray).size : Nat) : Int) > IntKind.i64.max := by
    rw [hm]
    simp [ByteArray.size]
    omega
  simp only [Op.stringOp, if_neg hs, e]
  rfl

end Go.Proofs.Ytfcbgfomhmcikaa

namespace Go.Proofs.Ytfcbgfomhmcikaa
open Go.RowKit

/-- a record -/
structure Rc where
  nm : List UInt8
  vd : Int
  sd : Int
  ct : List UInt8
  pl : Int
  mm : Int
  lt : List UInt8
  cl : List UInt8

def Rc.vals (r : Rc) : Array Value := #[.string ⟨r.nm.toArray⟩, .int .i64 r.vd, .int .i64 r.sd, .string ⟨r.ct.toArray⟩, .int .i64 r.pl, .int .i64 r.mm, .string ⟨r.lt.toArray⟩, .string ⟨r.cl.toArray⟩]

/-- all but the name and the verdict are zero -/
def Rc.bare (r : Rc) : Bool := r.sd == 0 && (r.ct.isEmpty && (r.pl == 0 && (r.mm == 0 && (r.lt.isEmpty && r.cl.isEmpty))))

theorem eq_bare (n c l k : List UInt8) (v s p m : Int) (w : World) :
    (Op.equalIn 10000 42 (.agg #[.string ⟨n.toArray⟩, .int .i64 v, .int .i64 s, .string ⟨c.toArray⟩, .int .i64 p, .int .i64 m, .string ⟨l.toArray⟩, .string ⟨k.toArray⟩]) (.agg #[.string ⟨n.toArray⟩, .int .i64 v, .int .i64 0, .string ⟨#[]⟩, .int .i64 0, .int .i64 0, .string ⟨#[]⟩, .string ⟨#[]⟩])).run Try.prog w = .ok (s == 0 && (c.isEmpty && (p == 0 && (m == 0 && (l.isEmpty && k.isEmpty))))) w := by
  simp [go_sem, Try.underlying42, Try.underlying9, Try.underlying3]
  repeat' split
  all_goals simp_all

theorem eql_bare (n c l k : List UInt8) (v s p m : Int) (w : World) :
    (binOp .eql 42 (.agg #[.string ⟨n.toArray⟩, .int .i64 v, .int .i64 s, .string ⟨c.toArray⟩, .int .i64 p, .int .i64 m, .string ⟨l.toArray⟩, .string ⟨k.toArray⟩]) (.agg #[.string ⟨n.toArray⟩, .int .i64 v, .int .i64 0, .string ⟨#[]⟩, .int .i64 0, .int .i64 0, .string ⟨#[]⟩, .string ⟨#[]⟩])).run Try.prog w = .ok (.bool (s == 0 && (c.isEmpty && (p == 0 && (m == 0 && (l.isEmpty && k.isEmpty)))))) w := by
  rw [run_eql_struct, eq_bare]; rfl

/-- an aligned record's other fields -/
def Rc.full (r : Rc) : Bool := Lt.strandB r.sd && (Ln.name r.ct && (Lt.allL r.lt && (Ln.calls r.cl && (decide (0 ≤ r.pl) && (decide (r.pl ≤ 4096) && (decide (1 ≤ (r.lt.length : Int)) && (decide ((r.lt.length : Int) ≤ 128) && (decide (0 ≤ r.mm) && (decide (r.mm ≤ (r.lt.length : Int)) && ((r.cl.length : Int) == (r.lt.length : Int)))))))))))
/-- a record that is right -/
def Rc.right (r : Rc) : Bool := if Ln.name r.nm = false then false else if r.vd < 0 then false else if 2 < r.vd then false else if r.vd = 1 then r.full else r.bare

/-- its texts are of a size that can be -/
structure Rc.Small (r : Rc) : Prop where
  nm : r.nm.length ≤ 140737488355327
  ct : r.ct.length ≤ 140737488355327
  lt : r.lt.length ≤ 140737488355327
  cl : r.cl.length ≤ 140737488355327

theorem str_size (l : List UInt8) : (⟨l.toArray⟩ : ByteArray).size = l.length := by simp [ByteArray.size]
theorem str_small {l : List UInt8} (h : l.length ≤ 140737488355327) : (⟨l.toArray⟩ : ByteArray).size ≤ maxLen := by rw [str_size]; unfold maxLen; omega

end Go.Proofs.Ytfcbgfomhmcikaa
