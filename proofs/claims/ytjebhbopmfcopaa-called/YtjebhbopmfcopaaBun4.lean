/-
  THE WALK of 'mark': a text of its own for the n-th list. Own text of the verifier.
  THE DOCUMENT'S RECORDS, its small walks: names, calls, digits, words. Own text of the verifier.
  THE DOCUMENT'S RECORDS: right, and the line of one. Own text of the verifier.
  PLAIN MATHEMATICS of Align: candidates in their order, the best so far. Own text of the verifier.
  THE PROGRAM'S Align, its small walks: what follows a place, the letter of a call. Own text of the verifier.
  THE PROGRAM'S Align: the call of a position, the calls, the mismatches. Own text of the verifier.
-/
import Derived.Test.YtjebhbopmfcopaaBun3
import Derived.Test.YtjebhbopmfcopaaBun2
import Derived.Deep.RegionHeld3
import Derived.Laws.StructEq
import Derived.Deep.RegionWith
namespace Go.Proofs.Ytjebhbopmfcopaa
open Go.RowKit

/-- a number's bits, the lowest first, as digits -/
def bits : Nat → Nat → List UInt8
  | 0, _ => []
  | f + 1, k => if k = 0 then [] else UInt8.ofNat (48 + k % 2) :: bits f (k / 2)

theorem bits_log : ∀ (f k j : Nat), k < 2 ^ j → (bits f k).length ≤ j := by
  intro f
  induction f with
  | zero => intro k j _; simp [bits]
  | succ f ih =>
    intro k j h
    unfold bits
    split
    · simp
    · next hk =>
      obtain ⟨j, rfl⟩ : ∃ i, j = i + 1 := by
        cases j with
        | zero => simp at h; omega
        | succ i => exact ⟨i, rfl⟩
      have := ih (k / 2) j (by rw [Nat.pow_succ] at h; omega)
      simp; omega

/-- the mark of the n-th list -/
def mk (n : Nat) : List UInt8 := 109 :: bits (n / 4 + 1) (n / 4)

theorem mk_length (n : Nat) (hn : n ≤ 8000000000000) : (mk n).length ≤ 51 := by
  have := bits_log (n / 4 + 1) (n / 4) 50 (by omega)
  simp [mk]; omega
theorem mk_same (n i : Nat) (h : n % 4 = 0) (hi : i < 4) : mk (n + i) = mk n := by
  unfold mk
  rw [show (n + i) / 4 = n / 4 by omega]

theorem bits_step (f k : Nat) (hk : 0 < k) : bits (f + 1) k = UInt8.ofNat (48 + k % 2) :: bits f (k / 2) := by rw [bits, if_neg (by omega)]
theorem bits_zero (f : Nat) : bits f 0 = [] := by cases f <;> simp [bits]

theorem digit_int (k : Nat) : (48 + (k : Int) % 2) = ((UInt8.ofNat (48 + k % 2)).toNat : Int) := by
  rw [UInt8.toNat_ofNat']
  omega

end Go.Proofs.Ytjebhbopmfcopaa

namespace Go.Proofs.Ytjebhbopmfcopaa
open Go.RowKit

theorem all_take_succ (p : UInt8 → Bool) (s : ByteArray) (k : Nat) (h : k < s.size) : (s.data.toList.take (k + 1)).all p = ((s.data.toList.take k).all p && p s[k]) := by
  rw [show s.data.toList.take (k + 1) = s.data.toList.take k ++ [s[k]] from Lt.take_snoc s k h, List.all_append]
  simp
theorem all_stop (p : UInt8 → Bool) (s : ByteArray) (k : Nat) (h : k < s.size) (hn : p s[k] = false) : s.data.toList.all p = false := by
  rw [List.all_eq_false]
  exact ⟨s[k], by have : s[k] = s.data.toList[k]'(by simpa using h) := rfl
                  rw [this]; exact List.getElem_mem _, by simp [hn]⟩
theorem all_whole (p : UInt8 → Bool) (s : ByteArray) (k : Nat) (h : ¬ k < s.size) (ht : (s.data.toList.take k).all p = true) : s.data.toList.all p = true := by
  rwa [List.take_of_length_le (by simp; omega)] at ht

/-- a name -/
def Ln.name (l : List UInt8) : Bool := l.all Tx.nb && (decide (1 ≤ l.length) && decide (l.length ≤ 32))

/-- a call's byte -/
def Ln.isCall (c : UInt8) : Bool := c == 46 || c == 122 || c == 120 || c == 104 || c == 117 || c == 90 || c == 88 || c == 72 || c == 85

def Ln.calls (l : List UInt8) : Bool := l.all Ln.isCall

theorem isCall_yes {c : UInt8} (h : Ln.isCall c = true) : (c.toNat : Int) = 46 ∨ (c.toNat : Int) = 122 ∨ (c.toNat : Int) = 120 ∨ (c.toNat : Int) = 104 ∨ (c.toNat : Int) = 117 ∨ (c.toNat : Int) = 90 ∨ (c.toNat : Int) = 88 ∨ (c.toNat : Int) = 72 ∨ (c.toNat : Int) = 85 :=
  Lt.every (p := fun c => Ln.isCall c = true → (c.toNat : Int) = 46 ∨ (c.toNat : Int) = 122 ∨ (c.toNat : Int) = 120 ∨ (c.toNat : Int) = 104 ∨ (c.toNat : Int) = 117 ∨ (c.toNat : Int) = 90 ∨ (c.toNat : Int) = 88 ∨ (c.toNat : Int) = 72 ∨ (c.toNat : Int) = 85) (by decide +kernel) c h
theorem isCall_no {c : UInt8} (h : Ln.isCall c = false) : (((c.toNat : Int) == 46) = false ∧ ((c.toNat : Int) == 122) = false ∧ ((c.toNat : Int) == 120) = false ∧ ((c.toNat : Int) == 104) = false ∧ ((c.toNat : Int) == 117) = false) ∧ (((c.toNat : Int) == 90) = false ∧ ((c.toNat : Int) == 88) = false ∧ ((c.toNat : Int) == 72) = false ∧ ((c.toNat : Int) == 85) = false) :=
  Lt.every (p := fun c => Ln.isCall c = false → (((c.toNat : Int) == 46) = false ∧ ((c.toNat : Int) == 122) = false ∧ ((c.toNat : Int) == 120) = false ∧ ((c.toNat : Int) == 104) = false ∧ ((c.toNat : Int) == 117) = false) ∧ (((c.toNat : Int) == 90) = false ∧ ((c.toNat : Int) == 88) = false ∧ ((c.toNat : Int) == 72) = false ∧ ((c.toNat : Int) == 85) = false)) (by decide +kernel) c h

/-- a verdict, a strand, in words -/
def Ln.verdict (n : Int) : List UInt8 := if n == 0 then [117, 110, 109, 97, 112, 112, 101, 100] else if n == 1 then [97, 108, 105, 103, 110, 101, 100] else [97, 109, 98, 105, 103, 117, 111, 117, 115]
def Ln.strand (n : Int) : List UInt8 := if n == 1 then [79, 84] else if n == 2 then [79, 66] else if n == 3 then [67, 84, 79, 84] else [67, 84, 79, 66]

/-- a number's digits -/
def Ln.dig : Nat → Nat → List UInt8
  | 0, n => [UInt8.ofNat (48 + n)]
  | f + 1, n => if n < 10 then [UInt8.ofNat (48 + n)] else Ln.dig f (n / 10) ++ [UInt8.ofNat (48 + n % 10)]

theorem Ln.dig_low (f n : Nat) (h : n < 10) : Ln.dig f n = [UInt8.ofNat (48 + n)] := by cases f <;> simp [Ln.dig, h]
theorem Ln.dig_length : ∀ (f n : Nat), (Ln.dig f n).length ≤ f + 1 := by
  intro f
  induction f with
  | zero => intro n; simp [Ln.dig]
  | succ f ih => intro n; unfold Ln.dig; split; simp; have := ih (n / 10); simp; omega

theorem dig_int (n : Nat) (h : n < 10) : (48 : Int) + (n : Int) = ((UInt8.ofNat (48 + n)).toNat : Int) := by
  rw [UInt8.toNat_ofNat']
  omega

/-- one byte just made, as a text -/
theorem conv_one (w : World) (b : Nat) (d : UInt8) (h : w.cell? ⟨b, 0, none⟩ = some (.int .u8 (d.toNat : Int))) :
    (convert 59 9 (.slice (some ⟨b, 0, none⟩) 1 1)).run Try.prog w = .ok (.string ⟨#[d]⟩) w :=
  run_convert_bytes_back (P := Try.prog) w 59 9 5 ⟨b, 0, none⟩ 1 [d] Try.underlying59 Try.underlying5 Try.underlying9 (fun j hj => by
    match j, hj with
    | 0, _ => simpa [Addr.add] using h)

/-- two texts, put together -/
theorem add_texts (w : World) (x y : List UInt8) (h : x.length + y.length ≤ 9223372036854775807) : (Op.stringOp .add ⟨x.toArray⟩ ⟨y.toArray⟩).run Try.prog w = .ok (.string ⟨(x ++ y).toArray⟩) w := by
  have e : ((⟨x.toArray⟩ : ByteArray) ++ ⟨y.toArray⟩) = ⟨(x ++ y).toArray⟩ := by
    apply ByteArray.ext
    simp [ByteArray.data_append]
  have hm : IntKind.i64.max = 9223372036854775807 := by decide
  have hs : ¬ (((⟨x.toArray⟩ : ByteArray).size + (⟨y.toArray⟩ : ByteArray).size : Nat) : Int) > IntKind.i64.max := by
    rw [hm]
    simp [ByteArray.size]
    omega
  simp only [Op.stringOp, if_neg hs, e]
  rfl

end Go.Proofs.Ytjebhbopmfcopaa

namespace Go.Proofs.Ytjebhbopmfcopaa
open Go.RowKit

/-- a record -/
structure Rc where
  nm : List UInt8
  vd : Int
  sd : Int
  ct : List UInt8
  pl : Int
  mm : Int
  lt : List UInt8
  cl : List UInt8

def Rc.vals (r : Rc) : Array Value := #[.string ⟨r.nm.toArray⟩, .int .i64 r.vd, .int .i64 r.sd, .string ⟨r.ct.toArray⟩, .int .i64 r.pl, .int .i64 r.mm, .string ⟨r.lt.toArray⟩, .string ⟨r.cl.toArray⟩]

/-- all but the name and the verdict are zero -/
def Rc.bare (r : Rc) : Bool := r.sd == 0 && (r.ct.isEmpty && (r.pl == 0 && (r.mm == 0 && (r.lt.isEmpty && r.cl.isEmpty))))

theorem eq_bare (n c l k : List UInt8) (v s p m : Int) (w : World) :
    (Op.equalIn 10000 42 (.agg #[.string ⟨n.toArray⟩, .int .i64 v, .int .i64 s, .string ⟨c.toArray⟩, .int .i64 p, .int .i64 m, .string ⟨l.toArray⟩, .string ⟨k.toArray⟩]) (.agg #[.string ⟨n.toArray⟩, .int .i64 v, .int .i64 0, .string ⟨#[]⟩, .int .i64 0, .int .i64 0, .string ⟨#[]⟩, .string ⟨#[]⟩])).run Try.prog w = .ok (s == 0 && (c.isEmpty && (p == 0 && (m == 0 && (l.isEmpty && k.isEmpty))))) w := by
  simp [go_sem, Try.underlying42, Try.underlying9, Try.underlying3]
  repeat' split
  all_goals simp_all

theorem eql_bare (n c l k : List UInt8) (v s p m : Int) (w : World) :
    (binOp .eql 42 (.agg #[.string ⟨n.toArray⟩, .int .i64 v, .int .i64 s, .string ⟨c.toArray⟩, .int .i64 p, .int .i64 m, .string ⟨l.toArray⟩, .string ⟨k.toArray⟩]) (.agg #[.string ⟨n.toArray⟩, .int .i64 v, .int .i64 0, .string ⟨#[]⟩, .int .i64 0, .int .i64 0, .string ⟨#[]⟩, .string ⟨#[]⟩])).run Try.prog w = .ok (.bool (s == 0 && (c.isEmpty && (p == 0 && (m == 0 && (l.isEmpty && k.isEmpty)))))) w := by
  rw [run_eql_struct, eq_bare]; rfl

/-- an aligned record's other fields -/
def Rc.full (r : Rc) : Bool := Lt.strandB r.sd && (Ln.name r.ct && (Lt.allL r.lt && (Ln.calls r.cl && (decide (0 ≤ r.pl) && (decide (r.pl ≤ 4096) && (decide (1 ≤ (r.lt.length : Int)) && (decide ((r.lt.length : Int) ≤ 128) && (decide (0 ≤ r.mm) && (decide (r.mm ≤ (r.lt.length : Int)) && ((r.cl.length : Int) == (r.lt.length : Int)))))))))))
/-- a record that is right -/
def Rc.right (r : Rc) : Bool := if Ln.name r.nm = false then false else if r.vd < 0 then false else if 2 < r.vd then false else if r.vd = 1 then r.full else r.bare

/-- its texts are of a size that can be -/
structure Rc.Small (r : Rc) : Prop where
  nm : r.nm.length ≤ 140737488355327
  ct : r.ct.length ≤ 140737488355327
  lt : r.lt.length ≤ 140737488355327
  cl : r.cl.length ≤ 140737488355327

theorem str_size (l : List UInt8) : (⟨l.toArray⟩ : ByteArray).size = l.length := by simp [ByteArray.size]
theorem str_small {l : List UInt8} (h : l.length ≤ 140737488355327) : (⟨l.toArray⟩ : ByteArray).size ≤ maxLen := by rw [str_size]; unfold maxLen; omega

end Go.Proofs.Ytjebhbopmfcopaa

namespace Go.Proofs.Ytjebhbopmfcopaa
open Go.RowKit

/-- the record so far, and the least mismatches (-1: there was no candidate) -/
structure Al.St where
  best : Rc
  least : Int

/-- the calls of the first m positions -/
def Al.calls (n : Int) (s t : List UInt8) (p m : Nat) : List UInt8 := (List.range m).map (fun k => Al.call n (s.getD k 0) t (p + k))
theorem Al.calls_length (n : Int) (s t : List UInt8) (p m : Nat) : (Al.calls n s t p m).length = m := by simp [Al.calls]
theorem Al.calls_succ (n : Int) (s t : List UInt8) (p m : Nat) : Al.calls n s t p (m + 1) = Al.calls n s t p m ++ [Al.call n (s.getD m 0) t (p + m)] := by
  rw [Al.calls, Al.calls, List.range_succ, List.map_append]
  rfl

/-- one candidate more -/
def Al.step (nm : List UInt8) (n : Int) (s : List UInt8) (cs : List Pr) (st : Al.St) (q : Nat × Nat) : Al.St :=
  match cs[q.1]? with
  | none => st
  | some x =>
    if 0 ≤ st.least ∧ st.least < (Al.mis n s (x.2.drop q.2) : Int) then st
    else if (Al.mis n s (x.2.drop q.2) : Int) = st.least then ⟨⟨nm, 2, 0, [], 0, 0, [], []⟩, st.least⟩
    else ⟨⟨nm, 1, n, x.1, (q.2 : Int), (Al.mis n s (x.2.drop q.2) : Int), s, Al.calls n s x.2 q.2 s.length⟩, (Al.mis n s (x.2.drop q.2) : Int)⟩
/-- all candidates of a strand -/
def Al.strand (nm : List UInt8) (r : List UInt8) (b : Int) (cs : List Pr) (st : Al.St) (n : Int) : Al.St := (Se.inAll n b (Al.along r n) cs cs.length).foldl (Al.step nm n (Al.along r n) cs) st
/-- the strands from 1 to k -/
def Al.upto (nm : List UInt8) (r : List UInt8) (b : Int) (cs : List Pr) : Nat → Al.St
  | 0 => ⟨⟨nm, 0, 0, [], 0, 0, [], []⟩, -1⟩
  | k + 1 => Al.strand nm r b cs (Al.upto nm r b cs k) ((k + 1 : Nat) : Int)
/-- Align's error, and its record -/
def Al.err (b : Int) (r : List UInt8) : Int := if b < 0 then 1 else if 3 < b then 1 else Se.lettersErr r
def Al.align (nm r : List UInt8) (b : Int) (cs : List Pr) : Rc := if Al.err b r = 0 then (Al.upto nm r b cs 4).best else ⟨[], 0, 0, [], 0, 0, [], []⟩

theorem Al.along_length (r : List UInt8) (n : Int) : (Al.along r n).length = r.length := by
  unfold Al.along
  split
  · exact Lt.rev_length r
  · rfl

/-- what is so of a place that Find tells -/
theorem Se.inAll_mem (n b : Int) (s : List UInt8) (cs : List Pr) : ∀ (k : Nat) (q : Nat × Nat), q ∈ Se.inAll n b s cs k → q.1 < k ∧ ∃ x, cs[q.1]? = some x ∧ q.2 + s.length ≤ x.2.length ∧ (Se.three n s (x.2.drop q.2) : Int) ≤ b := by
  intro k
  induction k with
  | zero => intro q h; simp [Se.inAll] at h
  | succ k ih =>
    intro q h
    rw [Se.inAll, List.mem_append] at h
    rcases h with h | h
    · obtain ⟨h1, h2⟩ := ih q h
      exact ⟨by omega, h2⟩
    · split at h
      · next x hx =>
        rw [Se.inOne, Se.upto, List.mem_map] at h
        obtain ⟨p, hp, rfl⟩ := h
        rw [List.mem_filter, List.mem_range] at hp
        refine ⟨by simp, x, hx, ?_, ?_⟩
        · have := hp.1; simp only; omega
        · have := hp.2
          rw [Se.stands] at this
          exact of_decide_eq_true this
      · simp at h

end Go.Proofs.Ytjebhbopmfcopaa

namespace Go.Proofs.Ytjebhbopmfcopaa
open Go.RowKit

/-- the letter at a place; N where there is none -/
def Pa.at (t : List UInt8) (p : Int) : UInt8 := if p < 0 then 78 else if (t.length : Int) ≤ p then 78 else t.getD p.toNat 0
/-- the two letters that follow -/
def Pa.one (n : Int) (t : List UInt8) (p : Nat) : UInt8 := if Lt.topB n then Pa.at t ((p : Int) + 1) else Lt.comp (Pa.at t ((p : Int) - 1))
def Pa.two (n : Int) (t : List UInt8) (p : Nat) : UInt8 := if Lt.topB n then Pa.at t ((p : Int) + 2) else Lt.comp (Pa.at t ((p : Int) - 2))
/-- the kind -/
def Pa.kind (a b : UInt8) : UInt8 := if ((a.toNat : Int) == 71) = true then 122 else if ((a.toNat : Int) == 78) = true then 117 else if ((b.toNat : Int) == 71) = true then 120 else if ((b.toNat : Int) == 78) = true then 117 else 104

set_option maxHeartbeats 400000 in
theorem letterAt_any (t : ByteArray) (p : Int) (w : World) :
    Calls Try.prog 52 #[.string t, .int .i64 p] w fun e w' => e = .returned (.int .u8 ((Pa.at t.data.toList p).toNat : Int)) ∧ w' = w := by
  obtain ⟨R, hR⟩ : ∃ R, R = Pa.at t.data.toList p := ⟨_, rfl⟩
  rw [← hR]
  unfold Pa.at at hR
  have hsz : t.data.toList.length = t.size := by simp
  rw [hsz] at hR
  by_cases h0 : p < 0
  · have HR : Hid (R = 78) := by show _ = _; rw [hR, if_pos h0]
    clear hR
    go_enter Try.func52, Try.ntmps52
    go_wp2
    go_ret
    exact ⟨ret_int (by rw [HR.out]; rfl), rfl⟩
  · by_cases h1 : (t.size : Int) ≤ p
    · have HR : Hid (R = 78) := by show _ = _; rw [hR, if_neg h0, if_pos h1]
      clear hR
      go_enter Try.func52, Try.ntmps52
      go_wp2
      go_ret
      exact ⟨ret_int (by rw [HR.out]; rfl), rfl⟩
    · obtain ⟨k, rfl⟩ : ∃ k : Nat, p = (k : Int) := ⟨p.toNat, by omega⟩
      have hk : k < t.size := by omega
      have hi := ix_str t k hk (k : Int) rfl
      have h2 : (k : Int) < (t.size : Int) := by omega
      have HR : Hid (R = t[k]) := by
        show _ = _
        rw [hR, if_neg h0, if_neg h1, Int.toNat_natCast, List.getD_eq_getElem?_getD, List.getElem?_eq_getElem (by rw [hsz]; exact hk)]
        rfl
      clear hR
      go_enter Try.func52, Try.ntmps52
      go_wp2
      go_ret
      exact ⟨ret_int (by rw [HR.out]), rfl⟩

set_option maxHeartbeats 400000 in
theorem kind_any (a b : UInt8) (w : World) :
    Calls Try.prog 50 #[.int .u8 (a.toNat : Int), .int .u8 (b.toNat : Int)] w fun e w' => e = .returned (.int .u8 ((Pa.kind a b).toNat : Int)) ∧ w' = w := by
  go_enter Try.func50, Try.ntmps50
  go_wp2
  all_goals go_ret
  all_goals exact ⟨ret_int (by unfold Pa.kind; simp only [*, if_true, if_false, Bool.false_eq_true]; rfl), rfl⟩

set_option maxRecDepth 100000 in
set_option maxHeartbeats 400000 in
theorem following_any (t : ByteArray) (p : Nat) (n : Int) (w : World) (ht : t.size ≤ 140737488355327) (hp : p < t.size) :
    Calls Try.prog 51 #[.string t, .int .i64 (p : Int), .int .i64 n] w fun e w' => e = .returned (.tuple #[.int .u8 ((Pa.one n t.data.toList p).toNat : Int), .int .u8 ((Pa.two n t.data.toList p).toNat : Int)]) ∧ w' = w := by
  obtain ⟨A, hA⟩ : ∃ A, A = Pa.one n t.data.toList p := ⟨_, rfl⟩
  obtain ⟨B, hB⟩ : ∃ B, B = Pa.two n t.data.toList p := ⟨_, rfl⟩
  rw [← hA, ← hB]
  unfold Pa.one at hA
  unfold Pa.two at hB
  cases hT : Lt.topB n with
  | true =>
    have HT : Hid _ := hT
    rw [hT, if_pos rfl] at hA hB
    have H1 : Hid (∀ W : World, Calls Try.prog 52 #[.string t, .int .i64 ((p : Int) + 1)] W fun e w' => e = .returned (.int .u8 (A.toNat : Int)) ∧ w' = W) := fun W => by rw [hA]; exact letterAt_any t _ W
    have H2 : Hid (∀ W : World, Calls Try.prog 52 #[.string t, .int .i64 ((p : Int) + 2)] W fun e w' => e = .returned (.int .u8 (B.toNat : Int)) ∧ w' = W) := fun W => by rw [hB]; exact letterAt_any t _ W
    clear hA hB hT
    go_enter Try.func51, Try.ntmps51
    go_wp2_with (go_at_call 38; refine (strTop_any _ _).mono ?_; rintro e w' ⟨rfl, hw⟩; subst w'; rw [HT.out])
    refine (H1.out _).mono ?_
    rintro e w' ⟨rfl, hw⟩
    subst w'
    go_wp2_with fail
    refine (H2.out _).mono ?_
    rintro e w' ⟨rfl, hw⟩
    subst w'
    go_wp2
    go_ret2
    exact ⟨rfl, rfl⟩
  | false =>
    have HT : Hid _ := hT
    rw [hT, if_neg (by simp)] at hA hB
    obtain ⟨a, ha⟩ : ∃ a, a = Pa.at t.data.toList ((p : Int) - 1) := ⟨_, rfl⟩
    obtain ⟨b, hb⟩ : ∃ b, b = Pa.at t.data.toList ((p : Int) - 2) := ⟨_, rfl⟩
    have H1 : Hid (∀ W : World, Calls Try.prog 52 #[.string t, .int .i64 ((p : Int) - 1)] W fun e w' => e = .returned (.int .u8 (a.toNat : Int)) ∧ w' = W) := fun W => by rw [ha]; exact letterAt_any t _ W
    have H2 : Hid (∀ W : World, Calls Try.prog 52 #[.string t, .int .i64 ((p : Int) - 2)] W fun e w' => e = .returned (.int .u8 (b.toNat : Int)) ∧ w' = W) := fun W => by rw [hb]; exact letterAt_any t _ W
    rw [← ha] at hA
    rw [← hb] at hB
    have HC1 : Hid (∀ W : World, Calls Try.prog 25 #[.int .u8 (a.toNat : Int)] W fun e w' => e = .returned (.int .u8 (A.toNat : Int)) ∧ w' = W) := fun W => by rw [hA]; exact complement_any a W
    have HC2 : Hid (∀ W : World, Calls Try.prog 25 #[.int .u8 (b.toNat : Int)] W fun e w' => e = .returned (.int .u8 (B.toNat : Int)) ∧ w' = W) := fun W => by rw [hB]; exact complement_any b W
    clear hA hB hT ha hb
    obtain ⟨x, hx⟩ : ∃ x : Int, x = (a.toNat : Int) := ⟨_, rfl⟩
    obtain ⟨y, hy⟩ : ∃ y : Int, y = (b.toNat : Int) := ⟨_, rfl⟩
    rw [← hx] at H1 HC1
    rw [← hy] at H2 HC2
    clear hx hy
    go_enter Try.func51, Try.ntmps51
    go_wp2_with (go_at_call 38; refine (strTop_any _ _).mono ?_; rintro e w' ⟨rfl, hw⟩; subst w'; rw [HT.out])
    refine (H1.out _).mono ?_
    rintro e w' ⟨rfl, hw⟩
    subst w'
    go_wp2_with fail
    refine (HC1.out _).mono ?_
    rintro e w' ⟨rfl, hw⟩
    subst w'
    go_wp2_with fail
    refine (H2.out _).mono ?_
    rintro e w' ⟨rfl, hw⟩
    subst w'
    go_wp2_with fail
    refine (HC2.out _).mono ?_
    rintro e w' ⟨rfl, hw⟩
    subst w'
    go_wp2
    go_ret2
    exact ⟨rfl, rfl⟩

end Go.Proofs.Ytjebhbopmfcopaa

namespace Go.Proofs.Ytjebhbopmfcopaa
open Go.RowKit

theorem Pa.isL_cases {c : UInt8} (h : Lt.isL c = true) : c = 65 ∨ c = 67 ∨ c = 71 ∨ c = 84 ∨ c = 78 := by
  simp only [Lt.isL, Bool.or_eq_true, beq_iff_eq] at h
  rcases h with (((h | h) | h) | h) | h <;> simp [h]

/-- how the letter that the program sees stands to that of the document: N where there is none -/
def Pa.Sees (a b : UInt8) : Prop := (a = 78 ∧ (b = 0 ∨ b = 78)) ∨ (a = b ∧ (b = 65 ∨ b = 67 ∨ b = 71 ∨ b = 84))

theorem Pa.sees_letter {c : UInt8} (h : Lt.isL c = true) : Pa.Sees c c := by
  rcases Pa.isL_cases h with h | h | h | h | h <;> subst h <;> simp [Pa.Sees]

theorem Pa.allL_at {t : List UInt8} (h : Lt.allL t = true) {k : Nat} (hk : k < t.length) : Lt.isL t[k] = true := by
  simp only [Lt.allL, List.all_eq_true] at h
  exact h _ (List.getElem_mem _)

theorem Pa.at_in {t : List UInt8} {k : Nat} (hk : k < t.length) : Pa.at t (k : Int) = t[k] := by
  unfold Pa.at
  rw [if_neg (by omega), if_neg (by omega), Int.toNat_natCast, List.getD_eq_getElem?_getD, List.getElem?_eq_getElem hk]
  rfl

theorem Pa.sees_next {n : Int} {t : List UInt8} {p j : Nat} (hL : Lt.allL t = true) (hp : p < t.length) (hj : 1 ≤ j) :
    Pa.Sees (if Lt.topB n then Pa.at t ((p : Int) + j) else Lt.comp (Pa.at t ((p : Int) - j))) (Al.next n t p j) := by
  unfold Al.next
  cases hT : Lt.topB n with
  | true =>
    rw [if_pos rfl, if_pos rfl]
    by_cases h : p + j < t.length
    · rw [List.getElem?_eq_getElem h, show ((p : Int) + (j : Int)) = ((p + j : Nat) : Int) by omega, Pa.at_in h]
      exact Pa.sees_letter (Pa.allL_at hL h)
    · rw [List.getElem?_eq_none (by omega)]
      refine .inl ⟨?_, .inl rfl⟩
      unfold Pa.at
      rw [if_neg (by omega), if_pos (by omega)]
  | false =>
    rw [if_neg (by simp), if_neg (by simp)]
    by_cases h : p < j
    · rw [if_pos h]
      refine .inl ⟨?_, .inl rfl⟩
      unfold Pa.at
      rw [if_pos (by omega)]
      rfl
    · have h2 : p - j < t.length := by omega
      rw [if_neg h, List.getElem?_eq_getElem h2, show ((p : Int) - (j : Int)) = ((p - j : Nat) : Int) by omega, Pa.at_in h2]
      exact Pa.sees_letter (Lt.comp_isL (Pa.allL_at hL h2))

theorem Pa.kind_follows {n : Int} {t : List UInt8} {p : Nat} (hL : Lt.allL t = true) (hp : p < t.length) : Pa.kind (Pa.one n t p) (Pa.two n t p) = Al.follows n t p := by
  have h1 : Pa.Sees (Pa.one n t p) (Al.next n t p 1) := Pa.sees_next (j := 1) hL hp (Nat.le_refl 1)
  have h2 : Pa.Sees (Pa.two n t p) (Al.next n t p 2) := Pa.sees_next (j := 2) hL hp (by omega)
  unfold Al.follows
  generalize Pa.one n t p = a at *
  generalize Pa.two n t p = b at *
  generalize Al.next n t p 1 = c at *
  generalize Al.next n t p 2 = d at *
  rcases h1 with ⟨rfl, rfl | rfl⟩ | ⟨rfl, rfl | rfl | rfl | rfl⟩ <;> rcases h2 with ⟨rfl, rfl | rfl⟩ | ⟨rfl, rfl | rfl | rfl | rfl⟩ <;> decide

theorem Pa.frm_bare {n : Int} (h : Lt.strandB n = true) : Lt.frm n = Al.bare n ∧ Lt.tow n = Al.gone n := by
  unfold Al.bare Al.gone
  cases hT : Lt.topB n with
  | true => exact Lt.frm_tow_top hT
  | false => exact Lt.frm_tow_bot hT h

theorem Pa.up (n : Int) (t : List UInt8) (p : Nat) : ((Al.follows n t p).toNat : Int) - 97 + 65 = ((Al.follows n t p - 32).toNat : Int) ∧ 97 ≤ ((Al.follows n t p).toNat : Int) ∧ ((Al.follows n t p).toNat : Int) ≤ 122 := by
  rcases Al.follows_cases n t p with h | h | h | h <;> rw [h] <;> decide

theorem Pa.ne_int {a b : UInt8} (h : a ≠ b) : ((a.toNat : Int) == (b.toNat : Int)) = false := by
  rw [beq_eq_false_iff_ne]
  intro e
  exact h (UInt8.toNat_inj.1 (by omega))

set_option maxRecDepth 100000 in
set_option maxHeartbeats 800000 in
theorem pcall_any (c : UInt8) (t : ByteArray) (p : Nat) (n : Int) (w : World) (hn : Lt.strandB n = true) (ht : t.size ≤ 140737488355327) (hp : p < t.size) (hL : Lt.allL t.data.toList = true) :
    Calls Try.prog 49 #[.int .u8 (c.toNat : Int), .string t, .int .i64 (p : Int), .int .i64 n] w fun e w' => e = .returned (.int .u8 ((Al.call n c t.data.toList p).toNat : Int)) ∧ w' = w := by
  have hsz : t.data.toList.length = t.size := by simp
  have hat : t.data.toList[p]? = some t[p] := by rw [List.getElem?_eq_getElem (by simpa using hp)]; rfl
  obtain ⟨R, hR⟩ : ∃ R, R = Al.call n c t.data.toList p := ⟨_, rfl⟩
  rw [← hR]
  unfold Al.call at hR
  rw [hat] at hR
  have hi := ix_str t p hp (p : Int) rfl
  have hp' : (p : Int) < (t.size : Int) := by omega
  obtain ⟨Fo, hFo⟩ : ∃ x, x = Al.follows n t.data.toList p := ⟨_, rfl⟩
  have hup := Pa.up n t.data.toList p
  have hkf := Pa.kind_follows (n := n) hL (by rw [hsz]; exact hp : p < t.data.toList.length)
  rw [← hFo] at hR hup hkf
  obtain ⟨A, hA⟩ : ∃ A, A = Pa.one n t.data.toList p := ⟨_, rfl⟩
  obtain ⟨B, hB⟩ : ∃ B, B = Pa.two n t.data.toList p := ⟨_, rfl⟩
  have HFC : Hid (∀ W : World, Calls Try.prog 51 #[.string t, .int .i64 (p : Int), .int .i64 n] W fun e w' => e = .returned (.tuple #[.int .u8 (A.toNat : Int), .int .u8 (B.toNat : Int)]) ∧ w' = W) := fun W => by rw [hA, hB]; exact following_any t p n W ht hp
  rw [← hA, ← hB] at hkf
  have HKC : Hid (∀ W : World, Calls Try.prog 50 #[.int .u8 (A.toNat : Int), .int .u8 (B.toNat : Int)] W fun e w' => e = .returned (.int .u8 (Fo.toNat : Int)) ∧ w' = W) := fun W => by rw [← hkf]; exact kind_any A B W
  obtain ⟨ba, hba⟩ : ∃ x, x = Al.bare n := ⟨_, rfl⟩
  obtain ⟨go, hgo⟩ : ∃ x, x = Al.gone n := ⟨_, rfl⟩
  have HTC : Hid (∀ W : World, Calls Try.prog 26 #[.int .i64 n] W fun e w' => e = .returned (.tuple #[.int .u8 (ba.toNat : Int), .int .u8 (go.toNat : Int)]) ∧ w' = W) := fun W => by
    rw [hba, hgo, ← (Pa.frm_bare hn).1, ← (Pa.frm_bare hn).2]; exact turned_any n W
  rw [← hba, ← hgo] at hR
  clear hFo hat hkf hA hB hba hgo hL hn
  by_cases h1 : t[p] = ba
  · have h1' : (t[p].toNat : Int) = (ba.toNat : Int) := by rw [h1]
    rw [if_neg (by rw [h1]; simp)] at hR
    by_cases h2 : c = ba
    · have h2' : ((c.toNat : Int) == (ba.toNat : Int)) = true := by rw [h2, beq_self_eq_true]
      have HR : Hid (((R.toNat : Nat) : Int) = (Fo.toNat : Int) - 97 + 65) := by show _ = _; rw [hR, if_pos h2]; exact hup.1.symm
      have hu1 := hup.2.1
      have hu2 := hup.2.2
      clear hR h1 h2 hup
      go_enter Try.func49, Try.ntmps49
      go_wp2_with (first
        | (go_at_call 26; refine (HTC.out _).mono ?_; rintro e w' ⟨rfl, hw⟩; subst w')
        | (go_at_call 51; refine (HFC.out _).mono ?_; rintro e w' ⟨rfl, hw⟩; subst w')
        | (go_at_call 50; refine (HKC.out _).mono ?_; rintro e w' ⟨rfl, hw⟩; subst w'))
      go_ret
      exact ⟨ret_int (by have h5 := HR.out; omega), rfl⟩
    · have h2' := Pa.ne_int h2
      rw [if_neg h2] at hR
      by_cases h3 : c = go
      · have h3' : ((c.toNat : Int) == (go.toNat : Int)) = true := by rw [h3, beq_self_eq_true]
        have HR : Hid (R = Fo) := by show _ = _; rw [hR, if_pos h3]
        clear hR h1 h2 h3 hup
        go_enter Try.func49, Try.ntmps49
        go_wp2_with (first
          | (go_at_call 26; refine (HTC.out _).mono ?_; rintro e w' ⟨rfl, hw⟩; subst w')
          | (go_at_call 51; refine (HFC.out _).mono ?_; rintro e w' ⟨rfl, hw⟩; subst w')
          | (go_at_call 50; refine (HKC.out _).mono ?_; rintro e w' ⟨rfl, hw⟩; subst w'))
        go_ret
        exact ⟨ret_int (by rw [HR.out]), rfl⟩
      · have h3' := Pa.ne_int h3
        have HR : Hid (R = 46) := by show _ = _; rw [hR, if_neg h3]
        clear hR h1 h2 h3 hup
        go_enter Try.func49, Try.ntmps49
        go_wp2_with (go_at_call 26; refine (HTC.out _).mono ?_; rintro e w' ⟨rfl, hw⟩; subst w')
        go_ret
        exact ⟨ret_int (by rw [HR.out]; rfl), rfl⟩
  · have h1' : ((t[p].toNat : Int) != (ba.toNat : Int)) = true := by rw [bne, Pa.ne_int h1]; rfl
    have HR : Hid (R = 46) := by show _ = _; rw [hR, if_pos (by intro h; exact h1 (Option.some.inj h))]
    clear hR h1 hup
    go_enter Try.func49, Try.ntmps49
    go_wp2_with (go_at_call 26; refine (HTC.out _).mono ?_; rintro e w' ⟨rfl, hw⟩; subst w')
    go_ret
    exact ⟨ret_int (by rw [HR.out]; rfl), rfl⟩

end Go.Proofs.Ytjebhbopmfcopaa
