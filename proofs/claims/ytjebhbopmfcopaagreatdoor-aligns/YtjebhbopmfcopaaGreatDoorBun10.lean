/-
  THE DOCUMENT'S RECORDS: right, and the line of one. Own text of the verifier.
  PLAIN MATHEMATICS of Align: candidates in their order, the best so far. Own text of the verifier.
  THE PROGRAM'S Align, its small walks: what follows a place, the letter of a call. Own text of the verifier.
  THE PROGRAM'S Align: the call of a position, the calls, the mismatches. Own text of the verifier.
  THE PROGRAM'S Align: mismatches, letters along the reference, places that lie in the contigs, the calls. Own text of the verifier.
  THE PROGRAM'S Align: letters along the reference, places that lie in the contigs, the calls. Own text of the verifier.
  THE DOCUMENT'S RECORDS: the line of one that is right. Own text of the verifier.
-/
import Derived.Test.YtjebhbopmfcopaaGreatDoorBun9
import Derived.Test.YtjebhbopmfcopaaGreatDoorBun3
import Derived.Laws.StructEq
import Derived.Deep.RegionWith
import Derived.Test.YtjebhbopmfcopaaGreatDoorBun2
import Derived.Test.YtjebhbopmfcopaaGreatDoorBun5
import Derived.Test.YtjebhbopmfcopaaGreatDoorBun8
import Derived.BigQuiet
import Derived.Test.YtjebhbopmfcopaaGreatDoorBun1
import Derived.Test.YtjebhbopmfcopaaGreatDoorBun4
import Derived.Test.YtjebhbopmfcopaaGreatDoorBun6
import Derived.Test.YtjebhbopmfcopaaGreatDoorBun7
namespace Go.Proofs.YtjebhbopmfcopaaGreatDoor
open Go.RowKit

/-- a record -/
structure Rc where
  nm : List UInt8
  vd : Int
  sd : Int
  ct : List UInt8
  pl : Int
  mm : Int
  lt : List UInt8
  cl : List UInt8

def Rc.vals (r : Rc) : Array Value := #[.string ⟨r.nm.toArray⟩, .int .i64 r.vd, .int .i64 r.sd, .string ⟨r.ct.toArray⟩, .int .i64 r.pl, .int .i64 r.mm, .string ⟨r.lt.toArray⟩, .string ⟨r.cl.toArray⟩]

/-- all but the name and the verdict are zero -/
def Rc.bare (r : Rc) : Bool := r.sd == 0 && (r.ct.isEmpty && (r.pl == 0 && (r.mm == 0 && (r.lt.isEmpty && r.cl.isEmpty))))

theorem eq_bare (n c l k : List UInt8) (v s p m : Int) (w : World) :
    (Op.equalIn 10000 52 (.agg #[.string ⟨n.toArray⟩, .int .i64 v, .int .i64 s, .string ⟨c.toArray⟩, .int .i64 p, .int .i64 m, .string ⟨l.toArray⟩, .string ⟨k.toArray⟩]) (.agg #[.string ⟨n.toArray⟩, .int .i64 v, .int .i64 0, .string ⟨#[]⟩, .int .i64 0, .int .i64 0, .string ⟨#[]⟩, .string ⟨#[]⟩])).run Tryz.prog w = .ok (s == 0 && (c.isEmpty && (p == 0 && (m == 0 && (l.isEmpty && k.isEmpty))))) w := by
  simp [go_sem, Tryz.underlying52, Tryz.underlying9, Tryz.underlying3]
  repeat' split
  all_goals simp_all

theorem eql_bare (n c l k : List UInt8) (v s p m : Int) (w : World) :
    (binOp .eql 52 (.agg #[.string ⟨n.toArray⟩, .int .i64 v, .int .i64 s, .string ⟨c.toArray⟩, .int .i64 p, .int .i64 m, .string ⟨l.toArray⟩, .string ⟨k.toArray⟩]) (.agg #[.string ⟨n.toArray⟩, .int .i64 v, .int .i64 0, .string ⟨#[]⟩, .int .i64 0, .int .i64 0, .string ⟨#[]⟩, .string ⟨#[]⟩])).run Tryz.prog w = .ok (.bool (s == 0 && (c.isEmpty && (p == 0 && (m == 0 && (l.isEmpty && k.isEmpty)))))) w := by
  rw [run_eql_struct, eq_bare]; rfl

/-- an aligned record's other fields -/
def Rc.full (r : Rc) : Bool := Lt.strandB r.sd && (Ln.name r.ct && (Lt.allL r.lt && (Ln.calls r.cl && (decide (0 ≤ r.pl) && (decide (r.pl ≤ 4096) && (decide (1 ≤ (r.lt.length : Int)) && (decide ((r.lt.length : Int) ≤ 128) && (decide (0 ≤ r.mm) && (decide (r.mm ≤ (r.lt.length : Int)) && ((r.cl.length : Int) == (r.lt.length : Int)))))))))))
/-- a record that is right -/
def Rc.right (r : Rc) : Bool := if Ln.name r.nm = false then false else if r.vd < 0 then false else if 2 < r.vd then false else if r.vd = 1 then r.full else r.bare

/-- its texts are of a size that can be -/
structure Rc.Small (r : Rc) : Prop where
  nm : r.nm.length ≤ 140737488355327
  ct : r.ct.length ≤ 140737488355327
  lt : r.lt.length ≤ 140737488355327
  cl : r.cl.length ≤ 140737488355327

theorem str_size (l : List UInt8) : (⟨l.toArray⟩ : ByteArray).size = l.length := by simp [ByteArray.size]
theorem str_small {l : List UInt8} (h : l.length ≤ 140737488355327) : (⟨l.toArray⟩ : ByteArray).size ≤ maxLen := by rw [str_size]; unfold maxLen; omega

set_option maxRecDepth 100000 in
set_option maxHeartbeats 1600000 in
theorem right_any (r : Rc) (w : World) (hr : r.Small) :
    Calls Tryz.prog 159 #[.agg r.vals] w fun e w' => e = .returned (.bool r.right) ∧ Below w.heap.size w w' := by
  obtain ⟨n, v, s, c, p, m, l, k⟩ := r
  obtain ⟨h1, h2, h3, h4⟩ := hr
  have z1 := str_small h1
  have z2 := str_small h2
  have z3 := str_small h3
  have z4 := str_small h4
  obtain ⟨R, hR⟩ : ∃ R, R = Rc.right ⟨n, v, s, c, p, m, l, k⟩ := ⟨_, rfl⟩
  rw [← hR]
  have HB : Hid (∀ o, Below w.heap.size w (w.alloc o)) := fun o => (Below.refl _ _).alloc (Nat.le_refl _) o
  unfold Rc.vals
  have heq := eql_bare
  dsimp only at h1 h2 h3 h4 z1 z2 z3 z4 ⊢
  cases hn : Ln.name n with
  | false =>
    have HR : Hid (R = false) := by show _ = _; rw [hR]; simp [Rc.right, hn]
    have HN : Hid _ := hn
    clear hR hn heq
    go_enter Tryz.func159, Tryz.ntmps159
    go_wp2_with (go_at_call 194; refine (refName_any _ _ z1).mono ?_; rintro e w' ⟨rfl, hw⟩; subst w'; rw [HN.out])
    go_ret
    exact ⟨ret_bool HR.out.symm, HB.out _⟩
  | true =>
    have HN : Hid _ := hn
    by_cases hv0 : v < 0
    · have HR : Hid (R = false) := by show _ = _; rw [hR]; simp [Rc.right, hn, hv0]
      clear hR hn heq
      go_enter Tryz.func159, Tryz.ntmps159
      go_wp2_with (go_at_call 194; refine (refName_any _ _ z1).mono ?_; rintro e w' ⟨rfl, hw⟩; subst w'; rw [HN.out])
      go_ret
      exact ⟨ret_bool HR.out.symm, HB.out _⟩
    · by_cases hv2 : 2 < v
      · have HR : Hid (R = false) := by show _ = _; rw [hR]; simp [Rc.right, hn, hv0, hv2]
        clear hR hn heq
        go_enter Tryz.func159, Tryz.ntmps159
        go_wp2_with (go_at_call 194; refine (refName_any _ _ z1).mono ?_; rintro e w' ⟨rfl, hw⟩; subst w'; rw [HN.out])
        go_ret
        exact ⟨ret_bool HR.out.symm, HB.out _⟩
      · by_cases hv1 : v = 1
        · have HR : Hid (R = Rc.full ⟨n, v, s, c, p, m, l, k⟩) := by show _ = _; rw [hR]; simp [Rc.right, hn, hv1]
          subst hv1
          clear hR hn heq
          go_enter Tryz.func159, Tryz.ntmps159
          go_wp2_with (first
            | (go_at_call_of 194 (Value.string ⟨n.toArray⟩); refine (refName_any _ _ z1).mono ?_; rintro e w' ⟨rfl, hw⟩; subst w'; rw [HN.out])
            | (go_at_call 194; refine (refName_any _ _ z2).mono ?_; rintro e w' ⟨rfl, hw⟩; subst w')
            | (go_at_call 103; refine (strand_any _ _).mono ?_; rintro e w' ⟨rfl, hw⟩; subst w')
            | (go_at_call 100; refine (plain_any _ _ z3).mono ?_; rintro e w' ⟨rfl, hw⟩; subst w')
            | (go_at_call 195; refine (refCalls_any _ _ z4).mono ?_; rintro e w' ⟨rfl, hw⟩; subst w'))
          all_goals
            go_ret
            refine ⟨ret_bool ?_, HB.out _⟩
            rw [HR.out]
            simp only [Rc.full]
            simp [*]
            try omega
        · have HR : Hid (R = (s == 0 && (c.isEmpty && (p == 0 && (m == 0 && (l.isEmpty && k.isEmpty)))))) := by show _ = _; rw [hR]; simp [Rc.right, hn, hv0, hv2, hv1, Rc.bare]
          have hv1' : (v != 1) = true := by rw [bne_iff_ne]; exact hv1
          clear hR hn
          go_enter Tryz.func159, Tryz.ntmps159
          go_wp2_with (go_at_call 194; refine (refName_any _ _ z1).mono ?_; rintro e w' ⟨rfl, hw⟩; subst w'; rw [HN.out])
          go_ret
          exact ⟨ret_bool HR.out.symm, HB.out _⟩

end Go.Proofs.YtjebhbopmfcopaaGreatDoor

namespace Go.Proofs.YtjebhbopmfcopaaGreatDoor
open Go.RowKit

/-- the record so far, and the least mismatches (-1: there was no candidate) -/
structure Al.St where
  best : Rc
  least : Int

/-- the calls of the first m positions -/
def Al.calls (n : Int) (s t : List UInt8) (p m : Nat) : List UInt8 := (List.range m).map (fun k => Al.call n (s.getD k 0) t (p + k))
theorem Al.calls_length (n : Int) (s t : List UInt8) (p m : Nat) : (Al.calls n s t p m).length = m := by simp [Al.calls]
theorem Al.calls_succ (n : Int) (s t : List UInt8) (p m : Nat) : Al.calls n s t p (m + 1) = Al.calls n s t p m ++ [Al.call n (s.getD m 0) t (p + m)] := by
  rw [Al.calls, Al.calls, List.range_succ, List.map_append]
  rfl

/-- one candidate more -/
def Al.step (nm : List UInt8) (n : Int) (s : List UInt8) (cs : List Pr) (st : Al.St) (q : Nat × Nat) : Al.St :=
  match cs[q.1]? with
  | none => st
  | some x =>
    if 0 ≤ st.least ∧ st.least < (Al.mis n s (x.2.drop q.2) : Int) then st
    else if (Al.mis n s (x.2.drop q.2) : Int) = st.least then ⟨⟨nm, 2, 0, [], 0, 0, [], []⟩, st.least⟩
    else ⟨⟨nm, 1, n, x.1, (q.2 : Int), (Al.mis n s (x.2.drop q.2) : Int), s, Al.calls n s x.2 q.2 s.length⟩, (Al.mis n s (x.2.drop q.2) : Int)⟩
/-- all candidates of a strand -/
def Al.strand (nm : List UInt8) (r : List UInt8) (b : Int) (cs : List Pr) (st : Al.St) (n : Int) : Al.St := (Se.inAll n b (Al.along r n) cs cs.length).foldl (Al.step nm n (Al.along r n) cs) st
/-- the strands from 1 to k -/
def Al.upto (nm : List UInt8) (r : List UInt8) (b : Int) (cs : List Pr) : Nat → Al.St
  | 0 => ⟨⟨nm, 0, 0, [], 0, 0, [], []⟩, -1⟩
  | k + 1 => Al.strand nm r b cs (Al.upto nm r b cs k) ((k + 1 : Nat) : Int)
/-- Align's error, and its record -/
def Al.err (b : Int) (r : List UInt8) : Int := if b < 0 then 1 else if 3 < b then 1 else Se.lettersErr r
def Al.align (nm r : List UInt8) (b : Int) (cs : List Pr) : Rc := if Al.err b r = 0 then (Al.upto nm r b cs 4).best else ⟨[], 0, 0, [], 0, 0, [], []⟩

theorem Al.along_length (r : List UInt8) (n : Int) : (Al.along r n).length = r.length := by
  unfold Al.along
  split
  · exact Lt.rev_length r
  · rfl

/-- what is so of a place that Find tells -/
theorem Se.inAll_mem (n b : Int) (s : List UInt8) (cs : List Pr) : ∀ (k : Nat) (q : Nat × Nat), q ∈ Se.inAll n b s cs k → q.1 < k ∧ ∃ x, cs[q.1]? = some x ∧ q.2 + s.length ≤ x.2.length ∧ (Se.three n s (x.2.drop q.2) : Int) ≤ b := by
  intro k
  induction k with
  | zero => intro q h; simp [Se.inAll] at h
  | succ k ih =>
    intro q h
    rw [Se.inAll, List.mem_append] at h
    rcases h with h | h
    · obtain ⟨h1, h2⟩ := ih q h
      exact ⟨by omega, h2⟩
    · split at h
      · next x hx =>
        rw [Se.inOne, Se.upto, List.mem_map] at h
        obtain ⟨p, hp, rfl⟩ := h
        rw [List.mem_filter, List.mem_range] at hp
        refine ⟨by simp, x, hx, ?_, ?_⟩
        · have := hp.1; simp only; omega
        · have := hp.2
          rw [Se.stands] at this
          exact of_decide_eq_true this
      · simp at h

end Go.Proofs.YtjebhbopmfcopaaGreatDoor

namespace Go.Proofs.YtjebhbopmfcopaaGreatDoor
open Go.RowKit

/-- the letter at a place; N where there is none -/
def Pa.at (t : List UInt8) (p : Int) : UInt8 := if p < 0 then 78 else if (t.length : Int) ≤ p then 78 else t.getD p.toNat 0
/-- the two letters that follow -/
def Pa.one (n : Int) (t : List UInt8) (p : Nat) : UInt8 := if Lt.topB n then Pa.at t ((p : Int) + 1) else Lt.comp (Pa.at t ((p : Int) - 1))
def Pa.two (n : Int) (t : List UInt8) (p : Nat) : UInt8 := if Lt.topB n then Pa.at t ((p : Int) + 2) else Lt.comp (Pa.at t ((p : Int) - 2))
/-- the kind -/
def Pa.kind (a b : UInt8) : UInt8 := if ((a.toNat : Int) == 71) = true then 122 else if ((a.toNat : Int) == 78) = true then 117 else if ((b.toNat : Int) == 71) = true then 120 else if ((b.toNat : Int) == 78) = true then 117 else 104

set_option maxHeartbeats 400000 in
theorem letterAt_any (t : ByteArray) (p : Int) (w : World) :
    Calls Tryz.prog 220 #[.string t, .int .i64 p] w fun e w' => e = .returned (.int .u8 ((Pa.at t.data.toList p).toNat : Int)) ∧ w' = w := by
  obtain ⟨R, hR⟩ : ∃ R, R = Pa.at t.data.toList p := ⟨_, rfl⟩
  rw [← hR]
  unfold Pa.at at hR
  have hsz : t.data.toList.length = t.size := by simp
  rw [hsz] at hR
  by_cases h0 : p < 0
  · have HR : Hid (R = 78) := by show _ = _; rw [hR, if_pos h0]
    clear hR
    go_enter Tryz.func220, Tryz.ntmps220
    go_wp2
    go_ret
    exact ⟨ret_int (by rw [HR.out]; rfl), rfl⟩
  · by_cases h1 : (t.size : Int) ≤ p
    · have HR : Hid (R = 78) := by show _ = _; rw [hR, if_neg h0, if_pos h1]
      clear hR
      go_enter Tryz.func220, Tryz.ntmps220
      go_wp2
      go_ret
      exact ⟨ret_int (by rw [HR.out]; rfl), rfl⟩
    · obtain ⟨k, rfl⟩ : ∃ k : Nat, p = (k : Int) := ⟨p.toNat, by omega⟩
      have hk : k < t.size := by omega
      have hi := ix_str t k hk (k : Int) rfl
      have h2 : (k : Int) < (t.size : Int) := by omega
      have HR : Hid (R = t[k]) := by
        show _ = _
        rw [hR, if_neg h0, if_neg h1, Int.toNat_natCast, List.getD_eq_getElem?_getD, List.getElem?_eq_getElem (by rw [hsz]; exact hk)]
        rfl
      clear hR
      go_enter Tryz.func220, Tryz.ntmps220
      go_wp2
      go_ret
      exact ⟨ret_int (by rw [HR.out]), rfl⟩

set_option maxHeartbeats 400000 in
theorem kind_any (a b : UInt8) (w : World) :
    Calls Tryz.prog 191 #[.int .u8 (a.toNat : Int), .int .u8 (b.toNat : Int)] w fun e w' => e = .returned (.int .u8 ((Pa.kind a b).toNat : Int)) ∧ w' = w := by
  go_enter Tryz.func191, Tryz.ntmps191
  go_wp2
  all_goals go_ret
  all_goals exact ⟨ret_int (by unfold Pa.kind; simp only [*, if_true, if_false, Bool.false_eq_true]; rfl), rfl⟩

set_option maxRecDepth 100000 in
set_option maxHeartbeats 400000 in
theorem following_any (t : ByteArray) (p : Nat) (n : Int) (w : World) (ht : t.size ≤ 140737488355327) (hp : p < t.size) :
    Calls Tryz.prog 192 #[.string t, .int .i64 (p : Int), .int .i64 n] w fun e w' => e = .returned (.tuple #[.int .u8 ((Pa.one n t.data.toList p).toNat : Int), .int .u8 ((Pa.two n t.data.toList p).toNat : Int)]) ∧ w' = w := by
  obtain ⟨A, hA⟩ : ∃ A, A = Pa.one n t.data.toList p := ⟨_, rfl⟩
  obtain ⟨B, hB⟩ : ∃ B, B = Pa.two n t.data.toList p := ⟨_, rfl⟩
  rw [← hA, ← hB]
  unfold Pa.one at hA
  unfold Pa.two at hB
  cases hT : Lt.topB n with
  | true =>
    have HT : Hid _ := hT
    rw [hT, if_pos rfl] at hA hB
    have H1 : Hid (∀ W : World, Calls Tryz.prog 220 #[.string t, .int .i64 ((p : Int) + 1)] W fun e w' => e = .returned (.int .u8 (A.toNat : Int)) ∧ w' = W) := fun W => by rw [hA]; exact letterAt_any t _ W
    have H2 : Hid (∀ W : World, Calls Tryz.prog 220 #[.string t, .int .i64 ((p : Int) + 2)] W fun e w' => e = .returned (.int .u8 (B.toNat : Int)) ∧ w' = W) := fun W => by rw [hB]; exact letterAt_any t _ W
    clear hA hB hT
    go_enter Tryz.func192, Tryz.ntmps192
    go_wp2_with (go_at_call 157; refine (strTop_any _ _).mono ?_; rintro e w' ⟨rfl, hw⟩; subst w'; rw [HT.out])
    refine (H1.out _).mono ?_
    rintro e w' ⟨rfl, hw⟩
    subst w'
    go_wp2_with fail
    refine (H2.out _).mono ?_
    rintro e w' ⟨rfl, hw⟩
    subst w'
    go_wp2
    go_ret2
    exact ⟨rfl, rfl⟩
  | false =>
    have HT : Hid _ := hT
    rw [hT, if_neg (by simp)] at hA hB
    obtain ⟨a, ha⟩ : ∃ a, a = Pa.at t.data.toList ((p : Int) - 1) := ⟨_, rfl⟩
    obtain ⟨b, hb⟩ : ∃ b, b = Pa.at t.data.toList ((p : Int) - 2) := ⟨_, rfl⟩
    have H1 : Hid (∀ W : World, Calls Tryz.prog 220 #[.string t, .int .i64 ((p : Int) - 1)] W fun e w' => e = .returned (.int .u8 (a.toNat : Int)) ∧ w' = W) := fun W => by rw [ha]; exact letterAt_any t _ W
    have H2 : Hid (∀ W : World, Calls Tryz.prog 220 #[.string t, .int .i64 ((p : Int) - 2)] W fun e w' => e = .returned (.int .u8 (b.toNat : Int)) ∧ w' = W) := fun W => by rw [hb]; exact letterAt_any t _ W
    rw [← ha] at hA
    rw [← hb] at hB
    have HC1 : Hid (∀ W : World, Calls Tryz.prog 99 #[.int .u8 (a.toNat : Int)] W fun e w' => e = .returned (.int .u8 (A.toNat : Int)) ∧ w' = W) := fun W => by rw [hA]; exact complement_any a W
    have HC2 : Hid (∀ W : World, Calls Tryz.prog 99 #[.int .u8 (b.toNat : Int)] W fun e w' => e = .returned (.int .u8 (B.toNat : Int)) ∧ w' = W) := fun W => by rw [hB]; exact complement_any b W
    clear hA hB hT ha hb
    obtain ⟨x, hx⟩ : ∃ x : Int, x = (a.toNat : Int) := ⟨_, rfl⟩
    obtain ⟨y, hy⟩ : ∃ y : Int, y = (b.toNat : Int) := ⟨_, rfl⟩
    rw [← hx] at H1 HC1
    rw [← hy] at H2 HC2
    clear hx hy
    go_enter Tryz.func192, Tryz.ntmps192
    go_wp2_with (go_at_call 157; refine (strTop_any _ _).mono ?_; rintro e w' ⟨rfl, hw⟩; subst w'; rw [HT.out])
    refine (H1.out _).mono ?_
    rintro e w' ⟨rfl, hw⟩
    subst w'
    go_wp2_with fail
    refine (HC1.out _).mono ?_
    rintro e w' ⟨rfl, hw⟩
    subst w'
    go_wp2_with fail
    refine (H2.out _).mono ?_
    rintro e w' ⟨rfl, hw⟩
    subst w'
    go_wp2_with fail
    refine (HC2.out _).mono ?_
    rintro e w' ⟨rfl, hw⟩
    subst w'
    go_wp2
    go_ret2
    exact ⟨rfl, rfl⟩

end Go.Proofs.YtjebhbopmfcopaaGreatDoor

namespace Go.Proofs.YtjebhbopmfcopaaGreatDoor
open Go.RowKit

theorem Pa.isL_cases {c : UInt8} (h : Lt.isL c = true) : c = 65 ∨ c = 67 ∨ c = 71 ∨ c = 84 ∨ c = 78 := by
  simp only [Lt.isL, Bool.or_eq_true, beq_iff_eq] at h
  rcases h with (((h | h) | h) | h) | h <;> simp [h]

/-- how the letter that the program sees stands to that of the document: N where there is none -/
def Pa.Sees (a b : UInt8) : Prop := (a = 78 ∧ (b = 0 ∨ b = 78)) ∨ (a = b ∧ (b = 65 ∨ b = 67 ∨ b = 71 ∨ b = 84))

theorem Pa.sees_letter {c : UInt8} (h : Lt.isL c = true) : Pa.Sees c c := by
  rcases Pa.isL_cases h with h | h | h | h | h <;> subst h <;> simp [Pa.Sees]

theorem Pa.allL_at {t : List UInt8} (h : Lt.allL t = true) {k : Nat} (hk : k < t.length) : Lt.isL t[k] = true := by
  simp only [Lt.allL, List.all_eq_true] at h
  exact h _ (List.getElem_mem _)

theorem Pa.at_in {t : List UInt8} {k : Nat} (hk : k < t.length) : Pa.at t (k : Int) = t[k] := by
  unfold Pa.at
  rw [if_neg (by omega), if_neg (by omega), Int.toNat_natCast, List.getD_eq_getElem?_getD, List.getElem?_eq_getElem hk]
  rfl

theorem Pa.sees_next {n : Int} {t : List UInt8} {p j : Nat} (hL : Lt.allL t = true) (hp : p < t.length) (hj : 1 ≤ j) :
    Pa.Sees (if Lt.topB n then Pa.at t ((p : Int) + j) else Lt.comp (Pa.at t ((p : Int) - j))) (Al.next n t p j) := by
  unfold Al.next
  cases hT : Lt.topB n with
  | true =>
    rw [if_pos rfl, if_pos rfl]
    by_cases h : p + j < t.length
    · rw [List.getElem?_eq_getElem h, show ((p : Int) + (j : Int)) = ((p + j : Nat) : Int) by omega, Pa.at_in h]
      exact Pa.sees_letter (Pa.allL_at hL h)
    · rw [List.getElem?_eq_none (by omega)]
      refine .inl ⟨?_, .inl rfl⟩
      unfold Pa.at
      rw [if_neg (by omega), if_pos (by omega)]
  | false =>
    rw [if_neg (by simp), if_neg (by simp)]
    by_cases h : p < j
    · rw [if_pos h]
      refine .inl ⟨?_, .inl rfl⟩
      unfold Pa.at
      rw [if_pos (by omega)]
      rfl
    · have h2 : p - j < t.length := by omega
      rw [if_neg h, List.getElem?_eq_getElem h2, show ((p : Int) - (j : Int)) = ((p - j : Nat) : Int) by omega, Pa.at_in h2]
      exact Pa.sees_letter (Lt.comp_isL (Pa.allL_at hL h2))

theorem Pa.kind_follows {n : Int} {t : List UInt8} {p : Nat} (hL : Lt.allL t = true) (hp : p < t.length) : Pa.kind (Pa.one n t p) (Pa.two n t p) = Al.follows n t p := by
  have h1 : Pa.Sees (Pa.one n t p) (Al.next n t p 1) := Pa.sees_next (j := 1) hL hp (Nat.le_refl 1)
  have h2 : Pa.Sees (Pa.two n t p) (Al.next n t p 2) := Pa.sees_next (j := 2) hL hp (by omega)
  unfold Al.follows
  generalize Pa.one n t p = a at *
  generalize Pa.two n t p = b at *
  generalize Al.next n t p 1 = c at *
  generalize Al.next n t p 2 = d at *
  rcases h1 with ⟨rfl, rfl | rfl⟩ | ⟨rfl, rfl | rfl | rfl | rfl⟩ <;> rcases h2 with ⟨rfl, rfl | rfl⟩ | ⟨rfl, rfl | rfl | rfl | rfl⟩ <;> decide

theorem Pa.frm_bare {n : Int} (h : Lt.strandB n = true) : Lt.frm n = Al.bare n ∧ Lt.tow n = Al.gone n := by
  unfold Al.bare Al.gone
  cases hT : Lt.topB n with
  | true => exact Lt.frm_tow_top hT
  | false => exact Lt.frm_tow_bot hT h

theorem Pa.up (n : Int) (t : List UInt8) (p : Nat) : ((Al.follows n t p).toNat : Int) - 97 + 65 = ((Al.follows n t p - 32).toNat : Int) ∧ 97 ≤ ((Al.follows n t p).toNat : Int) ∧ ((Al.follows n t p).toNat : Int) ≤ 122 := by
  rcases Al.follows_cases n t p with h | h | h | h <;> rw [h] <;> decide

theorem Pa.ne_int {a b : UInt8} (h : a ≠ b) : ((a.toNat : Int) == (b.toNat : Int)) = false := by
  rw [beq_eq_false_iff_ne]
  intro e
  exact h (UInt8.toNat_inj.1 (by omega))

set_option maxRecDepth 100000 in
set_option maxHeartbeats 800000 in
theorem pcall_any (c : UInt8) (t : ByteArray) (p : Nat) (n : Int) (w : World) (hn : Lt.strandB n = true) (ht : t.size ≤ 140737488355327) (hp : p < t.size) (hL : Lt.allL t.data.toList = true) :
    Calls Tryz.prog 151 #[.int .u8 (c.toNat : Int), .string t, .int .i64 (p : Int), .int .i64 n] w fun e w' => e = .returned (.int .u8 ((Al.call n c t.data.toList p).toNat : Int)) ∧ w' = w := by
  have hsz : t.data.toList.length = t.size := by simp
  have hat : t.data.toList[p]? = some t[p] := by rw [List.getElem?_eq_getElem (by simpa using hp)]; rfl
  obtain ⟨R, hR⟩ : ∃ R, R = Al.call n c t.data.toList p := ⟨_, rfl⟩
  rw [← hR]
  unfold Al.call at hR
  rw [hat] at hR
  have hi := ix_str t p hp (p : Int) rfl
  have hp' : (p : Int) < (t.size : Int) := by omega
  obtain ⟨Fo, hFo⟩ : ∃ x, x = Al.follows n t.data.toList p := ⟨_, rfl⟩
  have hup := Pa.up n t.data.toList p
  have hkf := Pa.kind_follows (n := n) hL (by rw [hsz]; exact hp : p < t.data.toList.length)
  rw [← hFo] at hR hup hkf
  obtain ⟨A, hA⟩ : ∃ A, A = Pa.one n t.data.toList p := ⟨_, rfl⟩
  obtain ⟨B, hB⟩ : ∃ B, B = Pa.two n t.data.toList p := ⟨_, rfl⟩
  have HFC : Hid (∀ W : World, Calls Tryz.prog 192 #[.string t, .int .i64 (p : Int), .int .i64 n] W fun e w' => e = .returned (.tuple #[.int .u8 (A.toNat : Int), .int .u8 (B.toNat : Int)]) ∧ w' = W) := fun W => by rw [hA, hB]; exact following_any t p n W ht hp
  rw [← hA, ← hB] at hkf
  have HKC : Hid (∀ W : World, Calls Tryz.prog 191 #[.int .u8 (A.toNat : Int), .int .u8 (B.toNat : Int)] W fun e w' => e = .returned (.int .u8 (Fo.toNat : Int)) ∧ w' = W) := fun W => by rw [← hkf]; exact kind_any A B W
  obtain ⟨ba, hba⟩ : ∃ x, x = Al.bare n := ⟨_, rfl⟩
  obtain ⟨go, hgo⟩ : ∃ x, x = Al.gone n := ⟨_, rfl⟩
  have HTC : Hid (∀ W : World, Calls Tryz.prog 102 #[.int .i64 n] W fun e w' => e = .returned (.tuple #[.int .u8 (ba.toNat : Int), .int .u8 (go.toNat : Int)]) ∧ w' = W) := fun W => by
    rw [hba, hgo, ← (Pa.frm_bare hn).1, ← (Pa.frm_bare hn).2]; exact turned_any n W
  rw [← hba, ← hgo] at hR
  clear hFo hat hkf hA hB hba hgo hL hn
  by_cases h1 : t[p] = ba
  · have h1' : (t[p].toNat : Int) = (ba.toNat : Int) := by rw [h1]
    rw [if_neg (by rw [h1]; simp)] at hR
    by_cases h2 : c = ba
    · have h2' : ((c.toNat : Int) == (ba.toNat : Int)) = true := by rw [h2, beq_self_eq_true]
      have HR : Hid (((R.toNat : Nat) : Int) = (Fo.toNat : Int) - 97 + 65) := by show _ = _; rw [hR, if_pos h2]; exact hup.1.symm
      have hu1 := hup.2.1
      have hu2 := hup.2.2
      clear hR h1 h2 hup
      go_enter Tryz.func151, Tryz.ntmps151
      go_wp2_with (first
        | (go_at_call 102; refine (HTC.out _).mono ?_; rintro e w' ⟨rfl, hw⟩; subst w')
        | (go_at_call 192; refine (HFC.out _).mono ?_; rintro e w' ⟨rfl, hw⟩; subst w')
        | (go_at_call 191; refine (HKC.out _).mono ?_; rintro e w' ⟨rfl, hw⟩; subst w'))
      go_ret
      exact ⟨ret_int (by have h5 := HR.out; omega), rfl⟩
    · have h2' := Pa.ne_int h2
      rw [if_neg h2] at hR
      by_cases h3 : c = go
      · have h3' : ((c.toNat : Int) == (go.toNat : Int)) = true := by rw [h3, beq_self_eq_true]
        have HR : Hid (R = Fo) := by show _ = _; rw [hR, if_pos h3]
        clear hR h1 h2 h3 hup
        go_enter Tryz.func151, Tryz.ntmps151
        go_wp2_with (first
          | (go_at_call 102; refine (HTC.out _).mono ?_; rintro e w' ⟨rfl, hw⟩; subst w')
          | (go_at_call 192; refine (HFC.out _).mono ?_; rintro e w' ⟨rfl, hw⟩; subst w')
          | (go_at_call 191; refine (HKC.out _).mono ?_; rintro e w' ⟨rfl, hw⟩; subst w'))
        go_ret
        exact ⟨ret_int (by rw [HR.out]), rfl⟩
      · have h3' := Pa.ne_int h3
        have HR : Hid (R = 46) := by show _ = _; rw [hR, if_neg h3]
        clear hR h1 h2 h3 hup
        go_enter Tryz.func151, Tryz.ntmps151
        go_wp2_with (go_at_call 102; refine (HTC.out _).mono ?_; rintro e w' ⟨rfl, hw⟩; subst w')
        go_ret
        exact ⟨ret_int (by rw [HR.out]; rfl), rfl⟩
  · have h1' : ((t[p].toNat : Int) != (ba.toNat : Int)) = true := by rw [bne, Pa.ne_int h1]; rfl
    have HR : Hid (R = 46) := by show _ = _; rw [hR, if_pos (by intro h; exact h1 (Option.some.inj h))]
    clear hR h1 hup
    go_enter Tryz.func151, Tryz.ntmps151
    go_wp2_with (go_at_call 102; refine (HTC.out _).mono ?_; rintro e w' ⟨rfl, hw⟩; subst w')
    go_ret
    exact ⟨ret_int (by rw [HR.out]; rfl), rfl⟩

end Go.Proofs.YtjebhbopmfcopaaGreatDoor

namespace Go.Proofs.YtjebhbopmfcopaaGreatDoor
open Go.RowKit

theorem Pa.mm_eq {n : Int} (hn : Lt.strandB n = true) (a b : UInt8) : Al.mm n a b = (!(a == b && a != 78) && !(a == Lt.tow n && b == Lt.frm n)) := by
  unfold Al.mm
  cases hT : Lt.topB n with
  | true => rw [(Lt.frm_tow_top hT).1, (Lt.frm_tow_top hT).2]; cases (b == 67) <;> cases (a == 84) <;> simp
  | false => rw [(Lt.frm_tow_bot hT hn).1, (Lt.frm_tow_bot hT hn).2]; cases (b == 71) <;> cases (a == 65) <;> simp

theorem Pa.mm_int {n : Int} (hn : Lt.strandB n = true) (a b : UInt8) : Al.mm n a b = (!(((a.toNat : Int) == (b.toNat : Int)) && ((a.toNat : Int) != 78)) && !(((a.toNat : Int) == ((Lt.tow n).toNat : Int)) && ((b.toNat : Int) == ((Lt.frm n).toNat : Int)))) := by
  rw [Pa.mm_eq hn, u8_eqI a b, u8_bne a 78, u8_eqI a (Lt.tow n), u8_eqI b (Lt.frm n)]
  rfl

set_option maxRecDepth 100000 in
set_option maxHeartbeats 3200000 in
theorem pmis_any (s t : ByteArray) (n : Int) (w : World) (hn : Lt.strandB n = true) (hs : s.size ≤ 1000000) (ht : s.size ≤ t.size) (htm : t.size ≤ 140737488355327) :
    Calls Tryz.prog 89 #[.string s, .string t, .int .i64 n] w fun e w' => e = .returned (.int .i64 (Al.mis n s.data.toList t.data.toList : Nat)) ∧ ∃ m, w' = w.drewN m := by
  have HMM : Hid _ := fun a b => Pa.mm_int hn a b
  obtain ⟨ba, hba⟩ : ∃ x, x = Lt.frm n := ⟨_, rfl⟩
  obtain ⟨go, hgo⟩ : ∃ x, x = Lt.tow n := ⟨_, rfl⟩
  have HTC : Hid (∀ W : World, Calls Tryz.prog 102 #[.int .i64 n] W fun e w' => e = .returned (.tuple #[.int .u8 (ba.toNat : Int), .int .u8 (go.toNat : Int)]) ∧ w' = W) := fun W => by
    rw [hba, hgo]; exact turned_any n W
  rw [← hba, ← hgo] at HMM
  clear hba hgo hn
  go_enter Tryz.func89, Tryz.ntmps89
  go_wp2_with (go_at_call 102; refine (HTC.out _).mono ?_; rintro e w' ⟨rfl, hw⟩; subst w')
  go_loopw [9, 20] (fun m i wr => ∃ k j : Nat, k ≤ s.size ∧ i = .int .i64 (k : Int) ∧ m = .int .i64 (j : Int) ∧ j ≤ k ∧ Hid (j = Al.mis n (s.data.toList.take k) (t.data.toList.take k)) ∧ Hid (∃ q, wr = w.drewN q)) (fun _ i _ => s.size - (intOf i).toNat)
  case atStart => exact ⟨0, 0, Nat.zero_le _, rfl, rfl, Nat.le_refl _, by simp [Al.mis, Hid], ⟨0, rfl⟩⟩
  case round =>
    obtain ⟨k, j, hk, rfl, rfl, hjk, HJ, HW⟩ := hrel
    by_cases hlt : k < s.size
    · have hlt2 : k < t.size := by omega
      have HT : Hid _ := Al.mis_take n s.data.toList t.data.toList k (by simpa using hlt) (by simpa using hlt2)
      have hi1 := ix_str s k hlt (k : Int) rfl
      have hi2 := ix_str t k hlt2 (k : Int) rfl
      have hlt' : (k : Int) < (s.size : Int) := by omega
      have hlt2' : (k : Int) < (t.size : Int) := by omega
      have HO : Hid _ := HMM.out s[k] t[k]
      cases h1 : ((s[k].toNat : Int) == (t[k].toNat : Int)) <;> cases h2 : ((s[k].toNat : Int) != 78) <;> cases h3 : ((s[k].toNat : Int) == (go.toNat : Int)) <;> cases h4 : ((t[k].toNat : Int) == (ba.toNat : Int))
      all_goals
        have HOF : Hid _ := HO.out
        rw [h1, h2, h3, h4] at HOF
        clear HO
        go_wp2_with fail
        go_quiet (fail)
        go_wp2
        all_goals try (go_quiet (fail); go_wp2)
        all_goals try (go_quiet (fail); go_wp2)
        all_goals
          go_roundw
          case rel =>
            have e1 : Al.mm n s[k] t[k] = _ := HOF.out
            refine ⟨k + 1, j + (if Al.mm n s[k] t[k] then 1 else 0), by omega, by go_num, ?_, ?_, ?_, ?_⟩
            · rw [e1]; simp [*]
            · rw [e1]; split <;> omega
            · show j + _ = _
              rw [HT.out, ← HJ.out]
              rfl
            · obtain ⟨q, rfl⟩ := HW.out
              first | exact ⟨_, by rw [drewN_more]⟩ | exact ⟨_, by rw [drewN_more, drewN_more]⟩ | exact ⟨_, by rw [drewN_more, drewN_more, drewN_more]⟩
          case measure => simp [intOf]; omega
    · have HF : Hid _ := Al.mis_whole n s.data.toList t.data.toList k (by simp; omega)
      have hlt' : ¬ (k : Int) < (s.size : Int) := by omega
      go_wp2
      go_ret
      exact ⟨ret_int (by rw [HJ.out, HF.out]), HW.out⟩

end Go.Proofs.YtjebhbopmfcopaaGreatDoor

namespace Go.Proofs.YtjebhbopmfcopaaGreatDoor
open Go.RowKit

theorem Pa.strand_cases {n : Int} (h : Lt.strandB n = true) : n = 1 ∨ n = 2 ∨ n = 3 ∨ n = 4 := by
  rw [Lt.strandB_int] at h
  simp only [Bool.or_eq_true, beq_iff_eq] at h
  omega

set_option maxHeartbeats 800000 in
theorem palong_any (s : ByteArray) (n : Int) (w : World) (hs : s.size ≤ 140737488355327) (hn : Lt.strandB n = true) (hL : n = 1 ∨ Lt.allL s.data.toList = true) :
    Calls Tryz.prog 85 #[.string s, .int .i64 n] w fun e w' => e = .returned (.string ⟨(Al.along s.data.toList n).toArray⟩) ∧ Below w.heap.size w w' := by
  obtain ⟨R, hR⟩ : ∃ R, R = Al.along s.data.toList n := ⟨_, rfl⟩
  rw [← hR]
  have HC : Hid (Lt.allL s.data.toList = true → ∀ W : World, Calls Tryz.prog 46 #[.string s] W fun e w' => e = .returned (.tuple #[.string ⟨(Lt.rev s.data.toList).toArray⟩, .int .i64 0]) ∧ Below W.heap.size W w') := fun h W => reverse_good s W (by omega) h
  rcases Pa.strand_cases hn with rfl | rfl | rfl | rfl
  · have HR : Hid (R = s.data.toList) := hR
    clear hR hL hn
    go_enter Tryz.func85, Tryz.ntmps85
    go_wp2
    go_ret
    exact ⟨by rw [HR.out]; rfl, Below.refl _ _⟩
  · have HR : Hid (R = Lt.rev s.data.toList) := hR
    have HC2 : Hid _ := HC.out (hL.resolve_left (by decide))
    clear hR hL hn HC
    go_enter Tryz.func85, Tryz.ntmps85
    go_wp2_with (go_at_call 46; refine (HC2.out _).mono ?_; rintro e w1 ⟨rfl, hb1⟩)
    go_ret
    exact ⟨by rw [HR.out]; rfl, hb1⟩
  · have HR : Hid (R = Lt.rev s.data.toList) := hR
    have HC2 : Hid _ := HC.out (hL.resolve_left (by decide))
    clear hR hL hn HC
    go_enter Tryz.func85, Tryz.ntmps85
    go_wp2_with (go_at_call 46; refine (HC2.out _).mono ?_; rintro e w1 ⟨rfl, hb1⟩)
    go_ret
    exact ⟨by rw [HR.out]; rfl, hb1⟩
  · have HR : Hid (R = s.data.toList) := hR
    clear hR hL hn
    go_enter Tryz.func85, Tryz.ntmps85
    go_wp2
    go_ret
    exact ⟨by rw [HR.out]; rfl, Below.refl _ _⟩

set_option maxRecDepth 100000 in
set_option maxHeartbeats 800000 in
theorem plies_yes (N cc : Nat) (ad : Addr) (c p m : Nat) (x : List UInt8) (w : World) (hc : c < N) (hx : p + m ≤ x.length) (hxm : x.length ≤ 100000) (s1 : w.cell? (ad.add (c * 2 + 1)) = some (.string ⟨x.toArray⟩)) :
    Calls Tryz.prog 87 #[.slice (some ad) N cc, .agg #[.int .i64 (c : Int), .int .i64 (p : Int)], .int .i64 (m : Int)] w fun e w' => e = .returned (.bool true) ∧ Below w.heap.size w w' := by
  have hs1 : ∀ o, (w.alloc o).cell? ⟨(ad.add (c * 2)).block, (ad.add (c * 2)).off + 1, none⟩ = some (.string ⟨x.toArray⟩) := fun o => by
    rw [addr_next]
    exact (((Below.refl _ _).alloc (Nat.le_refl _) o).cell (World.block_lt_of_cell? w _ s1)).trans s1
  have HB : Hid (∀ o n, Below w.heap.size w ((w.alloc o).drewN n)) := fun o n => below_drewN ((Below.refl _ _).alloc (Nat.le_refl _) o) n
  have hc' : (c : Int) < (N : Int) := by omega
  have hxs : (⟨x.toArray⟩ : ByteArray).size = x.length := str_size x
  have hx' : (p : Int) + (m : Int) ≤ (x.length : Int) := by omega
  clear s1
  go_enter Tryz.func87, Tryz.ntmps87
  go_wp2_with fail
  go_quiet (fail)
  go_wp2
  go_ret
  exact ⟨ret_bool (by simp), HB.out _ _⟩

theorem Pa.calls_at (n : Int) (s t : List UInt8) (p m k : Nat) (h : k < (Al.calls n s t p m).length) : (Al.calls n s t p m)[k] = Al.call n (s.getD k 0) t (p + k) := by
  simp [Al.calls]

set_option maxRecDepth 100000 in
set_option maxHeartbeats 800000 in
theorem pcalls_any (s t : ByteArray) (p : Nat) (n : Int) (w : World) (hn : Lt.strandB n = true) (hs : s.size ≤ 1000000) (ht : t.size ≤ 1000000) (hp : p + s.size ≤ t.size) (hL : Lt.allL t.data.toList = true) :
    Calls Tryz.prog 91 #[.string s, .string t, .int .i64 (p : Int), .int .i64 n] w fun e w' => e = .returned (.string ⟨(Al.calls n s.data.toList t.data.toList p s.size).toArray⟩) ∧ Below w.heap.size w w' := by
  have HPC : Hid _ := fun (c : UInt8) (k : Nat) (h : k < t.size) (W : World) => pcall_any c t k n W hn (by omega) h hL
  have hsm : s.size ≤ maxLen := by unfold maxLen; omega
  have hssz : s.data.toList.length = s.size := by simp
  obtain ⟨i0, hi, hz0, hz1, hz2⟩ := info_parts Tryz.infoU8
  obtain ⟨CL, hCL⟩ : ∃ CL, CL = Al.calls n s.data.toList t.data.toList p s.size := ⟨_, rfl⟩
  have HR : Hid (CL.length = s.size) := by show _ = _; rw [hCL, Al.calls_length]
  have HAT : Hid (∀ k (h : k < CL.length) (h2 : k < s.size), CL[k] = Al.call n s[k] t.data.toList (p + k)) := fun k h h2 => by
    subst hCL
    rw [Pa.calls_at, List.getD_eq_getElem?_getD, List.getElem?_eq_getElem (by rw [hssz]; exact h2)]
    rfl
  rw [← hCL]
  clear hCL hL hn
  go_enter Tryz.func91, Tryz.ntmps91
  go_wp2_with (at_make; refine wpList_make_full _ rfl _ _ 43 rfl w.heap.size 5 i0 (.int .u8 0) 1 Tryz.underlying43 hi hz0 hz1 _ _ _ _ s.size rfl rfl rfl rfl ?h1 ?h2 ?h3 ?_)
  case h1 => rw [hz2]; omega
  case h2 => exact hsm
  case h3 => exact Nat.le_refl _
  · intro w1 hown0 hgrow
    have hbel0 : Below w.heap.size w w1 := (Below.refl _ _).grown hgrow (Nat.le_refl _) (fun k hk => by cases hk)
    rw [toList_madeCells_one, ← filled_zero CL s.size] at hown0
    clear hgrow
    go_wp2
    go_loopw [16] (fun i wr => ∃ k : Nat, k ≤ s.size ∧ i = .int .i64 k ∧ wr.ownsRow w.heap.size 5 1 (.slice (some ⟨w.heap.size, 0, none⟩) s.size s.size) s.size (filled CL s.size k) ∧ Below w.heap.size w wr)
      (fun i _ => s.size - (intOf i).toNat)
    case atStart => exact ⟨0, Nat.zero_le _, rfl, hown0, hbel0⟩
    case round =>
      clear hown0 hbel0
      obtain ⟨k, hk, rfl, hown, hbel⟩ := hrel
      by_cases hlt : k < s.size
      · obtain ⟨v0, hc0, _⟩ := own_cell hown k hlt
        have hfr := hown.frozenAt k
        have hkc : k < CL.length := by rw [HR.out]; exact hlt
        obtain ⟨cl, hcl⟩ : ∃ cl, cl = CL[k] := ⟨_, rfl⟩
        have hst := hown.stored k (.int .u8 (cl.toNat : Int))
        rw [hcl, filled_set _ _ _ HR.out hlt, ← hcl] at hst
        have hbel1 := hbel.setCell (p := ⟨w.heap.size, k, none⟩) (Nat.le_refl _) (.int .u8 (cl.toNat : Int))
        have hi1 := ix_str s k hlt (k : Int) rfl
        have hlt' : (k : Int) < (s.size : Int) := by omega
        have HCC : Hid (∀ W : World, Calls Tryz.prog 151 #[.int .u8 (s[k].toNat : Int), .string t, .int .i64 ((p : Int) + (k : Int)), .int .i64 n] W fun e w' => e = .returned (.int .u8 (cl.toNat : Int)) ∧ w' = W) := fun W => by
          have h := HPC.out s[k] (p + k) (by omega) W
          rw [← HAT.out k hkc hlt, ← hcl, show ((p + k : Nat) : Int) = (p : Int) + (k : Int) by omega] at h
          exact h
        have HST := hst.1
        clear hst hcl
        have HST : Hid _ := HST
        have HB : Hid _ := hbel1
        clear hbel1 hown hbel
        go_wp2_with (go_at_call 151; refine (HCC.out _).mono ?_; rintro e w' ⟨rfl, hw⟩; subst w')
        go_roundw
        case rel => exact ⟨k + 1, by omega, by go_num, HST.out, HB.out⟩
        case measure => simp [intOf]; omega
      · have hkn : k = s.size := by omega
        subst hkn
        rw [filled_whole _ _ HR.out] at hown
        have hback := back_own hown
        go_wp2
        go_ret
        exact ⟨rfl, hbel⟩

end Go.Proofs.YtjebhbopmfcopaaGreatDoor

namespace Go.Proofs.YtjebhbopmfcopaaGreatDoor
open Go.RowKit

/-- the line of a record -/
def Rc.line (r : Rc) : List UInt8 :=
  if r.vd = 1 then r.nm ++ [9] ++ Ln.verdict r.vd ++ [9] ++ Ln.strand r.sd ++ [9] ++ r.ct ++ [9] ++ Ln.dig 3 r.pl.toNat ++ [9] ++ Ln.dig 3 r.mm.toNat ++ [9] ++ r.lt ++ [9] ++ r.cl ++ [10]
  else r.nm ++ [9] ++ Ln.verdict r.vd ++ [10]

theorem Ln.verdict_length (n : Int) : (Ln.verdict n).length ≤ 9 := by unfold Ln.verdict; split; decide; split <;> decide
theorem Ln.strand_length (n : Int) : (Ln.strand n).length ≤ 4 := by unfold Ln.strand; split; decide; split; decide; split <;> decide

theorem add_hid (x y z : List UInt8) (hz : z = x ++ y) (h : z.length ≤ 9223372036854775807) : ∀ w : World, (Op.stringOp .add ⟨x.toArray⟩ ⟨y.toArray⟩).run Tryz.prog w = .ok (.string ⟨z.toArray⟩) w := fun w => by
  have := add_texts w x y (by rw [hz, List.length_append] at h; omega)
  rw [hz]
  exact this

structure Rc.Short (r : Rc) : Prop where
  nm : r.nm.length ≤ 32
  ct : r.ct.length ≤ 32
  lt : r.lt.length ≤ 128
  cl : r.cl.length ≤ 128
  p0 : 0 ≤ r.pl
  p1 : r.pl ≤ 4096
  m0 : 0 ≤ r.mm
  m1 : r.mm ≤ 128

set_option maxRecDepth 100000 in
set_option maxHeartbeats 800000 in
theorem line_bare (r : Rc) (w : World) (h1 : r.nm.length ≤ 32) (hv : r.vd ≠ 1) :
    Calls Tryz.prog 160 #[.agg r.vals] w fun e w' => e = .returned (.string ⟨r.line.toArray⟩) ∧ Below w.heap.size w w' := by
  obtain ⟨n, v, s, c, p, m, l, k⟩ := r
  unfold Rc.vals Rc.line
  dsimp only at h1 hv ⊢
  rw [if_neg hv]
  obtain ⟨V, hV⟩ : ∃ V, V = Ln.verdict v := ⟨_, rfl⟩
  have hVl : V.length ≤ 9 := by rw [hV]; exact Ln.verdict_length v
  rw [← hV]
  obtain ⟨A1, hA1⟩ : ∃ A1, A1 = n ++ [9] := ⟨_, rfl⟩
  obtain ⟨A2, hA2⟩ : ∃ A2, A2 = A1 ++ V := ⟨_, rfl⟩
  obtain ⟨Z, hZ⟩ : ∃ Z, Z = A2 ++ [10] := ⟨_, rfl⟩
  rw [show n ++ [9] ++ V ++ [10] = Z from by rw [hZ, hA2, hA1]]
  have l1 : A1.length = n.length + 1 := by rw [hA1]; simp
  have l2 : A2.length = A1.length + V.length := by rw [hA2]; simp
  have l3 : Z.length = A2.length + 1 := by rw [hZ]; simp
  have a1 : ∀ w : World, (Op.stringOp .add ⟨n.toArray⟩ ⟨#[9]⟩).run Tryz.prog w = .ok (.string ⟨A1.toArray⟩) w := add_hid n [9] A1 hA1 (by omega)
  have a2 := add_hid A1 V A2 hA2 (by omega)
  have a3 : ∀ w : World, (Op.stringOp .add ⟨A2.toArray⟩ ⟨#[10]⟩).run Tryz.prog w = .ok (.string ⟨Z.toArray⟩) w := add_hid A2 [10] Z hZ (by omega)
  have hv' : (v == 1) = false := by rw [beq_eq_false_iff_ne]; exact hv
  have HVC : Hid (∀ W : World, Calls Tryz.prog 196 #[.int .i64 v] W fun e w' => e = .returned (.string ⟨V.toArray⟩) ∧ w' = W) := fun W => by rw [hV]; exact verdictName_any v W
  have HB : Hid (∀ o n, Below w.heap.size w ((w.alloc o).drewN n)) := fun o n => below_drewN ((Below.refl _ _).alloc (Nat.le_refl _) o) n
  clear hV hA1 hA2 hZ l1 l2 l3 hv
  go_enter Tryz.func160, Tryz.ntmps160
  go_wp2_with fail
  go_quiet (first | (go_at_call 196; refine Calls.quiet_of_same (HVC.out _)))
  go_wp2
  go_ret
  exact ⟨rfl, HB.out _ _⟩

set_option maxRecDepth 100000 in
set_option maxHeartbeats 1600000 in
theorem line_full (r : Rc) (w : World) (hs : r.Short) (hv : r.vd = 1) :
    Calls Tryz.prog 160 #[.agg r.vals] w fun e w' => e = .returned (.string ⟨r.line.toArray⟩) ∧ Below w.heap.size w w' := by
  obtain ⟨n, v, s, c, p, m, l, k⟩ := r
  obtain ⟨s1, s2, s3, s4, p0, p1, m0, m1⟩ := hs
  unfold Rc.vals Rc.line
  dsimp only at s1 s2 s3 s4 p0 p1 m0 m1 hv ⊢
  subst hv
  rw [if_pos rfl]
  obtain ⟨P, rfl⟩ : ∃ P : Nat, p = (P : Int) := ⟨p.toNat, by omega⟩
  obtain ⟨M, rfl⟩ : ∃ M : Nat, m = (M : Int) := ⟨m.toNat, by omega⟩
  rw [show ((P : Int)).toNat = P by omega, show ((M : Int)).toNat = M by omega]
  obtain ⟨V, hV⟩ : ∃ V, V = Ln.verdict 1 := ⟨_, rfl⟩
  obtain ⟨SD, hSD⟩ : ∃ SD, SD = Ln.strand s := ⟨_, rfl⟩
  obtain ⟨D1, hD1⟩ : ∃ D1, D1 = Ln.dig 3 P := ⟨_, rfl⟩
  obtain ⟨D2, hD2⟩ : ∃ D2, D2 = Ln.dig 3 M := ⟨_, rfl⟩
  have lV : V.length ≤ 9 := by rw [hV]; exact Ln.verdict_length 1
  have lS : SD.length ≤ 4 := by rw [hSD]; exact Ln.strand_length s
  have lD1 : D1.length ≤ 4 := by rw [hD1]; exact Ln.dig_length 3 P
  have lD2 : D2.length ≤ 4 := by rw [hD2]; exact Ln.dig_length 3 M
  rw [← hV, ← hSD, ← hD1, ← hD2]
  obtain ⟨A1, hA1⟩ : ∃ x, x = n ++ [9] := ⟨_, rfl⟩
  obtain ⟨A2, hA2⟩ : ∃ x, x = A1 ++ V := ⟨_, rfl⟩
  obtain ⟨B1, hB1⟩ : ∃ x, x = A2 ++ [9] := ⟨_, rfl⟩
  obtain ⟨B2, hB2⟩ : ∃ x, x = B1 ++ SD := ⟨_, rfl⟩
  obtain ⟨B3, hB3⟩ : ∃ x, x = B2 ++ [9] := ⟨_, rfl⟩
  obtain ⟨B4, hB4⟩ : ∃ x, x = B3 ++ c := ⟨_, rfl⟩
  obtain ⟨B5, hB5⟩ : ∃ x, x = B4 ++ [9] := ⟨_, rfl⟩
  obtain ⟨B6, hB6⟩ : ∃ x, x = B5 ++ D1 := ⟨_, rfl⟩
  obtain ⟨B7, hB7⟩ : ∃ x, x = B6 ++ [9] := ⟨_, rfl⟩
  obtain ⟨B8, hB8⟩ : ∃ x, x = B7 ++ D2 := ⟨_, rfl⟩
  obtain ⟨B9, hB9⟩ : ∃ x, x = B8 ++ [9] := ⟨_, rfl⟩
  obtain ⟨B10, hB10⟩ : ∃ x, x = B9 ++ l := ⟨_, rfl⟩
  obtain ⟨B11, hB11⟩ : ∃ x, x = B10 ++ [9] := ⟨_, rfl⟩
  obtain ⟨B12, hB12⟩ : ∃ x, x = B11 ++ k := ⟨_, rfl⟩
  obtain ⟨Z, hZ⟩ : ∃ x, x = B12 ++ [10] := ⟨_, rfl⟩
  rw [show n ++ [9] ++ V ++ [9] ++ SD ++ [9] ++ c ++ [9] ++ D1 ++ [9] ++ D2 ++ [9] ++ l ++ [9] ++ k ++ [10] = Z from by rw [hZ, hB12, hB11, hB10, hB9, hB8, hB7, hB6, hB5, hB4, hB3, hB2, hB1, hA2, hA1]]
  have l1 := congrArg List.length hA1
  have l2 := congrArg List.length hA2
  have l3 := congrArg List.length hB1
  have l4 := congrArg List.length hB2
  have l5 := congrArg List.length hB3
  have l6 := congrArg List.length hB4
  have l7 := congrArg List.length hB5
  have l8 := congrArg List.length hB6
  have l9 := congrArg List.length hB7
  have l10 := congrArg List.length hB8
  have l11 := congrArg List.length hB9
  have l12 := congrArg List.length hB10
  have l13 := congrArg List.length hB11
  have l14 := congrArg List.length hB12
  have l15 := congrArg List.length hZ
  simp only [List.length_append, List.length_cons, List.length_nil] at l1 l2 l3 l4 l5 l6 l7 l8 l9 l10 l11 l12 l13 l14 l15
  have a1 : ∀ w : World, (Op.stringOp .add ⟨n.toArray⟩ ⟨#[9]⟩).run Tryz.prog w = .ok (.string ⟨A1.toArray⟩) w := add_hid n [9] A1 hA1 (by omega)
  have a2 := add_hid A1 V A2 hA2 (by omega)
  have b1 : ∀ w : World, (Op.stringOp .add ⟨A2.toArray⟩ ⟨#[9]⟩).run Tryz.prog w = .ok (.string ⟨B1.toArray⟩) w := add_hid A2 [9] B1 hB1 (by omega)
  have b2 := add_hid B1 SD B2 hB2 (by omega)
  have b3 : ∀ w : World, (Op.stringOp .add ⟨B2.toArray⟩ ⟨#[9]⟩).run Tryz.prog w = .ok (.string ⟨B3.toArray⟩) w := add_hid B2 [9] B3 hB3 (by omega)
  have b4 := add_hid B3 c B4 hB4 (by omega)
  have b5 : ∀ w : World, (Op.stringOp .add ⟨B4.toArray⟩ ⟨#[9]⟩).run Tryz.prog w = .ok (.string ⟨B5.toArray⟩) w := add_hid B4 [9] B5 hB5 (by omega)
  have b6 := add_hid B5 D1 B6 hB6 (by omega)
  have b7 : ∀ w : World, (Op.stringOp .add ⟨B6.toArray⟩ ⟨#[9]⟩).run Tryz.prog w = .ok (.string ⟨B7.toArray⟩) w := add_hid B6 [9] B7 hB7 (by omega)
  have b8 := add_hid B7 D2 B8 hB8 (by omega)
  have b9 : ∀ w : World, (Op.stringOp .add ⟨B8.toArray⟩ ⟨#[9]⟩).run Tryz.prog w = .ok (.string ⟨B9.toArray⟩) w := add_hid B8 [9] B9 hB9 (by omega)
  have b10 := add_hid B9 l B10 hB10 (by omega)
  have b11 : ∀ w : World, (Op.stringOp .add ⟨B10.toArray⟩ ⟨#[9]⟩).run Tryz.prog w = .ok (.string ⟨B11.toArray⟩) w := add_hid B10 [9] B11 hB11 (by omega)
  have b12 := add_hid B11 k B12 hB12 (by omega)
  have b13 : ∀ w : World, (Op.stringOp .add ⟨B12.toArray⟩ ⟨#[10]⟩).run Tryz.prog w = .ok (.string ⟨Z.toArray⟩) w := add_hid B12 [10] Z hZ (by omega)
  have HVC : Hid (∀ W : World, Calls Tryz.prog 196 #[.int .i64 1] W fun e w' => e = .returned (.string ⟨V.toArray⟩) ∧ w' = W) := fun W => by rw [hV]; exact verdictName_any 1 W
  have HSC : Hid (∀ W : World, Calls Tryz.prog 197 #[.int .i64 s] W fun e w' => e = .returned (.string ⟨SD.toArray⟩) ∧ w' = W) := fun W => by rw [hSD]; exact strandName_any s W
  have HD1 : Hid (∀ W : World, Calls Tryz.prog 198 #[.int .i64 (P : Int)] W fun e w' => e = .returned (.string ⟨D1.toArray⟩) ∧ Below W.heap.size W w') := fun W => by rw [hD1]; exact digits_any 3 P W (by omega) (by omega)
  have HD2 : Hid (∀ W : World, Calls Tryz.prog 198 #[.int .i64 (M : Int)] W fun e w' => e = .returned (.string ⟨D2.toArray⟩) ∧ Below W.heap.size W w') := fun W => by rw [hD2]; exact digits_any 3 M W (by omega) (by omega)
  have HK : Hid (∀ w1 W : World, Below W.heap.size W w1 →
      W.cell? ⟨w.heap.size, 2, none⟩ = some (.int .i64 s) ∧ W.cell? ⟨w.heap.size, 3, none⟩ = some (.string ⟨c.toArray⟩) ∧ W.cell? ⟨w.heap.size, 4, none⟩ = some (.int .i64 (P : Int)) ∧ W.cell? ⟨w.heap.size, 5, none⟩ = some (.int .i64 (M : Int)) ∧ W.cell? ⟨w.heap.size, 6, none⟩ = some (.string ⟨l.toArray⟩) ∧ W.cell? ⟨w.heap.size, 7, none⟩ = some (.string ⟨k.toArray⟩) →
      w1.cell? ⟨w.heap.size, 2, none⟩ = some (.int .i64 s) ∧ w1.cell? ⟨w.heap.size, 3, none⟩ = some (.string ⟨c.toArray⟩) ∧ w1.cell? ⟨w.heap.size, 4, none⟩ = some (.int .i64 (P : Int)) ∧ w1.cell? ⟨w.heap.size, 5, none⟩ = some (.int .i64 (M : Int)) ∧ w1.cell? ⟨w.heap.size, 6, none⟩ = some (.string ⟨l.toArray⟩) ∧ w1.cell? ⟨w.heap.size, 7, none⟩ = some (.string ⟨k.toArray⟩)) := fun w1 W hb h => by
    have hlt := World.block_lt_of_cell? W _ h.1
    have e : ∀ i, w1.cell? ⟨w.heap.size, i, none⟩ = W.cell? ⟨w.heap.size, i, none⟩ := fun i => hb.cell (p := ⟨w.heap.size, i, none⟩) hlt
    rw [e, e, e, e, e, e]
    exact h
  have HB : Hid (∀ o n, Below w.heap.size w ((w.alloc o).drewN n)) := fun o n => below_drewN ((Below.refl _ _).alloc (Nat.le_refl _) o) n
  have HB2 : Hid (∀ (W w1 : World), Below w.heap.size w W → Below W.heap.size W w1 → Below w.heap.size w w1) := fun W w1 h1 h2 => h1.trans (h2.mono h1.size)
  clear hV hSD hD1 hD2 hA1 hA2 hB1 hB2 hB3 hB4 hB5 hB6 hB7 hB8 hB9 hB10 hB11 hB12 hZ l1 l2 l3 l4 l5 l6 l7 l8 l9 l10 l11 l12 l13 l14 l15
  go_enter Tryz.func160, Tryz.ntmps160
  go_wp2_with fail
  go_quiet (first | (go_at_call 196; refine Calls.quiet_of_same (HVC.out _)))
  go_wp2_with fail
  go_region_held3 (fun Y => Y.cell? ⟨w.heap.size, 2, none⟩ = some (.int .i64 s) ∧ Y.cell? ⟨w.heap.size, 3, none⟩ = some (.string ⟨c.toArray⟩) ∧ Y.cell? ⟨w.heap.size, 4, none⟩ = some (.int .i64 (P : Int)) ∧ Y.cell? ⟨w.heap.size, 5, none⟩ = some (.int .i64 (M : Int)) ∧ Y.cell? ⟨w.heap.size, 6, none⟩ = some (.string ⟨l.toArray⟩) ∧ Y.cell? ⟨w.heap.size, 7, none⟩ = some (.string ⟨k.toArray⟩))
    (first | (refine HK.out _ _ (by assumption) ?_; assumption) | (go_keep))
    (first
      | (go_at_call 197; refine (HSC.out _).mono ?_; rintro e w' ⟨rfl, hw⟩; subst w')
      | (go_at_call_of 198 (Value.int IntKind.i64 (P : Int)); refine (HD1.out _).mono ?_; rintro e w1 ⟨rfl, hb1⟩)
      | (go_at_call 198; refine (HD2.out _).mono ?_; rintro e w2 ⟨rfl, hb2⟩))
  all_goals
    go_wp2
    go_ret
    refine ⟨rfl, HB2.out _ _ (HB2.out _ _ ?_ hb1) hb2⟩
    exact (HB.out _ _).drew

theorem Rc.short_of {r : Rc} (h : r.right = true) : r.nm.length ≤ 32 ∧ (r.vd = 1 → r.Short) := by
  unfold Rc.right at h
  split at h
  · simp at h
  · next hn =>
    have hn' : Ln.name r.nm = true := by simpa using hn
    have h32 : r.nm.length ≤ 32 := by
      simp only [Ln.name, Bool.and_eq_true, decide_eq_true_eq] at hn'
      exact hn'.2.2
    refine ⟨h32, fun hv => ?_⟩
    split at h
    · simp at h
    · split at h
      · simp at h
      · simp only [Rc.full, Ln.name, Bool.and_eq_true, decide_eq_true_eq, beq_iff_eq] at h
        obtain ⟨_, ⟨_, _, hc⟩, _, _, h1, h2, _, h4, h5, h6, h7⟩ := h
        exact ⟨h32, hc, by omega, by omega, h1, h2, h5, by omega⟩

theorem line_any (r : Rc) (w : World) (h : r.right = true) :
    Calls Tryz.prog 160 #[.agg r.vals] w fun e w' => e = .returned (.string ⟨r.line.toArray⟩) ∧ Below w.heap.size w w' := by
  obtain ⟨h1, h2⟩ := Rc.short_of h
  by_cases hv : r.vd = 1
  · exact line_full r w (h2 hv) hv
  · exact line_bare r w h1 hv

theorem Rc.line_length {r : Rc} (h : r.right = true) : r.line.length ≤ 400 := by
  obtain ⟨h1, h2⟩ := Rc.short_of h
  have hv := Ln.verdict_length r.vd
  unfold Rc.line
  split
  · next hv1 =>
    obtain ⟨s1, s2, s3, s4, _, _, _, _⟩ := h2 hv1
    have := Ln.strand_length r.sd
    have := Ln.dig_length 3 r.pl.toNat
    have := Ln.dig_length 3 r.mm.toNat
    simp only [List.length_append, List.length_cons, List.length_nil]
    omega
  · simp only [List.length_append, List.length_cons, List.length_nil]
    omega

end Go.Proofs.YtjebhbopmfcopaaGreatDoor
