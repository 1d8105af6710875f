/-
  PLAIN MATHEMATICS of Align: candidates in their order, the best so far. Own text of the verifier.
  THE PROGRAM'S Align, its small walks: what follows a place, the letter of a call. Own text of the verifier.
  THE PROGRAM'S Align: the call of a position, the calls, the mismatches. Own text of the verifier.
  THE DOCUMENT'S New: its error. Own text of the verifier.
  A SCOPE WITH SEVERAL LABELS: what holds at each label, and a measure that every jump lowers; from one label on the run may flow into the next. Own text of the verifier.
-/
import Derived.Test.YtfcbgfomhmcikaaBun4
import Derived.Deep.RegionWith
import Derived.Test.YtfcbgfomhmcikaaBun2
import Derived.Test.YtfcbgfomhmcikaaBun1
import Derived.WalkMore
import Derived.ScopeJumps
namespace Go.Proofs.Ytfcbgfomhmcikaa
open Go.RowKit

/-- the record so far, and the least mismatches (-1: there was no candidate) -/
structure Al.St where
  best : Rc
  least : Int

/-- the calls of the first m positions -/
def Al.calls (n : Int) (s t : List UInt8) (p m : Nat) : List UInt8 := (List.range m).map (fun k => Al.call n (s.getD k 0) t (p + k))
theorem Al.calls_length (n : Int) (s t : List UInt8) (p m : Nat) : (Al.calls n s t p m).length = m := by simp [Al.calls]
theorem Al.calls_succ (n : Int) (s t : List UInt8) (p m : Nat) : Al.calls n s t p (m + 1) = Al.calls n s t p m ++ [Al.call n (s.getD m 0) t (p + m)] := by
  rw [Al.calls, Al.calls, List.range_succ, List.map_append]
  rfl

/-- one candidate more -/
def Al.step (nm : List UInt8) (n : Int) (s : List UInt8) (cs : List Pr) (st : Al.St) (q : Nat × Nat) : Al.St :=
  match cs[q.1]? with
  | none => st
  | some x =>
    if 0 ≤ st.least ∧ st.least < (Al.mis n s (x.2.drop q.2) : Int) then st
    else if (Al.mis n s (x.2.drop q.2) : Int) = st.least then ⟨⟨nm, 2, 0, [], 0, 0, [], []⟩, st.least⟩
    else ⟨⟨nm, 1, n, x.1, (q.2 : Int), (Al.mis n s (x.2.drop q.2) : Int), s, Al.calls n s x.2 q.2 s.length⟩, (Al.mis n s (x.2.drop q.2) : Int)⟩
/-- all candidates of a strand -/
def Al.strand (nm : List UInt8) (r : List UInt8) (b : Int) (cs : List Pr) (st : Al.St) (n : Int) : Al.St := (Se.inAll n b (Al.along r n) cs cs.length).foldl (Al.step nm n (Al.along r n) cs) st
/-- the strands from 1 to k -/
def Al.upto (nm : List UInt8) (r : List UInt8) (b : Int) (cs : List Pr) : Nat → Al.St
  | 0 => ⟨⟨nm, 0, 0, [], 0, 0, [], []⟩, -1⟩
  | k + 1 => Al.strand nm r b cs (Al.upto nm r b cs k) ((k + 1 : Nat) : Int)
/-- Align's error, and its record -/
def Al.err (b : Int) (r : List UInt8) : Int := if b < 0 then 1 else if 3 < b then 1 else Se.lettersErr r
def Al.align (nm r : List UInt8) (b : Int) (cs : List Pr) : Rc := if Al.err b r = 0 then (Al.upto nm r b cs 4).best else ⟨[], 0, 0, [], 0, 0, [], []⟩

theorem Al.along_length (r : List UInt8) (n : Int) : (Al.along r n).length = r.length := by
  unfold Al.along
  split
  · exact Lt.rev_length r
  · rfl

/-- what is so of a place that Find tells -/
theorem Se.inAll_mem (n b : Int) (s : List UInt8) (cs : List Pr) : ∀ (k : Nat) (q : Nat × Nat), q ∈ Se.inAll n b s cs k → q.1 < k ∧ ∃ x, cs[q.1]? = some x ∧ q.2 + s.length ≤ x.2.length ∧ (Se.three n s (x.2.drop q.2) : Int) ≤ b := by
  intro k
  induction k with
  | zero => intro q h; simp [Se.inAll] at h
  | succ k ih =>
    intro q h
    rw [Se.inAll, List.mem_append] at h
    rcases h with h | h
    · obtain ⟨h1, h2⟩ := ih q h
      exact ⟨by omega, h2⟩
    · split at h
      · next x hx =>
        rw [Se.inOne, Se.upto, List.mem_map] at h
        obtain ⟨p, hp, rfl⟩ := h
        rw [List.mem_filter, List.mem_range] at hp
        refine ⟨by simp, x, hx, ?_, ?_⟩
        · have := hp.1; simp only; omega
        · have := hp.2
          rw [Se.stands] at this
          exact of_decide_eq_true this
      · simp at h

end Go.Proofs.Ytfcbgfomhmcikaa

namespace Go.Proofs.Ytfcbgfomhmcikaa
open Go.RowKit

/-- the letter at a place; N where there is none -/
def Pa.at (t : List UInt8) (p : Int) : UInt8 := if p < 0 then 78 else if (t.length : Int) ≤ p then 78 else t.getD p.toNat 0
/-- the two letters that follow -/
def Pa.one (n : Int) (t : List UInt8) (p : Nat) : UInt8 := if Lt.topB n then Pa.at t ((p : Int) + 1) else Lt.comp (Pa.at t ((p : Int) - 1))
def Pa.two (n : Int) (t : List UInt8) (p : Nat) : UInt8 := if Lt.topB n then Pa.at t ((p : Int) + 2) else Lt.comp (Pa.at t ((p : Int) - 2))
/-- the kind -/
def Pa.kind (a b : UInt8) : UInt8 := if ((a.toNat : Int) == 71) = true then 122 else if ((a.toNat : Int) == 78) = true then 117 else if ((b.toNat : Int) == 71) = true then 120 else if ((b.toNat : Int) == 78) = true then 117 else 104

set_option maxHeartbeats 400000 in
theorem letterAt_any (t : ByteArray) (p : Int) (w : World) :
    Calls Try.prog 52 #[.string t, .int .i64 p] w fun e w' => e = .returned (.int .u8 ((Pa.at t.data.toList p).toNat : Int)) ∧ w' = w := by
  obtain ⟨R, hR⟩ : ∃ R, R = Pa.at t.data.toList p := ⟨_, rfl⟩
  rw [← hR]
  unfold Pa.at at hR
  have hsz : t.data.toList.length = t.size := by simp
  rw [hsz] at hR
  by_cases h0 : p < 0
  · have HR : Hid (R = 78) := by show _ = _; rw [hR, if_pos h0]
    clear hR
    go_enter Try.func52, Try.ntmps52
    go_wp2
    go_ret
    exact ⟨ret_int (by rw [HR.out]; rfl), rfl⟩
  · by_cases h1 : (t.size : Int) ≤ p
    · have HR : Hid (R = 78) := by show _ = _; rw [hR, if_neg h0, if_pos h1]
      clear hR
      go_enter Try.func52, Try.ntmps52
      go_wp2
      go_ret
      exact ⟨ret_int (by rw [HR.out]; rfl), rfl⟩
    · obtain ⟨k, rfl⟩ : ∃ k : Nat, p = (k : Int) := ⟨p.toNat, by omega⟩
      have hk : k < t.size := by omega
      have hi := ix_str t k hk (k : Int) rfl
      have h2 : (k : Int) < (t.size : Int) := by omega
      have HR : Hid (R = t[k]) := by
        show _ = _
        rw [hR, if_neg h0, if_neg h1, Int.toNat_natCast, List.getD_eq_getElem?_getD, List.getElem?_eq_getElem (by rw [hsz]; exact hk)]
        rfl
      clear hR
      go_enter Try.func52, Try.ntmps52
      go_wp2
      go_ret
      exact ⟨ret_int (by rw [HR.out]), rfl⟩

set_option maxHeartbeats 400000 in
theorem kind_any (a b : UInt8) (w : World) :
    Calls Try.prog 50 #[.int .u8 (a.toNat : Int), .int .u8 (b.toNat : Int)] w fun e w' => e = .returned (.int .u8 ((Pa.kind a b).toNat : Int)) ∧ w' = w := by
  go_enter Try.func50, Try.ntmps50
  go_wp2
  all_goals go_ret
  all_goals exact ⟨ret_int (by unfold Pa.kind; simp only [*, if_true, if_false, Bool.false_eq_true]; rfl), rfl⟩

set_option maxRecDepth 100000 in
set_option maxHeartbeats 400000 in
theorem following_any (t : ByteArray) (p : Nat) (n : Int) (w : World) (ht : t.size ≤ 140737488355327) (hp : p < t.size) :
    Calls Try.prog 51 #[.string t, .int .i64 (p : Int), .int .i64 n] w fun e w' => e = .returned (.tuple #[.int .u8 ((Pa.one n t.data.toList p).toNat : Int), .int .u8 ((Pa.two n t.data.toList p).toNat : Int)]) ∧ w' = w := by
  obtain ⟨A, hA⟩ : ∃ A, A = Pa.one n t.data.toList p := ⟨_, rfl⟩
  obtain ⟨B, hB⟩ : ∃ B, B = Pa.two n t.data.toList p := ⟨_, rfl⟩
  rw [← hA, ← hB]
  unfold Pa.one at hA
  unfold Pa.two at hB
  cases hT : Lt.topB n with
  | true =>
    have HT : Hid _ := hT
    rw [hT, if_pos rfl] at hA hB
    have H1 : Hid (∀ W : World, Calls Try.prog 52 #[.string t, .int .i64 ((p : Int) + 1)] W fun e w' => e = .returned (.int .u8 (A.toNat : Int)) ∧ w' = W) := fun W => by rw [hA]; exact letterAt_any t _ W
    have H2 : Hid (∀ W : World, Calls Try.prog 52 #[.string t, .int .i64 ((p : Int) + 2)] W fun e w' => e = .returned (.int .u8 (B.toNat : Int)) ∧ w' = W) := fun W => by rw [hB]; exact letterAt_any t _ W
    clear hA hB hT
    go_enter Try.func51, Try.ntmps51
    go_wp2_with (go_at_call 38; refine (strTop_any _ _).mono ?_; rintro e w' ⟨rfl, hw⟩; subst w'; rw [HT.out])
    refine (H1.out _).mono ?_
    rintro e w' ⟨rfl, hw⟩
    subst w'
    go_wp2_with fail
    refine (H2.out _).mono ?_
    rintro e w' ⟨rfl, hw⟩
    subst w'
    go_wp2
    go_ret2
    exact ⟨rfl, rfl⟩
  | false =>
    have HT : Hid _ := hT
    rw [hT, if_neg (by simp)] at hA hB
    obtain ⟨a, ha⟩ : ∃ a, a = Pa.at t.data.toList ((p : Int) - 1) := ⟨_, rfl⟩
    obtain ⟨b, hb⟩ : ∃ b, b = Pa.at t.data.toList ((p : Int) - 2) := ⟨_, rfl⟩
    have H1 : Hid (∀ W : World, Calls Try.prog 52 #[.string t, .int .i64 ((p : Int) - 1)] W fun e w' => e = .returned (.int .u8 (a.toNat : Int)) ∧ w' = W) := fun W => by rw [ha]; exact letterAt_any t _ W
    have H2 : Hid (∀ W : World, Calls Try.prog 52 #[.string t, .int .i64 ((p : Int) - 2)] W fun e w' => e = .returned (.int .u8 (b.toNat : Int)) ∧ w' = W) := fun W => by rw [hb]; exact letterAt_any t _ W
    rw [← ha] at hA
    rw [← hb] at hB
    have HC1 : Hid (∀ W : World, Calls Try.prog 25 #[.int .u8 (a.toNat : Int)] W fun e w' => e = .returned (.int .u8 (A.toNat : Int)) ∧ w' = W) := fun W => by rw [hA]; exact complement_any a W
    have HC2 : Hid (∀ W : World, Calls Try.prog 25 #[.int .u8 (b.toNat : Int)] W fun e w' => e = .returned (.int .u8 (B.toNat : Int)) ∧ w' = W) := fun W => by rw [hB]; exact complement_any b W
    clear hA hB hT ha hb
    obtain ⟨x, hx⟩ : ∃ x : Int, x = (a.toNat : Int) := ⟨_, rfl⟩
    obtain ⟨y, hy⟩ : ∃ y : Int, y = (b.toNat : Int) := ⟨_, rfl⟩
    rw [← hx] at H1 HC1
    rw [← hy] at H2 HC2
    clear hx hy
    go_enter Try.func51, Try.ntmps51
    go_wp2_with (go_at_call 38; refine (strTop_any _ _).mono ?_; rintro e w' ⟨rfl, hw⟩; subst w'; rw [HT.out])
    refine (H1.out _).mono ?_
    rintro e w' ⟨rfl, hw⟩
    subst w'
    go_wp2_with fail
    refine (HC1.out _).mono ?_
    rintro e w' ⟨rfl, hw⟩
    subst w'
    go_wp2_with fail
    refine (H2.out _).mono ?_
    rintro e w' ⟨rfl, hw⟩
    subst w'
    go_wp2_with fail
    refine (HC2.out _).mono ?_
    rintro e w' ⟨rfl, hw⟩
    subst w'
    go_wp2
    go_ret2
    exact ⟨rfl, rfl⟩

end Go.Proofs.Ytfcbgfomhmcikaa

namespace Go.Proofs.Ytfcbgfomhmcikaa
open Go.RowKit

theorem Pa.isL_cases {c : UInt8} (h : Lt.isL c = true) : c = 65 ∨ c = 67 ∨ c = 71 ∨ c = 84 ∨ c = 78 := by
  simp only [Lt.isL, Bool.or_eq_true, beq_iff_eq] at h
  rcases h with (((h | h) | h) | h) | h <;> simp [h]

/-- how the letter that the program sees stands to that of the document: N where there is none -/
def Pa.Sees (a b : UInt8) : Prop := (a = 78 ∧ (b = 0 ∨ b = 78)) ∨ (a = b ∧ (b = 65 ∨ b = 67 ∨ b = 71 ∨ b = 84))

theorem Pa.sees_letter {c : UInt8} (h : Lt.isL c = true) : Pa.Sees c c := by
  rcases Pa.isL_cases h with h | h | h | h | h <;> subst h <;> simp [Pa.Sees]

theorem Pa.allL_at {t : List UInt8} (h : Lt.allL t = true) {k : Nat} (hk : k < t.length) : Lt.isL t[k] = true := by
  simp only [Lt.allL, List.all_eq_true] at h
  exact h _ (List.getElem_mem _)

theorem Pa.at_in {t : List UInt8} {k : Nat} (hk : k < t.length) : Pa.at t (k : Int) = t[k] := by
  unfold Pa.at
  rw [if_neg (by omega), if_neg (by omega), Int.toNat_natCast, List.getD_eq_getElem?_getD, List.getElem?_eq_getElem hk]
  rfl

theorem Pa.sees_next {n : Int} {t : List UInt8} {p j : Nat} (hL : Lt.allL t = true) (hp : p < t.length) (hj : 1 ≤ j) :
    Pa.Sees (if Lt.topB n then Pa.at t ((p : Int) + j) else Lt.comp (Pa.at t ((p : Int) - j))) (Al.next n t p j) := by
  unfold Al.next
  cases hT : Lt.topB n with
  | true =>
    rw [if_pos rfl, if_pos rfl]
    by_cases h : p + j < t.length
    · rw [List.getElem?_eq_getElem h, show ((p : Int) + (j : Int)) = ((p + j : Nat) : Int) by omega, Pa.at_in h]
      exact Pa.sees_letter (Pa.allL_at hL h)
    · rw [List.getElem?_eq_none (by omega)]
      refine .inl ⟨?_, .inl rfl⟩
      unfold Pa.at
      rw [if_neg (by omega), if_pos (by omega)]
  | false =>
    rw [if_neg (by simp), if_neg (by simp)]
    by_cases h : p < j
    · rw [if_pos h]
      refine .inl ⟨?_, .inl rfl⟩
      unfold Pa.at
      rw [if_pos (by omega)]
      rfl
    · have h2 : p - j < t.length := by omega
      rw [if_neg h, List.getElem?_eq_getElem h2, show ((p : Int) - (j : Int)) = ((p - j : Nat) : Int) by omega, Pa.at_in h2]
      exact Pa.sees_letter (Lt.comp_isL (Pa.allL_at hL h2))

theorem Pa.kind_follows {n : Int} {t : List UInt8} {p : Nat} (hL : Lt.allL t = true) (hp : p < t.length) : Pa.kind (Pa.one n t p) (Pa.two n t p) = Al.follows n t p := by
  have h1 : Pa.Sees (Pa.one n t p) (Al.next n t p 1) := Pa.sees_next (j := 1) hL hp (Nat.le_refl 1)
  have h2 : Pa.Sees (Pa.two n t p) (Al.next n t p 2) := Pa.sees_next (j := 2) hL hp (by omega)
  unfold Al.follows
  generalize Pa.one n t p = a at *
  generalize Pa.two n t p = b at *
  generalize Al.next n t p 1 = c at *
  generalize Al.next n t p 2 = d at *
  rcases h1 with ⟨rfl, rfl | rfl⟩ | ⟨rfl, rfl | rfl | rfl | rfl⟩ <;> rcases h2 with ⟨rfl, rfl | rfl⟩ | ⟨rfl, rfl | rfl | rfl | rfl⟩ <;> decide

theorem Pa.frm_bare {n : Int} (h : Lt.strandB n = true) : Lt.frm n = Al.bare n ∧ Lt.tow n = Al.gone n := by
  unfold Al.bare Al.gone
  cases hT : Lt.topB n with
  | true => exact Lt.frm_tow_top hT
  | false => exact Lt.frm_tow_bot hT h

theorem Pa.up (n : Int) (t : List UInt8) (p : Nat) : ((Al.follows n t p).toNat : Int) - 97 + 65 = ((Al.follows n t p - 32).toNat : Int) ∧ 97 ≤ ((Al.follows n t p).toNat : Int) ∧ ((Al.follows n t p).toNat : Int) ≤ 122 := by
  rcases Al.follows_cases n t p with h | h | h | h <;> rw [h] <;> decide

theorem Pa.ne_int {a b : UInt8} (h : a ≠ b) : ((a.toNat : Int) == (b.toNat : Int)) = false := by
  rw [beq_eq_false_iff_ne]
  intro e
  exact h (UInt8.toNat_inj.1 (by omega))

set_option maxRecDepth 100000 in
set_option maxHeartbeats 800000 in
theorem pcall_any (c : UInt8) (t : ByteArray) (p : Nat) (n : Int) (w : World) (hn : Lt.strandB n = true) (ht : t.size ≤ 140737488355327) (hp : p < t.size) (hL : Lt.allL t.data.toList = true) :
    Calls Try.prog 49 #[.int .u8 (c.toNat : Int), .string t, .int .i64 (p : Int), .int .i64 n] w fun e w' => e = .returned (.int .u8 ((Al.call n c t.data.toList p).toNat : Int)) ∧ w' = w := by
  have hsz : t.data.toList.length = t.size := by simp
  have hat : t.data.toList[p]? = some t[p] := by rw [List.getElem?_eq_getElem (by simpa using hp)]; rfl
  obtain ⟨R, hR⟩ : ∃ R, R = Al.call n c t.data.toList p := ⟨_, rfl⟩
  rw [← hR]
  unfold Al.call at hR
  rw [hat] at hR
  have hi := ix_str t p hp (p : Int) rfl
  have hp' : (p : Int) < (t.size : Int) := by omega
  obtain ⟨Fo, hFo⟩ : ∃ x, x = Al.follows n t.data.toList p := ⟨_, rfl⟩
  have hup := Pa.up n t.data.toList p
  have hkf := Pa.kind_follows (n := n) hL (by rw [hsz]; exact hp : p < t.data.toList.length)
  rw [← hFo] at hR hup hkf
  obtain ⟨A, hA⟩ : ∃ A, A = Pa.one n t.data.toList p := ⟨_, rfl⟩
  obtain ⟨B, hB⟩ : ∃ B, B = Pa.two n t.data.toList p := ⟨_, rfl⟩
  have HFC : Hid (∀ W : World, Calls Try.prog 51 #[.string t, .int .i64 (p : Int), .int .i64 n] W fun e w' => e = .returned (.tuple #[.int .u8 (A.toNat : Int), .int .u8 (B.toNat : Int)]) ∧ w' = W) := fun W => by rw [hA, hB]; exact following_any t p n W ht hp
  rw [← hA, ← hB] at hkf
  have HKC : Hid (∀ W : World, Calls Try.prog 50 #[.int .u8 (A.toNat : Int), .int .u8 (B.toNat : Int)] W fun e w' => e = .returned (.int .u8 (Fo.toNat : Int)) ∧ w' = W) := fun W => by rw [← hkf]; exact kind_any A B W
  obtain ⟨ba, hba⟩ : ∃ x, x = Al.bare n := ⟨_, rfl⟩
  obtain ⟨go, hgo⟩ : ∃ x, x = Al.gone n := ⟨_, rfl⟩
  have HTC : Hid (∀ W : World, Calls Try.prog 26 #[.int .i64 n] W fun e w' => e = .returned (.tuple #[.int .u8 (ba.toNat : Int), .int .u8 (go.toNat : Int)]) ∧ w' = W) := fun W => by
    rw [hba, hgo, ← (Pa.frm_bare hn).1, ← (Pa.frm_bare hn).2]; exact turned_any n W
  rw [← hba, ← hgo] at hR
  clear hFo hat hkf hA hB hba hgo hL hn
  by_cases h1 : t[p] = ba
  · have h1' : (t[p].toNat : Int) = (ba.toNat : Int) := by rw [h1]
    rw [if_neg (by rw [h1]; simp)] at hR
    by_cases h2 : c = ba
    · have h2' : ((c.toNat : Int) == (ba.toNat : Int)) = true := by rw [h2, beq_self_eq_true]
      have HR : Hid (((R.toNat : Nat) : Int) = (Fo.toNat : Int) - 97 + 65) := by show _ = _; rw [hR, if_pos h2]; exact hup.1.symm
      have hu1 := hup.2.1
      have hu2 := hup.2.2
      clear hR h1 h2 hup
      go_enter Try.func49, Try.ntmps49
      go_wp2_with (first
        | (go_at_call 26; refine (HTC.out _).mono ?_; rintro e w' ⟨rfl, hw⟩; subst w')
        | (go_at_call 51; refine (HFC.out _).mono ?_; rintro e w' ⟨rfl, hw⟩; subst w')
        | (go_at_call 50; refine (HKC.out _).mono ?_; rintro e w' ⟨rfl, hw⟩; subst w'))
      go_ret
      exact ⟨ret_int (by have h5 := HR.out; omega), rfl⟩
    · have h2' := Pa.ne_int h2
      rw [if_neg h2] at hR
      by_cases h3 : c = go
      · have h3' : ((c.toNat : Int) == (go.toNat : Int)) = true := by rw [h3, beq_self_eq_true]
        have HR : Hid (R = Fo) := by show _ = _; rw [hR, if_pos h3]
        clear hR h1 h2 h3 hup
        go_enter Try.func49, Try.ntmps49
        go_wp2_with (first
          | (go_at_call 26; refine (HTC.out _).mono ?_; rintro e w' ⟨rfl, hw⟩; subst w')
          | (go_at_call 51; refine (HFC.out _).mono ?_; rintro e w' ⟨rfl, hw⟩; subst w')
          | (go_at_call 50; refine (HKC.out _).mono ?_; rintro e w' ⟨rfl, hw⟩; subst w'))
        go_ret
        exact ⟨ret_int (by rw [HR.out]), rfl⟩
      · have h3' := Pa.ne_int h3
        have HR : Hid (R = 46) := by show _ = _; rw [hR, if_neg h3]
        clear hR h1 h2 h3 hup
        go_enter Try.func49, Try.ntmps49
        go_wp2_with (go_at_call 26; refine (HTC.out _).mono ?_; rintro e w' ⟨rfl, hw⟩; subst w')
        go_ret
        exact ⟨ret_int (by rw [HR.out]; rfl), rfl⟩
  · have h1' : ((t[p].toNat : Int) != (ba.toNat : Int)) = true := by rw [bne, Pa.ne_int h1]; rfl
    have HR : Hid (R = 46) := by show _ = _; rw [hR, if_pos (by intro h; exact h1 (Option.some.inj h))]
    clear hR h1 hup
    go_enter Try.func49, Try.ntmps49
    go_wp2_with (go_at_call 26; refine (HTC.out _).mono ?_; rintro e w' ⟨rfl, hw⟩; subst w')
    go_ret
    exact ⟨ret_int (by rw [HR.out]; rfl), rfl⟩

end Go.Proofs.Ytfcbgfomhmcikaa

namespace Go.Proofs.Ytfcbgfomhmcikaa
open Go.RowKit

/-- a contig that may not be -/
def Se.wrong (c : Pr) : Bool := !Lt.allL c.2 || c.2.length == 0
def Se.total : List Pr → Nat
  | [] => 0
  | c :: r => c.2.length + Se.total r
/-- New's error -/
def Se.newErr (cs : List Pr) : Int := if cs.length = 0 then 2 else if cs.any Se.wrong = true then 2 else if 16 < cs.length then 4 else if 4096 < Se.total cs then 4 else 0

theorem Se.total_append (a b : List Pr) : Se.total (a ++ b) = Se.total a + Se.total b := by
  induction a with
  | nil => simp [Se.total]
  | cons c a ih => simp only [List.cons_append, Se.total, ih]; omega
theorem Se.total_take (cs : List Pr) (k : Nat) (h : k < cs.length) : Se.total (cs.take (k + 1)) = Se.total (cs.take k) + cs[k].2.length := by
  rw [List.take_succ_eq_append_getElem h, Se.total_append]
  simp [Se.total]
theorem Se.total_le (N : Nat) : ∀ (cs : List Pr), (∀ x ∈ cs, x.2.length ≤ N) → Se.total cs ≤ cs.length * N := by
  intro cs
  induction cs with
  | nil => intro _; simp [Se.total]
  | cons c r ih =>
    intro h
    have h1 := h c (List.mem_cons_self ..)
    have h2 := ih (fun x hx => h x (List.mem_cons_of_mem _ hx))
    simp only [Se.total, List.length_cons, Nat.succ_mul]
    omega
theorem Se.any_take (cs : List Pr) (k : Nat) (h : k < cs.length) (h0 : (cs.take k).any Se.wrong = false) (h1 : Se.wrong cs[k] = false) : (cs.take (k + 1)).any Se.wrong = false := by
  rw [List.take_succ_eq_append_getElem h, List.any_append, h0]
  simp [h1]
theorem Se.any_at (cs : List Pr) (k : Nat) (h : k < cs.length) (h1 : Se.wrong cs[k] = true) : cs.any Se.wrong = true := List.any_eq_true.2 ⟨cs[k], List.getElem_mem _, h1⟩

end Go.Proofs.Ytfcbgfomhmcikaa

namespace Go.Proofs.Ytfcbgfomhmcikaa
open Go.RowKit

/-- by a goto to label l: J l; else as Q -/
def jumps (J : Nat → Act → World → Prop) (Q : Exit → Act → World → Prop) : Exit → Act → World → Prop
  | .goto l, a, w => J l a w
  | e, a, w => Q e a w

section
variable {P : Program} {a : Act} {w : World} {Q : Exit → Act → World → Prop} {J : Nat → Act → World → Prop}
theorem jumps_goto (l : Nat) : jumps J Q (.goto l) a w = J l a w := rfl
theorem jumps_ret : jumps J Q .ret a w = Q .ret a w := rfl
theorem jumps_normal : jumps J Q .normal a w = Q .normal a w := rfl
theorem jumps_exit (i : Nat) : jumps J Q (.exit i) a w = Q (.exit i) a w := rfl

/-- ONE LABEL'S PASS: from what holds there, with a measure of at most n, to a jump of a lower one, or out -/
def Pass (P : Program) (Q : Exit → Act → World → Prop) (J : Nat → Act → World → Prop) (m : Nat → Act → World → Nat) (l : Nat) (r : Code) : Prop :=
  ∀ n a w, J l a w → m l a w ≤ n → r.wp P (jumps (fun l' a' w' => J l' a' w' ∧ m l' a' w' < n) Q) a w

theorem wp_labels {c : Code} (J : Nat → Act → World → Prop) (m : Nat → Act → World → Nat) (rs : Nat → Code) (hrs : ∀ l a w, J l a w → findLabel c l = some (rs l))
    (pass : ∀ l, (∃ a w, J l a w) → Pass P Q J m l (rs l)) (first : c.wp P (jumps J Q) a w) : (Code.scope c).wp P Q a w := by
  intro b k cs
  have key : ∀ n l a w, m l a w = n → J l a w → ∃ e a' w', Q e a' w' ∧ Arrives P (lone (b.at a (.code (rs l) :: .inScope c :: k)) cs w) b k cs e a' w' := by
    intro n
    induction n using Nat.strongRecOn with
    | _ n ih =>
      intro l a w hn hJ
      obtain ⟨e, a1, w1, hq, harr⟩ := pass l ⟨a, w, hJ⟩ n a w hJ (Nat.le_of_eq hn) b (.inScope c :: k) cs
      cases e with
      | normal => exact ⟨.normal, a1, w1, hq, Steps.trans harr (.one step_inScope)⟩
      | exit id => exact ⟨.exit id, a1, w1, hq, fun k' hk => harr k' (by simp [exitTo, hk])⟩
      | goto l' =>
        obtain ⟨hJ', hlt⟩ := hq
        have hg : gotoIn l' (.inScope c :: k) = some (.code (rs l') :: .inScope c :: k) := by simp [gotoIn, hrs l' a1 w1 hJ']
        obtain ⟨e2, a2, w2, hq2, harr2⟩ := ih _ hlt l' a1 w1 rfl hJ'
        exact ⟨e2, a2, w2, hq2, .of_steps (harr _ hg) harr2⟩
      | ret => exact ⟨_, a1, w1, hq, harr⟩
      | panic ch => exact ⟨_, a1, w1, hq, harr⟩
      | outgrown => exact ⟨_, a1, w1, hq, harr⟩
  obtain ⟨e, a1, w1, hq, harr⟩ := first b (.inScope c :: k) cs
  cases e with
  | normal => exact ⟨.normal, a1, w1, hq, .head step_scope (Steps.trans harr (.one step_inScope))⟩
  | exit id => exact ⟨.exit id, a1, w1, hq, fun k' hk => .head step_scope (harr k' (by simp [exitTo, hk]))⟩
  | goto l' =>
    have hg : gotoIn l' (.inScope c :: k) = some (.code (rs l') :: .inScope c :: k) := by simp [gotoIn, hrs l' a1 w1 hq]
    obtain ⟨e2, a2, w2, hq2, harr2⟩ := key _ l' a1 w1 rfl hq
    exact ⟨e2, a2, w2, hq2, .of_steps (.head step_scope (harr _ hg)) harr2⟩
  | ret => exact ⟨_, a1, w1, hq, .of_steps (.one step_scope) harr⟩
  | panic ch => exact ⟨_, a1, w1, hq, .of_steps (.one step_scope) harr⟩
  | outgrown => exact ⟨_, a1, w1, hq, .of_steps (.one step_scope) harr⟩

/-- four labels, 0 to 3, of which i flows into j and j into k: the passes are handed on from the last to the first -/
theorem wp_four {c r0 r1 r2 r3 : Code} (h0 : findLabel c 0 = some r0) (h1 : findLabel c 1 = some r1) (h2 : findLabel c 2 = some r2) (h3 : findLabel c 3 = some r3)
    (J : Nat → Act → World → Prop) (m : Nat → Act → World → Nat) (hJ : ∀ l a w, J l a w → l < 4)
    (t : Pass P Q J m 0 r0 ∧ Pass P Q J m 1 r1 ∧ Pass P Q J m 2 r2 ∧ Pass P Q J m 3 r3)
    (first : c.wp P (jumps J Q) a w) : (Code.scope c).wp P Q a w := by
  obtain ⟨t0, t1, t2, t3⟩ := t
  refine wp_labels J m (fun l => if l = 0 then r0 else if l = 1 then r1 else if l = 2 then r2 else r3) ?_ ?_ first
  · intro l a w h
    have hl := hJ l a w h
    rcases (show l = 0 ∨ l = 1 ∨ l = 2 ∨ l = 3 by omega) with rfl | rfl | rfl | rfl
    · simpa using h0
    · simpa using h1
    · simpa using h2
    · simpa using h3
  · rintro l ⟨a, w, h⟩
    have hl := hJ l a w h
    rcases (show l = 0 ∨ l = 1 ∨ l = 2 ∨ l = 3 by omega) with rfl | rfl | rfl | rfl
    · simpa using t0
    · simpa using t1
    · simpa using t2
    · simpa using t3
theorem pass_skip {m : Nat → Act → World → Nat} {l : Nat} {r : Code} (t : Pass P Q J m l r) : Pass P Q J m l (.seq .skip r) := fun n a w h hm => wp_seq (wp_skip (t n a w h hm))

/-- 'fault' is 0; 1 flows into 2, 2 into 3 -/
theorem wp_four_a {c r0 r1 r2 r3 : Code} (J : Nat → Act → World → Prop) (m : Nat → Act → World → Nat) (hJ : ∀ l a w, J l a w → l < 4)
    (h0 : findLabel c 0 = some (.seq .skip r0)) (h1 : findLabel c 1 = some (.seq .skip r1)) (h2 : findLabel c 2 = some (.seq .skip r2)) (h3 : findLabel c 3 = some (.seq .skip r3))
    (t0 : Pass P Q J m 0 r0) (t3 : Pass P Q J m 3 r3) (t2 : Pass P Q J m 3 r3 → Pass P Q J m 2 r2) (t1 : Pass P Q J m 2 r2 → Pass P Q J m 1 r1)
    (first : Pass P Q J m 1 r1 → c.wp P (jumps J Q) a w) : (Code.scope c).wp P Q a w :=
  wp_four h0 h1 h2 h3 J m hJ ⟨pass_skip t0, pass_skip (t1 (t2 t3)), pass_skip (t2 t3), pass_skip t3⟩ (first (t1 (t2 t3)))
/-- 'fault' is 1; 0 flows into 2, 2 into 3 -/
theorem wp_four_b {c r0 r1 r2 r3 : Code} (J : Nat → Act → World → Prop) (m : Nat → Act → World → Nat) (hJ : ∀ l a w, J l a w → l < 4)
    (h0 : findLabel c 0 = some (.seq .skip r0)) (h1 : findLabel c 1 = some (.seq .skip r1)) (h2 : findLabel c 2 = some (.seq .skip r2)) (h3 : findLabel c 3 = some (.seq .skip r3))
    (t1 : Pass P Q J m 1 r1) (t3 : Pass P Q J m 3 r3) (t2 : Pass P Q J m 3 r3 → Pass P Q J m 2 r2) (t0 : Pass P Q J m 2 r2 → Pass P Q J m 0 r0)
    (first : Pass P Q J m 0 r0 → c.wp P (jumps J Q) a w) : (Code.scope c).wp P Q a w :=
  wp_four h0 h1 h2 h3 J m hJ ⟨pass_skip (t0 (t2 t3)), pass_skip t1, pass_skip (t2 t3), pass_skip t3⟩ (first (t0 (t2 t3)))
/-- from one label's pass to the post of the whole: what lies below no bound -/
theorem pass_first {J : Nat → Act → World → Prop} {m : Nat → Act → World → Nat} {l : Nat} {r : Code} (t : Pass P Q J m l r) (h : J l a w) : r.wp P (jumps J Q) a w :=
  wp_mono (t _ a w h (Nat.le_refl _)) (fun e a' w' h => by cases e <;> first | exact h | exact h.1)
end

/-- a frame of so many slots, slot by slot -/
theorem frame_of (a : Act) (n : Nat) (h : a.tmps.size = n) (hd : a.defers = []) : a = ⟨((List.range n).map (fun i => a.tmps.getD i undef)).toArray, []⟩ := by
  obtain ⟨tmps, defers⟩ := a
  simp only at hd h
  subst hd
  congr 1
  apply Array.ext
  · simp [h]
  · intro i h1 h2
    simp [Array.getD, h1]

/-- what is owned stays owned while only a row of another type, or what is new, is written -/
theorem own_keep {w w' : World} {b1 e1 s1 n1 b2 e2 s2 n2 : Nat} {v1 v2 : Value} {x1 x2 : List Value} (h1 : w.ownsRow b1 e1 s1 v1 n1 x1) (h2 : w.ownsRow b2 e2 s2 v2 n2 x2) (hne : e1 ≠ e2)
    (keep : ∀ k, k < w.heap.size → some k ≠ v2.ownBlock → w'.heap[k]? = w.heap[k]?) : w'.ownsRow b1 e1 s1 v1 n1 x1 := by
  refine ⟨h1.1, ?_⟩
  rcases h1.2 with h0 | ⟨g, cap, cur, rfl, hb, hg, hr⟩
  · exact .inl h0
  · refine .inr ⟨g, cap, cur, rfl, hb, ?_, hr⟩
    rw [keep g (Array.getElem?_eq_some_iff.1 hg).1 ?_]
    · exact hg
    · rcases h2.2 with ⟨rfl, _⟩ | ⟨g2, cap2, cur2, rfl, _, hg2, _⟩
      · simp [Value.ownBlock]
      · simp only [Value.ownBlock, ne_eq, Option.some.injEq]
        intro he
        rw [he, hg2] at hg
        simp at hg
        exact hne hg.2.symm

/-- 'b = append(b, c)', and what else is as it was -/
theorem app_byte2 {W w : World} {ops : Array Oper} {rest : List Oper} {o : Oper} {a : Act} {Q : Exit → Act → World → Prop} (hgd : o.guard = none) (s x : Operand)
    (ho : o.op = .call { callee := .builtin .append, args := #[s, x], argTypes := #[59, 59] })
    (base : Nat) (v : Value) (l : List UInt8) (c : UInt8) (hs : a.eval s = v) (hx : a.eval x = .slice (some ⟨w.heap.size, 0, none⟩) 1 1)
    (hown : w.ownsRow base 5 1 v l.length (Bys l)) (hbel : Below base W w) (hbase : base ≤ w.heap.size) (hlen : l.length + 1 ≤ 140737488355328)
    (h : ∀ v' w', w'.ownsRow base 5 1 v' (l ++ [c]).length (Bys (l ++ [c])) → Below base W w' → w.heap.size ≤ w'.heap.size → (∀ k, k < w.heap.size → some k ≠ v.ownBlock → w'.heap[k]? = w.heap[k]?) → wpList Try.prog ops Q rest (a.put o.dst v') w') :
    wpList Try.prog ops Q (o :: rest) a (w.alloc (.cells #[.int .u8 (c.toNat : Int)] 5)) := by
  obtain ⟨i0, hi, hz0, hz1, hz2⟩ := info_parts Try.infoU8
  refine wpList_append_own _ hgd s x 59 ho base 5 i0 (.int .u8 0) 1 1 Try.underlying59 hi hz0 hz1 hz2 rfl (by decide) v l.length (Bys l) hs (hown.alloc _) ⟨w.heap.size, 0, none⟩ 1 1 [By c] hx rfl ?_ ?_ ?_ ?_ ?_ ?_
  · intro j u hj
    match j, hj with
    | 0, hj => simp at hj; subst hj; simp [Addr.add, By]
  · intro u hu; simp at hu; subst hu; rfl
  · unfold maxLen; omega
  · omega
  · simp; omega
  · intro v' w' h1 h2 _
    refine h v' w' ?_ ?_ ?_ ?_
    · rw [Bys_append, List.length_append]; exact h1
    · exact (hbel.alloc hbase _).grown h2 (by simp; omega) (fun k hk => (hown.lt k hk).1)
    · have := h2.size; simp at this; omega
    · intro k hk hn
      rw [h2.block k (by simp; omega) hn, Below.heap_alloc _ _ _ hk]

end Go.Proofs.Ytfcbgfomhmcikaa
