/-
  THE WALK of 'pick'. Own text of the verifier.
  THE WALKS of the steps of kinds Index and Find. Own text of the verifier.
  THE DOCUMENT'S Align, its small walks: letters along the reference, mismatches. Own text of the verifier.
  THE DOCUMENT'S Align: what follows a place, and the call of a position. Own text of the verifier.
  THE DOCUMENT'S Align: the letter of a call. Own text of the verifier.
  THE DOCUMENT'S RECORDS, its small walks: names, calls, digits, words. Own text of the verifier.
-/
import Derived.Test.YtjebhbopmfcopaaGreatDoorBun8
import Derived.Deep.RegionWith
import Derived.Test.YtjebhbopmfcopaaGreatDoorBun5
import Derived.BigQuiet
import Derived.Test.YtjebhbopmfcopaaGreatDoorBun3
import Derived.Deep.RegionHeld3
import Derived.Test.YtjebhbopmfcopaaGreatDoorBun1
import Derived.Test.YtjebhbopmfcopaaGreatDoorBun2
import Derived.Test.YtjebhbopmfcopaaGreatDoorBun4
import Derived.Test.YtjebhbopmfcopaaGreatDoorBun6
import Derived.Test.YtjebhbopmfcopaaGreatDoorBun7
namespace Go.Proofs.YtjebhbopmfcopaaGreatDoor
open Go.RowKit

/-- which of n things the raw number c speaks of -/
def pickV (c : Int) (n : Nat) : Int := (if c < 0 then -(c + 1) else c).tmod (n : Int)

theorem pickV_in (c : Int) (n : Nat) (hn : 0 < n) : ∃ j : Nat, j < n ∧ pickV c n = (j : Int) := by
  have h0 : 0 ≤ (if c < 0 then -(c + 1) else c) := by split <;> omega
  refine ⟨(pickV c n).toNat, ?_, ?_⟩
  · have h1 := Int.tmod_lt_of_pos (if c < 0 then -(c + 1) else c) (show (0 : Int) < n by omega)
    unfold pickV
    omega
  · have h2 := Int.tmod_nonneg (n : Int) h0
    unfold pickV
    omega

set_option maxRecDepth 100000 in
set_option maxHeartbeats 400000 in
theorem pick_any (c : Int) (n : Nat) (w : World) (h1 : -9223372036854775808 ≤ c) (h2 : c ≤ 9223372036854775807) (hn : 0 < n) (hn2 : n ≤ 140737488355328) :
    Calls Tryz.prog 54 #[.int .i64 c, .int .i64 (n : Int)] w fun e w' => e = .returned (.int .i64 (pickV c n)) ∧ w' = w := by
  have hn0 : ((n : Int) == 0) = false := by rw [beq_eq_false_iff_ne]; omega
  have hn1 : ¬ (n : Int) = 0 := by omega
  have hn3 : ((n : Int) == -1) = false := by rw [beq_eq_false_iff_ne]; omega
  by_cases h0 : c < 0
  · have HM : Hid (pickV c n = (-(c + 1)).tmod (n : Int)) := by show _ = _; rw [pickV, if_pos h0]
    go_enter Tryz.func54, Tryz.ntmps54
    go_wp2
    go_ret
    exact ⟨ret_int (by rw [HM.out, Int.neg_tmod]), rfl⟩
  · have HM : Hid (pickV c n = c.tmod (n : Int)) := by show _ = _; rw [pickV, if_neg h0]
    go_enter Tryz.func54, Tryz.ntmps54
    go_wp2
    go_ret
    exact ⟨ret_int (by rw [HM.out, Int.tmod_eq_emod_of_nonneg (by omega)]), rfl⟩

end Go.Proofs.YtjebhbopmfcopaaGreatDoor

namespace Go.Proofs.YtjebhbopmfcopaaGreatDoor
open Go.RowKit

/-- the references: each lies below block g -/
def RefsAt (X : World) (g gl N : Nat) : Prop := ∀ j, j < N → ∃ v cs, X.cell? ⟨gl, j, none⟩ = some v ∧ RefAt X g v cs

set_option maxRecDepth 100000 in
set_option maxHeartbeats 1600000 in
theorem step_index (w : World) (g : Nat) (gl N cl : Nat) (k : Nat) (a b c : Int) (s t : ByteArray) (la : Option Addr) (ln lc : Nat) (hI : SI w g (.slice (some ⟨gl, 0, none⟩) N cl) k) (hrefs : RefsAt w g gl N) (hN : 0 < N) (hN2 : N ≤ 140737488355328) (hgl : gl < g)
    (ha1 : -9223372036854775808 ≤ a) (ha2 : a ≤ 9223372036854775807) (hk : (k + 1) * 32 ≤ 140737488355328) :
    Calls Tryz.prog 23 #[.pointer (some ⟨g, 0, none⟩), .agg #[.int .i64 5, .int .i64 a, .int .i64 b, .int .i64 c, .string s, .string t, .slice la ln lc]] w fun e w' => e = .returned (.bool true) ∧ SI w' g (.slice (some ⟨gl, 0, none⟩) N cl) (k + 1) ∧ Below g w w' := by
  have hg := si_lt hI
  have c0 : w.cell? ⟨g, 0, none⟩ = some (.slice (some ⟨gl, 0, none⟩) N cl) := by
    obtain ⟨_, _, _, _, hW, _⟩ := hI
    exact cell_of_row w g 0 _ _ _ hW
  have HI : Hid (∀ Y, Below w.heap.size w Y → SI Y g (.slice (some ⟨gl, 0, none⟩) N cl) k) := fun Y hb => (si_below hI hb).1
  have HR : Hid (∀ j, j < N → ∃ v cs, w.cell? ⟨gl, j, none⟩ = some v ∧ (∃ va vc, v = .slice va cs.length vc) ∧ ∀ Y, Below w.heap.size w Y → RefAt Y g v cs) := fun j hj => by
    obtain ⟨v, cs, h1, h2⟩ := hrefs j hj
    exact ⟨v, cs, h1, h2.form, fun Y hb => h2.below (hb.mono (Nat.le_of_lt hg))⟩
  have hNi : ((N : Int) == 0) = false := by rw [beq_eq_false_iff_ne]; omega
  have hgl2 : gl < w.heap.size := by omega
  obtain ⟨j, hj, hjv⟩ := pickV_in a N hN
  have HPK : Hid (∀ W : World, Calls Tryz.prog 54 #[.int .i64 a, .int .i64 (N : Int)] W fun e w' => e = .returned (.int .i64 (j : Int)) ∧ w' = W) := fun W => by
    have := pick_any a N W ha1 ha2 hN hN2
    rw [hjv] at this
    exact this
  obtain ⟨v, cs, hcv, ⟨va, vc, rfl⟩, hRv⟩ := HR.out j hj
  have HMD : Hid (∀ Y, Below w.heap.size w Y → Calls Tryz.prog 53 #[.pointer (some ⟨g, 0, none⟩), .slice va cs.length vc] Y fun e w' => e = .returned (.bool true) ∧ SI w' g (.slice (some ⟨gl, 0, none⟩) N cl) (k + 1) ∧ Below g w w') := fun Y hb =>
    (made_any Y g _ _ cs k (HI.out Y hb) (hRv Y hb) hk).mono (by rintro e w' ⟨h1, h2, h3⟩; exact ⟨h1, h2, (hb.mono (Nat.le_of_lt hg)).trans h3⟩)
  have hj' : (j : Int) < (N : Int) := by omega
  clear hI hrefs hjv HR hRv HI
  go_enter Tryz.func23, Tryz.ntmps23
  go_wp2_with fail
  go_region_with (first
    | (go_at_call 54; refine (HPK.out _).mono ?_; rintro e w' ⟨rfl, hw⟩; subst w')
    | (go_at_call 53; refine (HMD.out _ (by exact ((Below.refl _ _).alloc (Nat.le_refl _) _).drew)).mono ?_; rintro e w' ⟨rfl, hsi, hb⟩))
  all_goals (go_wp2; go_ret; exact ⟨rfl, hsi, hb⟩)

end Go.Proofs.YtjebhbopmfcopaaGreatDoor

namespace Go.Proofs.YtjebhbopmfcopaaGreatDoor
open Go.RowKit

/-- a read's letters along the reference -/
def Al.along (s : List UInt8) (n : Int) : List UInt8 := if n == 2 || n == 3 then Lt.rev s else s

/-- a mismatch of a read's letter a with the reference's b -/
def Al.mm (n : Int) (a b : UInt8) : Bool := !(a == b && a != 78) && !((Lt.topB n && b == 67 && a == 84) || (!Lt.topB n && b == 71 && a == 65))
/-- the mismatches -/
def Al.mis (n : Int) : List UInt8 → List UInt8 → Nat
  | a :: s, b :: t => (if Al.mm n a b then 1 else 0) + Al.mis n s t
  | _, _ => 0

theorem Al.mis_take (n : Int) : ∀ (s t : List UInt8) (k : Nat) (h1 : k < s.length) (h2 : k < t.length), Al.mis n (s.take (k + 1)) (t.take (k + 1)) = Al.mis n (s.take k) (t.take k) + (if Al.mm n s[k] t[k] then 1 else 0) := by
  intro s
  induction s with
  | nil => intro t k h1; simp at h1
  | cons a s ih =>
    intro t k h1 h2
    cases t with
    | nil => simp at h2
    | cons b t =>
      cases k with
      | zero => simp [Al.mis]
      | succ k =>
        have := ih t k (by simpa using h1) (by simpa using h2)
        simp only [List.take_succ_cons, Al.mis, List.getElem_cons_succ] at this ⊢
        omega
theorem Al.mis_le (n : Int) : ∀ (s t : List UInt8), Al.mis n s t ≤ s.length := by
  intro s
  induction s with
  | nil => intro t; simp [Al.mis]
  | cons a s ih =>
    intro t
    cases t with
    | nil => simp [Al.mis]
    | cons b t => have := ih t; simp only [Al.mis, List.length_cons]; split <;> omega
theorem Al.mis_whole (n : Int) : ∀ (s t : List UInt8) (k : Nat), s.length ≤ k → Al.mis n (s.take k) (t.take k) = Al.mis n s t := by
  intro s
  induction s with
  | nil => intro t k _; simp [Al.mis]
  | cons a s ih =>
    intro t k h
    obtain ⟨k, rfl⟩ : ∃ j, k = j + 1 := ⟨k - 1, by simp at h; omega⟩
    cases t with
    | nil => simp [Al.mis]
    | cons b t => simp only [List.take_succ_cons, Al.mis]; rw [ih t k (by simpa using h)]

theorem u8_eqI (a b : UInt8) : (a == b) = ((a.toNat : Int) == (b.toNat : Int)) := by
  have e1 := u8_bne a b
  simp only [bne] at e1
  exact Bool.not_inj e1

theorem Al.mm_int (n : Int) (a b : UInt8) : Al.mm n a b = (!(((a.toNat : Int) == (b.toNat : Int)) && ((a.toNat : Int) != 78)) && !((Lt.topB n && ((b.toNat : Int) == 67) && ((a.toNat : Int) == 84)) || (!Lt.topB n && ((b.toNat : Int) == 71) && ((a.toNat : Int) == 65)))) := by
  unfold Al.mm
  rw [u8_eqI a b, u8_bne a 78, u8_eqI b 67, u8_eqI a 84, u8_eqI b 71, u8_eqI a 65]
  rfl

set_option maxRecDepth 100000 in
set_option maxHeartbeats 1600000 in
theorem mismatches_any (s t : ByteArray) (n : Int) (w : World) (hs : s.size ≤ 1000000) (ht : s.size ≤ t.size) (htm : t.size ≤ 140737488355327) :
    Calls Tryz.prog 167 #[.string s, .string t, .int .i64 n] w fun e w' => e = .returned (.int .i64 (Al.mis n s.data.toList t.data.toList : Nat)) ∧ ∃ m, w' = w.drewN m := by
  obtain ⟨TB, hTB⟩ : ∃ TB, TB = Lt.topB n := ⟨_, rfl⟩
  have HTC : Hid (∀ W : World, Calls Tryz.prog 158 #[.int .i64 n] W fun e w' => e = .returned (.bool TB) ∧ w' = W) := fun W => by rw [hTB]; exact top_any n W
  have HTB : Hid _ := hTB
  clear hTB
  go_enter Tryz.func167, Tryz.ntmps167
  go_wp2
  go_loopw [7, 8] (fun m i wr => ∃ k j : Nat, k ≤ s.size ∧ i = .int .i64 (k : Int) ∧ m = .int .i64 (j : Int) ∧ j ≤ k ∧ Hid (j = Al.mis n (s.data.toList.take k) (t.data.toList.take k)) ∧ Hid (∃ q, wr = w.drewN q)) (fun _ i _ => s.size - (intOf i).toNat)
  case atStart => exact ⟨0, 0, Nat.zero_le _, rfl, rfl, Nat.le_refl _, by simp [Al.mis, Hid], ⟨0, rfl⟩⟩
  case round =>
    obtain ⟨k, j, hk, rfl, rfl, hjk, HJ, HW⟩ := hrel
    by_cases hlt : k < s.size
    · have hlt2 : k < t.size := by omega
      have HT : Hid _ := Al.mis_take n s.data.toList t.data.toList k (by simpa using hlt) (by simpa using hlt2)
      have hi1 := ix_str s k hlt (k : Int) rfl
      have hi2 := ix_str t k hlt2 (k : Int) rfl
      have hlt' : (k : Int) < (s.size : Int) := by omega
      have hlt2' : (k : Int) < (t.size : Int) := by omega
      have HO : Hid _ := Al.mm_int n s[k] t[k]
      rw [← HTB.out] at HO
      cases h1 : ((s[k].toNat : Int) == (t[k].toNat : Int)) <;> cases h2 : ((s[k].toNat : Int) != 78) <;> cases h3 : TB
      all_goals
        have HOF : Hid _ := HO.out
        rw [h1, h2, h3] at HOF
        clear HO
        have HTC2 : Hid _ := HTC.out
        rw [h3] at HTC2
        go_wp2_with fail
        go_quiet (fail)
        go_wp2_with (go_at_call 158; refine (HTC2.out _).mono ?_; rintro e w' ⟨rfl, hw⟩; subst w')
        all_goals
          go_roundw
          case rel =>
            have e1 : Al.mm n s[k] t[k] = _ := HOF.out
            refine ⟨k + 1, j + (if Al.mm n s[k] t[k] then 1 else 0), by omega, by go_num, ?_, ?_, ?_, ?_⟩
            · rw [e1]; simp [*]
            · rw [e1]; split <;> omega
            · show j + _ = _
              rw [HT.out, ← HJ.out]
              rfl
            · obtain ⟨q, rfl⟩ := HW.out
              exact ⟨q + nq, by rw [drewN_more]⟩
          case measure => simp [intOf]; omega
    · have HF : Hid _ := Al.mis_whole n s.data.toList t.data.toList k (by simp; omega)
      have hlt' : ¬ (k : Int) < (s.size : Int) := by omega
      go_wp2
      go_ret
      exact ⟨ret_int (by rw [HJ.out, HF.out]), HW.out⟩

end Go.Proofs.YtjebhbopmfcopaaGreatDoor

namespace Go.Proofs.YtjebhbopmfcopaaGreatDoor
open Go.RowKit

set_option maxHeartbeats 800000 in
theorem along_any (s : ByteArray) (n : Int) (w : World) (hs : s.size ≤ 140737488355327) :
    Calls Tryz.prog 166 #[.string s, .int .i64 n] w fun e w' => e = .returned (.string ⟨(Al.along s.data.toList n).toArray⟩) ∧ Below w.heap.size w w' := by
  obtain ⟨R, hR⟩ : ∃ R, R = Al.along s.data.toList n := ⟨_, rfl⟩
  rw [← hR]
  unfold Al.along at hR
  cases h2 : (n == 2) <;> cases h3 : (n == 3)
  all_goals
    have HR : Hid (R = _) := hR
    rw [h2, h3] at HR
    clear hR
    have HC : Hid (∀ W : World, Calls Tryz.prog 101 #[.string s] W fun e w' => e = .returned (.string ⟨(Lt.rev s.data.toList).toArray⟩) ∧ Below W.heap.size W w') := fun W => refReverse_any s W hs
    go_enter Tryz.func166, Tryz.ntmps166
    first
      | (go_wp2_with (go_at_call 101; refine (HC.out _).mono ?_; rintro e w1 ⟨rfl, hb1⟩)
         go_ret
         exact ⟨by rw [HR.out]; rfl, hb1⟩)
      | (go_wp2
         go_ret
         exact ⟨by rw [HR.out]; rfl, Below.refl _ _⟩)

/-- is it A, C or T? -/
def Al.rest (c : UInt8) : Bool := c == 65 || c == 67 || c == 84

set_option maxHeartbeats 400000 in
theorem rest_any (c : UInt8) (w : World) :
    Calls Tryz.prog 222 #[.int .u8 (c.toNat : Int)] w fun e w' => e = .returned (.bool (Al.rest c)) ∧ w' = w := by
  obtain ⟨R, hR⟩ : ∃ R, R = Al.rest c := ⟨_, rfl⟩
  rw [← hR]
  have h : Al.rest c = (((c.toNat : Int) == 65) || ((c.toNat : Int) == 67) || ((c.toNat : Int) == 84)) := by unfold Al.rest; rw [u8_eqI c 65, u8_eqI c 67, u8_eqI c 84]; rfl
  rw [h] at hR
  clear h
  cases h1 : ((c.toNat : Int) == 65) <;> cases h2 : ((c.toNat : Int) == 67) <;> cases h3 : ((c.toNat : Int) == 84)
  all_goals
    have HR : Hid (R = _) := hR
    rw [h1, h2, h3] at HR
    clear hR
    go_enter Tryz.func222, Tryz.ntmps222
    go_wp2
    go_ret
    exact ⟨ret_bool (by rw [HR.out]; rfl), rfl⟩

/-- the k-th letter that follows a place; 0: there is none -/
def Al.next (n : Int) (t : List UInt8) (p k : Nat) : UInt8 :=
  if Lt.topB n then (match t[p + k]? with | some c => c | none => 0) else if p < k then 0 else (match t[p - k]? with | some c => Lt.comp c | none => 0)

set_option maxRecDepth 100000 in
set_option maxHeartbeats 800000 in
theorem next_any (t : ByteArray) (p k : Nat) (n : Int) (w : World) (ht : t.size ≤ 140737488355327) (hp : p < t.size) (hk : k ≤ 2) :
    Calls Tryz.prog 221 #[.string t, .int .i64 (p : Int), .int .i64 n, .int .i64 (k : Int)] w fun e w' => e = .returned (.int .u8 ((Al.next n t.data.toList p k).toNat : Int)) ∧ w' = w := by
  have hsz : t.data.toList.length = t.size := by simp
  have hat : ∀ i (h : i < t.size), t.data.toList[i]? = some t[i] := fun i h => by
    rw [List.getElem?_eq_getElem (by rw [hsz]; exact h)]; rfl
  obtain ⟨R, hR⟩ : ∃ R, R = Al.next n t.data.toList p k := ⟨_, rfl⟩
  rw [← hR]
  unfold Al.next at hR
  cases hT : Lt.topB n with
  | true =>
    have HTC : Hid (∀ W : World, Calls Tryz.prog 158 #[.int .i64 n] W fun e w' => e = .returned (.bool true) ∧ w' = W) := fun W => by rw [← hT]; exact top_any n W
    rw [hT, if_pos rfl] at hR
    have h0 : ¬ ((p : Int) + (k : Int)) < 0 := by omega
    by_cases hin : p + k < t.size
    · rw [hat _ hin] at hR
      have HR : Hid (R = t[p + k]) := hR
      have hi := ix_str t (p + k) hin ((p : Int) + (k : Int)) (by omega)
      have hin' : ¬ (t.size : Int) ≤ (p : Int) + (k : Int) := by omega
      have hin2 : (p : Int) + (k : Int) < (t.size : Int) := by omega
      clear hR hat hT
      go_enter Tryz.func221, Tryz.ntmps221
      go_wp2_with (go_at_call 158; refine (HTC.out _).mono ?_; rintro e w' ⟨rfl, hw⟩; subst w')
      go_ret
      exact ⟨ret_int (by rw [HR.out]), rfl⟩
    · rw [List.getElem?_eq_none (by rw [hsz]; omega)] at hR
      have HR : Hid (R = 0) := hR
      have hin' : (t.size : Int) ≤ (p : Int) + (k : Int) := by omega
      clear hR hat hT
      go_enter Tryz.func221, Tryz.ntmps221
      go_wp2_with (go_at_call 158; refine (HTC.out _).mono ?_; rintro e w' ⟨rfl, hw⟩; subst w')
      go_ret
      exact ⟨ret_int (by rw [HR.out]; rfl), rfl⟩
  | false =>
    have HTC : Hid (∀ W : World, Calls Tryz.prog 158 #[.int .i64 n] W fun e w' => e = .returned (.bool false) ∧ w' = W) := fun W => by rw [← hT]; exact top_any n W
    rw [hT, if_neg (by simp)] at hR
    by_cases hlow : p < k
    · rw [if_pos hlow] at hR
      have HR : Hid (R = 0) := hR
      have hin' : (p : Int) - (k : Int) < 0 := by omega
      clear hR hat hT
      go_enter Tryz.func221, Tryz.ntmps221
      go_wp2_with (go_at_call 158; refine (HTC.out _).mono ?_; rintro e w' ⟨rfl, hw⟩; subst w')
      go_ret
      exact ⟨ret_int (by rw [HR.out]; rfl), rfl⟩
    · rw [if_neg hlow, hat (p - k) (by omega)] at hR
      have HR : Hid (R = Lt.comp (t[p - k]'(by omega))) := hR
      have hi := ix_str t (p - k) (by omega) ((p : Int) - (k : Int)) (by omega)
      have hn0 : ¬ (p : Int) - (k : Int) < 0 := by omega
      have hin' : ¬ (t.size : Int) ≤ (p : Int) - (k : Int) := by omega
      have hin2 : (p : Int) - (k : Int) < (t.size : Int) := by omega
      clear hR hat hT
      go_enter Tryz.func221, Tryz.ntmps221
      go_wp2_with (first
        | (go_at_call 158; refine (HTC.out _).mono ?_; rintro e w' ⟨rfl, hw⟩; subst w')
        | (go_at_call 156; refine (other_any _ _).mono ?_; rintro e w' ⟨rfl, hw⟩; subst w'))
      go_ret
      exact ⟨ret_int (by rw [HR.out]), rfl⟩

end Go.Proofs.YtjebhbopmfcopaaGreatDoor

namespace Go.Proofs.YtjebhbopmfcopaaGreatDoor
open Go.RowKit

/-- the letter of a call, in lower case -/
def Al.follows (n : Int) (t : List UInt8) (p : Nat) : UInt8 :=
  if Al.next n t p 1 == 71 then 122 else if Al.rest (Al.next n t p 1) && Al.next n t p 2 == 71 then 120 else if Al.rest (Al.next n t p 1) && Al.rest (Al.next n t p 2) then 104 else 117

theorem Al.follows_cases (n : Int) (t : List UInt8) (p : Nat) : Al.follows n t p = 122 ∨ Al.follows n t p = 120 ∨ Al.follows n t p = 104 ∨ Al.follows n t p = 117 := by
  unfold Al.follows
  split
  · exact .inl rfl
  · split
    · exact .inr (.inl rfl)
    · split
      · exact .inr (.inr (.inl rfl))
      · exact .inr (.inr (.inr rfl))

set_option maxRecDepth 100000 in
set_option maxHeartbeats 800000 in
theorem follows_any (t : ByteArray) (p : Nat) (n : Int) (w : World) (ht : t.size ≤ 140737488355327) (hp : p < t.size) :
    Calls Tryz.prog 202 #[.string t, .int .i64 (p : Int), .int .i64 n] w fun e w' => e = .returned (.int .u8 ((Al.follows n t.data.toList p).toNat : Int)) ∧ w' = w := by
  obtain ⟨R, hR⟩ : ∃ R, R = Al.follows n t.data.toList p := ⟨_, rfl⟩
  rw [← hR]
  obtain ⟨A, hA⟩ : ∃ A, A = Al.next n t.data.toList p 1 := ⟨_, rfl⟩
  obtain ⟨B, hB⟩ : ∃ B, B = Al.next n t.data.toList p 2 := ⟨_, rfl⟩
  unfold Al.follows at hR
  rw [← hA, ← hB, u8_eqI A 71, u8_eqI B 71] at hR
  have HN1 : Hid (∀ W : World, Calls Tryz.prog 221 #[.string t, .int .i64 (p : Int), .int .i64 n, .int .i64 1] W fun e w' => e = .returned (.int .u8 (A.toNat : Int)) ∧ w' = W) := fun W => by rw [hA]; exact next_any t p 1 n W ht hp (by omega)
  have HN2 : Hid (∀ W : World, Calls Tryz.prog 221 #[.string t, .int .i64 (p : Int), .int .i64 n, .int .i64 2] W fun e w' => e = .returned (.int .u8 (B.toNat : Int)) ∧ w' = W) := fun W => by rw [hB]; exact next_any t p 2 n W ht hp (by omega)
  clear hA hB
  obtain ⟨RA, hRA⟩ : ∃ x, x = Al.rest A := ⟨_, rfl⟩
  obtain ⟨RB, hRB⟩ : ∃ x, x = Al.rest B := ⟨_, rfl⟩
  rw [← hRA, ← hRB] at hR
  have HR1 : Hid (∀ W : World, Calls Tryz.prog 222 #[.int .u8 (A.toNat : Int)] W fun e w' => e = .returned (.bool RA) ∧ w' = W) := fun W => by rw [hRA]; exact rest_any A W
  have HR2 : Hid (∀ W : World, Calls Tryz.prog 222 #[.int .u8 (B.toNat : Int)] W fun e w' => e = .returned (.bool RB) ∧ w' = W) := fun W => by rw [hRB]; exact rest_any B W
  have h71 : ((71 : UInt8).toNat : Int) = 71 := rfl
  rw [h71] at hR
  obtain ⟨a, ha⟩ : ∃ a : Int, a = (A.toNat : Int) := ⟨_, rfl⟩
  obtain ⟨b, hb⟩ : ∃ b : Int, b = (B.toNat : Int) := ⟨_, rfl⟩
  rw [← ha] at HN1 HR1 hR
  rw [← hb] at HN2 HR2 hR
  clear ha hb hRA hRB h71
  cases h1 : (a == 71) <;> cases h2 : (b == 71) <;> cases h3 : RA <;> cases h4 : RB
  all_goals
    have HR : Hid (R = _) := hR
    rw [h1, h2, h3, h4] at HR
    have HQ1 : Hid _ := HR1.out
    have HQ2 : Hid _ := HR2.out
    rw [h3] at HQ1
    rw [h4] at HQ2
    clear hR
    go_enter Tryz.func202, Tryz.ntmps202
    go_wp2_with (first
      | (go_at_call_of 221 (Value.int IntKind.i64 1); refine (HN1.out _).mono ?_; rintro e w' ⟨rfl, hw⟩; subst w')
      | (go_at_call 221; refine (HN2.out _).mono ?_; rintro e w' ⟨rfl, hw⟩; subst w')
      | (go_at_call_of 222 (Value.int IntKind.u8 a); refine (HQ1.out _).mono ?_; rintro e w' ⟨rfl, hw⟩; subst w')
      | (go_at_call 222; refine (HQ2.out _).mono ?_; rintro e w' ⟨rfl, hw⟩; subst w'))
    go_ret
    exact ⟨ret_int (by rw [HR.out]; rfl), rfl⟩

/-- the letter that a strand's treatment turns, and what it turns into -/
def Al.bare (n : Int) : UInt8 := if Lt.topB n then 67 else 71
def Al.gone (n : Int) : UInt8 := if Lt.topB n then 84 else 65
/-- the call of a position: the read's letter c, the contig's letters t -/
def Al.call (n : Int) (c : UInt8) (t : List UInt8) (p : Nat) : UInt8 :=
  if t[p]? ≠ some (Al.bare n) then 46 else if c = Al.bare n then Al.follows n t p - 32 else if c = Al.gone n then Al.follows n t p else 46

theorem follows_up (n : Int) (t : List UInt8) (p : Nat) : ((Al.follows n t p).toNat : Int) - 32 = ((Al.follows n t p - 32).toNat : Int) ∧ 32 ≤ ((Al.follows n t p).toNat : Int) := by
  rcases Al.follows_cases n t p with h | h | h | h <;> rw [h] <;> decide

set_option maxRecDepth 100000 in
set_option maxHeartbeats 800000 in
theorem call_any (c : UInt8) (t : ByteArray) (p : Nat) (n : Int) (w : World) (ht : t.size ≤ 140737488355327) (hp : p < t.size) :
    Calls Tryz.prog 168 #[.int .u8 (c.toNat : Int), .string t, .int .i64 (p : Int), .int .i64 n] w fun e w' => e = .returned (.int .u8 ((Al.call n c t.data.toList p).toNat : Int)) ∧ w' = w := by
  have hat : t.data.toList[p]? = some t[p] := by rw [List.getElem?_eq_getElem (by simpa using hp)]; rfl
  obtain ⟨R, hR⟩ : ∃ R, R = Al.call n c t.data.toList p := ⟨_, rfl⟩
  rw [← hR]
  unfold Al.call at hR
  rw [hat] at hR
  have hi := ix_str t p hp (p : Int) rfl
  have hp' : (p : Int) < (t.size : Int) := by omega
  obtain ⟨Fo, hFo⟩ : ∃ x, x = Al.follows n t.data.toList p := ⟨_, rfl⟩
  have hup := follows_up n t.data.toList p
  rw [← hFo] at hR hup
  have HFC : Hid (∀ W : World, Calls Tryz.prog 202 #[.string t, .int .i64 (p : Int), .int .i64 n] W fun e w' => e = .returned (.int .u8 (Fo.toNat : Int)) ∧ w' = W) := fun W => by rw [hFo]; exact follows_any t p n W ht hp
  clear hFo hat
  cases hT : Lt.topB n with
  | true =>
    have HTC : Hid (∀ W : World, Calls Tryz.prog 158 #[.int .i64 n] W fun e w' => e = .returned (.bool true) ∧ w' = W) := fun W => by rw [← hT]; exact top_any n W
    have HUC : Hid (∀ W : World, Calls Tryz.prog 104 #[.int .u8 67, .int .i64 n] W fun e w' => e = .returned (.int .u8 84) ∧ w' = W) := fun W => by
      have h := refTurned_any 67 n W
      have e : Lt.trn 67 n = 84 := by unfold Lt.trn; rw [hT]; rfl
      rw [e] at h
      exact h
    have hBa : Al.bare n = 67 := by unfold Al.bare; rw [hT]; rfl
    have hGo : Al.gone n = 84 := by unfold Al.gone; rw [hT]; rfl
    rw [hBa, hGo] at hR
    clear hBa hGo hT
    by_cases h1 : t[p] = 67
    · have h1' : (t[p].toNat : Int) = 67 := by rw [h1]; rfl
      rw [if_neg (by rw [h1]; simp)] at hR
      by_cases h2 : c = 67
      · have h2' : ((c.toNat : Int) == 67) = true := by rw [h2]; rfl
        have HR : Hid (((R.toNat : Nat) : Int) = (Fo.toNat : Int) - 32) := by show _ = _; rw [hR, if_pos h2]; exact hup.1.symm
        have hup2 := hup.2
        clear hR h1 h2 hup
        go_enter Tryz.func168, Tryz.ntmps168
        go_wp2_with (first
          | (go_at_call 158; refine (HTC.out _).mono ?_; rintro e w' ⟨rfl, hw⟩; subst w')
          | (go_at_call 202; refine (HFC.out _).mono ?_; rintro e w' ⟨rfl, hw⟩; subst w')
          | (go_at_call 104; refine (HUC.out _).mono ?_; rintro e w' ⟨rfl, hw⟩; subst w'))
        go_ret
        exact ⟨ret_int (by have h5 := HR.out; have h6 := Fo.toNat_lt; omega), rfl⟩
      · have h2' : ((c.toNat : Int) == 67) = false := by rw [beq_eq_false_iff_ne]; intro h; exact h2 (UInt8.toNat_inj.1 (by simp; omega))
        rw [if_neg h2] at hR
        by_cases h3 : c = 84
        · have h3' : ((c.toNat : Int) == 84) = true := by rw [h3]; rfl
          have HR : Hid (R = Fo) := by show _ = _; rw [hR, if_pos h3]
          clear hR h1 h2 h3 hup
          go_enter Tryz.func168, Tryz.ntmps168
          go_wp2_with (first
            | (go_at_call 158; refine (HTC.out _).mono ?_; rintro e w' ⟨rfl, hw⟩; subst w')
            | (go_at_call 202; refine (HFC.out _).mono ?_; rintro e w' ⟨rfl, hw⟩; subst w')
            | (go_at_call 104; refine (HUC.out _).mono ?_; rintro e w' ⟨rfl, hw⟩; subst w'))
          go_ret
          exact ⟨ret_int (by rw [HR.out]), rfl⟩
        · have h3' : ((c.toNat : Int) == 84) = false := by rw [beq_eq_false_iff_ne]; intro h; exact h3 (UInt8.toNat_inj.1 (by simp; omega))
          have HR : Hid (R = 46) := by show _ = _; rw [hR, if_neg h3]
          clear hR h1 h2 h3 hup
          go_enter Tryz.func168, Tryz.ntmps168
          go_wp2_with (first
            | (go_at_call 158; refine (HTC.out _).mono ?_; rintro e w' ⟨rfl, hw⟩; subst w')
            | (go_at_call 202; refine (HFC.out _).mono ?_; rintro e w' ⟨rfl, hw⟩; subst w')
            | (go_at_call 104; refine (HUC.out _).mono ?_; rintro e w' ⟨rfl, hw⟩; subst w'))
          go_ret
          exact ⟨ret_int (by rw [HR.out]; rfl), rfl⟩
    · have h1' : ((t[p].toNat : Int) != 67) = true := by rw [bne_iff_ne]; intro h; exact h1 (UInt8.toNat_inj.1 (by simp; omega))
      have HR : Hid (R = 46) := by show _ = _; rw [hR, if_pos (by intro h; exact h1 (Option.some.inj h))]
      clear hR h1 hup
      go_enter Tryz.func168, Tryz.ntmps168
      go_wp2_with (first
        | (go_at_call 158; refine (HTC.out _).mono ?_; rintro e w' ⟨rfl, hw⟩; subst w')
        | (go_at_call 202; refine (HFC.out _).mono ?_; rintro e w' ⟨rfl, hw⟩; subst w')
        | (go_at_call 104; refine (HUC.out _).mono ?_; rintro e w' ⟨rfl, hw⟩; subst w'))
      go_ret
      exact ⟨ret_int (by rw [HR.out]; rfl), rfl⟩
  | false =>
    have HTC : Hid (∀ W : World, Calls Tryz.prog 158 #[.int .i64 n] W fun e w' => e = .returned (.bool false) ∧ w' = W) := fun W => by rw [← hT]; exact top_any n W
    have HUC : Hid (∀ W : World, Calls Tryz.prog 104 #[.int .u8 71, .int .i64 n] W fun e w' => e = .returned (.int .u8 65) ∧ w' = W) := fun W => by
      have h := refTurned_any 71 n W
      have e : Lt.trn 71 n = 65 := by unfold Lt.trn; rw [hT]; rfl
      rw [e] at h
      exact h
    have hBa : Al.bare n = 71 := by unfold Al.bare; rw [hT]; rfl
    have hGo : Al.gone n = 65 := by unfold Al.gone; rw [hT]; rfl
    rw [hBa, hGo] at hR
    clear hBa hGo hT
    by_cases h1 : t[p] = 71
    · have h1' : (t[p].toNat : Int) = 71 := by rw [h1]; rfl
      rw [if_neg (by rw [h1]; simp)] at hR
      by_cases h2 : c = 71
      · have h2' : ((c.toNat : Int) == 71) = true := by rw [h2]; rfl
        have HR : Hid (((R.toNat : Nat) : Int) = (Fo.toNat : Int) - 32) := by show _ = _; rw [hR, if_pos h2]; exact hup.1.symm
        have hup2 := hup.2
        clear hR h1 h2 hup
        go_enter Tryz.func168, Tryz.ntmps168
        go_wp2_with (first
          | (go_at_call 158; refine (HTC.out _).mono ?_; rintro e w' ⟨rfl, hw⟩; subst w')
          | (go_at_call 202; refine (HFC.out _).mono ?_; rintro e w' ⟨rfl, hw⟩; subst w')
          | (go_at_call 104; refine (HUC.out _).mono ?_; rintro e w' ⟨rfl, hw⟩; subst w'))
        go_ret
        exact ⟨ret_int (by have h5 := HR.out; have h6 := Fo.toNat_lt; omega), rfl⟩
      · have h2' : ((c.toNat : Int) == 71) = false := by rw [beq_eq_false_iff_ne]; intro h; exact h2 (UInt8.toNat_inj.1 (by simp; omega))
        rw [if_neg h2] at hR
        by_cases h3 : c = 65
        · have h3' : ((c.toNat : Int) == 65) = true := by rw [h3]; rfl
          have HR : Hid (R = Fo) := by show _ = _; rw [hR, if_pos h3]
          clear hR h1 h2 h3 hup
          go_enter Tryz.func168, Tryz.ntmps168
          go_wp2_with (first
            | (go_at_call 158; refine (HTC.out _).mono ?_; rintro e w' ⟨rfl, hw⟩; subst w')
            | (go_at_call 202; refine (HFC.out _).mono ?_; rintro e w' ⟨rfl, hw⟩; subst w')
            | (go_at_call 104; refine (HUC.out _).mono ?_; rintro e w' ⟨rfl, hw⟩; subst w'))
          go_ret
          exact ⟨ret_int (by rw [HR.out]), rfl⟩
        · have h3' : ((c.toNat : Int) == 65) = false := by rw [beq_eq_false_iff_ne]; intro h; exact h3 (UInt8.toNat_inj.1 (by simp; omega))
          have HR : Hid (R = 46) := by show _ = _; rw [hR, if_neg h3]
          clear hR h1 h2 h3 hup
          go_enter Tryz.func168, Tryz.ntmps168
          go_wp2_with (first
            | (go_at_call 158; refine (HTC.out _).mono ?_; rintro e w' ⟨rfl, hw⟩; subst w')
            | (go_at_call 202; refine (HFC.out _).mono ?_; rintro e w' ⟨rfl, hw⟩; subst w')
            | (go_at_call 104; refine (HUC.out _).mono ?_; rintro e w' ⟨rfl, hw⟩; subst w'))
          go_ret
          exact ⟨ret_int (by rw [HR.out]; rfl), rfl⟩
    · have h1' : ((t[p].toNat : Int) != 71) = true := by rw [bne_iff_ne]; intro h; exact h1 (UInt8.toNat_inj.1 (by simp; omega))
      have HR : Hid (R = 46) := by show _ = _; rw [hR, if_pos (by intro h; exact h1 (Option.some.inj h))]
      clear hR h1 hup
      go_enter Tryz.func168, Tryz.ntmps168
      go_wp2_with (first
        | (go_at_call 158; refine (HTC.out _).mono ?_; rintro e w' ⟨rfl, hw⟩; subst w')
        | (go_at_call 202; refine (HFC.out _).mono ?_; rintro e w' ⟨rfl, hw⟩; subst w')
        | (go_at_call 104; refine (HUC.out _).mono ?_; rintro e w' ⟨rfl, hw⟩; subst w'))
      go_ret
      exact ⟨ret_int (by rw [HR.out]; rfl), rfl⟩

end Go.Proofs.YtjebhbopmfcopaaGreatDoor

namespace Go.Proofs.YtjebhbopmfcopaaGreatDoor
open Go.RowKit

theorem all_take_succ (p : UInt8 → Bool) (s : ByteArray) (k : Nat) (h : k < s.size) : (s.data.toList.take (k + 1)).all p = ((s.data.toList.take k).all p && p s[k]) := by
  rw [show s.data.toList.take (k + 1) = s.data.toList.take k ++ [s[k]] from Lt.take_snoc s k h, List.all_append]
  simp
theorem all_stop (p : UInt8 → Bool) (s : ByteArray) (k : Nat) (h : k < s.size) (hn : p s[k] = false) : s.data.toList.all p = false := by
  rw [List.all_eq_false]
  exact ⟨s[k], by have : s[k] = s.data.toList[k]'(by simpa using h) := rfl
                  rw [this]; exact List.getElem_mem _, by simp [hn]⟩
theorem all_whole (p : UInt8 → Bool) (s : ByteArray) (k : Nat) (h : ¬ k < s.size) (ht : (s.data.toList.take k).all p = true) : s.data.toList.all p = true := by
  rwa [List.take_of_length_le (by simp; omega)] at ht

/-- a name -/
def Ln.name (l : List UInt8) : Bool := l.all Tx.nb && (decide (1 ≤ l.length) && decide (l.length ≤ 32))

set_option maxRecDepth 100000 in
set_option maxHeartbeats 400000 in
theorem refName_any (s : ByteArray) (w : World) (hs : s.size ≤ maxLen) :
    Calls Tryz.prog 194 #[.string s] w fun e w' => e = .returned (.bool (Ln.name s.data.toList)) ∧ w' = w := by
  unfold maxLen at hs
  have hsz : s.data.toList.length = s.size := by simp
  have HN : Hid (Ln.name s.data.toList = (s.data.toList.all Tx.nb && (decide (1 ≤ s.size) && decide (s.size ≤ 32)))) := by show _ = _; rw [Ln.name, hsz]
  clear hsz
  go_enter Tryz.func194, Tryz.ntmps194
  go_wp2
  go_loop [3] (fun i => ∃ k : Nat, k ≤ s.size ∧ i = .int .i64 k ∧ Hid ((s.data.toList.take k).all Tx.nb = true)) (fun i => s.size - (intOf i).toNat)
  case atStart => exact ⟨0, Nat.zero_le _, rfl, by simp [Hid]⟩
  case round =>
    obtain ⟨k, hk, rfl, HA⟩ := hrel
    by_cases hlt : k < s.size
    · cases hL : Tx.nb s[k] with
      | true =>
        have HS := all_take_succ Tx.nb s k hlt
        rw [HA.out, hL, Bool.and_self] at HS
        have HT : Hid ((s.data.toList.take (k + 1)).all Tx.nb = true) := HS
        clear HS HA
        have HL : Hid _ := hL
        clear hL
        go_wp2_with (go_at_call 193; refine (inName_any _ _).mono ?_; rintro e w' ⟨rfl, hw⟩; subst w'; rw [HL.out])
        go_round
        case rel => exact ⟨k + 1, by omega, by go_num, HT⟩
        case measure => simp [intOf]; omega
      | false =>
        have HF : Hid _ := all_stop Tx.nb s k hlt hL
        have HL : Hid _ := hL
        clear hL HA
        go_wp2_with (go_at_call 193; refine (inName_any _ _).mono ?_; rintro e w' ⟨rfl, hw⟩; subst w'; rw [HL.out])
        go_ret
        exact ⟨ret_bool (by rw [HN.out, HF.out]; rfl), rfl⟩
    · have HF : Hid _ := all_whole Tx.nb s k hlt HA.out
      clear HA
      by_cases h1 : 1 ≤ s.size
      · by_cases h2 : s.size ≤ 32
        · have HF2 : Hid (Ln.name s.data.toList = true) := by show _ = _; rw [HN.out, HF.out, decide_eq_true h1, decide_eq_true h2]; rfl
          go_wp2
          go_ret
          exact ⟨ret_bool (by rw [HF2.out]; simp; try omega), rfl⟩
        · have HF2 : Hid (Ln.name s.data.toList = false) := by show _ = _; rw [HN.out, HF.out, decide_eq_true h1, decide_eq_false h2]; rfl
          go_wp2
          go_ret
          exact ⟨ret_bool (by rw [HF2.out]; simp; try omega), rfl⟩
      · have HF2 : Hid (Ln.name s.data.toList = false) := by show _ = _; rw [HN.out, HF.out, decide_eq_false h1]; rfl
        go_wp2
        go_ret
        exact ⟨ret_bool (by rw [HF2.out]), rfl⟩

/-- a call's byte -/
def Ln.isCall (c : UInt8) : Bool := c == 46 || c == 122 || c == 120 || c == 104 || c == 117 || c == 90 || c == 88 || c == 72 || c == 85

def Ln.calls (l : List UInt8) : Bool := l.all Ln.isCall

theorem isCall_yes {c : UInt8} (h : Ln.isCall c = true) : (c.toNat : Int) = 46 ∨ (c.toNat : Int) = 122 ∨ (c.toNat : Int) = 120 ∨ (c.toNat : Int) = 104 ∨ (c.toNat : Int) = 117 ∨ (c.toNat : Int) = 90 ∨ (c.toNat : Int) = 88 ∨ (c.toNat : Int) = 72 ∨ (c.toNat : Int) = 85 :=
  Lt.every (p := fun c => Ln.isCall c = true → (c.toNat : Int) = 46 ∨ (c.toNat : Int) = 122 ∨ (c.toNat : Int) = 120 ∨ (c.toNat : Int) = 104 ∨ (c.toNat : Int) = 117 ∨ (c.toNat : Int) = 90 ∨ (c.toNat : Int) = 88 ∨ (c.toNat : Int) = 72 ∨ (c.toNat : Int) = 85) (by decide +kernel) c h
theorem isCall_no {c : UInt8} (h : Ln.isCall c = false) : (((c.toNat : Int) == 46) = false ∧ ((c.toNat : Int) == 122) = false ∧ ((c.toNat : Int) == 120) = false ∧ ((c.toNat : Int) == 104) = false ∧ ((c.toNat : Int) == 117) = false) ∧ (((c.toNat : Int) == 90) = false ∧ ((c.toNat : Int) == 88) = false ∧ ((c.toNat : Int) == 72) = false ∧ ((c.toNat : Int) == 85) = false) :=
  Lt.every (p := fun c => Ln.isCall c = false → (((c.toNat : Int) == 46) = false ∧ ((c.toNat : Int) == 122) = false ∧ ((c.toNat : Int) == 120) = false ∧ ((c.toNat : Int) == 104) = false ∧ ((c.toNat : Int) == 117) = false) ∧ (((c.toNat : Int) == 90) = false ∧ ((c.toNat : Int) == 88) = false ∧ ((c.toNat : Int) == 72) = false ∧ ((c.toNat : Int) == 85) = false)) (by decide +kernel) c h

set_option maxRecDepth 100000 in
set_option maxHeartbeats 800000 in
theorem refCalls_any (s : ByteArray) (w : World) (hs : s.size ≤ maxLen) :
    Calls Tryz.prog 195 #[.string s] w fun e w' => e = .returned (.bool (Ln.calls s.data.toList)) ∧ w' = w := by
  unfold maxLen at hs
  obtain ⟨R, hR⟩ : ∃ R, R = Ln.calls s.data.toList := ⟨_, rfl⟩
  rw [← hR]
  have HR : Hid (R = s.data.toList.all Ln.isCall) := hR
  clear hR
  go_enter Tryz.func195, Tryz.ntmps195
  go_wp2
  go_loop [3] (fun i => ∃ k : Nat, k ≤ s.size ∧ i = .int .i64 k ∧ Hid ((s.data.toList.take k).all Ln.isCall = true)) (fun i => s.size - (intOf i).toNat)
  case atStart => exact ⟨0, Nat.zero_le _, rfl, by simp [Hid]⟩
  case round =>
    obtain ⟨k, hk, rfl, HA⟩ := hrel
    by_cases hlt : k < s.size
    · cases hL : Ln.isCall s[k] with
      | true =>
        have HS := all_take_succ Ln.isCall s k hlt
        rw [HA.out, hL, Bool.and_self] at HS
        have HT : Hid ((s.data.toList.take (k + 1)).all Ln.isCall = true) := HS
        clear HS HA
        have hy := isCall_yes hL
        clear hL
        rcases hy with hy | hy | hy | hy | hy | hy | hy | hy | hy
        all_goals
          go_wp2
          go_round
          case rel => exact ⟨k + 1, by omega, by go_num, HT⟩
          case measure => simp [intOf]; omega
      | false =>
        have HF : Hid _ := all_stop Ln.isCall s k hlt hL
        obtain ⟨⟨n1, n2, n3, n4, n5⟩, n6, n7, n8, n9⟩ := isCall_no hL
        clear hL HA
        go_wp2
        go_ret
        exact ⟨ret_bool (by rw [HR.out, HF.out]), rfl⟩
    · have HF : Hid _ := all_whole Ln.isCall s k hlt HA.out
      clear HA
      go_wp2
      go_ret
      exact ⟨ret_bool (by rw [HR.out, HF.out]), rfl⟩

/-- a verdict, a strand, in words -/
def Ln.verdict (n : Int) : List UInt8 := if n == 0 then [117, 110, 109, 97, 112, 112, 101, 100] else if n == 1 then [97, 108, 105, 103, 110, 101, 100] else [97, 109, 98, 105, 103, 117, 111, 117, 115]
def Ln.strand (n : Int) : List UInt8 := if n == 1 then [79, 84] else if n == 2 then [79, 66] else if n == 3 then [67, 84, 79, 84] else [67, 84, 79, 66]

set_option maxHeartbeats 400000 in
theorem verdictName_any (n : Int) (w : World) :
    Calls Tryz.prog 196 #[.int .i64 n] w fun e w' => e = .returned (.string ⟨(Ln.verdict n).toArray⟩) ∧ w' = w := by
  obtain ⟨R, hR⟩ : ∃ R, R = Ln.verdict n := ⟨_, rfl⟩
  rw [← hR]
  unfold Ln.verdict at hR
  cases h0 : (n == 0) <;> cases h1 : (n == 1)
  all_goals
    have HR : Hid (R = _) := hR
    rw [h0, h1] at HR
    clear hR
    go_enter Tryz.func196, Tryz.ntmps196
    go_wp2
    go_ret
    exact ⟨by rw [HR.out]; rfl, rfl⟩

set_option maxHeartbeats 400000 in
theorem strandName_any (n : Int) (w : World) :
    Calls Tryz.prog 197 #[.int .i64 n] w fun e w' => e = .returned (.string ⟨(Ln.strand n).toArray⟩) ∧ w' = w := by
  obtain ⟨R, hR⟩ : ∃ R, R = Ln.strand n := ⟨_, rfl⟩
  rw [← hR]
  unfold Ln.strand at hR
  cases h1 : (n == 1) <;> cases h2 : (n == 2) <;> cases h3 : (n == 3)
  all_goals
    have HR : Hid (R = _) := hR
    rw [h1, h2, h3] at HR
    clear hR
    go_enter Tryz.func197, Tryz.ntmps197
    go_wp2
    go_ret
    exact ⟨by rw [HR.out]; rfl, rfl⟩

/-- a number's digits -/
def Ln.dig : Nat → Nat → List UInt8
  | 0, n => [UInt8.ofNat (48 + n)]
  | f + 1, n => if n < 10 then [UInt8.ofNat (48 + n)] else Ln.dig f (n / 10) ++ [UInt8.ofNat (48 + n % 10)]

theorem Ln.dig_low (f n : Nat) (h : n < 10) : Ln.dig f n = [UInt8.ofNat (48 + n)] := by cases f <;> simp [Ln.dig, h]
theorem Ln.dig_length : ∀ (f n : Nat), (Ln.dig f n).length ≤ f + 1 := by
  intro f
  induction f with
  | zero => intro n; simp [Ln.dig]
  | succ f ih => intro n; unfold Ln.dig; split; simp; have := ih (n / 10); simp; omega

theorem dig_int (n : Nat) (h : n < 10) : (48 : Int) + (n : Int) = ((UInt8.ofNat (48 + n)).toNat : Int) := by
  rw [UInt8.toNat_ofNat']
  omega

/-- one byte just made, as a text -/
theorem conv_one (w : World) (b : Nat) (d : UInt8) (h : w.cell? ⟨b, 0, none⟩ = some (.int .u8 (d.toNat : Int))) :
    (convert 43 9 (.slice (some ⟨b, 0, none⟩) 1 1)).run Tryz.prog w = .ok (.string ⟨#[d]⟩) w :=
  run_convert_bytes_back (P := Tryz.prog) w 43 9 5 ⟨b, 0, none⟩ 1 [d] Tryz.underlying43 Tryz.underlying5 Tryz.underlying9 (fun j hj => by
    match j, hj with
    | 0, _ => simpa [Addr.add] using h)

/-- two texts, put together -/
theorem add_texts (w : World) (x y : List UInt8) (h : x.length + y.length ≤ 9223372036854775807) : (Op.stringOp .add ⟨x.toArray⟩ ⟨y.toArray⟩).run Tryz.prog w = .ok (.string ⟨(x ++ y).toArray⟩) w := by
  have e : ((⟨x.toArray⟩ : ByteArray) ++ ⟨y.toArray⟩) = ⟨(x ++ y).toArray⟩ := by
    apply ByteArray.ext
    simp [ByteArray.data_append]
  have hm : IntKind.i64.max = 9223372036854775807 := by decide
  have hs : ¬ (((⟨x.toArray⟩ : ByteArray).size + (⟨y.toArray⟩ : ByteArray).size : Nat) : Int) > IntKind.i64.max := by
    rw [hm]
    simp [ByteArray.size]
    omega
  simp only [Op.stringOp, if_neg hs, e]
  rfl

set_option maxRecDepth 100000 in
set_option maxHeartbeats 800000 in
theorem digits_any : ∀ (f n : Nat) (w : World), n < 10 ^ (f + 1) → f ≤ 15 →
    Calls Tryz.prog 198 #[.int .i64 (n : Int)] w fun e w' => e = .returned (.string ⟨(Ln.dig f n).toArray⟩) ∧ Below w.heap.size w w' := by
  intro f
  induction f with
  | zero =>
    intro n w h _
    have h10 : n < 10 := by simpa using h
    have hd := dig_int n h10
    obtain ⟨d, hdd⟩ : ∃ d, d = UInt8.ofNat (48 + n) := ⟨_, rfl⟩
    have HD : Hid (Ln.dig 0 n = [d]) := by show _ = _; rw [hdd]; exact Ln.dig_low 0 n h10
    rw [← hdd] at hd
    have hc := conv_one (w.alloc (Obj.cells #[Value.int IntKind.u8 (48 + (n : Int))] 5)) w.heap.size d (by rw [hd]; simp)
    have h' : (n : Int) < 10 := by omega
    clear hdd
    have HB : Hid (∀ o, Below w.heap.size w (w.alloc o)) := fun o => (Below.refl _ _).alloc (Nat.le_refl _) o
    clear hd h
    go_enter Tryz.func198, Tryz.ntmps198
    go_wp2
    go_ret
    exact ⟨by rw [HD.out]; rfl, HB.out _⟩
  | succ f ih =>
    intro n w h hf
    by_cases h10 : n < 10
    · have hd := dig_int n h10
      obtain ⟨d, hdd⟩ : ∃ d, d = UInt8.ofNat (48 + n) := ⟨_, rfl⟩
      have HD : Hid (Ln.dig (f + 1) n = [d]) := by show _ = _; rw [hdd]; exact Ln.dig_low (f + 1) n h10
      rw [← hdd] at hd
      have hc := conv_one (w.alloc (Obj.cells #[Value.int IntKind.u8 (48 + (n : Int))] 5)) w.heap.size d (by rw [hd]; simp)
      have h' : (n : Int) < 10 := by omega
      clear hdd
      have HB : Hid (∀ o, Below w.heap.size w (w.alloc o)) := fun o => (Below.refl _ _).alloc (Nat.le_refl _) o
      clear hd h
      go_enter Tryz.func198, Tryz.ntmps198
      go_wp2
      go_ret
      exact ⟨by rw [HD.out]; rfl, HB.out _⟩
    · have h' : ¬ (n : Int) < 10 := by omega
      have hp : n / 10 < 10 ^ (f + 1) := by
        rw [Nat.pow_succ] at h
        omega
      have hbig : (10 : Nat) ^ (f + 1 + 1) ≤ 10 ^ 17 := Nat.pow_le_pow_right (by omega) (by omega)
      have hn17 : n < 100000000000000000 := by
        have : (10 : Nat) ^ 17 = 100000000000000000 := by decide
        omega
      have HIH : Hid (∀ W : World, Calls Tryz.prog 198 #[.int .i64 ((n : Int) / 10)] W fun e w' => e = .returned (.string ⟨(Ln.dig f (n / 10)).toArray⟩) ∧ Below W.heap.size W w') := fun W => by
        have := ih (n / 10) W hp (by omega)
        rw [show ((n / 10 : Nat) : Int) = (n : Int) / 10 by omega] at this
        exact this
      have HLD : Hid _ := Ln.dig_length f (n / 10)
      obtain ⟨D, hD⟩ : ∃ D, D = Ln.dig f (n / 10) := ⟨_, rfl⟩
      have HD : Hid (Ln.dig (f + 1) n = D ++ [UInt8.ofNat (48 + n % 10)]) := by show _ = _; rw [Ln.dig, if_neg h10, hD]
      rw [← hD] at HIH HLD
      obtain ⟨d, hd⟩ : ∃ d, d = UInt8.ofNat (48 + n % 10) := ⟨_, rfl⟩
      rw [← hd] at HD
      have hdi : (48 : Int) + (n : Int) % 10 = (d.toNat : Int) := by rw [hd, ← dig_int (n % 10) (by omega)]; omega
      have hadd : ∀ wy, (Op.stringOp .add ⟨D.toArray⟩ ⟨#[d]⟩).run Tryz.prog wy = .ok (.string ⟨(D ++ [d]).toArray⟩) wy := fun wy => add_texts wy D [d] (by have := HLD.out; simp; omega)
      have hcv : ∀ (Y : World) (q : Nat), Y.cell? ⟨q, 0, none⟩ = some (.int .u8 (d.toNat : Int)) → (convert 43 9 (.slice (some ⟨q, 0, none⟩) 1 1)).run Tryz.prog Y = .ok (.string ⟨#[d]⟩) Y := fun Y q hq => conv_one Y q d hq
      have hw1 : IntKind.i64.wrap ((n : Int) / 10) = (n : Int) / 10 := Go.wrap_small _ (by omega) (by omega)
      have htm : (n : Int).tmod 10 = (n : Int) % 10 := Int.tmod_eq_emod_of_nonneg (by omega)
      have hw3 : IntKind.i64.wrap (48 + (n : Int).tmod 10) = 48 + (n : Int).tmod 10 := Go.wrap_small _ (by omega) (by omega)
      have hw4 : IntKind.u8.wrap (48 + (n : Int).tmod 10) = (d.toNat : Int) := by rw [htm, ← hdi]; exact wraps_u8 _ (by omega) (by omega)
      have HXC : Hid (∀ (W w1 : World), Below W.heap.size W w1 → W.cell? ⟨w.heap.size, 0, none⟩ = some (.int .u8 (d.toNat : Int)) → ∀ {p : Prop}, (w1.cell? ⟨w.heap.size, 0, none⟩ = some (.int .u8 (d.toNat : Int)) → p) → p) := fun W w1 hb hc p k => k ((hb.cell (World.block_lt_of_cell? W _ hc)).trans hc)
      have HB1 : Hid (∀ (w1 : World) (o : Obj), Below w.drew.heap.size w.drew w1 → Below w.heap.size w (w1.alloc o)) := fun w1 o hb => by
        have h1 : Below w.heap.size w w1 := (Below.refl _ _).drew.trans hb
        exact h1.alloc h1.size o
      have HB2 : Hid (∀ (W w1 : World), Below w.heap.size w W → Below W.heap.size W w1 → Below w.heap.size w w1) := fun W w1 h1 h2 => h1.trans (h2.mono h1.size)
      clear hD hd h hp hbig ih hdi htm
      go_enter Tryz.func198, Tryz.ntmps198
      go_wp2_with fail
      go_region_with (first
        | (go_at_call 198; refine (HIH.out _).mono ?_; rintro e w1 ⟨rfl, hb1⟩; try (refine HXC.out _ w1 hb1 ?_ (fun hx => ?_); · (simp; done))))
      all_goals
        go_wp2
        go_ret
        refine ⟨by rw [HD.out]; rfl, ?_⟩
        first
          | exact HB1.out _ _ hb1
          | exact HB2.out _ _ (((Below.refl _ _).alloc (Nat.le_refl _) _).drew) hb1
          | exact HB2.out _ _ ((Below.refl _ _).drew.alloc (Nat.le_refl _) _) hb1

end Go.Proofs.YtjebhbopmfcopaaGreatDoor
