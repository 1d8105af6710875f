/-
  THE PROGRAM'S Align: the call of a position, the calls, the mismatches. Own text of the verifier.
  THE PROGRAM'S Align: mismatches, letters along the reference, places that lie in the contigs, the calls. Own text of the verifier.
  THE PROGRAM'S Align: letters along the reference, places that lie in the contigs, the calls. Own text of the verifier.
  THE PROGRAM'S Align: a candidate weighed. Own text of the verifier.
  THE PROGRAM'S Align: the candidates of all strands are weighed. Own text of the verifier.
  THE WALK of the program's choose. Own text of the verifier.
-/
import Derived.Test.YtfcbgfomhmcikaaGreatDoorBun19
import Derived.Test.YtfcbgfomhmcikaaGreatDoorBun1
import Derived.Test.YtfcbgfomhmcikaaGreatDoorBun10
import Derived.Test.YtfcbgfomhmcikaaGreatDoorBun14
import Derived.Test.YtfcbgfomhmcikaaGreatDoorBun15
import Derived.Deep.RegionHeld3
namespace Go.Proofs.YtfcbgfomhmcikaaGreatDoor
open Go.RowKit

theorem Pa.isL_cases {c : UInt8} (h : Lt.isL c = true) : c = 65 ∨ c = 67 ∨ c = 71 ∨ c = 84 ∨ c = 78 := by
  simp only [Lt.isL, Bool.or_eq_true, beq_iff_eq] at h
  rcases h with (((h | h) | h) | h) | h <;> simp [h]

/-- how the letter that the program sees stands to that of the document: N where there is none -/
def Pa.Sees (a b : UInt8) : Prop := (a = 78 ∧ (b = 0 ∨ b = 78)) ∨ (a = b ∧ (b = 65 ∨ b = 67 ∨ b = 71 ∨ b = 84))

theorem Pa.sees_letter {c : UInt8} (h : Lt.isL c = true) : Pa.Sees c c := by
  rcases Pa.isL_cases h with h | h | h | h | h <;> subst h <;> simp [Pa.Sees]

theorem Pa.allL_at {t : List UInt8} (h : Lt.allL t = true) {k : Nat} (hk : k < t.length) : Lt.isL t[k] = true := by
  simp only [Lt.allL, List.all_eq_true] at h
  exact h _ (List.getElem_mem _)

theorem Pa.at_in {t : List UInt8} {k : Nat} (hk : k < t.length) : Pa.at t (k : Int) = t[k] := by
  unfold Pa.at
  rw [if_neg (by omega), if_neg (by omega), Int.toNat_natCast, List.getD_eq_getElem?_getD, List.getElem?_eq_getElem hk]
  rfl

theorem Pa.sees_next {n : Int} {t : List UInt8} {p j : Nat} (hL : Lt.allL t = true) (hp : p < t.length) (hj : 1 ≤ j) :
    Pa.Sees (if Lt.topB n then Pa.at t ((p : Int) + j) else Lt.comp (Pa.at t ((p : Int) - j))) (Al.next n t p j) := by
  unfold Al.next
  cases hT : Lt.topB n with
  | true =>
    rw [if_pos rfl, if_pos rfl]
    by_cases h : p + j < t.length
    · rw [List.getElem?_eq_getElem h, show ((p : Int) + (j : Int)) = ((p + j : Nat) : Int) by omega, Pa.at_in h]
      exact Pa.sees_letter (Pa.allL_at hL h)
    · rw [List.getElem?_eq_none (by omega)]
      refine .inl ⟨?_, .inl rfl⟩
      unfold Pa.at
      rw [if_neg (by omega), if_pos (by omega)]
  | false =>
    rw [if_neg (by simp), if_neg (by simp)]
    by_cases h : p < j
    · rw [if_pos h]
      refine .inl ⟨?_, .inl rfl⟩
      unfold Pa.at
      rw [if_pos (by omega)]
      rfl
    · have h2 : p - j < t.length := by omega
      rw [if_neg h, List.getElem?_eq_getElem h2, show ((p : Int) - (j : Int)) = ((p - j : Nat) : Int) by omega, Pa.at_in h2]
      exact Pa.sees_letter (Lt.comp_isL (Pa.allL_at hL h2))

theorem Pa.kind_follows {n : Int} {t : List UInt8} {p : Nat} (hL : Lt.allL t = true) (hp : p < t.length) : Pa.kind (Pa.one n t p) (Pa.two n t p) = Al.follows n t p := by
  have h1 : Pa.Sees (Pa.one n t p) (Al.next n t p 1) := Pa.sees_next (j := 1) hL hp (Nat.le_refl 1)
  have h2 : Pa.Sees (Pa.two n t p) (Al.next n t p 2) := Pa.sees_next (j := 2) hL hp (by omega)
  unfold Al.follows
  generalize Pa.one n t p = a at *
  generalize Pa.two n t p = b at *
  generalize Al.next n t p 1 = c at *
  generalize Al.next n t p 2 = d at *
  rcases h1 with ⟨rfl, rfl | rfl⟩ | ⟨rfl, rfl | rfl | rfl | rfl⟩ <;> rcases h2 with ⟨rfl, rfl | rfl⟩ | ⟨rfl, rfl | rfl | rfl | rfl⟩ <;> decide

theorem Pa.frm_bare {n : Int} (h : Lt.strandB n = true) : Lt.frm n = Al.bare n ∧ Lt.tow n = Al.gone n := by
  unfold Al.bare Al.gone
  cases hT : Lt.topB n with
  | true => exact Lt.frm_tow_top hT
  | false => exact Lt.frm_tow_bot hT h

theorem Pa.up (n : Int) (t : List UInt8) (p : Nat) : ((Al.follows n t p).toNat : Int) - 97 + 65 = ((Al.follows n t p - 32).toNat : Int) ∧ 97 ≤ ((Al.follows n t p).toNat : Int) ∧ ((Al.follows n t p).toNat : Int) ≤ 122 := by
  rcases Al.follows_cases n t p with h | h | h | h <;> rw [h] <;> decide

theorem Pa.ne_int {a b : UInt8} (h : a ≠ b) : ((a.toNat : Int) == (b.toNat : Int)) = false := by
  rw [beq_eq_false_iff_ne]
  intro e
  exact h (UInt8.toNat_inj.1 (by omega))

set_option maxRecDepth 100000 in
set_option maxHeartbeats 800000 in
theorem pcall_any (c : UInt8) (t : ByteArray) (p : Nat) (n : Int) (w : World) (hn : Lt.strandB n = true) (ht : t.size ≤ 140737488355327) (hp : p < t.size) (hL : Lt.allL t.data.toList = true) :
    Calls Tryz.prog 136 #[.int .u8 (c.toNat : Int), .string t, .int .i64 (p : Int), .int .i64 n] w fun e w' => e = .returned (.int .u8 ((Al.call n c t.data.toList p).toNat : Int)) ∧ w' = w := by
  have hsz : t.data.toList.length = t.size := by simp
  have hat : t.data.toList[p]? = some t[p] := by rw [List.getElem?_eq_getElem (by simpa using hp)]; rfl
  obtain ⟨R, hR⟩ : ∃ R, R = Al.call n c t.data.toList p := ⟨_, rfl⟩
  rw [← hR]
  unfold Al.call at hR
  rw [hat] at hR
  have hi := ix_str t p hp (p : Int) rfl
  have hp' : (p : Int) < (t.size : Int) := by omega
  obtain ⟨Fo, hFo⟩ : ∃ x, x = Al.follows n t.data.toList p := ⟨_, rfl⟩
  have hup := Pa.up n t.data.toList p
  have hkf := Pa.kind_follows (n := n) hL (by rw [hsz]; exact hp : p < t.data.toList.length)
  rw [← hFo] at hR hup hkf
  obtain ⟨A, hA⟩ : ∃ A, A = Pa.one n t.data.toList p := ⟨_, rfl⟩
  obtain ⟨B, hB⟩ : ∃ B, B = Pa.two n t.data.toList p := ⟨_, rfl⟩
  have HFC : Hid (∀ W : World, Calls Tryz.prog 152 #[.string t, .int .i64 (p : Int), .int .i64 n] W fun e w' => e = .returned (.tuple #[.int .u8 (A.toNat : Int), .int .u8 (B.toNat : Int)]) ∧ w' = W) := fun W => by rw [hA, hB]; exact following_any t p n W ht hp
  rw [← hA, ← hB] at hkf
  have HKC : Hid (∀ W : World, Calls Tryz.prog 151 #[.int .u8 (A.toNat : Int), .int .u8 (B.toNat : Int)] W fun e w' => e = .returned (.int .u8 (Fo.toNat : Int)) ∧ w' = W) := fun W => by rw [← hkf]; exact kind_any A B W
  obtain ⟨ba, hba⟩ : ∃ x, x = Al.bare n := ⟨_, rfl⟩
  obtain ⟨go, hgo⟩ : ∃ x, x = Al.gone n := ⟨_, rfl⟩
  have HTC : Hid (∀ W : World, Calls Tryz.prog 39 #[.int .i64 n] W fun e w' => e = .returned (.tuple #[.int .u8 (ba.toNat : Int), .int .u8 (go.toNat : Int)]) ∧ w' = W) := fun W => by
    rw [hba, hgo, ← (Pa.frm_bare hn).1, ← (Pa.frm_bare hn).2]; exact turned_any n W
  rw [← hba, ← hgo] at hR
  clear hFo hat hkf hA hB hba hgo hL hn
  by_cases h1 : t[p] = ba
  · have h1' : (t[p].toNat : Int) = (ba.toNat : Int) := by rw [h1]
    rw [if_neg (by rw [h1]; simp)] at hR
    by_cases h2 : c = ba
    · have h2' : ((c.toNat : Int) == (ba.toNat : Int)) = true := by rw [h2, beq_self_eq_true]
      have HR : Hid (((R.toNat : Nat) : Int) = (Fo.toNat : Int) - 97 + 65) := by show _ = _; rw [hR, if_pos h2]; exact hup.1.symm
      have hu1 := hup.2.1
      have hu2 := hup.2.2
      clear hR h1 h2 hup
      go_enter Tryz.func136, Tryz.ntmps136
      go_wp2_with (first
        | (go_at_call 39; refine (HTC.out _).mono ?_; rintro e w' ⟨rfl, hw⟩; subst w')
        | (go_at_call 152; refine (HFC.out _).mono ?_; rintro e w' ⟨rfl, hw⟩; subst w')
        | (go_at_call 151; refine (HKC.out _).mono ?_; rintro e w' ⟨rfl, hw⟩; subst w'))
      go_ret
      exact ⟨ret_int (by have h5 := HR.out; omega), rfl⟩
    · have h2' := Pa.ne_int h2
      rw [if_neg h2] at hR
      by_cases h3 : c = go
      · have h3' : ((c.toNat : Int) == (go.toNat : Int)) = true := by rw [h3, beq_self_eq_true]
        have HR : Hid (R = Fo) := by show _ = _; rw [hR, if_pos h3]
        clear hR h1 h2 h3 hup
        go_enter Tryz.func136, Tryz.ntmps136
        go_wp2_with (first
          | (go_at_call 39; refine (HTC.out _).mono ?_; rintro e w' ⟨rfl, hw⟩; subst w')
          | (go_at_call 152; refine (HFC.out _).mono ?_; rintro e w' ⟨rfl, hw⟩; subst w')
          | (go_at_call 151; refine (HKC.out _).mono ?_; rintro e w' ⟨rfl, hw⟩; subst w'))
        go_ret
        exact ⟨ret_int (by rw [HR.out]), rfl⟩
      · have h3' := Pa.ne_int h3
        have HR : Hid (R = 46) := by show _ = _; rw [hR, if_neg h3]
        clear hR h1 h2 h3 hup
        go_enter Tryz.func136, Tryz.ntmps136
        go_wp2_with (go_at_call 39; refine (HTC.out _).mono ?_; rintro e w' ⟨rfl, hw⟩; subst w')
        go_ret
        exact ⟨ret_int (by rw [HR.out]; rfl), rfl⟩
  · have h1' : ((t[p].toNat : Int) != (ba.toNat : Int)) = true := by rw [bne, Pa.ne_int h1]; rfl
    have HR : Hid (R = 46) := by show _ = _; rw [hR, if_pos (by intro h; exact h1 (Option.some.inj h))]
    clear hR h1 hup
    go_enter Tryz.func136, Tryz.ntmps136
    go_wp2_with (go_at_call 39; refine (HTC.out _).mono ?_; rintro e w' ⟨rfl, hw⟩; subst w')
    go_ret
    exact ⟨ret_int (by rw [HR.out]; rfl), rfl⟩

end Go.Proofs.YtfcbgfomhmcikaaGreatDoor

namespace Go.Proofs.YtfcbgfomhmcikaaGreatDoor
open Go.RowKit

theorem Pa.mm_eq {n : Int} (hn : Lt.strandB n = true) (a b : UInt8) : Al.mm n a b = (!(a == b && a != 78) && !(a == Lt.tow n && b == Lt.frm n)) := by
  unfold Al.mm
  cases hT : Lt.topB n with
  | true => rw [(Lt.frm_tow_top hT).1, (Lt.frm_tow_top hT).2]; cases (b == 67) <;> cases (a == 84) <;> simp
  | false => rw [(Lt.frm_tow_bot hT hn).1, (Lt.frm_tow_bot hT hn).2]; cases (b == 71) <;> cases (a == 65) <;> simp

theorem Pa.mm_int {n : Int} (hn : Lt.strandB n = true) (a b : UInt8) : Al.mm n a b = (!(((a.toNat : Int) == (b.toNat : Int)) && ((a.toNat : Int) != 78)) && !(((a.toNat : Int) == ((Lt.tow n).toNat : Int)) && ((b.toNat : Int) == ((Lt.frm n).toNat : Int)))) := by
  rw [Pa.mm_eq hn, u8_eqI a b, u8_bne a 78, u8_eqI a (Lt.tow n), u8_eqI b (Lt.frm n)]
  rfl

set_option maxRecDepth 100000 in
set_option maxHeartbeats 3200000 in
theorem pmis_any (s t : ByteArray) (n : Int) (w : World) (hn : Lt.strandB n = true) (hs : s.size ≤ 1000000) (ht : s.size ≤ t.size) (htm : t.size ≤ 140737488355327) :
    Calls Tryz.prog 124 #[.string s, .string t, .int .i64 n] w fun e w' => e = .returned (.int .i64 (Al.mis n s.data.toList t.data.toList : Nat)) ∧ ∃ m, w' = w.drewN m := by
  have HMM : Hid _ := fun a b => Pa.mm_int hn a b
  obtain ⟨ba, hba⟩ : ∃ x, x = Lt.frm n := ⟨_, rfl⟩
  obtain ⟨go, hgo⟩ : ∃ x, x = Lt.tow n := ⟨_, rfl⟩
  have HTC : Hid (∀ W : World, Calls Tryz.prog 39 #[.int .i64 n] W fun e w' => e = .returned (.tuple #[.int .u8 (ba.toNat : Int), .int .u8 (go.toNat : Int)]) ∧ w' = W) := fun W => by
    rw [hba, hgo]; exact turned_any n W
  rw [← hba, ← hgo] at HMM
  clear hba hgo hn
  go_enter Tryz.func124, Tryz.ntmps124
  go_wp2_with (go_at_call 39; refine (HTC.out _).mono ?_; rintro e w' ⟨rfl, hw⟩; subst w')
  go_loopw [9, 20] (fun m i wr => ∃ k j : Nat, k ≤ s.size ∧ i = .int .i64 (k : Int) ∧ m = .int .i64 (j : Int) ∧ j ≤ k ∧ Hid (j = Al.mis n (s.data.toList.take k) (t.data.toList.take k)) ∧ Hid (∃ q, wr = w.drewN q)) (fun _ i _ => s.size - (intOf i).toNat)
  case atStart => exact ⟨0, 0, Nat.zero_le _, rfl, rfl, Nat.le_refl _, by simp [Al.mis, Hid], ⟨0, rfl⟩⟩
  case round =>
    obtain ⟨k, j, hk, rfl, rfl, hjk, HJ, HW⟩ := hrel
    by_cases hlt : k < s.size
    · have hlt2 : k < t.size := by omega
      have HT : Hid _ := Al.mis_take n s.data.toList t.data.toList k (by simpa using hlt) (by simpa using hlt2)
      have hi1 := ix_str s k hlt (k : Int) rfl
      have hi2 := ix_str t k hlt2 (k : Int) rfl
      have hlt' : (k : Int) < (s.size : Int) := by omega
      have hlt2' : (k : Int) < (t.size : Int) := by omega
      have HO : Hid _ := HMM.out s[k] t[k]
      cases h1 : ((s[k].toNat : Int) == (t[k].toNat : Int)) <;> cases h2 : ((s[k].toNat : Int) != 78) <;> cases h3 : ((s[k].toNat : Int) == (go.toNat : Int)) <;> cases h4 : ((t[k].toNat : Int) == (ba.toNat : Int))
      all_goals
        have HOF : Hid _ := HO.out
        rw [h1, h2, h3, h4] at HOF
        clear HO
        go_wp2_with fail
        go_quiet (fail)
        go_wp2
        all_goals try (go_quiet (fail); go_wp2)
        all_goals try (go_quiet (fail); go_wp2)
        all_goals
          go_roundw
          case rel =>
            have e1 : Al.mm n s[k] t[k] = _ := HOF.out
            refine ⟨k + 1, j + (if Al.mm n s[k] t[k] then 1 else 0), by omega, by go_num, ?_, ?_, ?_, ?_⟩
            · rw [e1]; simp [*]
            · rw [e1]; split <;> omega
            · show j + _ = _
              rw [HT.out, ← HJ.out]
              rfl
            · obtain ⟨q, rfl⟩ := HW.out
              first | exact ⟨_, by rw [drewN_more]⟩ | exact ⟨_, by rw [drewN_more, drewN_more]⟩ | exact ⟨_, by rw [drewN_more, drewN_more, drewN_more]⟩
          case measure => simp [intOf]; omega
    · have HF : Hid _ := Al.mis_whole n s.data.toList t.data.toList k (by simp; omega)
      have hlt' : ¬ (k : Int) < (s.size : Int) := by omega
      go_wp2
      go_ret
      exact ⟨ret_int (by rw [HJ.out, HF.out]), HW.out⟩

end Go.Proofs.YtfcbgfomhmcikaaGreatDoor

namespace Go.Proofs.YtfcbgfomhmcikaaGreatDoor
open Go.RowKit

theorem Pa.strand_cases {n : Int} (h : Lt.strandB n = true) : n = 1 ∨ n = 2 ∨ n = 3 ∨ n = 4 := by
  rw [Lt.strandB_int] at h
  simp only [Bool.or_eq_true, beq_iff_eq] at h
  omega

set_option maxHeartbeats 800000 in
theorem palong_any (s : ByteArray) (n : Int) (w : World) (hs : s.size ≤ 140737488355327) (hn : Lt.strandB n = true) (hL : n = 1 ∨ Lt.allL s.data.toList = true) :
    Calls Tryz.prog 121 #[.string s, .int .i64 n] w fun e w' => e = .returned (.string ⟨(Al.along s.data.toList n).toArray⟩) ∧ Below w.heap.size w w' := by
  obtain ⟨R, hR⟩ : ∃ R, R = Al.along s.data.toList n := ⟨_, rfl⟩
  rw [← hR]
  have HC : Hid (Lt.allL s.data.toList = true → ∀ W : World, Calls Tryz.prog 15 #[.string s] W fun e w' => e = .returned (.tuple #[.string ⟨(Lt.rev s.data.toList).toArray⟩, .int .i64 0]) ∧ Below W.heap.size W w') := fun h W => reverse_good s W (by omega) h
  rcases Pa.strand_cases hn with rfl | rfl | rfl | rfl
  · have HR : Hid (R = s.data.toList) := hR
    clear hR hL hn
    go_enter Tryz.func121, Tryz.ntmps121
    go_wp2
    go_ret
    exact ⟨by rw [HR.out]; rfl, Below.refl _ _⟩
  · have HR : Hid (R = Lt.rev s.data.toList) := hR
    have HC2 : Hid _ := HC.out (hL.resolve_left (by decide))
    clear hR hL hn HC
    go_enter Tryz.func121, Tryz.ntmps121
    go_wp2_with (go_at_call 15; refine (HC2.out _).mono ?_; rintro e w1 ⟨rfl, hb1⟩)
    go_ret
    exact ⟨by rw [HR.out]; rfl, hb1⟩
  · have HR : Hid (R = Lt.rev s.data.toList) := hR
    have HC2 : Hid _ := HC.out (hL.resolve_left (by decide))
    clear hR hL hn HC
    go_enter Tryz.func121, Tryz.ntmps121
    go_wp2_with (go_at_call 15; refine (HC2.out _).mono ?_; rintro e w1 ⟨rfl, hb1⟩)
    go_ret
    exact ⟨by rw [HR.out]; rfl, hb1⟩
  · have HR : Hid (R = s.data.toList) := hR
    clear hR hL hn
    go_enter Tryz.func121, Tryz.ntmps121
    go_wp2
    go_ret
    exact ⟨by rw [HR.out]; rfl, Below.refl _ _⟩

set_option maxRecDepth 100000 in
set_option maxHeartbeats 800000 in
theorem plies_yes (N cc : Nat) (ad : Addr) (c p m : Nat) (x : List UInt8) (w : World) (hc : c < N) (hx : p + m ≤ x.length) (hxm : x.length ≤ 100000) (s1 : w.cell? (ad.add (c * 2 + 1)) = some (.string ⟨x.toArray⟩)) :
    Calls Tryz.prog 122 #[.slice (some ad) N cc, .agg #[.int .i64 (c : Int), .int .i64 (p : Int)], .int .i64 (m : Int)] w fun e w' => e = .returned (.bool true) ∧ Below w.heap.size w w' := by
  have hs1 : ∀ o, (w.alloc o).cell? ⟨(ad.add (c * 2)).block, (ad.add (c * 2)).off + 1, none⟩ = some (.string ⟨x.toArray⟩) := fun o => by
    rw [addr_next]
    exact (((Below.refl _ _).alloc (Nat.le_refl _) o).cell (World.block_lt_of_cell? w _ s1)).trans s1
  have HB : Hid (∀ o n, Below w.heap.size w ((w.alloc o).drewN n)) := fun o n => below_drewN ((Below.refl _ _).alloc (Nat.le_refl _) o) n
  have hc' : (c : Int) < (N : Int) := by omega
  have hxs : (⟨x.toArray⟩ : ByteArray).size = x.length := str_size x
  have hx' : (p : Int) + (m : Int) ≤ (x.length : Int) := by omega
  clear s1
  go_enter Tryz.func122, Tryz.ntmps122
  go_wp2_with fail
  go_quiet (fail)
  go_wp2
  go_ret
  exact ⟨ret_bool (by simp), HB.out _ _⟩

theorem Pa.calls_at (n : Int) (s t : List UInt8) (p m k : Nat) (h : k < (Al.calls n s t p m).length) : (Al.calls n s t p m)[k] = Al.call n (s.getD k 0) t (p + k) := by
  simp [Al.calls]

set_option maxRecDepth 100000 in
set_option maxHeartbeats 800000 in
theorem pcalls_any (s t : ByteArray) (p : Nat) (n : Int) (w : World) (hn : Lt.strandB n = true) (hs : s.size ≤ 1000000) (ht : t.size ≤ 1000000) (hp : p + s.size ≤ t.size) (hL : Lt.allL t.data.toList = true) :
    Calls Tryz.prog 126 #[.string s, .string t, .int .i64 (p : Int), .int .i64 n] w fun e w' => e = .returned (.string ⟨(Al.calls n s.data.toList t.data.toList p s.size).toArray⟩) ∧ Below w.heap.size w w' := by
  have HPC : Hid _ := fun (c : UInt8) (k : Nat) (h : k < t.size) (W : World) => pcall_any c t k n W hn (by omega) h hL
  have hsm : s.size ≤ maxLen := by unfold maxLen; omega
  have hssz : s.data.toList.length = s.size := by simp
  obtain ⟨i0, hi, hz0, hz1, hz2⟩ := info_parts Tryz.infoU8
  obtain ⟨CL, hCL⟩ : ∃ CL, CL = Al.calls n s.data.toList t.data.toList p s.size := ⟨_, rfl⟩
  have HR : Hid (CL.length = s.size) := by show _ = _; rw [hCL, Al.calls_length]
  have HAT : Hid (∀ k (h : k < CL.length) (h2 : k < s.size), CL[k] = Al.call n s[k] t.data.toList (p + k)) := fun k h h2 => by
    subst hCL
    rw [Pa.calls_at, List.getD_eq_getElem?_getD, List.getElem?_eq_getElem (by rw [hssz]; exact h2)]
    rfl
  rw [← hCL]
  clear hCL hL hn
  go_enter Tryz.func126, Tryz.ntmps126
  go_wp2_with (at_make; refine wpList_make_full _ rfl _ _ 68 rfl w.heap.size 5 i0 (.int .u8 0) 1 Tryz.underlying68 hi hz0 hz1 _ _ _ _ s.size rfl rfl rfl rfl ?h1 ?h2 ?h3 ?_)
  case h1 => rw [hz2]; omega
  case h2 => exact hsm
  case h3 => exact Nat.le_refl _
  · intro w1 hown0 hgrow
    have hbel0 : Below w.heap.size w w1 := (Below.refl _ _).grown hgrow (Nat.le_refl _) (fun k hk => by cases hk)
    rw [toList_madeCells_one, ← filled_zero CL s.size] at hown0
    clear hgrow
    go_wp2
    go_loopw [16] (fun i wr => ∃ k : Nat, k ≤ s.size ∧ i = .int .i64 k ∧ wr.ownsRow w.heap.size 5 1 (.slice (some ⟨w.heap.size, 0, none⟩) s.size s.size) s.size (filled CL s.size k) ∧ Below w.heap.size w wr)
      (fun i _ => s.size - (intOf i).toNat)
    case atStart => exact ⟨0, Nat.zero_le _, rfl, hown0, hbel0⟩
    case round =>
      clear hown0 hbel0
      obtain ⟨k, hk, rfl, hown, hbel⟩ := hrel
      by_cases hlt : k < s.size
      · obtain ⟨v0, hc0, _⟩ := own_cell hown k hlt
        have hfr := hown.frozenAt k
        have hkc : k < CL.length := by rw [HR.out]; exact hlt
        obtain ⟨cl, hcl⟩ : ∃ cl, cl = CL[k] := ⟨_, rfl⟩
        have hst := hown.stored k (.int .u8 (cl.toNat : Int))
        rw [hcl, filled_set _ _ _ HR.out hlt, ← hcl] at hst
        have hbel1 := hbel.setCell (p := ⟨w.heap.size, k, none⟩) (Nat.le_refl _) (.int .u8 (cl.toNat : Int))
        have hi1 := ix_str s k hlt (k : Int) rfl
        have hlt' : (k : Int) < (s.size : Int) := by omega
        have HCC : Hid (∀ W : World, Calls Tryz.prog 136 #[.int .u8 (s[k].toNat : Int), .string t, .int .i64 ((p : Int) + (k : Int)), .int .i64 n] W fun e w' => e = .returned (.int .u8 (cl.toNat : Int)) ∧ w' = W) := fun W => by
          have h := HPC.out s[k] (p + k) (by omega) W
          rw [← HAT.out k hkc hlt, ← hcl, show ((p + k : Nat) : Int) = (p : Int) + (k : Int) by omega] at h
          exact h
        have HST := hst.1
        clear hst hcl
        have HST : Hid _ := HST
        have HB : Hid _ := hbel1
        clear hbel1 hown hbel
        go_wp2_with (go_at_call 136; refine (HCC.out _).mono ?_; rintro e w' ⟨rfl, hw⟩; subst w')
        go_roundw
        case rel => exact ⟨k + 1, by omega, by go_num, HST.out, HB.out⟩
        case measure => simp [intOf]; omega
      · have hkn : k = s.size := by omega
        subst hkn
        rw [filled_whole _ _ HR.out] at hown
        have hback := back_own hown
        go_wp2
        go_ret
        exact ⟨rfl, hbel⟩

end Go.Proofs.YtfcbgfomhmcikaaGreatDoor

namespace Go.Proofs.YtfcbgfomhmcikaaGreatDoor
open Go.RowKit

/-- a candidate: strand, contig, place, letters, mismatches -/
structure Pa.Cd where
  n : Int
  c : Nat
  a : Nat
  s : List UInt8
  m : Nat
/-- the best candidate, and how many are as good -/
structure Pa.Ch where
  b : Pa.Cd
  eq : Nat
def Pa.Cd.vals (x : Pa.Cd) : Array Value := #[.int .i64 x.n, .int .i64 (x.c : Int), .int .i64 (x.a : Int), .string ⟨x.s.toArray⟩, .int .i64 (x.m : Int)]
def Pa.Ch.vals (x : Pa.Ch) : Array Value := #[.int .i64 x.b.n, .int .i64 (x.b.c : Int), .int .i64 (x.b.a : Int), .string ⟨x.b.s.toArray⟩, .int .i64 (x.b.m : Int), .int .i64 (x.eq : Int)]
def Pa.zero : Pa.Ch := ⟨⟨0, 0, 0, [], 0⟩, 0⟩
def Pa.weigh (x : Pa.Ch) (o : Pa.Cd) : Pa.Ch := if x.eq = 0 then ⟨o, 1⟩ else if o.m < x.b.m then ⟨o, 1⟩ else if o.m = x.b.m then ⟨x.b, x.eq + 1⟩ else x

/-- a world in which one block alone has turned -/
structure Pa.T (g : Nat) (w w' : World) (A : Array Value) : Prop where
  os : w'.os = w.os
  tape : w'.tape = w.tape
  output : w'.output = w.output
  size : w.heap.size ≤ w'.heap.size
  other : ∀ k, k < w.heap.size → k ≠ g → w'.heap[k]? = w.heap[k]?
  row : w'.heap[g]? = some (.cells A 143 (0, 0))

theorem Pa.T.refl {g : Nat} {w : World} {A : Array Value} (h : w.heap[g]? = some (.cells A 143 (0, 0))) : Pa.T g w w A := ⟨rfl, rfl, rfl, Nat.le_refl _, fun _ _ _ => rfl, h⟩
theorem Pa.T.set {g : Nat} {w w' : World} {A : Array Value} (h : Pa.T g w w' A) (i : Nat) (v : Value) : Pa.T g w (w'.setCell ⟨g, i, none⟩ v) (A.setIfInBounds i v) := by
  have hb := below_set (Below.refl g w') (Nat.le_refl g) i v
  exact ⟨hb.os.trans h.os, hb.tape.trans h.tape, hb.output.trans h.output, Nat.le_trans h.size hb.size, fun k hk hg => (heap_setCell_other w' ⟨g, i, none⟩ k v hg).trans (h.other k hk hg), heap_setCell_same w' g i A _ v h.row⟩
theorem Pa.T.below {g : Nat} {w w' w'' : World} {A : Array Value} (h : Pa.T g w w' A) (hb : Below w'.heap.size w' w'') : Pa.T g w w'' A := by
  have hg : g < w'.heap.size := by
    rcases Nat.lt_or_ge g w'.heap.size with h1 | h1
    · exact h1
    · have := h.row; rw [Array.getElem?_eq_none h1] at this; cases this
  have hs := h.size
  exact ⟨hb.os.trans h.os, hb.tape.trans h.tape, hb.output.trans h.output, Nat.le_trans h.size hb.size, fun k hk hk2 => (hb.block k (by omega)).trans (h.other k hk hk2), (hb.block g hg).trans h.row⟩
theorem Pa.T.alloc {g : Nat} {w w' : World} {A : Array Value} (h : Pa.T g w w' A) (o : Obj) (n : Nat) : Pa.T g w ((w'.alloc o).drewN n) A := h.below (below_drewN ((Below.refl _ _).alloc (Nat.le_refl _) o) n)
/-- what lies beneath the block is as it was -/
theorem Pa.T.beneath {g B : Nat} {w w' : World} {A : Array Value} (h : Pa.T g w w' A) (hB : B ≤ g) (hB2 : B ≤ w.heap.size) : Below B w w' := ⟨h.os, h.tape, h.output, h.size, fun k hk => h.other k (by omega) (by omega)⟩

set_option maxRecDepth 100000 in
set_option maxHeartbeats 1600000 in
theorem pweigh (x : Pa.Ch) (o : Pa.Cd) (g : Nat) (w : World) (hrow : w.heap[g]? = some (.cells x.vals 143 (0, 0))) (he : x.eq ≤ 1000000000) :
    Calls Tryz.prog 123 #[.pointer (some ⟨g, 0, none⟩), .agg o.vals] w fun e w' => e = .returned (.tuple #[]) ∧ Pa.T g w w' (Pa.weigh x o).vals := by
  have HT : Hid (Pa.T g w w x.vals) := Pa.T.refl hrow
  obtain ⟨R, hR⟩ : ∃ R, R = Pa.weigh x o := ⟨_, rfl⟩
  rw [← hR]
  unfold Pa.weigh at hR
  obtain ⟨⟨xn, xc, xa, xs, xm⟩, eq⟩ := x
  obtain ⟨on, oc, oa, os, om⟩ := o
  dsimp only [Pa.Ch.vals, Pa.Cd.vals] at *
  have c4 : w.cell? ⟨g, 4, none⟩ = some (.int .i64 (xm : Int)) := cell_of_row w g 4 _ _ _ hrow
  have c5 : w.cell? ⟨g, 5, none⟩ = some (.int .i64 (eq : Int)) := cell_of_row w g 5 _ _ _ hrow
  have c0 : w.cell? ⟨g, 0, none⟩ = some (.int .i64 xn) := cell_of_row w g 0 _ _ _ hrow
  have c1 : w.cell? ⟨g, 1, none⟩ = some (.int .i64 (xc : Int)) := cell_of_row w g 1 _ _ _ hrow
  have c2 : w.cell? ⟨g, 2, none⟩ = some (.int .i64 (xa : Int)) := cell_of_row w g 2 _ _ _ hrow
  have c3 : w.cell? ⟨g, 3, none⟩ = some (.string ⟨xs.toArray⟩) := cell_of_row w g 3 _ _ _ hrow
  have f0 : w.frozen? ⟨g, 0, none⟩ = false := frozen_of_row w g 0 _ _ hrow
  have f1 : w.frozen? ⟨g, 1, none⟩ = false := frozen_of_row w g 1 _ _ hrow
  have f2 : w.frozen? ⟨g, 2, none⟩ = false := frozen_of_row w g 2 _ _ hrow
  have f3 : w.frozen? ⟨g, 3, none⟩ = false := frozen_of_row w g 3 _ _ hrow
  have f4 : w.frozen? ⟨g, 4, none⟩ = false := frozen_of_row w g 4 _ _ hrow
  have f5 : w.frozen? ⟨g, 5, none⟩ = false := frozen_of_row w g 5 _ _ hrow
  have hgs : g < w.heap.size := World.block_lt_of_cell? w _ c5
  clear hrow
  by_cases h0 : eq = 0
  · rw [if_pos h0] at hR
    subst h0
    have HR : Hid _ := hR
    clear hR
    go_enter Tryz.func123, Tryz.ntmps123
    go_wp2_with fail
    go_quiet (fail)
    go_wp2
    go_end0
    exact ⟨rfl, by rw [HR.out]; exact ((((((HT.out.alloc _ _).set 0 _).set 1 _).set 2 _).set 3 _).set 4 _).set 5 _⟩
  · rw [if_neg h0] at hR
    have h0' : ((eq : Int) == 0) = false := by rw [beq_eq_false_iff_ne]; omega
    clear h0
    by_cases h1 : om < xm
    · rw [if_pos h1] at hR
      have h1' : (om : Int) < (xm : Int) := by omega
      have HR : Hid _ := hR
      clear hR h1
      go_enter Tryz.func123, Tryz.ntmps123
      go_wp2_with fail
      go_quiet (fail)
      go_wp2
      go_end0
      exact ⟨rfl, by rw [HR.out]; exact ((((((HT.out.alloc _ _).set 0 _).set 1 _).set 2 _).set 3 _).set 4 _).set 5 _⟩
    · rw [if_neg h1] at hR
      have h1' : ¬ (om : Int) < (xm : Int) := by omega
      clear h1
      by_cases h2 : om = xm
      · rw [if_pos h2] at hR
        subst h2
        have HR : Hid _ := hR
        clear hR
        go_enter Tryz.func123, Tryz.ntmps123
        go_wp2_with fail
        go_quiet (fail)
        go_wp2_with fail
        go_quiet (fail)
        go_wp2
        go_end0
        exact ⟨rfl, by rw [HR.out]; exact (HT.out.alloc _ _).set 5 _⟩
      · rw [if_neg h2] at hR
        have h2' : ((om : Int) == (xm : Int)) = false := by rw [beq_eq_false_iff_ne]; omega
        have HR : Hid _ := hR
        clear hR h2
        go_enter Tryz.func123, Tryz.ntmps123
        go_wp2_with fail
        go_quiet (fail)
        go_wp2_with fail
        go_quiet (fail)
        go_wp2
        go_end0
        exact ⟨rfl, by rw [HR.out]; simp only [drewN_more]; exact HT.out.alloc _ _⟩

end Go.Proofs.YtfcbgfomhmcikaaGreatDoor

namespace Go.Proofs.YtfcbgfomhmcikaaGreatDoor
open Go.RowKit

/-- the candidate of a place -/
def Pa.cand (n : Int) (s : List UInt8) (cs : List Pr) (q : Nat × Nat) : Pa.Cd := ⟨n, q.1, q.2, s, Al.mis n s ((cs.getD q.1 ([], [])).2.drop q.2)⟩
/-- all candidates of a strand -/
def Pa.strand (r : List UInt8) (b : Int) (cs : List Pr) (x : Pa.Ch) (n : Int) : Pa.Ch := (Se.inAll n b (Al.along r n) cs cs.length).foldl (fun x q => Pa.weigh x (Pa.cand n (Al.along r n) cs q)) x
/-- the strands from 1 to k -/
def Pa.upto (r : List UInt8) (b : Int) (cs : List Pr) : Nat → Pa.Ch
  | 0 => Pa.zero
  | k + 1 => Pa.strand r b cs (Pa.upto r b cs k) ((k + 1 : Nat) : Int)

theorem Pa.weigh_eq (x : Pa.Ch) (o : Pa.Cd) : (Pa.weigh x o).eq ≤ x.eq + 1 := by
  unfold Pa.weigh
  split
  · simp
  · split
    · simp
    · split <;> simp
theorem Pa.fold_eq (n : Int) (s : List UInt8) (cs : List Pr) : ∀ (l : List (Nat × Nat)) (x : Pa.Ch), (l.foldl (fun x q => Pa.weigh x (Pa.cand n s cs q)) x).eq ≤ x.eq + l.length := by
  intro l
  induction l with
  | nil => intro x; simp
  | cons q l ih =>
    intro x
    have h1 := ih (Pa.weigh x (Pa.cand n s cs q))
    have h2 := Pa.weigh_eq x (Pa.cand n s cs q)
    simp only [List.foldl_cons, List.length_cons]
    omega
theorem Pa.places_few {cs : List Pr} (h : Se.Right cs) (n b : Int) (S : List UInt8) : (Se.inAll n b S cs cs.length).length ≤ 90000 := by
  have h1 := Se.inAll_length n b S cs 4096 h.len cs.length
  have h2 := h.few
  have h3 : cs.length * (4096 + 1) ≤ 16 * (4096 + 1) := Nat.mul_le_mul_right _ h2
  omega
theorem Pa.upto_eq {cs : List Pr} (h : Se.Right cs) (r : List UInt8) (b : Int) : ∀ k, (Pa.upto r b cs k).eq ≤ k * 90000 := by
  intro k
  induction k with
  | zero => simp [Pa.upto, Pa.zero]
  | succ k ih =>
    have h1 := Pa.fold_eq ((k + 1 : Nat) : Int) (Al.along r ((k + 1 : Nat) : Int)) cs (Se.inAll ((k + 1 : Nat) : Int) b (Al.along r ((k + 1 : Nat) : Int)) cs cs.length) (Pa.upto r b cs k)
    have h2 := Pa.places_few h ((k + 1 : Nat) : Int) b (Al.along r ((k + 1 : Nat) : Int))
    show (Pa.strand r b cs (Pa.upto r b cs k) ((k + 1 : Nat) : Int)).eq ≤ _
    unfold Pa.strand
    omega

/-- how it stands within choose -/
structure PaB (w wr : World) (x : Pa.Ch) : Prop where
  below : Below w.heap.size w wr
  size : w.heap.size + 2 ≤ wr.heap.size
  res : wr.heap[w.heap.size]? = some (.cells Pa.zero.vals 143 (0, 0))
  box : wr.heap[w.heap.size + 1]? = some (.cells x.vals 143 (0, 0))
theorem PaB.mono {w wr wr' : World} {x : Pa.Ch} (h : PaB w wr x) (hb : Below wr.heap.size wr wr') : PaB w wr' x := by
  have h2 := h.size
  exact ⟨h.below.trans (hb.mono (by omega)), Nat.le_trans h.size hb.size, (hb.block _ (by omega)).trans h.res, (hb.block _ (by omega)).trans h.box⟩
theorem PaB.turn {w wr wr' : World} {x y : Pa.Ch} (h : PaB w wr x) (t : Pa.T (w.heap.size + 1) wr wr' y.vals) : PaB w wr' y := by
  have h2 := h.size
  exact ⟨h.below.trans (t.beneath (by omega) (by omega)), Nat.le_trans h.size t.size, (t.other _ (by omega) (by omega)).trans h.res, t.row⟩

/-- places that were found, as they lie -/
def Pa.Pl (W : World) (lo : Nat) (va : Option Addr) (l : List (Nat × Nat)) : Prop :=
  ∀ j (h : j < l.length), ∃ gv, va = some ⟨gv, 0, none⟩ ∧ lo ≤ gv ∧ gv < W.heap.size ∧ W.cell? ⟨gv, j * 2, none⟩ = some (.int .i64 (l[j].1 : Int)) ∧ W.cell? ⟨gv, j * 2 + 1, none⟩ = some (.int .i64 (l[j].2 : Int))
theorem Pa.Pl.of_own {W : World} {lo : Nat} {va : Option Addr} {vc : Nat} {l : List (Nat × Nat)} (h : W.ownsRow lo 67 2 (.slice va l.length vc) l.length (Se.pls l)) : Pa.Pl W lo va l := by
  intro j hj
  obtain ⟨g, c, hv, h1, h2⟩ := own_pos h (by omega)
  simp only [Value.slice.injEq, true_and] at hv
  obtain ⟨rfl, rfl⟩ := hv
  obtain ⟨p0, p1⟩ := own_place h j hj
  exact ⟨g, rfl, h1, h2, p0, p1⟩
theorem Pa.cell_same {w w' : World} {p : Addr} (h : w'.heap[p.block]? = w.heap[p.block]?) : w'.cell? p = w.cell? p := by
  unfold World.cell?
  rw [h]
theorem Pa.Pl.mono {W W' : World} {lo : Nat} {va : Option Addr} {l : List (Nat × Nat)} (h : Pa.Pl W lo va l) (hb : Below W.heap.size W W') : Pa.Pl W' lo va l := by
  intro j hj
  obtain ⟨g, h1, h2, h3, h4, h5⟩ := h j hj
  exact ⟨g, h1, h2, Nat.lt_of_lt_of_le h3 hb.size, (Pa.cell_same (hb.block g h3)).trans h4, (Pa.cell_same (hb.block g h3)).trans h5⟩
theorem Pa.Pl.turn {W W' : World} {lo g : Nat} {va : Option Addr} {l : List (Nat × Nat)} {A : Array Value} (h : Pa.Pl W lo va l) (t : Pa.T g W W' A) (hg : g < lo) : Pa.Pl W' lo va l := by
  intro j hj
  obtain ⟨gv, h1, h2, h3, h4, h5⟩ := h j hj
  exact ⟨gv, h1, h2, Nat.lt_of_lt_of_le h3 t.size, (Pa.cell_same (t.other gv h3 (by omega))).trans h4, (Pa.cell_same (t.other gv h3 (by omega))).trans h5⟩

theorem ix_four (k : Nat) (h : k < 4) (wy : World) : (Instr.index 94 (.agg #[.int .i64 1, .int .i64 2, .int .i64 3, .int .i64 4]) (.int .i64 (k : Int))).run Tryz.prog wy = .ok (.int .i64 ((k : Int) + 1)) wy := by
  obtain rfl | rfl | rfl | rfl : k = 0 ∨ k = 1 ∨ k = 2 ∨ k = 3 := by omega
  all_goals first | kernel_rfl | go_simp

end Go.Proofs.YtfcbgfomhmcikaaGreatDoor

namespace Go.Proofs.YtfcbgfomhmcikaaGreatDoor
open Go.RowKit

theorem Tryz.sizeChoice : (Tryz.prog.info? 143).map (·.size) = some 6 := by kernel_rfl

/-- choose's results: a choice in a block of its own, and the error -/
theorem ch_ret {w : World} {g : Nat} {A : Array Value} {tmps : Array Value} (hp : tmps.getD 8 undef = .pointer (some ⟨g, 0, none⟩)) (hg : w.heap[g]? = some (.cells A 143 (0, 0))) (h8 : A.size = 6) :
    (results Tryz.f92 tmps).run Tryz.prog w = .ok (.tuple #[.agg A, tmps.getD 9 undef]) w := by
  rw [results_cell_tmp rfl, hp]
  simp only [asAddr, Sem.run_pure, Result.andThen_ok]
  rw [run_loadVar_row w g 143 143 A (0, 0) _ hg Tryz.underlying143 rfl (by rw [Tryz.sizeChoice, h8])]
  rfl

theorem PaB.start (w : World) : PaB w ((w.alloc (.cells Pa.zero.vals 143)).alloc (.cells Pa.zero.vals 143)) Pa.zero := by
  refine ⟨((Below.refl _ _).alloc (Nat.le_refl _) _).alloc (by simp) _, by simp, ?_, ?_⟩
  · rw [Below.heap_alloc _ _ _ (by simp)]
    exact heap_alloc_new w _
  · exact two_heap w _ _

theorem Pa.find_err {b : Int} {s : List UInt8} {n : Int} (hn : Lt.strandB n = true) : Se.findErr n b s = Al.err b s := by
  unfold Se.findErr Al.err
  rw [if_neg (by rw [hn]; simp)]

theorem Pa.along_err {b : Int} {s : List UInt8} (h : Al.err b s = 0) (n : Int) : Al.err b (Al.along s n) = 0 := by
  obtain ⟨h0, h3, hL, _⟩ := Al.err_none h
  unfold Al.err
  rw [if_neg (by omega), if_neg (by omega)]
  unfold Al.along
  split
  · unfold Se.lettersErr at hL ⊢
    split at hL
    · simp at hL
    · next h1 =>
      have h1' : Lt.allL s = true := by simpa using h1
      rw [if_neg (by rw [Lt.rev_allL h1']; simp), Lt.rev_length]
      exact hL
  · exact hL

theorem Pa.err_allL {b : Int} {s : List UInt8} (h : Al.err b s = 0) : Lt.allL s = true := by
  obtain ⟨_, _, hL, _⟩ := Al.err_none h
  unfold Se.lettersErr at hL
  split at hL
  · simp at hL
  · next h1 => simpa using h1

set_option maxRecDepth 100000 in
set_option maxHeartbeats 800000 in
theorem choose_bad (lt : List UInt8) (b : Int) (cs : List Pr) (B : Nat) (p : Value) (la : Option Addr) (ln lc : Nat) (w : World) (hl : lt.length ≤ 140737488355327) (hR : Se.Right cs) (hI : IxAt w B p cs) (hE : Al.err b lt ≠ 0) :
    Calls Tryz.prog 92 #[.slice la ln lc, p, .string ⟨lt.toArray⟩, .int .i64 b] w fun e w' =>
      e = .returned (.tuple #[.agg Pa.zero.vals, .int .i64 (Al.err b lt)]) ∧ Below w.heap.size w w' := by
  have hp : ∃ bx, p = .pointer (some ⟨bx, 0, none⟩) := by obtain ⟨bx, _, _, h1, _⟩ := hI; exact ⟨bx, h1⟩
  obtain ⟨bx, rfl⟩ := hp
  have HIX : Hid _ := hI
  have HR : Hid _ := hR
  obtain ⟨E, hEE⟩ : ∃ E, E = Al.err b lt := ⟨_, rfl⟩
  have HAC : Hid (∀ W : World, Calls Tryz.prog 121 #[.string ⟨lt.toArray⟩, .int .i64 1] W fun e w' => e = .returned (.string ⟨lt.toArray⟩) ∧ Below W.heap.size W w') := fun W => palong_any ⟨lt.toArray⟩ 1 W (by rw [str_size]; exact hl) (by decide) (.inl rfl)
  have HFC : Hid (∀ W : World, Below w.heap.size w W → Calls Tryz.prog 55 #[.pointer (some ⟨bx, 0, none⟩), .string ⟨lt.toArray⟩, .int .i64 1, .int .i64 b] W fun e w' => e = .returned (.tuple #[.slice none 0 0, .int .i64 E]) ∧ Below W.heap.size W w') := fun W hb => by
    refine (ixFind_any cs B _ ⟨lt.toArray⟩ 1 b W (IxAt.below HIX.out hb) HR.out (by rw [str_size]; exact hl)).mono ?_
    rintro e w' ⟨v, rfl, _, hv, hb2⟩
    rw [show (⟨lt.toArray⟩ : ByteArray).data.toList = lt from by simp, Pa.find_err (by decide), ← hEE] at hv ⊢
    rw [hv (by rw [hEE]; exact hE)]
    exact ⟨rfl, hb2⟩
  rw [← hEE] at hE ⊢
  have hne : (E != 0) = true := by rw [bne_iff_ne]; exact hE
  have h4 : ∀ wy : World, (Instr.index 94 (.agg #[.int .i64 1, .int .i64 2, .int .i64 3, .int .i64 4]) (.int .i64 0)).run Tryz.prog wy = .ok (.int .i64 1) wy := ix_four 0 (by omega)
  clear hEE hE hR hI
  go_enter Tryz.func92, Tryz.ntmps92
  go_wp2
  go_loopw [20] (fun i wr => i = .int .i64 0 ∧ Hid (PaB w wr Pa.zero)) (fun _ _ => 0)
  case atStart => exact ⟨rfl, PaB.start w⟩
  case round =>
    obtain ⟨rfl, HAB⟩ := hrel
    go_wp2_with fail
    refine (HAC.out _).mono ?_
    rintro e w1 ⟨rfl, hb1⟩
    have HAB1 : Hid _ := PaB.mono HAB.out hb1
    clear hb1 HAB
    go_wp2_with fail
    refine (HFC.out _ (PaB.below HAB1.out)).mono ?_
    rintro e w2 ⟨rfl, hb2⟩
    have HAB2 : Hid _ := PaB.mono HAB1.out hb2
    have hres := PaB.res HAB2.out
    have r0 : w2.cell? ⟨w.heap.size, 0, none⟩ = some (.int .i64 0) := cell_of_row w2 w.heap.size 0 _ _ _ hres
    have f0 : w2.frozen? ⟨w.heap.size, 0, none⟩ = false := frozen_of_row w2 w.heap.size 0 _ _ hres
    have r1 : w2.cell? ⟨w.heap.size, 1, none⟩ = some (.int .i64 0) := cell_of_row w2 w.heap.size 1 _ _ _ hres
    have f1 : w2.frozen? ⟨w.heap.size, 1, none⟩ = false := frozen_of_row w2 w.heap.size 1 _ _ hres
    have r2 : w2.cell? ⟨w.heap.size, 2, none⟩ = some (.int .i64 0) := cell_of_row w2 w.heap.size 2 _ _ _ hres
    have f2 : w2.frozen? ⟨w.heap.size, 2, none⟩ = false := frozen_of_row w2 w.heap.size 2 _ _ hres
    have r3 : w2.cell? ⟨w.heap.size, 3, none⟩ = some (.string ⟨#[]⟩) := cell_of_row w2 w.heap.size 3 _ _ _ hres
    have f3 : w2.frozen? ⟨w.heap.size, 3, none⟩ = false := frozen_of_row w2 w.heap.size 3 _ _ hres
    have r4 : w2.cell? ⟨w.heap.size, 4, none⟩ = some (.int .i64 0) := cell_of_row w2 w.heap.size 4 _ _ _ hres
    have f4 : w2.frozen? ⟨w.heap.size, 4, none⟩ = false := frozen_of_row w2 w.heap.size 4 _ _ hres
    have r5 : w2.cell? ⟨w.heap.size, 5, none⟩ = some (.int .i64 0) := cell_of_row w2 w.heap.size 5 _ _ _ hres
    have f5 : w2.frozen? ⟨w.heap.size, 5, none⟩ = false := frozen_of_row w2 w.heap.size 5 _ _ hres
    have HTT : Hid (Pa.T w.heap.size w2 w2 Pa.zero.vals) := Pa.T.refl hres
    have HBB : Hid _ := PaB.below HAB2.out
    clear hb2 HAB1 hres
    go_wp2
    have hT := (((((HTT.out.set 0 (.int .i64 0)).set 1 (.int .i64 0)).set 2 (.int .i64 0)).set 3 (.string ⟨#[]⟩)).set 4 (.int .i64 0)).set 5 (.int .i64 0)
    refine bodyPost_ret (ch_ret rfl hT.row rfl) rfl ?_
    exact ⟨rfl, HBB.out.trans (hT.beneath (Nat.le_refl _) (PaB.below HAB2.out).size)⟩

end Go.Proofs.YtfcbgfomhmcikaaGreatDoor
