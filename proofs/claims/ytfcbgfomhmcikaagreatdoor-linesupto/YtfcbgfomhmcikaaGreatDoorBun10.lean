/-
  THE DOCUMENT'S SEARCH, its small walks: the three-letter mismatches, the error of a read's letters. Own text of the verifier.
  THE DOCUMENT'S SEARCH: every place, in order. Own text of the verifier.
  THE DOCUMENT'S New: its error. Own text of the verifier.
  LISTS THAT CAME OUT, MARKED BY THEIR OWNER: laws on rows of marks that share their room. Own text of the verifier.
-/
import Derived.Test.YtfcbgfomhmcikaaGreatDoorBun6
import Derived.Test.YtfcbgfomhmcikaaGreatDoorBun2
import Derived.BigQuiet
import Derived.Test.YtfcbgfomhmcikaaGreatDoorBun3
import Derived.Test.YtfcbgfomhmcikaaGreatDoorBun9
import Derived.ArgAppend
namespace Go.Proofs.YtfcbgfomhmcikaaGreatDoor
open Go.RowKit

/-- two letters that do not stand for one another, on a strand -/
def Se.off (n : Int) (a b : UInt8) : Bool := a == 78 || b == 78 || Lt.trn a n != Lt.trn b n
/-- the three-letter mismatches -/
def Se.three (n : Int) : List UInt8 → List UInt8 → Nat
  | a :: s, b :: t => (if Se.off n a b then 1 else 0) + Se.three n s t
  | _, _ => 0

theorem Se.three_take (n : Int) : ∀ (s t : List UInt8) (k : Nat) (h1 : k < s.length) (h2 : k < t.length), Se.three n (s.take (k + 1)) (t.take (k + 1)) = Se.three n (s.take k) (t.take k) + (if Se.off n s[k] t[k] then 1 else 0) := by
  intro s
  induction s with
  | nil => intro t k h1; simp at h1
  | cons a s ih =>
    intro t k h1 h2
    cases t with
    | nil => simp at h2
    | cons b t =>
      cases k with
      | zero => simp [Se.three]
      | succ k =>
        have := ih t k (by simpa using h1) (by simpa using h2)
        simp only [List.take_succ_cons, Se.three, List.getElem_cons_succ] at this ⊢
        omega

theorem Se.three_le (n : Int) : ∀ (s t : List UInt8), Se.three n s t ≤ s.length := by
  intro s
  induction s with
  | nil => intro t; simp [Se.three]
  | cons a s ih =>
    intro t
    cases t with
    | nil => simp [Se.three]
    | cons b t => have := ih t; simp only [Se.three, List.length_cons]; split <;> omega

theorem Se.three_whole (n : Int) : ∀ (s t : List UInt8) (k : Nat), s.length ≤ k → Se.three n (s.take k) (t.take k) = Se.three n s t := by
  intro s
  induction s with
  | nil => intro t k _; simp [Se.three]
  | cons a s ih =>
    intro t k h
    obtain ⟨k, rfl⟩ : ∃ j, k = j + 1 := ⟨k - 1, by simp at h; omega⟩
    cases t with
    | nil => simp [Se.three]
    | cons b t => simp only [List.take_succ_cons, Se.three]; rw [ih t k (by simpa using h)]

theorem u8_is78 (c : UInt8) : (c == 78) = ((c.toNat : Int) == 78) := u8_beq c 78 (by omega)
theorem u8_bne (a b : UInt8) : (a != b) = ((a.toNat : Int) != (b.toNat : Int)) := by
  rw [Bool.eq_iff_iff, bne_iff_ne, bne_iff_ne]
  constructor
  · intro h h2; exact h (UInt8.toNat_inj.1 (by omega))
  · intro h h2; exact h (by rw [h2])

theorem drewN_more (w : World) (a b : Nat) : (w.drewN a).drewN b = w.drewN (a + b) := by simp [World.drewN, Nat.add_assoc]

set_option maxRecDepth 100000 in
set_option maxHeartbeats 1600000 in
theorem three_any (s t : ByteArray) (n : Int) (w : World) (hs : s.size ≤ 1000000) (ht : s.size ≤ t.size) (htm : t.size ≤ 140737488355327) :
    Calls Tryz.prog 120 #[.string s, .string t, .int .i64 n] w fun e w' => e = .returned (.int .i64 (Se.three n s.data.toList t.data.toList : Nat)) ∧ ∃ m, w' = w.drewN m := by
  go_enter Tryz.func120, Tryz.ntmps120
  go_wp2
  go_loopw [7, 8] (fun m i wr => ∃ k j : Nat, k ≤ s.size ∧ i = .int .i64 (k : Int) ∧ m = .int .i64 (j : Int) ∧ j ≤ k ∧ Hid (j = Se.three n (s.data.toList.take k) (t.data.toList.take k)) ∧ Hid (∃ q, wr = w.drewN q)) (fun _ i _ => s.size - (intOf i).toNat)
  case atStart => exact ⟨0, 0, Nat.zero_le _, rfl, rfl, Nat.le_refl _, by simp [Se.three, Hid], ⟨0, rfl⟩⟩
  case round =>
    obtain ⟨k, j, hk, rfl, rfl, hjk, HJ, HW⟩ := hrel
    by_cases hlt : k < s.size
    · have hlt2 : k < t.size := by omega
      have HT : Hid _ := Se.three_take n s.data.toList t.data.toList k (by simpa using hlt) (by simpa using hlt2)
      have hi1 := ix_str s k hlt (k : Int) rfl
      have hi2 := ix_str t k hlt2 (k : Int) rfl
      have hlt' : (k : Int) < (s.size : Int) := by omega
      have hlt2' : (k : Int) < (t.size : Int) := by omega
      have ho : Se.off n s[k] t[k] = (((s[k].toNat : Int) == 78) || ((t[k].toNat : Int) == 78) || (((Lt.trn s[k] n).toNat : Int) != ((Lt.trn t[k] n).toNat : Int))) := by
        unfold Se.off
        rw [u8_is78, u8_is78, u8_bne]
      have HO : Hid _ := ho
      clear ho
      cases h1 : ((s[k].toNat : Int) == 78) <;> cases h2 : ((t[k].toNat : Int) == 78) <;> cases h3 : (((Lt.trn s[k] n).toNat : Int) != ((Lt.trn t[k] n).toNat : Int))
      all_goals
        have HOF : Hid _ := HO.out
        rw [h1, h2, h3] at HOF
        clear HO
        go_wp2_with fail
        go_quiet (first | (go_at_call 41; refine Calls.quiet_of_same (refTurned_any _ _ _)))
        go_wp2
        go_roundw
        case rel =>
          have e1 : Se.off n s[k] t[k] = _ := HOF.out
          simp only [Bool.or_false, Bool.or_true, Bool.or_self] at e1
          refine ⟨k + 1, j + (if Se.off n s[k] t[k] then 1 else 0), by omega, by go_num, ?_, ?_, ?_, ?_⟩
          · rw [e1]; first | rfl | go_num
          · rw [e1]; simp; try omega
          · show j + _ = _
            rw [HT.out, ← HJ.out]
            rfl
          · obtain ⟨q, rfl⟩ := HW.out
            exact ⟨q + nq, by rw [drewN_more]⟩
        case measure => simp [intOf]; omega
    · have HF : Hid _ := Se.three_whole n s.data.toList t.data.toList k (by simp; omega)
      have hlt' : ¬ (k : Int) < (s.size : Int) := by omega
      go_wp2
      go_ret
      exact ⟨ret_int (by rw [HJ.out, HF.out]), HW.out⟩

/-- the error of a read's letters -/
def Se.lettersErr (l : List UInt8) : Int := if Lt.allL l = false then 8 else if l.length = 0 then 8 else if 128 < l.length then 7 else 0

set_option maxRecDepth 100000 in
set_option maxHeartbeats 1600000 in
theorem refLetters_any (s : ByteArray) (w : World) (hs : s.size ≤ 140737488355327) :
    Calls Tryz.prog 90 #[.string s] w fun e w' => e = .returned (.int .i64 (Se.lettersErr s.data.toList)) ∧ w' = w := by
  have hsm : s.size ≤ maxLen := by unfold maxLen; omega
  have hsz : s.data.toList.length = s.size := by simp
  have hE : (s.toList = []) ↔ s.size = 0 := by
    rw [ByteArray.toList_eq, List.eq_nil_iff_length_eq_zero, hsz]
  cases hL : Lt.allL s.data.toList with
  | false =>
    have HR : Hid (Se.lettersErr s.data.toList = 8) := by show _ = _; rw [Se.lettersErr, if_pos hL]
    have HL : Hid _ := hL
    clear hL hE hsz
    go_enter Tryz.func90, Tryz.ntmps90
    go_wp2_with (go_at_call 37; refine (plain_any _ _ hsm).mono ?_; rintro e w' ⟨rfl, hw⟩; subst w'; rw [HL.out])
    go_ret
    exact ⟨ret_int HR.out.symm, rfl⟩
  | true =>
    have HL : Hid _ := hL
    by_cases h0 : s.size = 0
    · have HR : Hid (Se.lettersErr s.data.toList = 8) := by show _ = _; rw [Se.lettersErr, if_neg (by simp [hL]), if_pos (by omega)]
      have h0' := hE.2 h0
      clear hL hE hsz h0
      go_enter Tryz.func90, Tryz.ntmps90
      go_wp2_with (go_at_call 37; refine (plain_any _ _ hsm).mono ?_; rintro e w' ⟨rfl, hw⟩; subst w'; rw [HL.out])
      go_ret
      exact ⟨ret_int HR.out.symm, rfl⟩
    · have h0' : s.toList.isEmpty = false := by rw [List.isEmpty_eq_false_iff]; exact fun h => h0 (hE.1 h)
      have HR : Hid (Se.lettersErr s.data.toList = if 128 < s.size then 7 else 0) := by show _ = _; rw [Se.lettersErr, if_neg (by simp [hL]), if_neg (by omega), hsz]
      clear hL hE hsz
      by_cases h1 : 128 < s.size
      · have h1' : (128 : Int) < (s.size : Int) := by omega
        go_enter Tryz.func90, Tryz.ntmps90
        go_wp2_with (go_at_call 37; refine (plain_any _ _ hsm).mono ?_; rintro e w' ⟨rfl, hw⟩; subst w'; rw [HL.out])
        go_ret
        exact ⟨ret_int (by rw [HR.out, if_pos h1]), rfl⟩
      · have h1' : ¬ (128 : Int) < (s.size : Int) := by omega
        go_enter Tryz.func90, Tryz.ntmps90
        go_wp2_with (go_at_call 37; refine (plain_any _ _ hsm).mono ?_; rintro e w' ⟨rfl, hw⟩; subst w'; rw [HL.out])
        go_ret
        exact ⟨ret_int (by rw [HR.out, if_neg h1]), rfl⟩

end Go.Proofs.YtfcbgfomhmcikaaGreatDoor

namespace Go.Proofs.YtfcbgfomhmcikaaGreatDoor
open Go.RowKit

theorem Se.three_short (n : Int) : ∀ (s t : List UInt8) (k : Nat), s.length ≤ k → Se.three n s (t.take k) = Se.three n s t := by
  intro s
  induction s with
  | nil => intro t k _; simp [Se.three]
  | cons a s ih =>
    intro t k h
    obtain ⟨k, rfl⟩ : ∃ j, k = j + 1 := ⟨k - 1, by simp at h; omega⟩
    cases t with
    | nil => simp [Se.three]
    | cons b t => simp only [List.take_succ_cons, Se.three]; rw [ih t k (by simpa using h)]

/-- do the letters s stand in t at a place, within a budget? -/
def Se.stands (n b : Int) (s t : List UInt8) (p : Nat) : Bool := decide ((Se.three n s (t.drop p) : Int) ≤ b)
/-- the places of one contig, of the first m that may be -/
def Se.upto (n b : Int) (s t : List UInt8) (c m : Nat) : List (Nat × Nat) := ((List.range m).filter (Se.stands n b s t)).map (fun p => (c, p))
/-- all places of one contig -/
def Se.inOne (n b : Int) (s t : List UInt8) (c : Nat) : List (Nat × Nat) := Se.upto n b s t c (t.length + 1 - s.length)
/-- all places of the first k contigs -/
def Se.inAll (n b : Int) (s : List UInt8) (cs : List Pr) : Nat → List (Nat × Nat)
  | 0 => []
  | k + 1 => Se.inAll n b s cs k ++ (match cs[k]? with | some x => Se.inOne n b s x.2 k | none => [])

theorem Se.upto_length (n b : Int) (s t : List UInt8) (c m : Nat) : (Se.upto n b s t c m).length ≤ m := by
  rw [Se.upto, List.length_map]
  have := List.length_filter_le (Se.stands n b s t) (List.range m)
  simpa using this
theorem Se.upto_succ (n b : Int) (s t : List UInt8) (c m : Nat) : Se.upto n b s t c (m + 1) = Se.upto n b s t c m ++ (if Se.stands n b s t m then [(c, m)] else []) := by
  rw [Se.upto, Se.upto, List.range_succ, List.filter_append, List.map_append]
  congr 1
  by_cases h : Se.stands n b s t m = true
  · simp [h]
  · simp [h]
theorem Se.inAll_length (n b : Int) (s : List UInt8) (cs : List Pr) (N : Nat) (hN : ∀ x ∈ cs, x.2.length ≤ N) : ∀ k, (Se.inAll n b s cs k).length ≤ k * (N + 1) := by
  intro k
  induction k with
  | zero => simp [Se.inAll]
  | succ k ih =>
    rw [Se.inAll, List.length_append, Nat.succ_mul]
    have : (match cs[k]? with | some x => Se.inOne n b s x.2 k | none => []).length ≤ N + 1 := by
      split
      · next x hx =>
        have h1 := Se.upto_length n b s x.2 k (x.2.length + 1 - s.length)
        have h2 := hN x (List.mem_of_getElem? hx)
        rw [Se.inOne]
        omega
      · simp
    omega

/-- places, as cells -/
def Se.pls (l : List (Nat × Nat)) : List Value := l.flatMap (fun p => [.int .i64 (p.1 : Int), .int .i64 (p.2 : Int)])
theorem Se.pls_length (l : List (Nat × Nat)) : (Se.pls l).length = l.length * 2 := by
  induction l with
  | nil => rfl
  | cons a l ih => simp only [Se.pls, List.flatMap_cons, List.length_append, List.length_cons, List.length_nil] at ih ⊢; omega
theorem Se.pls_append (a b : List (Nat × Nat)) : Se.pls (a ++ b) = Se.pls a ++ Se.pls b := by simp [Se.pls]

theorem Tryz.infoPlace : (Tryz.prog.info? 67).map (fun i => (i.zero, i.size, i.bytes)) = some (some (.agg #[.int .i64 0, .int .i64 0]), 2, 16) := by kernel_rfl

theorem src_pair {w : World} {ad : Addr} {l : List Pr} (h : ∀ j u, (Prs l)[j]? = some u → w.cell? (ad.add j) = some u) (k : Nat) (hk : k < l.length) : w.cell? (ad.add (k * 2 + 1)) = some (.string ⟨l[k].2.toArray⟩) := by
  refine h (k * 2 + 1) _ ?_
  have e : l = l.take k ++ l.drop k := (List.take_append_drop k l).symm
  have hl : (Prs (l.take k)).length = k * 2 := by rw [Prs_length, List.length_take]; omega
  conv => lhs; rw [e, Prs_append]
  rw [List.getElem?_append_right (by omega), hl, show k * 2 + 1 - k * 2 = 1 by omega, List.drop_eq_getElem_cons hk]
  simp only [Prs, List.flatMap_cons, prCells, List.cons_append, List.nil_append]
  rfl

/-- two cells of a row just made -/
theorem two_cells (w : World) (a b : Value) (e : TypeId) : ∀ j u, [a, b][j]? = some u → (w.alloc (.cells #[a, b] e)).cell? ((⟨w.heap.size, 0, none⟩ : Addr).add j) = some u := by
  intro j u hj
  rw [Addr.add_lit, Nat.zero_add, cell_of_row _ _ j #[a, b] e (0, 0) (heap_alloc_new w _), ← hj]
  simp

theorem addr_next (ad : Addr) (k : Nat) : (⟨(ad.add k).block, (ad.add k).off + 1, none⟩ : Addr) = ad.add (k + 1) := by
  unfold Addr.add
  by_cases h : k = 0
  · simp [h]
  · simp [h]; omega

set_option maxRecDepth 100000 in
set_option maxHeartbeats 4000000 in
theorem refFind_row (cs : List Pr) (ad : Addr) (cc : Nat) (s : ByteArray) (n b : Int) (w : World) (hc : cs.length ≤ 1000) (hN : ∀ x ∈ cs, x.2.length ≤ 100000) (hs : s.size ≤ 1000000)
    (hsrc : ∀ j u, (Prs cs)[j]? = some u → w.cell? (ad.add j) = some u) (hpos : 0 < cs.length) :
    Calls Tryz.prog 91 #[.slice (some ad) cs.length cc, .string s, .int .i64 n, .int .i64 b] w fun e w' =>
      ∃ v, e = .returned v ∧ w'.ownsRow w.heap.size 67 2 v (Se.inAll n b s.data.toList cs cs.length).length (Se.pls (Se.inAll n b s.data.toList cs cs.length)) ∧ Below w.heap.size w w' := by
  obtain ⟨S, hS⟩ : ∃ S, S = s.data.toList := ⟨_, rfl⟩
  rw [← hS]
  have HS : Hid _ := hS
  have HSL : Hid (S.length = s.size) := by show _ = _; rw [hS]; simp
  clear hS
  have HSRC : Hid _ := hsrc
  have HN : Hid _ := hN
  clear hsrc hN
  go_enter Tryz.func91, Tryz.ntmps91
  go_wp2
  go_loopw [9, 10] (fun v i wr => ∃ k : Nat, k ≤ cs.length ∧ i = .int .i64 (k : Int) ∧ wr.ownsRow w.heap.size 67 2 v (Se.inAll n b S cs k).length (Se.pls (Se.inAll n b S cs k)) ∧ Below w.heap.size w wr) (fun _ i _ => cs.length - (intOf i).toNat)
  case atStart => exact ⟨0, Nat.zero_le _, rfl, World.ownsRow_nil _ _ _ _, Below.refl _ _⟩
  case round =>
    obtain ⟨k, hk, rfl, hown, hbel⟩ := hrel
    by_cases hlt : k < cs.length
    · have hlt' : (k : Int) < (cs.length : Int) := by omega
      obtain ⟨x, hx⟩ : ∃ x, x = cs[k] := ⟨_, rfl⟩
      have hxN : x.2.length ≤ 100000 := HN.out x (by rw [hx]; exact List.getElem_mem _)
      have HX : Hid (Se.inAll n b S cs (k + 1) = Se.inAll n b S cs k ++ Se.inOne n b S x.2 k) := by show _ = _; rw [Se.inAll, List.getElem?_eq_getElem hlt, hx]
      have HLEN : Hid _ := Se.inAll_length n b S cs 100000 HN.out k
      have HCELL : Hid (∀ X, Below w.heap.size w X → X.cell? (ad.add (k * 2 + 1)) = some (.string ⟨x.2.toArray⟩)) := fun X hb => by
        have h0 := src_pair HSRC.out k hlt
        rw [← hx] at h0
        rw [hb.cell (World.block_lt_of_cell? w _ h0)]
        exact h0
      clear hx
      generalize hP : Se.inAll n b S cs k = P at *
      clear hP
      go_wp2
      go_loopw [9, 11] (fun v i wr2 => ∃ q : Nat, q ≤ x.2.length + 1 - S.length ∧ i = .int .i64 (q : Int) ∧ wr2.ownsRow w.heap.size 67 2 v (P ++ Se.upto n b S x.2 k q).length (Se.pls (P ++ Se.upto n b S x.2 k q)) ∧ Below w.heap.size w wr2) (fun _ i _ => x.2.length + 1 - S.length - (intOf i).toNat)
      case atStart => exact ⟨0, Nat.zero_le _, rfl, by simpa [Se.upto] using hown, hbel⟩
      case round =>
        clear hown hbel
        obtain ⟨q, hq, rfl, hown, hbel⟩ := hrel
        have hcell := HCELL.out _ hbel
        have hcell2 : wr.cell? ⟨(ad.add (k * 2)).block, (ad.add (k * 2)).off + 1, none⟩ = some (.string ⟨x.2.toArray⟩) := by rw [addr_next]; exact hcell
        clear hcell
        obtain ⟨va, vcap, hv⟩ := own_form hown
        subst hv
        have hSL := HSL.out
        have hxs : (⟨x.2.toArray⟩ : ByteArray).size = x.2.length := by simp [ByteArray.size]
        by_cases hin : q + s.size ≤ x.2.length
        · have hin' : (q : Int) + (s.size : Int) ≤ (x.2.length : Int) := by omega
          have hex : Se.three n S ((⟨x.2.toArray⟩ : ByteArray).extract q (q + s.size)).data.toList = Se.three n S (x.2.drop q) := by
            rw [extract_piece]
            show Se.three n S (Tx.piece ⟨x.2.toArray⟩ q (q + s.size)) = _
            rw [Tx.piece, show q + s.size - q = s.size by omega, Se.three_short _ _ _ _ (by omega)]
          have hes : s.size ≤ ((⟨x.2.toArray⟩ : ByteArray).extract q (q + s.size)).size := by rw [ByteArray.size_extract, hxs]; omega
          have hem : ((⟨x.2.toArray⟩ : ByteArray).extract q (q + s.size)).size ≤ 140737488355327 := by rw [ByteArray.size_extract, hxs]; omega
          have HEX : Hid _ := hex
          have HOWN : Hid _ := hown
          have HUP : Hid _ := Se.upto_succ n b S x.2 k q
          have HUL : Hid _ := Se.upto_length n b S x.2 k q
          clear hex hown
          go_wp2_with fail
          refine (three_any s _ n _ hs hes hem).mono ?_
          rw [← HS.out, HEX.out]
          rintro e w2 ⟨rfl, hw2⟩
          obtain ⟨j, hj⟩ : ∃ j, j = Se.three n S (x.2.drop q) := ⟨_, rfl⟩
          have hb2 : Below wr.heap.size wr w2 := by obtain ⟨m, rfl⟩ := hw2; exact below_drewN (Below.refl _ _) m
          have HO2 : Hid _ := own_below HOWN.out hb2
          have hbel2 := hbel.trans (hb2.mono hbel.size)
          have HB2 : Hid _ := hbel2
          rw [← hj]
          have HST : Hid (Se.stands n b S x.2 q = decide ((j : Int) ≤ b)) := by show _ = _; rw [Se.stands, ← hj]
          have hjl : j ≤ s.size := by rw [hj, ← hSL]; exact Se.three_le _ _ _
          clear hw2 hj hb2 HEX HOWN hes hem
          have hsz2 := hbel2.size
          clear hbel2 hbel hcell2
          have HPL : Hid ((P ++ Se.upto n b S x.2 k q).length ≤ 1000 * 100001 + 100001) := by
            show _ ≤ _
            have h1 := HLEN.out
            have h2 := HUL.out
            have h3 : k * (100000 + 1) ≤ 1000 * (100000 + 1) := Nat.mul_le_mul_right _ (by omega)
            rw [List.length_append]
            omega
          obtain ⟨L, hL⟩ : ∃ L, L = P ++ Se.upto n b S x.2 k q := ⟨_, rfl⟩
          rw [← hL] at HO2 HPL ⊢
          have HL : Hid _ := hL
          clear hL
          by_cases hjb : (j : Int) ≤ b
          · have hpl := HPL.out
            go_wp2_with (at_builtin; refine app_src rfl _ _ 65 rfl w.heap.size 67 _ 2 16 Tryz.underlying65 Tryz.infoPlace rfl (by decide) (.slice va L.length vcap) L.length (Se.pls L) (.slice (some ⟨w2.heap.size, 0, none⟩) 1 1) 1 [.int .i64 (k : Int), .int .i64 (q : Int)] rfl rfl (by exact World.ownsRow.alloc HO2.out _) (.inr ⟨_, _, rfl, by exact two_cells _ _ _ _⟩) rfl (by simp [Value.oneCell']) (by exact Below.alloc HB2.out hsz2 _) (by simp; omega) (by omega) (by decide) ?_; intro v3 w3 hown3 hbel3 _ _)
            go_roundw
            case rel =>
              refine ⟨q + 1, by omega, by go_num, ?_, hbel3⟩
              rw [HUP.out, HST.out, decide_eq_true hjb, if_pos rfl, ← List.append_assoc, ← HL.out, Se.pls_append, List.length_append]
              exact hown3
            case measure => simp [intOf]; omega
          · go_wp2
            go_roundw
            case rel =>
              refine ⟨q + 1, by omega, by go_num, ?_, HB2.out⟩
              rw [HUP.out, HST.out, decide_eq_false (by omega), if_neg (by simp), List.append_nil, ← HL.out]
              exact HO2.out
            case measure => simp [intOf]; omega
        · have hin' : ¬ (q : Int) + (s.size : Int) ≤ (x.2.length : Int) := by omega
          have HQE : Hid (q = x.2.length + 1 - S.length) := by show _ = _; omega
          go_wp2
          go_roundw
          case rel =>
            refine ⟨k + 1, by omega, by go_num, ?_, hbel⟩
            rw [HX.out, Se.inOne, ← HQE.out]
            exact hown
          case measure => simp [intOf]; omega
    · have hke : k = cs.length := by omega
      have hlt' : ¬ (k : Int) < (cs.length : Int) := by omega
      rw [hke] at hown
      have HO : Hid _ := hown
      clear hke hown
      go_wp2
      go_ret
      exact ⟨_, rfl, HO.out, hbel⟩

/-- Find's error -/
def Se.findErr (n b : Int) (S : List UInt8) : Int := if Lt.strandB n = false then 1 else if b < 0 then 1 else if 3 < b then 1 else Se.lettersErr S
/-- Find's places -/
def Se.findOut (n b : Int) (S : List UInt8) (cs : List Pr) : List (Nat × Nat) := if Se.findErr n b S = 0 then Se.inAll n b S cs cs.length else []

theorem ret_two {v : Value} {a b : Int} (h : a = b) : Ending.returned (.tuple #[v, .int .i64 a]) = .returned (.tuple #[v, .int .i64 b]) := by rw [h]

set_option maxRecDepth 100000 in
set_option maxHeartbeats 4000000 in
theorem refFind_any (cs : List Pr) (ad : Addr) (cc : Nat) (s : ByteArray) (n b : Int) (w : World) (hc : cs.length ≤ 1000) (hN : ∀ x ∈ cs, x.2.length ≤ 100000) (hs : s.size ≤ 140737488355327)
    (hsrc : ∀ j u, (Prs cs)[j]? = some u → w.cell? (ad.add j) = some u) (hpos : 0 < cs.length) :
    Calls Tryz.prog 56 #[.slice (some ad) cs.length cc, .string s, .int .i64 n, .int .i64 b] w fun e w' =>
      ∃ v, e = .returned (.tuple #[v, .int .i64 (Se.findErr n b s.data.toList)]) ∧ w'.ownsRow w.heap.size 67 2 v (Se.findOut n b s.data.toList cs).length (Se.pls (Se.findOut n b s.data.toList cs)) ∧ Below w.heap.size w w' := by
  have HSRC : Hid _ := hsrc
  have HN : Hid _ := hN
  have hsz : s.data.toList.length = s.size := by simp
  clear hsrc hN
  have hbad : ∀ x : Int, Se.findErr n b s.data.toList = x → x ≠ 0 → Se.findOut n b s.data.toList cs = [] := fun x h h0 => by rw [Se.findOut, if_neg (by rw [h]; exact h0)]
  obtain ⟨E, hE⟩ : ∃ E, E = Se.findErr n b s.data.toList := ⟨_, rfl⟩
  obtain ⟨O, hO⟩ : ∃ O, O = Se.findOut n b s.data.toList cs := ⟨_, rfl⟩
  rw [← hE, ← hO] at hbad
  rw [← hE, ← hO]
  have hfin : E ≠ 0 → ∀ X : World, X.ownsRow w.heap.size 67 2 (.slice none 0 0) O.length (Se.pls O) := fun h X => by
    rw [hbad E rfl h]; exact World.ownsRow_nil _ _ _ _
  have HFIN : Hid _ := hfin
  clear hbad hfin
  cases hst : Lt.strandB n with
  | false =>
    have HE : Hid (E = 1) := by show _ = _; rw [hE, Se.findErr, if_pos hst]
    have HT : Hid _ := hst
    clear hst hE hO hsz
    go_enter Tryz.func56, Tryz.ntmps56
    go_wp2_with (go_at_call 40; refine (strand_any _ _).mono ?_; rintro e w' ⟨rfl, hw⟩; subst w'; rw [HT.out])
    go_ret2
    exact ⟨_, ret_two HE.out.symm, HFIN.out (by rw [HE.out]; decide) _, Below.refl _ _⟩
  | true =>
    have HT : Hid _ := hst
    by_cases hb0 : b < 0
    · have HE : Hid (E = 1) := by show _ = _; rw [hE, Se.findErr, if_neg (by simp [hst]), if_pos hb0]
      clear hst hE hO hsz
      go_enter Tryz.func56, Tryz.ntmps56
      go_wp2_with (go_at_call 40; refine (strand_any _ _).mono ?_; rintro e w' ⟨rfl, hw⟩; subst w'; rw [HT.out])
      go_ret2
      exact ⟨_, ret_two HE.out.symm, HFIN.out (by rw [HE.out]; decide) _, Below.refl _ _⟩
    · by_cases hb3 : 3 < b
      · have HE : Hid (E = 1) := by show _ = _; rw [hE, Se.findErr, if_neg (by simp [hst]), if_neg hb0, if_pos hb3]
        clear hst hE hO hsz
        go_enter Tryz.func56, Tryz.ntmps56
        go_wp2_with (go_at_call 40; refine (strand_any _ _).mono ?_; rintro e w' ⟨rfl, hw⟩; subst w'; rw [HT.out])
        go_ret2
        exact ⟨_, ret_two HE.out.symm, HFIN.out (by rw [HE.out]; decide) _, Below.refl _ _⟩
      · have hEL : E = Se.lettersErr s.data.toList := by rw [hE, Se.findErr, if_neg (by simp [hst]), if_neg hb0, if_neg hb3]
        have HEL : Hid _ := hEL
        by_cases hz : E = 0
        · have HO : Hid (O = Se.inAll n b s.data.toList cs cs.length) := by show _ = _; rw [hO, Se.findOut, if_pos (by rw [← hE]; exact hz)]
          have hs1 : s.size ≤ 1000000 := by
            rw [hEL, Se.lettersErr, hsz] at hz
            split at hz
            · simp at hz
            · split at hz
              · simp at hz
              · split at hz
                · simp at hz
                · omega
          have HZ : Hid _ := hz
          clear hst hE hO hsz hEL hz
          go_enter Tryz.func56, Tryz.ntmps56
          go_wp2_with (first
            | (go_at_call 40; refine (strand_any _ _).mono ?_; rintro e w' ⟨rfl, hw⟩; subst w'; rw [HT.out])
            | (go_at_call 90; refine (refLetters_any _ _ hs).mono ?_; rintro e w' ⟨rfl, hw⟩; subst w'; rw [← HEL.out, HZ.out])
            | (go_at_call 91; refine (refFind_row cs ad cc s n b _ hc HN.out hs1 HSRC.out hpos).mono ?_; rw [← HO.out]; rintro e w1 ⟨v, rfl, ho, hb⟩))
          go_ret2
          exact ⟨_, ret_two HZ.out.symm, ho, hb⟩
        · have hz' : (E != 0) = true := by rw [bne_iff_ne]; exact hz
          have HZ : Hid _ := hz
          clear hst hE hO hsz hEL hz
          go_enter Tryz.func56, Tryz.ntmps56
          go_wp2_with (first
            | (go_at_call 40; refine (strand_any _ _).mono ?_; rintro e w' ⟨rfl, hw⟩; subst w'; rw [HT.out])
            | (go_at_call 90; refine (refLetters_any _ _ hs).mono ?_; rintro e w' ⟨rfl, hw⟩; subst w'; rw [← HEL.out]))
          go_ret2
          exact ⟨_, rfl, HFIN.out HZ.out _, Below.refl _ _⟩

end Go.Proofs.YtfcbgfomhmcikaaGreatDoor

namespace Go.Proofs.YtfcbgfomhmcikaaGreatDoor
open Go.RowKit

/-- a contig that may not be -/
def Se.wrong (c : Pr) : Bool := !Lt.allL c.2 || c.2.length == 0
def Se.total : List Pr → Nat
  | [] => 0
  | c :: r => c.2.length + Se.total r
/-- New's error -/
def Se.newErr (cs : List Pr) : Int := if cs.length = 0 then 2 else if cs.any Se.wrong = true then 2 else if 16 < cs.length then 4 else if 4096 < Se.total cs then 4 else 0

theorem Se.total_append (a b : List Pr) : Se.total (a ++ b) = Se.total a + Se.total b := by
  induction a with
  | nil => simp [Se.total]
  | cons c a ih => simp only [List.cons_append, Se.total, ih]; omega
theorem Se.total_take (cs : List Pr) (k : Nat) (h : k < cs.length) : Se.total (cs.take (k + 1)) = Se.total (cs.take k) + cs[k].2.length := by
  rw [List.take_succ_eq_append_getElem h, Se.total_append]
  simp [Se.total]
theorem Se.total_le (N : Nat) : ∀ (cs : List Pr), (∀ x ∈ cs, x.2.length ≤ N) → Se.total cs ≤ cs.length * N := by
  intro cs
  induction cs with
  | nil => intro _; simp [Se.total]
  | cons c r ih =>
    intro h
    have h1 := h c (List.mem_cons_self ..)
    have h2 := ih (fun x hx => h x (List.mem_cons_of_mem _ hx))
    simp only [Se.total, List.length_cons, Nat.succ_mul]
    omega
theorem Se.any_take (cs : List Pr) (k : Nat) (h : k < cs.length) (h0 : (cs.take k).any Se.wrong = false) (h1 : Se.wrong cs[k] = false) : (cs.take (k + 1)).any Se.wrong = false := by
  rw [List.take_succ_eq_append_getElem h, List.any_append, h0]
  simp [h1]
theorem Se.any_at (cs : List Pr) (k : Nat) (h : k < cs.length) (h1 : Se.wrong cs[k] = true) : cs.any Se.wrong = true := List.any_eq_true.2 ⟨cs[k], List.getElem_mem _, h1⟩

set_option maxRecDepth 100000 in
set_option maxHeartbeats 4000000 in
theorem refNew_nil (w : World) (c : Nat) (ao : Option Addr) : Calls Tryz.prog 53 #[.slice ao 0 c] w fun e w' => e = .returned (.int .i64 2) ∧ w' = w := by
  go_enter Tryz.func53, Tryz.ntmps53
  go_wp2
  go_ret
  exact ⟨rfl, rfl⟩

set_option maxRecDepth 100000 in
set_option maxHeartbeats 1600000 in
theorem refNew_row (cs : List Pr) (ad : Addr) (cc : Nat) (w : World) (hc : cs.length ≤ 140737488355327) (hN : ∀ x ∈ cs, x.2.length ≤ 140737488355327)
    (hsrc : ∀ j u, (Prs cs)[j]? = some u → w.cell? (ad.add j) = some u) (hpos : 0 < cs.length) :
    Calls Tryz.prog 53 #[.slice (some ad) cs.length cc] w fun e w' => e = .returned (.int .i64 (Se.newErr cs)) ∧ w' = w := by
  obtain ⟨E, hE⟩ : ∃ E, E = Se.newErr cs := ⟨_, rfl⟩
  rw [← hE]
  have HE : Hid _ := hE
  have HSRC : Hid _ := hsrc
  have HN : Hid _ := hN
  clear hE hsrc hN
  have hp' : ((cs.length : Int) == 0) = false := by rw [beq_eq_false_iff_ne]; omega
  go_enter Tryz.func53, Tryz.ntmps53
  go_wp2
  clear hp'
  go_loop [3, 4] (fun t i => ∃ (k : Nat) (x : Int), k ≤ cs.length ∧ i = .int .i64 (k : Int) ∧ t = .int .i64 x ∧ Hid (k ≤ 16 → x = (Se.total (cs.take k) : Nat)) ∧ Hid ((cs.take k).any Se.wrong = false)) (fun _ i => cs.length - (intOf i).toNat)
  case atStart => exact ⟨0, 0, Nat.zero_le _, rfl, rfl, fun _ => by simp [Se.total], by simp [Hid]⟩
  case round =>
    obtain ⟨k, x, hk, rfl, rfl, HX, HA⟩ := hrel
    by_cases hlt : k < cs.length
    · have hlt' : (k : Int) < (cs.length : Int) := by omega
      have hcell2 : w.cell? ⟨(ad.add (k * 2)).block, (ad.add (k * 2)).off + 1, none⟩ = some (.string ⟨cs[k].2.toArray⟩) := by rw [addr_next]; exact src_pair HSRC.out k hlt
      have HTT : Hid _ := Se.total_take cs k hlt
      have HAT : Hid _ := Se.any_take cs k hlt HA.out
      have HAA : Hid _ := Se.any_at cs k hlt
      have hcN : cs[k].2.length ≤ 140737488355327 := HN.out _ (List.getElem_mem _)
      have HTL : Hid (Se.total (cs.take k) ≤ k * 140737488355327) := by
        have h1 := Se.total_le 140737488355327 (cs.take k) (fun x hx => HN.out x (List.mem_of_mem_take hx))
        rw [List.length_take, Nat.min_eq_left (by omega)] at h1
        exact h1
      clear HA
      obtain ⟨y, hy⟩ : ∃ y : Pr, y = cs[k] := ⟨_, rfl⟩
      rw [← hy] at hcell2 HTT HAT HAA hcN
      clear hy
      have hsz : (⟨y.2.toArray⟩ : ByteArray).size = y.2.length := by simp [ByteArray.size]
      have hsm : (⟨y.2.toArray⟩ : ByteArray).size ≤ maxLen := by rw [hsz]; unfold maxLen; omega
      have hW : Se.wrong y = (!Lt.allL y.2 || y.2.length == 0) := rfl
      have HW : Hid _ := hW
      clear hW
      cases hL : Lt.allL y.2 with
      | false =>
        have HL : Hid _ := hL
        have HR : Hid (E = 2) := by show _ = _; rw [HE.out, Se.newErr, if_neg (by omega), if_pos (HAA.out (by rw [HW.out, hL]; rfl))]
        clear hL HAT HTT HAA HX
        go_wp2_with (go_at_call 37; refine (plain_any _ _ hsm).mono ?_; rintro e w' ⟨rfl, hw⟩; subst w'; rw [HL.out])
        go_ret
        exact ⟨ret_int HR.out.symm, rfl⟩
      | true =>
        have HL : Hid _ := hL
        by_cases h0 : y.2.length = 0
        · have HR : Hid (E = 2) := by show _ = _; rw [HE.out, Se.newErr, if_neg (by omega), if_pos (HAA.out (by rw [HW.out, hL, h0]; rfl))]
          have hie : y.2.isEmpty = true := by simpa using h0
          clear hL HAT HTT HAA HX h0
          go_wp2_with (go_at_call 37; refine (plain_any _ _ hsm).mono ?_; rintro e w' ⟨rfl, hw⟩; subst w'; rw [HL.out])
          go_ret
          exact ⟨ret_int HR.out.symm, rfl⟩
        · have hie : y.2.isEmpty = false := by simpa using h0
          have HAT2 : Hid _ := HAT.out (by rw [HW.out, hL]; simpa using h0)
          clear hL HAT HAA h0
          by_cases h16 : k < 16
          · obtain ⟨T, hT⟩ : ∃ T, T = Se.total (cs.take k) := ⟨_, rfl⟩
            have hx : x = (T : Int) := by rw [hT]; exact HX.out (by omega)
            have hTl : T ≤ 16 * 140737488355327 := by
              rw [hT]
              refine Nat.le_trans HTL.out (Nat.mul_le_mul_right _ (by omega))
            rw [← hT] at HTT
            subst hx
            clear hT HX HTL
            go_wp2_with (go_at_call 37; refine (plain_any _ _ hsm).mono ?_; rintro e w' ⟨rfl, hw⟩; subst w'; rw [HL.out])
            go_round
            case rel => exact ⟨k + 1, _, by omega, by go_num, rfl, fun _ => by rw [HTT.out]; simp, HAT2.out⟩
            case measure => simp [intOf]; omega
          · clear HX HTL HTT
            go_wp2_with (go_at_call 37; refine (plain_any _ _ hsm).mono ?_; rintro e w' ⟨rfl, hw⟩; subst w'; rw [HL.out])
            go_round
            case rel => exact ⟨k + 1, _, by omega, by go_num, rfl, fun h => absurd h (by omega), HAT2.out⟩
            case measure => simp [intOf]; omega
    · have hke : k = cs.length := by omega
      have hlt' : ¬ (k : Int) < (cs.length : Int) := by omega
      have HA2 : Hid (cs.any Se.wrong = false) := by have := HA.out; rw [hke, List.take_length] at this; exact this
      have HX2 : Hid (cs.length ≤ 16 → x = (Se.total cs : Nat)) := by have := HX.out; rw [hke, List.take_length] at this; exact this
      clear HA HX hke
      by_cases h16 : 16 < cs.length
      · have HR : Hid (E = 4) := by show _ = _; rw [HE.out, Se.newErr, if_neg (by omega), if_neg (by rw [HA2.out]; simp), if_pos h16]
        have h16' : (16 : Int) < (cs.length : Int) := by omega
        go_wp2
        go_ret
        exact ⟨ret_int HR.out.symm, rfl⟩
      · have h16' : ¬ (16 : Int) < (cs.length : Int) := by omega
        have hx := HX2.out (by omega)
        by_cases h4 : 4096 < Se.total cs
        · have HR : Hid (E = 4) := by show _ = _; rw [HE.out, Se.newErr, if_neg (by omega), if_neg (by rw [HA2.out]; simp), if_neg h16, if_pos h4]
          have h4' : (4096 : Int) < x := by omega
          clear hx
          go_wp2
          go_ret
          exact ⟨ret_int HR.out.symm, rfl⟩
        · have HR : Hid (E = 0) := by show _ = _; rw [HE.out, Se.newErr, if_neg (by omega), if_neg (by rw [HA2.out]; simp), if_neg h16, if_neg h4]
          have h4' : ¬ (4096 : Int) < x := by omega
          clear hx
          go_wp2
          go_ret
          exact ⟨ret_int HR.out.symm, rfl⟩

end Go.Proofs.YtfcbgfomhmcikaaGreatDoor

namespace Go.Proofs.YtfcbgfomhmcikaaGreatDoor
open Go.RowKit

/-- n marks, as cells -/
def marks (M : List UInt8) (n : Nat) : List Value := Prs (List.replicate n (M, []))

theorem marks_length (M : List UInt8) (n : Nat) : (marks M n).length = n * 2 := by rw [marks, Prs_length, List.length_replicate]
theorem marks_add (M : List UInt8) (n m : Nat) : marks M (n + m) = marks M n ++ marks M m := by rw [marks, marks, marks, ← Prs_append, List.replicate_append_replicate]
theorem marks_one (M : List UInt8) (n : Nat) : ∀ u ∈ marks M n, u.oneCell' = true := Prs_one _
theorem marks_take (M : List UInt8) (n m : Nat) (h : n ≤ m) : (marks M m).take (n * 2) = marks M n := by
  obtain ⟨k, rfl⟩ : ∃ k, m = n + k := ⟨m - n, by omega⟩
  rw [marks_add, List.take_append_of_le_length (by rw [marks_length]; exact Nat.le_refl _), List.take_of_length_le (by rw [marks_length]; exact Nat.le_refl _)]

theorem own_base {w : World} {b b' e size n : Nat} {v : Value} {xs : List Value} (h : w.ownsRow b e size v n xs) (hb : b' ≤ b) : w.ownsRow b' e size v n xs := by
  refine ⟨h.1, ?_⟩
  rcases h.2 with h0 | ⟨g, cap, cur, rfl, h1, h2⟩
  · exact .inl h0
  · exact .inr ⟨g, cap, cur, rfl, by omega, h2⟩

/-- a marked list stays marked while another that shares its row is written up to at least its end -/
theorem marks_stay {w w' : World} {base e g n N cap : Nat} {M : List UInt8} (hl : w.ownsRow base e 2 (.slice (some ⟨g, 0, none⟩) n cap) n (marks M n)) (hl' : w'.ownsRow base e 2 (.slice (some ⟨g, 0, none⟩) N cap) N (marks M N)) (hg : w.grownBy w' (some g))
    {v0 : Value} {n0 : Nat} (h0 : w.ownsRow base e 2 v0 n0 (marks M n0)) (hn : n0 ≤ N) : w'.ownsRow base e 2 v0 n0 (marks M n0) := by
  refine ⟨h0.1, ?_⟩
  rcases h0.2 with h | ⟨g0, cap0, cur0, rfl, hb0, hg0, hnc0, hcm0, hcs0, ht0⟩
  · exact .inl h
  · by_cases he : g0 = g
    · subst he
      rcases hl.2 with ⟨h, _⟩ | ⟨g1, cap1, cur1, hv1, _, hg1, _, _, hcs1, _⟩
      · simp at h
      rcases hl'.2 with ⟨h, _⟩ | ⟨g2, cap2, cur2, hv2, _, hg2, hnc2, hcm2, hcs2, ht2⟩
      · simp at h
      simp only [Value.slice.injEq, Option.some.injEq, Addr.mk.injEq, and_true, true_and] at hv1 hv2
      obtain ⟨rfl, rfl⟩ := hv1
      obtain ⟨rfl, rfl⟩ := hv2
      rw [hg0] at hg1
      simp only [Option.some.injEq, Obj.cells.injEq] at hg1
      have hcc : cap0 = cap := by have := hg1.1; rw [this] at hcs0; omega
      subst hcc
      refine .inr ⟨g0, cap0, cur2, rfl, hb0, hg2, hnc0, hcm0, hcs2, ?_⟩
      rw [← marks_take M n0 N hn, ← ht2, List.take_take, Nat.min_eq_left (by omega)]
    · refine .inr ⟨g0, cap0, cur0, rfl, hb0, ?_, hnc0, hcm0, hcs0, ht0⟩
      rw [hg.block g0 (Array.getElem?_eq_some_iff.1 hg0).1 (by simpa using he)]
      exact hg0

theorem grown_weak {w w' : World} {row : Option Nat} (h : w.grownBy w' none) : w.grownBy w' row := ⟨h.os, h.tape, h.output, h.size, fun k hk _ => h.block k hk (by simp)⟩
theorem grown_alloc {w w' : World} {o : Obj} {row : Option Nat} (h : (w.alloc o).grownBy w' row) : w.grownBy w' row :=
  ⟨h.os, h.tape, h.output, by have := h.size; simp at this; omega, fun k hk hn => by rw [h.block k (by simp; omega) hn, Below.heap_alloc _ _ _ hk]⟩
theorem grown_trans {a b c : World} {row : Option Nat} (h : a.grownBy b row) (k : b.grownBy c row) : a.grownBy c row :=
  ⟨k.os.trans h.os, k.tape.trans h.tape, k.output.trans h.output, Nat.le_trans h.size k.size, fun q hq hn => (k.block q (by have := h.size; omega) hn).trans (h.block q hq hn)⟩

/-- 'x = append(l, m, ..)', l marked, as many marks more -/
theorem app_marks {w : World} {ops : Array Oper} {rest : List Oper} {o : Oper} {a : Act} {Q : Exit → Act → World → Prop} (hgd : o.guard = none) (s x : Operand) (t : TypeId)
    (ho : o.op = .call { callee := .builtin .append, args := #[s, x], argTypes := #[t, t] })
    (base : Nat) (e : TypeId) (ht : Tryz.prog.underlying t = some (.slice e)) (hinfo : (Tryz.prog.info? e).map (fun i => (i.zero, i.size, i.bytes)) = some (some (.agg #[.string ⟨#[]⟩, .string ⟨#[]⟩]), 2, 32))
    (lv : Value) (n m : Nat) (M : List UInt8) (C : Array Value) (hs : a.eval s = lv) (hx : a.eval x = .slice (some ⟨w.heap.size, 0, none⟩) m m) (hC : C.toList = marks M m)
    (hown : w.ownsRow base e 2 lv n (marks M n)) (hbase : base ≤ w.heap.size) (hlen : n + m ≤ 100000) (hm : 0 < m)
    (h : ∀ v' w', w'.ownsRow base e 2 v' (n + m) (marks M (n + m)) → (∀ v0 n0, n0 ≤ n + m → w.ownsRow base e 2 v0 n0 (marks M n0) → w'.ownsRow base e 2 v0 n0 (marks M n0)) → w.grownBy w' lv.ownBlock → wpList Tryz.prog ops Q rest (a.put o.dst v') w') :
    wpList Tryz.prog ops Q (o :: rest) a (w.alloc (.cells C e)) := by
  obtain ⟨i0, hi, hz0, hz1, hz2⟩ := info_parts hinfo
  have hnews : ∀ j u, (marks M m)[j]? = some u → (w.alloc (.cells C e)).cell? ((⟨w.heap.size, 0, none⟩ : Addr).add j) = some u := by
    intro j u hj
    rw [Addr.add_lit, Nat.zero_add, cell_of_row _ _ j C e (0, 0) (heap_alloc_new w _), ← hj, ← hC]
    simp
  have hal := hown.alloc (.cells C e)
  rcases hown.2 with ⟨hv, h0⟩ | ⟨g, cap, cur, hv, hb, hg, hnc, hcm, hcs, htk⟩
  · subst hv h0
    refine wpList_append_grows _ hgd s x t ho e i0 _ 2 32 ht hi hz0 hz1 hz2 rfl (by decide) none 0 0 [] hs (fun _ => ⟨rfl, rfl⟩) rfl (fun b hb => by cases hb) ⟨w.heap.size, 0, none⟩ m m (marks M m) hx (marks_length M m) hnews (marks_one M m) ?_ (by unfold maxLen; omega) (by omega) ?_
    · omega
    · intro v' w' h1 h2
      have h3 := grown_alloc h2
      refine h v' w' ?_ (fun v0 n0 _ hv0 => hv0.kept h3 ?_) (grown_weak h3)
      · rw [marks_add]; exact own_base h1 (by simp; omega)
      · cases hq : v0.ownBlock <;> simp
  · subst hv
    by_cases hroom : n + m ≤ cap
    · refine wpList_append_fits _ hgd s x t ho base e i0 2 ht hi hz1 g n cap (marks M n) hs hal ⟨w.heap.size, 0, none⟩ m m (marks M m) hx (marks_length M m) hnews (marks_one M m) hroom ?_
      intro w' h1 h2
      rw [← marks_add] at h1
      have h3 := grown_alloc h2
      exact h _ w' h1 (fun v0 n0 hn0 hv0 => marks_stay hown h1 h3 hv0 hn0) h3
    · refine wpList_append_grows _ hgd s x t ho e i0 _ 2 32 ht hi hz0 hz1 hz2 rfl (by decide) (some ⟨g, 0, none⟩) n cap (marks M n) hs (fun h => by cases h) (marks_length M n) (fun b hb j u hj => ?_) ⟨w.heap.size, 0, none⟩ m m (marks M m) hx (marks_length M m) hnews (marks_one M m) (by omega) (by unfold maxLen; omega) (by omega) ?_
      · obtain rfl := Option.some.inj hb
        exact hal.cells rfl j u hj
      · intro v' w' h1 h2
        have h3 := grown_alloc h2
        refine h v' w' ?_ (fun v0 n0 _ hv0 => hv0.kept h3 ?_) (grown_weak h3)
        · rw [marks_add]; exact own_base h1 (by simp; omega)
        · cases hq : v0.ownBlock <;> simp

end Go.Proofs.YtfcbgfomhmcikaaGreatDoor
