/-
  THE DOCUMENT'S SEARCH: every place, in order. Own text of the verifier.
-/
import Derived.Test.YtjebhbopmfcopaaGreatDoorSeRef
import Derived.Test.YtjebhbopmfcopaaGreatDoorSource
import Derived.Test.YtjebhbopmfcopaaGreatDoorTxPairs
namespace Go.Proofs.YtjebhbopmfcopaaGreatDoor
open Go.RowKit

theorem Se.three_short (n : Int) : ∀ (s t : List UInt8) (k : Nat), s.length ≤ k → Se.three n s (t.take k) = Se.three n s t := by
  intro s
  induction s with
  | nil => intro t k _; simp [Se.three]
  | cons a s ih =>
    intro t k h
    obtain ⟨k, rfl⟩ : ∃ j, k = j + 1 := ⟨k - 1, by simp at h; omega⟩
    cases t with
    | nil => simp [Se.three]
    | cons b t => simp only [List.take_succ_cons, Se.three]; rw [ih t k (by simpa using h)]

/-- do the letters s stand in t at a place, within a budget? -/
def Se.stands (n b : Int) (s t : List UInt8) (p : Nat) : Bool := decide ((Se.three n s (t.drop p) : Int) ≤ b)
/-- the places of one contig, of the first m that may be -/
def Se.upto (n b : Int) (s t : List UInt8) (c m : Nat) : List (Nat × Nat) := ((List.range m).filter (Se.stands n b s t)).map (fun p => (c, p))
/-- all places of one contig -/
def Se.inOne (n b : Int) (s t : List UInt8) (c : Nat) : List (Nat × Nat) := Se.upto n b s t c (t.length + 1 - s.length)
/-- all places of the first k contigs -/
def Se.inAll (n b : Int) (s : List UInt8) (cs : List Pr) : Nat → List (Nat × Nat)
  | 0 => []
  | k + 1 => Se.inAll n b s cs k ++ (match cs[k]? with | some x => Se.inOne n b s x.2 k | none => [])

theorem Se.upto_length (n b : Int) (s t : List UInt8) (c m : Nat) : (Se.upto n b s t c m).length ≤ m := by
  rw [Se.upto, List.length_map]
  have := List.length_filter_le (Se.stands n b s t) (List.range m)
  simpa using this
theorem Se.upto_succ (n b : Int) (s t : List UInt8) (c m : Nat) : Se.upto n b s t c (m + 1) = Se.upto n b s t c m ++ (if Se.stands n b s t m then [(c, m)] else []) := by
  rw [Se.upto, Se.upto, List.range_succ, List.filter_append, List.map_append]
  congr 1
  by_cases h : Se.stands n b s t m = true
  · simp [h]
  · simp [h]
theorem Se.inAll_length (n b : Int) (s : List UInt8) (cs : List Pr) (N : Nat) (hN : ∀ x ∈ cs, x.2.length ≤ N) : ∀ k, (Se.inAll n b s cs k).length ≤ k * (N + 1) := by
  intro k
  induction k with
  | zero => simp [Se.inAll]
  | succ k ih =>
    rw [Se.inAll, List.length_append, Nat.succ_mul]
    have : (match cs[k]? with | some x => Se.inOne n b s x.2 k | none => []).length ≤ N + 1 := by
      split
      · next x hx =>
        have h1 := Se.upto_length n b s x.2 k (x.2.length + 1 - s.length)
        have h2 := hN x (List.mem_of_getElem? hx)
        rw [Se.inOne]
        omega
      · simp
    omega

/-- places, as cells -/
def Se.pls (l : List (Nat × Nat)) : List Value := l.flatMap (fun p => [.int .i64 (p.1 : Int), .int .i64 (p.2 : Int)])
theorem Se.pls_length (l : List (Nat × Nat)) : (Se.pls l).length = l.length * 2 := by
  induction l with
  | nil => rfl
  | cons a l ih => simp only [Se.pls, List.flatMap_cons, List.length_append, List.length_cons, List.length_nil] at ih ⊢; omega
theorem Se.pls_append (a b : List (Nat × Nat)) : Se.pls (a ++ b) = Se.pls a ++ Se.pls b := by simp [Se.pls]

theorem Tryz.infoPlace : (Tryz.prog.info? 78).map (fun i => (i.zero, i.size, i.bytes)) = some (some (.agg #[.int .i64 0, .int .i64 0]), 2, 16) := by kernel_rfl

theorem src_pair {w : World} {ad : Addr} {l : List Pr} (h : ∀ j u, (Prs l)[j]? = some u → w.cell? (ad.add j) = some u) (k : Nat) (hk : k < l.length) : w.cell? (ad.add (k * 2 + 1)) = some (.string ⟨l[k].2.toArray⟩) := by
  refine h (k * 2 + 1) _ ?_
  have e : l = l.take k ++ l.drop k := (List.take_append_drop k l).symm
  have hl : (Prs (l.take k)).length = k * 2 := by rw [Prs_length, List.length_take]; omega
  conv => lhs; rw [e, Prs_append]
  rw [List.getElem?_append_right (by omega), hl, show k * 2 + 1 - k * 2 = 1 by omega, List.drop_eq_getElem_cons hk]
  simp only [Prs, List.flatMap_cons, prCells, List.cons_append, List.nil_append]
  rfl

/-- two cells of a row just made -/
theorem two_cells (w : World) (a b : Value) (e : TypeId) : ∀ j u, [a, b][j]? = some u → (w.alloc (.cells #[a, b] e)).cell? ((⟨w.heap.size, 0, none⟩ : Addr).add j) = some u := by
  intro j u hj
  rw [Addr.add_lit, Nat.zero_add, cell_of_row _ _ j #[a, b] e (0, 0) (heap_alloc_new w _), ← hj]
  simp

theorem addr_next (ad : Addr) (k : Nat) : (⟨(ad.add k).block, (ad.add k).off + 1, none⟩ : Addr) = ad.add (k + 1) := by
  unfold Addr.add
  by_cases h : k = 0
  · simp [h]
  · simp [h]; omega

set_option maxRecDepth 100000 in
set_option maxHeartbeats 4000000 in
theorem refFind_row (cs : List Pr) (ad : Addr) (cc : Nat) (s : ByteArray) (n b : Int) (w : World) (hc : cs.length ≤ 1000) (hN : ∀ x ∈ cs, x.2.length ≤ 100000) (hs : s.size ≤ 1000000)
    (hsrc : ∀ j u, (Prs cs)[j]? = some u → w.cell? (ad.add j) = some u) (hpos : 0 < cs.length) :
    Calls Tryz.prog 165 #[.slice (some ad) cs.length cc, .string s, .int .i64 n, .int .i64 b] w fun e w' =>
      ∃ v, e = .returned v ∧ w'.ownsRow w.heap.size 78 2 v (Se.inAll n b s.data.toList cs cs.length).length (Se.pls (Se.inAll n b s.data.toList cs cs.length)) ∧ Below w.heap.size w w' := by
  obtain ⟨S, hS⟩ : ∃ S, S = s.data.toList := ⟨_, rfl⟩
  rw [← hS]
  have HS : Hid _ := hS
  have HSL : Hid (S.length = s.size) := by show _ = _; rw [hS]; simp
  clear hS
  have HSRC : Hid _ := hsrc
  have HN : Hid _ := hN
  clear hsrc hN
  go_enter Tryz.func165, Tryz.ntmps165
  go_wp2
  go_loopw [9, 10] (fun v i wr => ∃ k : Nat, k ≤ cs.length ∧ i = .int .i64 (k : Int) ∧ wr.ownsRow w.heap.size 78 2 v (Se.inAll n b S cs k).length (Se.pls (Se.inAll n b S cs k)) ∧ Below w.heap.size w wr) (fun _ i _ => cs.length - (intOf i).toNat)
  case atStart => exact ⟨0, Nat.zero_le _, rfl, World.ownsRow_nil _ _ _ _, Below.refl _ _⟩
  case round =>
    obtain ⟨k, hk, rfl, hown, hbel⟩ := hrel
    by_cases hlt : k < cs.length
    · have hlt' : (k : Int) < (cs.length : Int) := by omega
      obtain ⟨x, hx⟩ : ∃ x, x = cs[k] := ⟨_, rfl⟩
      have hxN : x.2.length ≤ 100000 := HN.out x (by rw [hx]; exact List.getElem_mem _)
      have HX : Hid (Se.inAll n b S cs (k + 1) = Se.inAll n b S cs k ++ Se.inOne n b S x.2 k) := by show _ = _; rw [Se.inAll, List.getElem?_eq_getElem hlt, hx]
      have HLEN : Hid _ := Se.inAll_length n b S cs 100000 HN.out k
      have HCELL : Hid (∀ X, Below w.heap.size w X → X.cell? (ad.add (k * 2 + 1)) = some (.string ⟨x.2.toArray⟩)) := fun X hb => by
        have h0 := src_pair HSRC.out k hlt
        rw [← hx] at h0
        rw [hb.cell (World.block_lt_of_cell? w _ h0)]
        exact h0
      clear hx
      generalize hP : Se.inAll n b S cs k = P at *
      clear hP
      go_wp2
      go_loopw [9, 11] (fun v i wr2 => ∃ q : Nat, q ≤ x.2.length + 1 - S.length ∧ i = .int .i64 (q : Int) ∧ wr2.ownsRow w.heap.size 78 2 v (P ++ Se.upto n b S x.2 k q).length (Se.pls (P ++ Se.upto n b S x.2 k q)) ∧ Below w.heap.size w wr2) (fun _ i _ => x.2.length + 1 - S.length - (intOf i).toNat)
      case atStart => exact ⟨0, Nat.zero_le _, rfl, by simpa [Se.upto] using hown, hbel⟩
      case round =>
        clear hown hbel
        obtain ⟨q, hq, rfl, hown, hbel⟩ := hrel
        have hcell := HCELL.out _ hbel
        have hcell2 : wr.cell? ⟨(ad.add (k * 2)).block, (ad.add (k * 2)).off + 1, none⟩ = some (.string ⟨x.2.toArray⟩) := by rw [addr_next]; exact hcell
        clear hcell
        obtain ⟨va, vcap, hv⟩ := own_form hown
        subst hv
        have hSL := HSL.out
        have hxs : (⟨x.2.toArray⟩ : ByteArray).size = x.2.length := by simp [ByteArray.size]
        by_cases hin : q + s.size ≤ x.2.length
        · have hin' : (q : Int) + (s.size : Int) ≤ (x.2.length : Int) := by omega
          have hex : Se.three n S ((⟨x.2.toArray⟩ : ByteArray).extract q (q + s.size)).data.toList = Se.three n S (x.2.drop q) := by
            rw [extract_piece]
            show Se.three n S (Tx.piece ⟨x.2.toArray⟩ q (q + s.size)) = _
            rw [Tx.piece, show q + s.size - q = s.size by omega, Se.three_short _ _ _ _ (by omega)]
          have hes : s.size ≤ ((⟨x.2.toArray⟩ : ByteArray).extract q (q + s.size)).size := by rw [ByteArray.size_extract, hxs]; omega
          have hem : ((⟨x.2.toArray⟩ : ByteArray).extract q (q + s.size)).size ≤ 140737488355327 := by rw [ByteArray.size_extract, hxs]; omega
          have HEX : Hid _ := hex
          have HOWN : Hid _ := hown
          have HUP : Hid _ := Se.upto_succ n b S x.2 k q
          have HUL : Hid _ := Se.upto_length n b S x.2 k q
          clear hex hown
          go_wp2_with fail
          refine (three_any s _ n _ hs hes hem).mono ?_
          rw [← HS.out, HEX.out]
          rintro e w2 ⟨rfl, hw2⟩
          obtain ⟨j, hj⟩ : ∃ j, j = Se.three n S (x.2.drop q) := ⟨_, rfl⟩
          have hb2 : Below wr.heap.size wr w2 := by obtain ⟨m, rfl⟩ := hw2; exact below_drewN (Below.refl _ _) m
          have HO2 : Hid _ := own_below HOWN.out hb2
          have hbel2 := hbel.trans (hb2.mono hbel.size)
          have HB2 : Hid _ := hbel2
          rw [← hj]
          have HST : Hid (Se.stands n b S x.2 q = decide ((j : Int) ≤ b)) := by show _ = _; rw [Se.stands, ← hj]
          have hjl : j ≤ s.size := by rw [hj, ← hSL]; exact Se.three_le _ _ _
          clear hw2 hj hb2 HEX HOWN hes hem
          have hsz2 := hbel2.size
          clear hbel2 hbel hcell2
          have HPL : Hid ((P ++ Se.upto n b S x.2 k q).length ≤ 1000 * 100001 + 100001) := by
            show _ ≤ _
            have h1 := HLEN.out
            have h2 := HUL.out
            have h3 : k * (100000 + 1) ≤ 1000 * (100000 + 1) := Nat.mul_le_mul_right _ (by omega)
            rw [List.length_append]
            omega
          obtain ⟨L, hL⟩ : ∃ L, L = P ++ Se.upto n b S x.2 k q := ⟨_, rfl⟩
          rw [← hL] at HO2 HPL ⊢
          have HL : Hid _ := hL
          clear hL
          by_cases hjb : (j : Int) ≤ b
          · have hpl := HPL.out
            go_wp2_with (at_builtin; refine app_src rfl _ _ 119 rfl w.heap.size 78 _ 2 16 Tryz.underlying119 Tryz.infoPlace rfl (by decide) (.slice va L.length vcap) L.length (Se.pls L) (.slice (some ⟨w2.heap.size, 0, none⟩) 1 1) 1 [.int .i64 (k : Int), .int .i64 (q : Int)] rfl rfl (by exact World.ownsRow.alloc HO2.out _) (.inr ⟨_, _, rfl, by exact two_cells _ _ _ _⟩) rfl (by simp [Value.oneCell']) (by exact Below.alloc HB2.out hsz2 _) (by simp; omega) (by omega) (by decide) ?_; intro v3 w3 hown3 hbel3 _ _)
            go_roundw
            case rel =>
              refine ⟨q + 1, by omega, by go_num, ?_, hbel3⟩
              rw [HUP.out, HST.out, decide_eq_true hjb, if_pos rfl, ← List.append_assoc, ← HL.out, Se.pls_append, List.length_append]
              exact hown3
            case measure => simp [intOf]; omega
          · go_wp2
            go_roundw
            case rel =>
              refine ⟨q + 1, by omega, by go_num, ?_, HB2.out⟩
              rw [HUP.out, HST.out, decide_eq_false (by omega), if_neg (by simp), List.append_nil, ← HL.out]
              exact HO2.out
            case measure => simp [intOf]; omega
        · have hin' : ¬ (q : Int) + (s.size : Int) ≤ (x.2.length : Int) := by omega
          have HQE : Hid (q = x.2.length + 1 - S.length) := by show _ = _; omega
          go_wp2
          go_roundw
          case rel =>
            refine ⟨k + 1, by omega, by go_num, ?_, hbel⟩
            rw [HX.out, Se.inOne, ← HQE.out]
            exact hown
          case measure => simp [intOf]; omega
    · have hke : k = cs.length := by omega
      have hlt' : ¬ (k : Int) < (cs.length : Int) := by omega
      rw [hke] at hown
      have HO : Hid _ := hown
      clear hke hown
      go_wp2
      go_ret
      exact ⟨_, rfl, HO.out, hbel⟩

/-- Find's error -/
def Se.findErr (n b : Int) (S : List UInt8) : Int := if Lt.strandB n = false then 1 else if b < 0 then 1 else if 3 < b then 1 else Se.lettersErr S
/-- Find's places -/
def Se.findOut (n b : Int) (S : List UInt8) (cs : List Pr) : List (Nat × Nat) := if Se.findErr n b S = 0 then Se.inAll n b S cs cs.length else []

theorem ret_two {v : Value} {a b : Int} (h : a = b) : Ending.returned (.tuple #[v, .int .i64 a]) = .returned (.tuple #[v, .int .i64 b]) := by rw [h]

set_option maxRecDepth 100000 in
set_option maxHeartbeats 4000000 in
theorem refFind_any (cs : List Pr) (ad : Addr) (cc : Nat) (s : ByteArray) (n b : Int) (w : World) (hc : cs.length ≤ 1000) (hN : ∀ x ∈ cs, x.2.length ≤ 100000) (hs : s.size ≤ 140737488355327)
    (hsrc : ∀ j u, (Prs cs)[j]? = some u → w.cell? (ad.add j) = some u) (hpos : 0 < cs.length) :
    Calls Tryz.prog 114 #[.slice (some ad) cs.length cc, .string s, .int .i64 n, .int .i64 b] w fun e w' =>
      ∃ v, e = .returned (.tuple #[v, .int .i64 (Se.findErr n b s.data.toList)]) ∧ w'.ownsRow w.heap.size 78 2 v (Se.findOut n b s.data.toList cs).length (Se.pls (Se.findOut n b s.data.toList cs)) ∧ Below w.heap.size w w' := by
  have HSRC : Hid _ := hsrc
  have HN : Hid _ := hN
  have hsz : s.data.toList.length = s.size := by simp
  clear hsrc hN
  have hbad : ∀ x : Int, Se.findErr n b s.data.toList = x → x ≠ 0 → Se.findOut n b s.data.toList cs = [] := fun x h h0 => by rw [Se.findOut, if_neg (by rw [h]; exact h0)]
  obtain ⟨E, hE⟩ : ∃ E, E = Se.findErr n b s.data.toList := ⟨_, rfl⟩
  obtain ⟨O, hO⟩ : ∃ O, O = Se.findOut n b s.data.toList cs := ⟨_, rfl⟩
  rw [← hE, ← hO] at hbad
  rw [← hE, ← hO]
  have hfin : E ≠ 0 → ∀ X : World, X.ownsRow w.heap.size 78 2 (.slice none 0 0) O.length (Se.pls O) := fun h X => by
    rw [hbad E rfl h]; exact World.ownsRow_nil _ _ _ _
  have HFIN : Hid _ := hfin
  clear hbad hfin
  cases hst : Lt.strandB n with
  | false =>
    have HE : Hid (E = 1) := by show _ = _; rw [hE, Se.findErr, if_pos hst]
    have HT : Hid _ := hst
    clear hst hE hO hsz
    go_enter Tryz.func114, Tryz.ntmps114
    go_wp2_with (go_at_call 103; refine (strand_any _ _).mono ?_; rintro e w' ⟨rfl, hw⟩; subst w'; rw [HT.out])
    go_ret2
    exact ⟨_, ret_two HE.out.symm, HFIN.out (by rw [HE.out]; decide) _, Below.refl _ _⟩
  | true =>
    have HT : Hid _ := hst
    by_cases hb0 : b < 0
    · have HE : Hid (E = 1) := by show _ = _; rw [hE, Se.findErr, if_neg (by simp [hst]), if_pos hb0]
      clear hst hE hO hsz
      go_enter Tryz.func114, Tryz.ntmps114
      go_wp2_with (go_at_call 103; refine (strand_any _ _).mono ?_; rintro e w' ⟨rfl, hw⟩; subst w'; rw [HT.out])
      go_ret2
      exact ⟨_, ret_two HE.out.symm, HFIN.out (by rw [HE.out]; decide) _, Below.refl _ _⟩
    · by_cases hb3 : 3 < b
      · have HE : Hid (E = 1) := by show _ = _; rw [hE, Se.findErr, if_neg (by simp [hst]), if_neg hb0, if_pos hb3]
        clear hst hE hO hsz
        go_enter Tryz.func114, Tryz.ntmps114
        go_wp2_with (go_at_call 103; refine (strand_any _ _).mono ?_; rintro e w' ⟨rfl, hw⟩; subst w'; rw [HT.out])
        go_ret2
        exact ⟨_, ret_two HE.out.symm, HFIN.out (by rw [HE.out]; decide) _, Below.refl _ _⟩
      · have hEL : E = Se.lettersErr s.data.toList := by rw [hE, Se.findErr, if_neg (by simp [hst]), if_neg hb0, if_neg hb3]
        have HEL : Hid _ := hEL
        by_cases hz : E = 0
        · have HO : Hid (O = Se.inAll n b s.data.toList cs cs.length) := by show _ = _; rw [hO, Se.findOut, if_pos (by rw [← hE]; exact hz)]
          have hs1 : s.size ≤ 1000000 := by
            rw [hEL, Se.lettersErr, hsz] at hz
            split at hz
            · simp at hz
            · split at hz
              · simp at hz
              · split at hz
                · simp at hz
                · omega
          have HZ : Hid _ := hz
          clear hst hE hO hsz hEL hz
          go_enter Tryz.func114, Tryz.ntmps114
          go_wp2_with (first
            | (go_at_call 103; refine (strand_any _ _).mono ?_; rintro e w' ⟨rfl, hw⟩; subst w'; rw [HT.out])
            | (go_at_call 164; refine (refLetters_any _ _ hs).mono ?_; rintro e w' ⟨rfl, hw⟩; subst w'; rw [← HEL.out, HZ.out])
            | (go_at_call 165; refine (refFind_row cs ad cc s n b _ hc HN.out hs1 HSRC.out hpos).mono ?_; rw [← HO.out]; rintro e w1 ⟨v, rfl, ho, hb⟩))
          go_ret2
          exact ⟨_, ret_two HZ.out.symm, ho, hb⟩
        · have hz' : (E != 0) = true := by rw [bne_iff_ne]; exact hz
          have HZ : Hid _ := hz
          clear hst hE hO hsz hEL hz
          go_enter Tryz.func114, Tryz.ntmps114
          go_wp2_with (first
            | (go_at_call 103; refine (strand_any _ _).mono ?_; rintro e w' ⟨rfl, hw⟩; subst w'; rw [HT.out])
            | (go_at_call 164; refine (refLetters_any _ _ hs).mono ?_; rintro e w' ⟨rfl, hw⟩; subst w'; rw [← HEL.out]))
          go_ret2
          exact ⟨_, rfl, HFIN.out HZ.out _, Below.refl _ _⟩

end Go.Proofs.YtjebhbopmfcopaaGreatDoor
