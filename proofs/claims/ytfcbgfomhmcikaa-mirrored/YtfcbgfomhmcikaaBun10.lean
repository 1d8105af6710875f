/-
  THE WALK of the program's Find. Own text of the verifier.
  THE WORLD of the law Searches: its indexes, each beside its reference, and its book of places. Own text of the verifier.
  THE WALK of the World's 'made': the contigs are lent, an index is made of them, the error is held against the document's. Own text of the verifier.
  THE WALK of the World's 'found': an index is asked, and the document; the answers are held against each other, and what came out is written into the book. Own text of the verifier.
  THE PROGRAM'S Align: letters along the reference, places that lie in the contigs, the calls. Own text of the verifier.
-/
import Derived.Test.YtfcbgfomhmcikaaBun9
import Derived.Laws.StructEq
import Derived.Test.YtfcbgfomhmcikaaXPaMis
namespace Go.Proofs.Ytfcbgfomhmcikaa
open Go.RowKit

theorem Ix.str_top {n : Int} (h : Lt.topB n = true) : Ix.str 1 = Ix.str n := by
  have h4 : n = 1 ∨ n = 3 := by simpa [Lt.topB] using h
  rcases h4 with rfl | rfl <;> rfl
theorem Ix.str_bot {n : Int} (h : Lt.topB n = false) (hs : Lt.strandB n = true) : Ix.str 2 = Ix.str n := by
  have h4 : n = 2 ∨ n = 4 := by
    rw [Lt.strandB_int] at hs
    simp only [Lt.topB, Bool.or_eq_false_iff, beq_eq_false_iff_ne, Bool.or_eq_true, beq_iff_eq] at h hs
    omega
  rcases h4 with rfl | rfl <;> rfl

theorem ixContigs_any (n : Int) (w : World) (bx : Nat) (a1 a2 : Option Addr) (n1 n2 c1 c2 : Nat) (x0 : w.cell? ⟨bx, 0, none⟩ = some (.slice a1 n1 c1)) (x1 : w.cell? ⟨bx, 1, none⟩ = some (.slice a2 n2 c2)) :
    Calls Try.prog 34 #[.pointer (some ⟨bx, 0, none⟩), .int .i64 n] w fun e w' => e = .returned (if Lt.topB n then .slice a1 n1 c1 else .slice a2 n2 c2) ∧ w' = w := by
  obtain ⟨r, hr⟩ : ∃ r, r = (if Lt.topB n then Value.slice a1 n1 c1 else .slice a2 n2 c2) := ⟨_, rfl⟩
  rw [← hr]
  cases h1 : Lt.topB n
  all_goals
    have HR : Hid (r = _) := hr
    rw [h1] at HR
    have HT : Hid _ := h1
    clear hr h1
    go_enter Try.func34, Try.ntmps34
    go_wp2_with (go_at_call 38; refine (strTop_any _ _).mono ?_; rintro e w' ⟨rfl, hw⟩; subst w'; rw [HT.out])
    go_ret
    exact ⟨by rw [HR.out]; rfl, rfl⟩

theorem own_strs {X : World} {B : Nat} {v : Value} {n : Int} {cs : List Pr} (h : X.ownsRow B 9 1 v cs.length (Ix.strs n cs)) (hp : 0 < cs.length) :
    ∃ g c, v = .slice (some ⟨g, 0, none⟩) cs.length c ∧ ∀ k (h : k < cs.length), X.cell? ⟨g, k, none⟩ = some (Ix.str n cs[k]) := by
  obtain ⟨g, c, rfl, _, _⟩ := own_pos h hp
  refine ⟨g, c, rfl, fun k hk => ?_⟩
  rw [h.cellAt k (by omega)]
  simp [Ix.strs, hk]

set_option maxRecDepth 100000 in
set_option maxHeartbeats 4000000 in
theorem ixFind_any (cs : List Pr) (B : Nat) (p : Value) (s : ByteArray) (n b : Int) (w : World) (hI : IxAt w B p cs) (hR : Se.Right cs) (hs : s.size ≤ 140737488355327) :
    Calls Try.prog 21 #[p, .string s, .int .i64 n, .int .i64 b] w fun e w' =>
      ∃ v, e = .returned (.tuple #[v, .int .i64 (Se.findErr n b s.data.toList)]) ∧ w'.ownsRow w.heap.size 37 2 v (Se.findOut n b s.data.toList cs).length (Se.pls (Se.findOut n b s.data.toList cs)) ∧ (Se.findErr n b s.data.toList ≠ 0 → v = .slice none 0 0) ∧ Below w.heap.size w w' := by
  have hsz : s.data.toList.length = s.size := by simp
  have hsm : s.size ≤ maxLen := by unfold maxLen; omega
  have hbad : ∀ x : Int, Se.findErr n b s.data.toList = x → x ≠ 0 → Se.findOut n b s.data.toList cs = [] := fun x h h0 => by rw [Se.findOut, if_neg (by rw [h]; exact h0)]
  have hE0 : (s.toList = []) ↔ s.size = 0 := by rw [ByteArray.toList_eq, List.eq_nil_iff_length_eq_zero, hsz]
  obtain ⟨E, hE⟩ : ∃ E, E = Se.findErr n b s.data.toList := ⟨_, rfl⟩
  obtain ⟨O, hO⟩ : ∃ O, O = Se.findOut n b s.data.toList cs := ⟨_, rfl⟩
  rw [← hE, ← hO] at hbad
  rw [← hE, ← hO]
  have HFIN : Hid (E ≠ 0 → ∀ X : World, X.ownsRow w.heap.size 37 2 (.slice none 0 0) O.length (Se.pls O)) := fun h X => by
    rw [hbad E rfl h]; exact World.ownsRow_nil _ _ _ _
  clear hbad
  obtain ⟨bx, top, bot, rfl, hx, hto, hbo⟩ := hI
  have hpos := hR.pos
  have hfew := hR.few
  obtain ⟨gt, ct, rfl, htop⟩ := own_strs hto hpos
  obtain ⟨gb, cb, rfl, hbot⟩ := own_strs hbo hpos
  have x0 : w.cell? ⟨bx, 0, none⟩ = some (.slice (some ⟨gt, 0, none⟩) cs.length ct) := by rw [hx.cellAt 0 (by omega)]; rfl
  have x1 : w.cell? ⟨bx, 1, none⟩ = some (.slice (some ⟨gb, 0, none⟩) cs.length cb) := by rw [hx.cellAt 1 (by omega)]; rfl
  have HX0 : Hid _ := x0
  have HX1 : Hid _ := x1
  have HTOP : Hid _ := htop
  have HBOT : Hid _ := hbot
  have HN : Hid (∀ x ∈ cs, x.2.length ≤ 100000) := fun x hx => by have := hR.len x hx; omega
  clear hx hto hbo x0 x1 htop hbot hR
  cases hst : Lt.strandB n with
  | false =>
    have HE : Hid (E = 1) := by show _ = _; rw [hE, Se.findErr, if_pos hst]
    have HT : Hid _ := hst
    clear hst hE hO hsz hE0
    go_enter Try.func21, Try.ntmps21
    go_wp2_with (go_at_call 32; refine (strIs_any _ _).mono ?_; rintro e w' ⟨rfl, hw⟩; subst w'; rw [HT.out])
    go_ret2
    exact ⟨_, ret_two HE.out.symm, HFIN.out (by rw [HE.out]; decide) _, fun _ => rfl, Below.refl _ _⟩
  | true =>
    have HT : Hid _ := hst
    by_cases hb0 : b < 0
    · have HE : Hid (E = 1) := by show _ = _; rw [hE, Se.findErr, if_neg (by simp [hst]), if_pos hb0]
      clear hst hE hO hsz hE0
      go_enter Try.func21, Try.ntmps21
      go_wp2_with (go_at_call 32; refine (strIs_any _ _).mono ?_; rintro e w' ⟨rfl, hw⟩; subst w'; rw [HT.out])
      go_ret2
      exact ⟨_, ret_two HE.out.symm, HFIN.out (by rw [HE.out]; decide) _, fun _ => rfl, Below.refl _ _⟩
    · by_cases hb3 : 3 < b
      · have HE : Hid (E = 1) := by show _ = _; rw [hE, Se.findErr, if_neg (by simp [hst]), if_neg hb0, if_pos hb3]
        clear hst hE hO hsz hE0
        go_enter Try.func21, Try.ntmps21
        go_wp2_with (go_at_call 32; refine (strIs_any _ _).mono ?_; rintro e w' ⟨rfl, hw⟩; subst w'; rw [HT.out])
        go_ret2
        exact ⟨_, ret_two HE.out.symm, HFIN.out (by rw [HE.out]; decide) _, fun _ => rfl, Below.refl _ _⟩
      · have hEL : E = Se.lettersErr s.data.toList := by rw [hE, Se.findErr, if_neg (by simp [hst]), if_neg hb0, if_neg hb3]
        by_cases h0 : s.size = 0
        · have HE : Hid (E = 8) := by show _ = _; rw [hEL, Se.lettersErr, hsz, if_pos h0]; split <;> rfl
          have h0' : s.toList.isEmpty = true := by rw [List.isEmpty_iff]; exact hE0.2 h0
          clear hst hE hO hsz hE0 h0 hEL
          go_enter Try.func21, Try.ntmps21
          go_wp2_with (go_at_call 32; refine (strIs_any _ _).mono ?_; rintro e w' ⟨rfl, hw⟩; subst w'; rw [HT.out])
          go_ret2
          exact ⟨_, ret_two HE.out.symm, HFIN.out (by rw [HE.out]; decide) _, fun _ => rfl, Below.refl _ _⟩
        · have h0' : s.toList.isEmpty = false := by rw [List.isEmpty_eq_false_iff]; exact fun h => h0 (hE0.1 h)
          cases hL : Lt.allL s.data.toList with
          | false =>
            have HE : Hid (E = 8) := by show _ = _; rw [hEL, Se.lettersErr, if_pos hL]
            have HL : Hid _ := hL
            clear hst hE hO hsz hE0 h0 hEL hL
            go_enter Try.func21, Try.ntmps21
            go_wp2_with (first
              | (go_at_call 32; refine (strIs_any _ _).mono ?_; rintro e w' ⟨rfl, hw⟩; subst w'; rw [HT.out])
              | (go_at_call 24; refine (areLetters_any _ _ hsm).mono ?_; rintro e w' ⟨rfl, hw⟩; subst w'; rw [HL.out]))
            go_ret2
            exact ⟨_, ret_two HE.out.symm, HFIN.out (by rw [HE.out]; decide) _, fun _ => rfl, Below.refl _ _⟩
          | true =>
            have HL : Hid _ := hL
            by_cases h1 : 128 < s.size
            · have HE : Hid (E = 7) := by show _ = _; rw [hEL, Se.lettersErr, if_neg (by simp [hL]), hsz, if_neg h0, if_pos h1]
              have h1' : (128 : Int) < (s.size : Int) := by omega
              clear hst hE hO hsz hE0 h0 hEL hL
              go_enter Try.func21, Try.ntmps21
              go_wp2_with (first
                | (go_at_call 32; refine (strIs_any _ _).mono ?_; rintro e w' ⟨rfl, hw⟩; subst w'; rw [HT.out])
                | (go_at_call 24; refine (areLetters_any _ _ hsm).mono ?_; rintro e w' ⟨rfl, hw⟩; subst w'; rw [HL.out]))
              go_ret2
              exact ⟨_, ret_two HE.out.symm, HFIN.out (by rw [HE.out]; decide) _, fun _ => rfl, Below.refl _ _⟩
            · have HE : Hid (E = 0) := by show _ = _; rw [hEL, Se.lettersErr, if_neg (by simp [hL]), hsz, if_neg h0, if_neg h1]
              have HO : Hid (O = Se.inAll n b s.data.toList cs cs.length) := by show _ = _; rw [hO, Se.findOut, if_pos (by rw [← hE]; exact HE.out)]
              have h1' : ¬ (128 : Int) < (s.size : Int) := by omega
              have hsl : s.data.toList.length ≤ 1000 := by rw [hsz]; omega
              have HSL : Hid _ := hsl
              obtain ⟨gx, cx, hsel, hcx⟩ : ∃ gx cx, (if Lt.topB n then (Value.slice (some ⟨gt, 0, none⟩) cs.length ct) else .slice (some ⟨gb, 0, none⟩) cs.length cb) = .slice (some ⟨gx, 0, none⟩) cs.length cx ∧ ∀ k (h : k < cs.length), w.cell? ⟨gx, k, none⟩ = some (Ix.str n cs[k]) := by
                cases ht : Lt.topB n with
                | true => exact ⟨gt, ct, rfl, fun k h => by rw [HTOP.out k h, Ix.str_top ht]⟩
                | false => exact ⟨gb, cb, rfl, fun k h => by rw [HBOT.out k h, Ix.str_bot ht hst]⟩
              have HSEL : Hid _ := hsel
              have HCX : Hid _ := hcx
              clear hst hE hO hsz hE0 h0 hEL hL hsl hsel hcx
              go_enter Try.func21, Try.ntmps21
              go_wp2_with (first
                | (go_at_call 32; refine (strIs_any _ _).mono ?_; rintro e w' ⟨rfl, hw⟩; subst w'; rw [HT.out])
                | (go_at_call 24; refine (areLetters_any _ _ hsm).mono ?_; rintro e w' ⟨rfl, hw⟩; subst w'; rw [HL.out])
                | (go_at_call 34; refine (ixContigs_any n _ bx _ _ _ _ _ _ HX0.out HX1.out).mono ?_; rintro e w' ⟨rfl, hw⟩; subst w'; rw [HSEL.out])
                | (go_at_call 35; refine (ixConvert_any _ _ _ hsm HL.out HT.out).mono ?_; rintro e w1 ⟨rfl, hb1⟩)
                | (go_at_call 33; refine (places_any cs gx cx s.data.toList n b _ HT.out (by omega) (by omega) (by omega) HN.out HSL.out (fun k h => (hb1.cell (p := ⟨gx, k, none⟩) (World.block_lt_of_cell? w _ (HCX.out k h))).trans (HCX.out k h))).mono ?_; rw [← HO.out]; rintro e w2 ⟨v, rfl, ho, hb2⟩))
              go_ret2
              exact ⟨_, ret_two HE.out.symm, own_base ho hb1.size, fun h => absurd HE.out h, hb1.trans (hb2.mono hb1.size)⟩

end Go.Proofs.Ytfcbgfomhmcikaa

namespace Go.Proofs.Ytfcbgfomhmcikaa
open Go.RowKit

theorem add_block (ad : Addr) (j : Nat) : (ad.add j).block = ad.block := by unfold Addr.add; split <;> rfl

/-- a reference that lies below block g -/
structure RefAt (X : World) (g : Nat) (v : Value) (cs : List Pr) : Prop where
  ref : RefOk X v cs
  low : 0 < cs.length → ∀ ad l c, v = .slice (some ad) l c → ad.block < g

theorem RefAt.below {X Y : World} {g : Nat} {v : Value} {cs : List Pr} (h : RefAt X g v cs) (hb : Below g X Y) : RefAt Y g v cs := by
  refine ⟨⟨?_, h.ref.len, h.ref.txt⟩, h.low⟩
  rcases h.ref.src with hs | ⟨ad, c, rfl, hs⟩
  · exact .inl hs
  · refine .inr ⟨ad, c, rfl, fun j u hj => ?_⟩
    have hpos : 0 < cs.length := by
      have := (List.getElem?_eq_some_iff.1 hj).1
      rw [Prs_length] at this
      omega
    rw [hb.cell (p := ad.add j) (by rw [add_block]; exact h.low hpos ad _ _ rfl)]
    exact hs j u hj

theorem RefAt.form {X : World} {g : Nat} {v : Value} {cs : List Pr} (h : RefAt X g v cs) : ∃ ao c, v = .slice ao cs.length c := by
  rcases h.ref.src with ⟨rfl, h0, _⟩ | ⟨ad, c, rfl, _⟩
  · exact ⟨none, 0, by rw [h0]⟩
  · exact ⟨some ad, c, rfl⟩

/-- an index of the program, its reference, and what that holds -/
abbrev Px := Value × Value × List Pr
def pxCells (p : Px) : List Value := [p.1, p.2.1]
def Pxs (l : List Px) : List Value := l.flatMap pxCells
theorem Pxs_cons (p : Px) (l : List Px) : Pxs (p :: l) = p.1 :: p.2.1 :: Pxs l := rfl
theorem Pxs_length (l : List Px) : (Pxs l).length = l.length * 2 := by
  induction l with
  | nil => rfl
  | cons a l ih => rw [Pxs_cons, List.length_cons, List.length_cons, ih, List.length_cons]; omega
theorem Pxs_append (l r : List Px) : Pxs (l ++ r) = Pxs l ++ Pxs r := by simp [Pxs]
theorem Pxs_at (l : List Px) (k : Nat) (h : k < l.length) : (Pxs l)[k * 2]? = some l[k].1 ∧ (Pxs l)[k * 2 + 1]? = some l[k].2.1 := by
  induction l generalizing k with
  | nil => simp at h
  | cons a l ih =>
    cases k with
    | zero => simp [Pxs_cons]
    | succ k =>
      have := ih k (by simpa using h)
      rw [Pxs_cons, show (k + 1) * 2 = k * 2 + 1 + 1 by omega]
      simpa using this

/-- each index answers for its reference -/
def PairsOk (X : World) (g : Nat) (ps : List Px) : Prop := ∀ p ∈ ps, IxAt X (g + 1) p.1 p.2.2 ∧ Se.newErr p.2.2 = 0 ∧ RefAt X g p.2.1 p.2.2

theorem IxAt.move {X Z : World} {B : Nat} {p : Value} {cs : List Pr} (h : IxAt X B p cs)
    (hp : ∀ e s v n xs, (e = 80 ∨ e = 9) → (∀ q, v.ownBlock = some q → q < X.heap.size) → X.ownsRow B e s v n xs → Z.ownsRow B e s v n xs) : IxAt Z B p cs := by
  obtain ⟨bx, top, bot, h1, h2, h3, h4⟩ := h
  exact ⟨bx, top, bot, h1, hp _ _ _ _ _ (.inl rfl) (fun q hq => (h2.lt q hq).2) h2, hp _ _ _ _ _ (.inr rfl) (fun q hq => (h3.lt q hq).2) h3, hp _ _ _ _ _ (.inr rfl) (fun q hq => (h4.lt q hq).2) h4⟩

theorem PairsOk.move {X Z : World} {g : Nat} {ps : List Px} (h : PairsOk X g ps)
    (hp : ∀ e s v n xs, (e = 80 ∨ e = 9) → (∀ q, v.ownBlock = some q → q < X.heap.size) → X.ownsRow (g + 1) e s v n xs → Z.ownsRow (g + 1) e s v n xs) (hb : Below g X Z) : PairsOk Z g ps :=
  fun p hm => let ⟨h1, h2, h3⟩ := h p hm; ⟨h1.move hp, h2, h3.below hb⟩

end Go.Proofs.Ytfcbgfomhmcikaa

namespace Go.Proofs.Ytfcbgfomhmcikaa
open Go.RowKit

theorem lentC_block {X w1 : World} {cs : List Pr} {lv v : Value} (hl : LentC X w1 cs lv v) : X.heap.size ≤ w1.heap.size ∧ Below X.heap.size X w1 ∧ ∀ q, v.ownBlock = some q → q = X.heap.size ∧ X.heap.size < w1.heap.size := by
  rcases hl with ⟨_, _, rfl, rfl⟩ | ⟨ad, cc, _, rfl, ho, hb, hlt⟩
  · exact ⟨Nat.le_refl _, Below.refl _ _, fun q hq => by cases hq⟩
  · exact ⟨by omega, hb, fun q hq => by cases hq; exact ⟨rfl, hlt⟩⟩

theorem lentC_form {X w1 : World} {cs : List Pr} {lv v : Value} (hl : LentC X w1 cs lv v) : ∃ ao n c, v = .slice ao n c := by
  rcases hl with ⟨_, _, rfl, rfl⟩ | ⟨ad, cc, _, rfl, ho, hb, hlt⟩
  · exact ⟨_, _, _, rfl⟩
  · exact ⟨_, _, _, rfl⟩

theorem lentC_new {X w1 : World} {cs : List Pr} {lv v : Value} (hl : LentC X w1 cs lv v) (hr : RefOk X lv cs) :
    Calls Try.prog 27 #[v] w1 fun e w' => ∃ p, e = .returned (.tuple #[p, .int .i64 (Se.newErr cs)]) ∧ Below w1.heap.size w1 w' ∧ ((Se.newErr cs ≠ 0 ∧ p = .pointer none) ∨ (Se.newErr cs = 0 ∧ IxAt w' w1.heap.size p cs)) := by
  have hlen := hr.len
  rcases hl with ⟨_, rfl, rfl, rfl⟩ | ⟨ad, cc, _, rfl, ho, hb, hlt⟩
  · refine (ixNew_nil _).mono ?_
    rintro e w' ⟨rfl, rfl⟩
    exact ⟨_, rfl, Below.refl _ _, .inl ⟨by decide, rfl⟩⟩
  · refine ixNew_any cs X.heap.size (cs.length + 8) w1 (by omega) (fun x hx => by have := (hr.txt x hx).2; omega) (fun k hk => ?_)
    have := own_pair ho k (by rw [lentC_length]; omega)
    rw [lentC_low cs k hk] at this
    exact this

end Go.Proofs.Ytfcbgfomhmcikaa

namespace Go.Proofs.Ytfcbgfomhmcikaa
open Go.RowKit

theorem eq_place (a b : Int) (w : World) : (Op.equalIn 10000 37 (.agg #[.int .i64 a, .int .i64 b]) (.agg #[.int .i64 a, .int .i64 b])).run Try.prog w = .ok true w := by
  simp [go_sem, Try.underlying37, Try.underlying3]
theorem eql_place (a b : Int) (w : World) : (binOp .eql 37 (.agg #[.int .i64 a, .int .i64 b]) (.agg #[.int .i64 a, .int .i64 b])).run Try.prog w = .ok (.bool true) w := by
  rw [run_eql_struct, eq_place]; rfl

theorem pls_at (l : List (Nat × Nat)) (k : Nat) (h : k < l.length) : (Se.pls l)[k * 2]? = some (.int .i64 (l[k].1 : Int)) ∧ (Se.pls l)[k * 2 + 1]? = some (.int .i64 (l[k].2 : Int)) := by
  induction l generalizing k with
  | nil => simp at h
  | cons a l ih =>
    have e : Se.pls (a :: l) = .int .i64 (a.1 : Int) :: .int .i64 (a.2 : Int) :: Se.pls l := rfl
    cases k with
    | zero => rw [e]; simp
    | succ k =>
      have := ih k (by simpa using h)
      rw [e, show (k + 1) * 2 = k * 2 + 1 + 1 by omega]
      simpa using this

theorem own_place {w : World} {base e n cap g : Nat} {l : List (Nat × Nat)} (h : w.ownsRow base e 2 (.slice (some ⟨g, 0, none⟩) n cap) n (Se.pls l)) (k : Nat) (hk : k < l.length) :
    w.cell? ⟨g, k * 2, none⟩ = some (.int .i64 (l[k].1 : Int)) ∧ w.cell? ⟨g, k * 2 + 1, none⟩ = some (.int .i64 (l[k].2 : Int)) := by
  have hl : l.length * 2 = n * 2 := by have := h.1; rw [Se.pls_length] at this; exact this
  obtain ⟨p0, p1⟩ := pls_at l k hk
  exact ⟨(h.cellAt (k * 2) (by omega)).trans p0, (h.cellAt (k * 2 + 1) (by omega)).trans p1⟩

theorem Se.findOut_length {cs : List Pr} (h : Se.Right cs) (n b : Int) (S : List UInt8) : (Se.findOut n b S cs).length ≤ 90000 := by
  unfold Se.findOut
  split
  · have h1 := Se.inAll_length n b S cs 4096 h.len cs.length
    have h2 := h.few
    have h3 : cs.length * (4096 + 1) ≤ 16 * (4096 + 1) := Nat.mul_le_mul_right _ h2
    omega
  · simp

end Go.Proofs.Ytfcbgfomhmcikaa

namespace Go.Proofs.Ytfcbgfomhmcikaa
open Go.RowKit

theorem Pa.strand_cases {n : Int} (h : Lt.strandB n = true) : n = 1 ∨ n = 2 ∨ n = 3 ∨ n = 4 := by
  rw [Lt.strandB_int] at h
  simp only [Bool.or_eq_true, beq_iff_eq] at h
  omega

set_option maxHeartbeats 800000 in
theorem palong_any (s : ByteArray) (n : Int) (w : World) (hs : s.size ≤ 140737488355327) (hn : Lt.strandB n = true) (hL : n = 1 ∨ Lt.allL s.data.toList = true) :
    Calls Try.prog 42 #[.string s, .int .i64 n] w fun e w' => e = .returned (.string ⟨(Al.along s.data.toList n).toArray⟩) ∧ Below w.heap.size w w' := by
  obtain ⟨R, hR⟩ : ∃ R, R = Al.along s.data.toList n := ⟨_, rfl⟩
  rw [← hR]
  have HC : Hid (Lt.allL s.data.toList = true → ∀ W : World, Calls Try.prog 9 #[.string s] W fun e w' => e = .returned (.tuple #[.string ⟨(Lt.rev s.data.toList).toArray⟩, .int .i64 0]) ∧ Below W.heap.size W w') := fun h W => reverse_good s W (by omega) h
  rcases Pa.strand_cases hn with rfl | rfl | rfl | rfl
  · have HR : Hid (R = s.data.toList) := hR
    clear hR hL hn
    go_enter Try.func42, Try.ntmps42
    go_wp2
    go_ret
    exact ⟨by rw [HR.out]; rfl, Below.refl _ _⟩
  · have HR : Hid (R = Lt.rev s.data.toList) := hR
    have HC2 : Hid _ := HC.out (hL.resolve_left (by decide))
    clear hR hL hn HC
    go_enter Try.func42, Try.ntmps42
    go_wp2_with (go_at_call 9; refine (HC2.out _).mono ?_; rintro e w1 ⟨rfl, hb1⟩)
    go_ret
    exact ⟨by rw [HR.out]; rfl, hb1⟩
  · have HR : Hid (R = Lt.rev s.data.toList) := hR
    have HC2 : Hid _ := HC.out (hL.resolve_left (by decide))
    clear hR hL hn HC
    go_enter Try.func42, Try.ntmps42
    go_wp2_with (go_at_call 9; refine (HC2.out _).mono ?_; rintro e w1 ⟨rfl, hb1⟩)
    go_ret
    exact ⟨by rw [HR.out]; rfl, hb1⟩
  · have HR : Hid (R = s.data.toList) := hR
    clear hR hL hn
    go_enter Try.func42, Try.ntmps42
    go_wp2
    go_ret
    exact ⟨by rw [HR.out]; rfl, Below.refl _ _⟩

set_option maxRecDepth 100000 in
set_option maxHeartbeats 800000 in
theorem plies_yes (N cc : Nat) (ad : Addr) (c p m : Nat) (x : List UInt8) (w : World) (hc : c < N) (hx : p + m ≤ x.length) (hxm : x.length ≤ 100000) (s1 : w.cell? (ad.add (c * 2 + 1)) = some (.string ⟨x.toArray⟩)) :
    Calls Try.prog 43 #[.slice (some ad) N cc, .agg #[.int .i64 (c : Int), .int .i64 (p : Int)], .int .i64 (m : Int)] w fun e w' => e = .returned (.bool true) ∧ Below w.heap.size w w' := by
  have hs1 : ∀ o, (w.alloc o).cell? ⟨(ad.add (c * 2)).block, (ad.add (c * 2)).off + 1, none⟩ = some (.string ⟨x.toArray⟩) := fun o => by
    rw [addr_next]
    exact (((Below.refl _ _).alloc (Nat.le_refl _) o).cell (World.block_lt_of_cell? w _ s1)).trans s1
  have HB : Hid (∀ o n, Below w.heap.size w ((w.alloc o).drewN n)) := fun o n => below_drewN ((Below.refl _ _).alloc (Nat.le_refl _) o) n
  have hc' : (c : Int) < (N : Int) := by omega
  have hxs : (⟨x.toArray⟩ : ByteArray).size = x.length := str_size x
  have hx' : (p : Int) + (m : Int) ≤ (x.length : Int) := by omega
  clear s1
  go_enter Try.func43, Try.ntmps43
  go_wp2_with fail
  go_quiet (fail)
  go_wp2
  go_ret
  exact ⟨ret_bool (by simp), HB.out _ _⟩

theorem Pa.calls_at (n : Int) (s t : List UInt8) (p m k : Nat) (h : k < (Al.calls n s t p m).length) : (Al.calls n s t p m)[k] = Al.call n (s.getD k 0) t (p + k) := by
  simp [Al.calls]

set_option maxRecDepth 100000 in
set_option maxHeartbeats 800000 in
theorem pcalls_any (s t : ByteArray) (p : Nat) (n : Int) (w : World) (hn : Lt.strandB n = true) (hs : s.size ≤ 1000000) (ht : t.size ≤ 1000000) (hp : p + s.size ≤ t.size) (hL : Lt.allL t.data.toList = true) :
    Calls Try.prog 47 #[.string s, .string t, .int .i64 (p : Int), .int .i64 n] w fun e w' => e = .returned (.string ⟨(Al.calls n s.data.toList t.data.toList p s.size).toArray⟩) ∧ Below w.heap.size w w' := by
  have HPC : Hid _ := fun (c : UInt8) (k : Nat) (h : k < t.size) (W : World) => pcall_any c t k n W hn (by omega) h hL
  have hsm : s.size ≤ maxLen := by unfold maxLen; omega
  have hssz : s.data.toList.length = s.size := by simp
  obtain ⟨i0, hi, hz0, hz1, hz2⟩ := info_parts Try.infoU8
  obtain ⟨CL, hCL⟩ : ∃ CL, CL = Al.calls n s.data.toList t.data.toList p s.size := ⟨_, rfl⟩
  have HR : Hid (CL.length = s.size) := by show _ = _; rw [hCL, Al.calls_length]
  have HAT : Hid (∀ k (h : k < CL.length) (h2 : k < s.size), CL[k] = Al.call n s[k] t.data.toList (p + k)) := fun k h h2 => by
    subst hCL
    rw [Pa.calls_at, List.getD_eq_getElem?_getD, List.getElem?_eq_getElem (by rw [hssz]; exact h2)]
    rfl
  rw [← hCL]
  clear hCL hL hn
  go_enter Try.func47, Try.ntmps47
  go_wp2_with (at_make; refine wpList_make_full _ rfl _ _ 59 rfl w.heap.size 5 i0 (.int .u8 0) 1 Try.underlying59 hi hz0 hz1 _ _ _ _ s.size rfl rfl rfl rfl ?h1 ?h2 ?h3 ?_)
  case h1 => rw [hz2]; omega
  case h2 => exact hsm
  case h3 => exact Nat.le_refl _
  · intro w1 hown0 hgrow
    have hbel0 : Below w.heap.size w w1 := (Below.refl _ _).grown hgrow (Nat.le_refl _) (fun k hk => by cases hk)
    rw [toList_madeCells_one, ← filled_zero CL s.size] at hown0
    clear hgrow
    go_wp2
    go_loopw [16] (fun i wr => ∃ k : Nat, k ≤ s.size ∧ i = .int .i64 k ∧ wr.ownsRow w.heap.size 5 1 (.slice (some ⟨w.heap.size, 0, none⟩) s.size s.size) s.size (filled CL s.size k) ∧ Below w.heap.size w wr)
      (fun i _ => s.size - (intOf i).toNat)
    case atStart => exact ⟨0, Nat.zero_le _, rfl, hown0, hbel0⟩
    case round =>
      clear hown0 hbel0
      obtain ⟨k, hk, rfl, hown, hbel⟩ := hrel
      by_cases hlt : k < s.size
      · obtain ⟨v0, hc0, _⟩ := own_cell hown k hlt
        have hfr := hown.frozenAt k
        have hkc : k < CL.length := by rw [HR.out]; exact hlt
        obtain ⟨cl, hcl⟩ : ∃ cl, cl = CL[k] := ⟨_, rfl⟩
        have hst := hown.stored k (.int .u8 (cl.toNat : Int))
        rw [hcl, filled_set _ _ _ HR.out hlt, ← hcl] at hst
        have hbel1 := hbel.setCell (p := ⟨w.heap.size, k, none⟩) (Nat.le_refl _) (.int .u8 (cl.toNat : Int))
        have hi1 := ix_str s k hlt (k : Int) rfl
        have hlt' : (k : Int) < (s.size : Int) := by omega
        have HCC : Hid (∀ W : World, Calls Try.prog 49 #[.int .u8 (s[k].toNat : Int), .string t, .int .i64 ((p : Int) + (k : Int)), .int .i64 n] W fun e w' => e = .returned (.int .u8 (cl.toNat : Int)) ∧ w' = W) := fun W => by
          have h := HPC.out s[k] (p + k) (by omega) W
          rw [← HAT.out k hkc hlt, ← hcl, show ((p + k : Nat) : Int) = (p : Int) + (k : Int) by omega] at h
          exact h
        have HST := hst.1
        clear hst hcl
        have HST : Hid _ := HST
        have HB : Hid _ := hbel1
        clear hbel1 hown hbel
        go_wp2_with (go_at_call 49; refine (HCC.out _).mono ?_; rintro e w' ⟨rfl, hw⟩; subst w')
        go_roundw
        case rel => exact ⟨k + 1, by omega, by go_num, HST.out, HB.out⟩
        case measure => simp [intOf]; omega
      · have hkn : k = s.size := by omega
        subst hkn
        rw [filled_whole _ _ HR.out] at hown
        have hback := back_own hown
        go_wp2
        go_ret
        exact ⟨rfl, hbel⟩

end Go.Proofs.Ytfcbgfomhmcikaa
