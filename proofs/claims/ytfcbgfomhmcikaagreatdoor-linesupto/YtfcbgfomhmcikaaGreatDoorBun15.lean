/-
  THE WALK of the program's Find. Own text of the verifier.
  THE WORLD of the law Searches: its indexes, each beside its reference, and its book of places. Own text of the verifier.
  THE WALK of the World's 'made': the contigs are lent, an index is made of them, the error is held against the document's. Own text of the verifier.
  THE WALKS of 'lentRecords' and 'wholeRecords'. Own text of the verifier.
-/
import Derived.Test.YtfcbgfomhmcikaaGreatDoorBun14
import Derived.Test.YtfcbgfomhmcikaaGreatDoorBun11
import Derived.Test.YtfcbgfomhmcikaaGreatDoorBun13
namespace Go.Proofs.YtfcbgfomhmcikaaGreatDoor
open Go.RowKit

theorem Ix.str_top {n : Int} (h : Lt.topB n = true) : Ix.str 1 = Ix.str n := by
  have h4 : n = 1 ∨ n = 3 := by simpa [Lt.topB] using h
  rcases h4 with rfl | rfl <;> rfl
theorem Ix.str_bot {n : Int} (h : Lt.topB n = false) (hs : Lt.strandB n = true) : Ix.str 2 = Ix.str n := by
  have h4 : n = 2 ∨ n = 4 := by
    rw [Lt.strandB_int] at hs
    simp only [Lt.topB, Bool.or_eq_false_iff, beq_eq_false_iff_ne, Bool.or_eq_true, beq_iff_eq] at h hs
    omega
  rcases h4 with rfl | rfl <;> rfl

theorem ixContigs_any (n : Int) (w : World) (bx : Nat) (a1 a2 : Option Addr) (n1 n2 c1 c2 : Nat) (x0 : w.cell? ⟨bx, 0, none⟩ = some (.slice a1 n1 c1)) (x1 : w.cell? ⟨bx, 1, none⟩ = some (.slice a2 n2 c2)) :
    Calls Tryz.prog 88 #[.pointer (some ⟨bx, 0, none⟩), .int .i64 n] w fun e w' => e = .returned (if Lt.topB n then .slice a1 n1 c1 else .slice a2 n2 c2) ∧ w' = w := by
  obtain ⟨r, hr⟩ : ∃ r, r = (if Lt.topB n then Value.slice a1 n1 c1 else .slice a2 n2 c2) := ⟨_, rfl⟩
  rw [← hr]
  cases h1 : Lt.topB n
  all_goals
    have HR : Hid (r = _) := hr
    rw [h1] at HR
    have HT : Hid _ := h1
    clear hr h1
    go_enter Tryz.func88, Tryz.ntmps88
    go_wp2_with (go_at_call 72; refine (strTop_any _ _).mono ?_; rintro e w' ⟨rfl, hw⟩; subst w'; rw [HT.out])
    go_ret
    exact ⟨by rw [HR.out]; rfl, rfl⟩

theorem own_strs {X : World} {B : Nat} {v : Value} {n : Int} {cs : List Pr} (h : X.ownsRow B 9 1 v cs.length (Ix.strs n cs)) (hp : 0 < cs.length) :
    ∃ g c, v = .slice (some ⟨g, 0, none⟩) cs.length c ∧ ∀ k (h : k < cs.length), X.cell? ⟨g, k, none⟩ = some (Ix.str n cs[k]) := by
  obtain ⟨g, c, rfl, _, _⟩ := own_pos h hp
  refine ⟨g, c, rfl, fun k hk => ?_⟩
  rw [h.cellAt k (by omega)]
  simp [Ix.strs, hk]

set_option maxRecDepth 100000 in
set_option maxHeartbeats 4000000 in
theorem ixFind_any (cs : List Pr) (B : Nat) (p : Value) (s : ByteArray) (n b : Int) (w : World) (hI : IxAt w B p cs) (hR : Se.Right cs) (hs : s.size ≤ 140737488355327) :
    Calls Tryz.prog 55 #[p, .string s, .int .i64 n, .int .i64 b] w fun e w' =>
      ∃ v, e = .returned (.tuple #[v, .int .i64 (Se.findErr n b s.data.toList)]) ∧ w'.ownsRow w.heap.size 67 2 v (Se.findOut n b s.data.toList cs).length (Se.pls (Se.findOut n b s.data.toList cs)) ∧ (Se.findErr n b s.data.toList ≠ 0 → v = .slice none 0 0) ∧ Below w.heap.size w w' := by
  have hsz : s.data.toList.length = s.size := by simp
  have hsm : s.size ≤ maxLen := by unfold maxLen; omega
  have hbad : ∀ x : Int, Se.findErr n b s.data.toList = x → x ≠ 0 → Se.findOut n b s.data.toList cs = [] := fun x h h0 => by rw [Se.findOut, if_neg (by rw [h]; exact h0)]
  have hE0 : (s.toList = []) ↔ s.size = 0 := by rw [ByteArray.toList_eq, List.eq_nil_iff_length_eq_zero, hsz]
  obtain ⟨E, hE⟩ : ∃ E, E = Se.findErr n b s.data.toList := ⟨_, rfl⟩
  obtain ⟨O, hO⟩ : ∃ O, O = Se.findOut n b s.data.toList cs := ⟨_, rfl⟩
  rw [← hE, ← hO] at hbad
  rw [← hE, ← hO]
  have HFIN : Hid (E ≠ 0 → ∀ X : World, X.ownsRow w.heap.size 67 2 (.slice none 0 0) O.length (Se.pls O)) := fun h X => by
    rw [hbad E rfl h]; exact World.ownsRow_nil _ _ _ _
  clear hbad
  obtain ⟨bx, top, bot, rfl, hx, hto, hbo⟩ := hI
  have hpos := hR.pos
  have hfew := hR.few
  obtain ⟨gt, ct, rfl, htop⟩ := own_strs hto hpos
  obtain ⟨gb, cb, rfl, hbot⟩ := own_strs hbo hpos
  have x0 : w.cell? ⟨bx, 0, none⟩ = some (.slice (some ⟨gt, 0, none⟩) cs.length ct) := by rw [hx.cellAt 0 (by omega)]; rfl
  have x1 : w.cell? ⟨bx, 1, none⟩ = some (.slice (some ⟨gb, 0, none⟩) cs.length cb) := by rw [hx.cellAt 1 (by omega)]; rfl
  have HX0 : Hid _ := x0
  have HX1 : Hid _ := x1
  have HTOP : Hid _ := htop
  have HBOT : Hid _ := hbot
  have HN : Hid (∀ x ∈ cs, x.2.length ≤ 100000) := fun x hx => by have := hR.len x hx; omega
  clear hx hto hbo x0 x1 htop hbot hR
  cases hst : Lt.strandB n with
  | false =>
    have HE : Hid (E = 1) := by show _ = _; rw [hE, Se.findErr, if_pos hst]
    have HT : Hid _ := hst
    clear hst hE hO hsz hE0
    go_enter Tryz.func55, Tryz.ntmps55
    go_wp2_with (go_at_call 71; refine (strIs_any _ _).mono ?_; rintro e w' ⟨rfl, hw⟩; subst w'; rw [HT.out])
    go_ret2
    exact ⟨_, ret_two HE.out.symm, HFIN.out (by rw [HE.out]; decide) _, fun _ => rfl, Below.refl _ _⟩
  | true =>
    have HT : Hid _ := hst
    by_cases hb0 : b < 0
    · have HE : Hid (E = 1) := by show _ = _; rw [hE, Se.findErr, if_neg (by simp [hst]), if_pos hb0]
      clear hst hE hO hsz hE0
      go_enter Tryz.func55, Tryz.ntmps55
      go_wp2_with (go_at_call 71; refine (strIs_any _ _).mono ?_; rintro e w' ⟨rfl, hw⟩; subst w'; rw [HT.out])
      go_ret2
      exact ⟨_, ret_two HE.out.symm, HFIN.out (by rw [HE.out]; decide) _, fun _ => rfl, Below.refl _ _⟩
    · by_cases hb3 : 3 < b
      · have HE : Hid (E = 1) := by show _ = _; rw [hE, Se.findErr, if_neg (by simp [hst]), if_neg hb0, if_pos hb3]
        clear hst hE hO hsz hE0
        go_enter Tryz.func55, Tryz.ntmps55
        go_wp2_with (go_at_call 71; refine (strIs_any _ _).mono ?_; rintro e w' ⟨rfl, hw⟩; subst w'; rw [HT.out])
        go_ret2
        exact ⟨_, ret_two HE.out.symm, HFIN.out (by rw [HE.out]; decide) _, fun _ => rfl, Below.refl _ _⟩
      · have hEL : E = Se.lettersErr s.data.toList := by rw [hE, Se.findErr, if_neg (by simp [hst]), if_neg hb0, if_neg hb3]
        by_cases h0 : s.size = 0
        · have HE : Hid (E = 8) := by show _ = _; rw [hEL, Se.lettersErr, hsz, if_pos h0]; split <;> rfl
          have h0' : s.toList.isEmpty = true := by rw [List.isEmpty_iff]; exact hE0.2 h0
          clear hst hE hO hsz hE0 h0 hEL
          go_enter Tryz.func55, Tryz.ntmps55
          go_wp2_with (go_at_call 71; refine (strIs_any _ _).mono ?_; rintro e w' ⟨rfl, hw⟩; subst w'; rw [HT.out])
          go_ret2
          exact ⟨_, ret_two HE.out.symm, HFIN.out (by rw [HE.out]; decide) _, fun _ => rfl, Below.refl _ _⟩
        · have h0' : s.toList.isEmpty = false := by rw [List.isEmpty_eq_false_iff]; exact fun h => h0 (hE0.1 h)
          cases hL : Lt.allL s.data.toList with
          | false =>
            have HE : Hid (E = 8) := by show _ = _; rw [hEL, Se.lettersErr, if_pos hL]
            have HL : Hid _ := hL
            clear hst hE hO hsz hE0 h0 hEL hL
            go_enter Tryz.func55, Tryz.ntmps55
            go_wp2_with (first
              | (go_at_call 71; refine (strIs_any _ _).mono ?_; rintro e w' ⟨rfl, hw⟩; subst w'; rw [HT.out])
              | (go_at_call 35; refine (areLetters_any _ _ hsm).mono ?_; rintro e w' ⟨rfl, hw⟩; subst w'; rw [HL.out]))
            go_ret2
            exact ⟨_, ret_two HE.out.symm, HFIN.out (by rw [HE.out]; decide) _, fun _ => rfl, Below.refl _ _⟩
          | true =>
            have HL : Hid _ := hL
            by_cases h1 : 128 < s.size
            · have HE : Hid (E = 7) := by show _ = _; rw [hEL, Se.lettersErr, if_neg (by simp [hL]), hsz, if_neg h0, if_pos h1]
              have h1' : (128 : Int) < (s.size : Int) := by omega
              clear hst hE hO hsz hE0 h0 hEL hL
              go_enter Tryz.func55, Tryz.ntmps55
              go_wp2_with (first
                | (go_at_call 71; refine (strIs_any _ _).mono ?_; rintro e w' ⟨rfl, hw⟩; subst w'; rw [HT.out])
                | (go_at_call 35; refine (areLetters_any _ _ hsm).mono ?_; rintro e w' ⟨rfl, hw⟩; subst w'; rw [HL.out]))
              go_ret2
              exact ⟨_, ret_two HE.out.symm, HFIN.out (by rw [HE.out]; decide) _, fun _ => rfl, Below.refl _ _⟩
            · have HE : Hid (E = 0) := by show _ = _; rw [hEL, Se.lettersErr, if_neg (by simp [hL]), hsz, if_neg h0, if_neg h1]
              have HO : Hid (O = Se.inAll n b s.data.toList cs cs.length) := by show _ = _; rw [hO, Se.findOut, if_pos (by rw [← hE]; exact HE.out)]
              have h1' : ¬ (128 : Int) < (s.size : Int) := by omega
              have hsl : s.data.toList.length ≤ 1000 := by rw [hsz]; omega
              have HSL : Hid _ := hsl
              obtain ⟨gx, cx, hsel, hcx⟩ : ∃ gx cx, (if Lt.topB n then (Value.slice (some ⟨gt, 0, none⟩) cs.length ct) else .slice (some ⟨gb, 0, none⟩) cs.length cb) = .slice (some ⟨gx, 0, none⟩) cs.length cx ∧ ∀ k (h : k < cs.length), w.cell? ⟨gx, k, none⟩ = some (Ix.str n cs[k]) := by
                cases ht : Lt.topB n with
                | true => exact ⟨gt, ct, rfl, fun k h => by rw [HTOP.out k h, Ix.str_top ht]⟩
                | false => exact ⟨gb, cb, rfl, fun k h => by rw [HBOT.out k h, Ix.str_bot ht hst]⟩
              have HSEL : Hid _ := hsel
              have HCX : Hid _ := hcx
              clear hst hE hO hsz hE0 h0 hEL hL hsl hsel hcx
              go_enter Tryz.func55, Tryz.ntmps55
              go_wp2_with (first
                | (go_at_call 71; refine (strIs_any _ _).mono ?_; rintro e w' ⟨rfl, hw⟩; subst w'; rw [HT.out])
                | (go_at_call 35; refine (areLetters_any _ _ hsm).mono ?_; rintro e w' ⟨rfl, hw⟩; subst w'; rw [HL.out])
                | (go_at_call 88; refine (ixContigs_any n _ bx _ _ _ _ _ _ HX0.out HX1.out).mono ?_; rintro e w' ⟨rfl, hw⟩; subst w'; rw [HSEL.out])
                | (go_at_call 89; refine (ixConvert_any _ _ _ hsm HL.out HT.out).mono ?_; rintro e w1 ⟨rfl, hb1⟩)
                | (go_at_call 87; refine (places_any cs gx cx s.data.toList n b _ HT.out (by omega) (by omega) (by omega) HN.out HSL.out (fun k h => (hb1.cell (p := ⟨gx, k, none⟩) (World.block_lt_of_cell? w _ (HCX.out k h))).trans (HCX.out k h))).mono ?_; rw [← HO.out]; rintro e w2 ⟨v, rfl, ho, hb2⟩))
              go_ret2
              exact ⟨_, ret_two HE.out.symm, own_base ho hb1.size, fun h => absurd HE.out h, hb1.trans (hb2.mono hb1.size)⟩

end Go.Proofs.YtfcbgfomhmcikaaGreatDoor

namespace Go.Proofs.YtfcbgfomhmcikaaGreatDoor
open Go.RowKit

theorem add_block (ad : Addr) (j : Nat) : (ad.add j).block = ad.block := by unfold Addr.add; split <;> rfl

/-- a reference that lies below block g -/
structure RefAt (X : World) (g : Nat) (v : Value) (cs : List Pr) : Prop where
  ref : RefOk X v cs
  low : 0 < cs.length → ∀ ad l c, v = .slice (some ad) l c → ad.block < g

theorem RefAt.below {X Y : World} {g : Nat} {v : Value} {cs : List Pr} (h : RefAt X g v cs) (hb : Below g X Y) : RefAt Y g v cs := by
  refine ⟨⟨?_, h.ref.len, h.ref.txt⟩, h.low⟩
  rcases h.ref.src with hs | ⟨ad, c, rfl, hs⟩
  · exact .inl hs
  · refine .inr ⟨ad, c, rfl, fun j u hj => ?_⟩
    have hpos : 0 < cs.length := by
      have := (List.getElem?_eq_some_iff.1 hj).1
      rw [Prs_length] at this
      omega
    rw [hb.cell (p := ad.add j) (by rw [add_block]; exact h.low hpos ad _ _ rfl)]
    exact hs j u hj

theorem RefAt.form {X : World} {g : Nat} {v : Value} {cs : List Pr} (h : RefAt X g v cs) : ∃ ao c, v = .slice ao cs.length c := by
  rcases h.ref.src with ⟨rfl, h0, _⟩ | ⟨ad, c, rfl, _⟩
  · exact ⟨none, 0, by rw [h0]⟩
  · exact ⟨some ad, c, rfl⟩

/-- an index of the program, its reference, and what that holds -/
abbrev Px := Value × Value × List Pr
def pxCells (p : Px) : List Value := [p.1, p.2.1]
def Pxs (l : List Px) : List Value := l.flatMap pxCells
theorem Pxs_cons (p : Px) (l : List Px) : Pxs (p :: l) = p.1 :: p.2.1 :: Pxs l := rfl
theorem Pxs_length (l : List Px) : (Pxs l).length = l.length * 2 := by
  induction l with
  | nil => rfl
  | cons a l ih => rw [Pxs_cons, List.length_cons, List.length_cons, ih, List.length_cons]; omega
theorem Pxs_append (l r : List Px) : Pxs (l ++ r) = Pxs l ++ Pxs r := by simp [Pxs]
theorem Pxs_at (l : List Px) (k : Nat) (h : k < l.length) : (Pxs l)[k * 2]? = some l[k].1 ∧ (Pxs l)[k * 2 + 1]? = some l[k].2.1 := by
  induction l generalizing k with
  | nil => simp at h
  | cons a l ih =>
    cases k with
    | zero => simp [Pxs_cons]
    | succ k =>
      have := ih k (by simpa using h)
      rw [Pxs_cons, show (k + 1) * 2 = k * 2 + 1 + 1 by omega]
      simpa using this

/-- each index answers for its reference -/
def PairsOk (X : World) (g : Nat) (ps : List Px) : Prop := ∀ p ∈ ps, IxAt X (g + 1) p.1 p.2.2 ∧ Se.newErr p.2.2 = 0 ∧ RefAt X g p.2.1 p.2.2

theorem IxAt.move {X Z : World} {B : Nat} {p : Value} {cs : List Pr} (h : IxAt X B p cs)
    (hp : ∀ e s v n xs, (e = 134 ∨ e = 9) → (∀ q, v.ownBlock = some q → q < X.heap.size) → X.ownsRow B e s v n xs → Z.ownsRow B e s v n xs) : IxAt Z B p cs := by
  obtain ⟨bx, top, bot, h1, h2, h3, h4⟩ := h
  exact ⟨bx, top, bot, h1, hp _ _ _ _ _ (.inl rfl) (fun q hq => (h2.lt q hq).2) h2, hp _ _ _ _ _ (.inr rfl) (fun q hq => (h3.lt q hq).2) h3, hp _ _ _ _ _ (.inr rfl) (fun q hq => (h4.lt q hq).2) h4⟩

theorem PairsOk.move {X Z : World} {g : Nat} {ps : List Px} (h : PairsOk X g ps)
    (hp : ∀ e s v n xs, (e = 134 ∨ e = 9) → (∀ q, v.ownBlock = some q → q < X.heap.size) → X.ownsRow (g + 1) e s v n xs → Z.ownsRow (g + 1) e s v n xs) (hb : Below g X Z) : PairsOk Z g ps :=
  fun p hm => let ⟨h1, h2, h3⟩ := h p hm; ⟨h1.move hp, h2, h3.below hb⟩

/-- how a script stands behind its first k steps -/
def SI (X : World) (g : Nat) (lv : Value) (k : Nat) : Prop :=
  ∃ (xv vp : Value) (ps : List Px) (es : List Value), X.heap[g]? = some (.cells #[lv, xv, .slice none 0 0, .slice none 0 0, vp, .slice none 0 0] 39 (0, 0)) ∧
    X.ownsRow (g + 1) 59 2 xv ps.length (Pxs ps) ∧ PairsOk X g ps ∧ ShelfP X g vp es ∧ es.length % 4 = 0 ∧ es.length ≤ 4 * k ∧ ps.length ≤ k

theorem si_lt {X : World} {g k : Nat} {lv : Value} (h : SI X g lv k) : g < X.heap.size := by
  obtain ⟨_, _, _, _, hW, _⟩ := h
  exact (Array.getElem?_eq_some_iff.1 hW).1

theorem si_below {X Y : World} {g k : Nat} {lv : Value} (h : SI X g lv k) (hb : Below X.heap.size X Y) : SI Y g lv k ∧ SI Y g lv (k + 1) := by
  have hg := si_lt h
  obtain ⟨xv, vp, ps, es, hW, hx, hok, hs, h1, h2, h3⟩ := h
  have hW' := (hb.block g hg).trans hW
  have hok' := hok.move (fun e s v n xs _ _ ho => own_below ho hb) (hb.mono (Nat.le_of_lt hg))
  exact ⟨⟨xv, vp, ps, es, hW', own_below hx hb, hok', shelfP_below hs hb, h1, h2, h3⟩, ⟨xv, vp, ps, es, hW', own_below hx hb, hok', shelfP_below hs hb, h1, by omega, by omega⟩⟩

/-- one index more -/
theorem si_made {X Y Z : World} {g k : Nat} {lv xv xv' vp p v : Value} {ps : List Px} {es : List Value} {cs : List Pr}
    (hW : X.heap[g]? = some (.cells #[lv, xv, .slice none 0 0, .slice none 0 0, vp, .slice none 0 0] 39 (0, 0))) (hx : X.ownsRow (g + 1) 59 2 xv ps.length (Pxs ps)) (hok : PairsOk X g ps) (hs : ShelfP X g vp es)
    (h1 : es.length % 4 = 0) (h2 : es.length ≤ 4 * k) (h3 : ps.length ≤ k) (hXY : Below X.heap.size X Y) (hI : IxAt Y (g + 1) p cs) (hE : Se.newErr cs = 0) (hR : RefAt X g v cs)
    (hZ : Z.ownsRow (g + 1) 59 2 xv' (ps.length + 1) (Pxs ps ++ [p, v])) (hb : Below (g + 1) Y Z) (hk : ∀ q, q < Y.heap.size → some q ≠ xv.ownBlock → Z.heap[q]? = Y.heap[q]?) :
    SI (Z.setCell ⟨g, 1, none⟩ xv') g lv (k + 1) := by
  have hg : g < X.heap.size := (Array.getElem?_eq_some_iff.1 hW).1
  have hWY := (hXY.block g hg).trans hW
  have hxY := own_below hx hXY
  have hsY := shelfP_below hs hXY
  have hokY := hok.move (fun e s v n xs _ _ ho => own_below ho hXY) (hXY.mono (Nat.le_of_lt hg))
  have hWZ := (hb.block g (by omega)).trans hWY
  have hne1 : 134 ≠ 59 := by decide
  have hne2 : 9 ≠ 59 := by decide
  have hpz : ∀ e s v n xs, e ≠ 59 → Y.ownsRow (g + 1) e s v n xs → (Z.setCell ⟨g, 1, none⟩ xv').ownsRow (g + 1) e s v n xs := fun e s v n xs he ho =>
    ownsRow_setCell_below (own_keep ho hxY he hk) (a := ⟨g, 1, none⟩) (by simp) xv'
  have hpz2 : ∀ e s v n xs, (e = 134 ∨ e = 9) → (∀ q, v.ownBlock = some q → q < Y.heap.size) → Y.ownsRow (g + 1) e s v n xs → (Z.setCell ⟨g, 1, none⟩ xv').ownsRow (g + 1) e s v n xs := fun e s v n xs he _ ho =>
    hpz e s v n xs (by rcases he with rfl | rfl; exact hne1; exact hne2) ho
  have hbZ : Below g Y (Z.setCell ⟨g, 1, none⟩ xv') := (hb.mono (Nat.le_succ g)).setCell (p := ⟨g, 1, none⟩) (Nat.le_refl _) xv'
  refine ⟨xv', vp, ps ++ [(p, v, cs)], es, heap_setCell_same Z g 1 _ _ xv' hWZ, ?_, ?_, ⟨hpz _ _ _ _ _ (by decide) hsY.list, fun i hi => ?_, hsY.len⟩, h1, by omega, by rw [List.length_append]; simp only [List.length_cons, List.length_nil]; omega⟩
  · rw [List.length_append, Pxs_append]
    exact ownsRow_setCell_below hZ (a := ⟨g, 1, none⟩) (by simp) xv'
  · intro q hq
    rcases List.mem_append.1 hq with hq | hq
    · exact hokY.move hpz2 hbZ q hq
    · obtain rfl := List.mem_singleton.1 hq
      exact ⟨hI.move hpz2, hE, (hR.below (hXY.mono (Nat.le_of_lt hg))).below hbZ⟩
  · obtain ⟨n, hn, ho⟩ := hsY.ent i hi
    exact ⟨n, hn, hpz _ _ _ _ _ (by decide) ho⟩

/-- the lists of a Find, in the book -/
theorem si_found {X Y Z : World} {g n k B : Nat} {lv xv vp v' x0 x1 x2 x3 : Value} {ps : List Px} {es : List Value}
    (hW : X.heap[g]? = some (.cells #[lv, xv, .slice none 0 0, .slice none 0 0, vp, .slice none 0 0] 39 (0, 0))) (hx : X.ownsRow (g + 1) 59 2 xv ps.length (Pxs ps)) (hok : PairsOk X g ps) (hs : ShelfP X g vp es)
    (h4 : es.length % 4 = 0) (h2 : es.length ≤ 4 * k) (h3 : ps.length ≤ k) (hk : 4 * k + 4 ≤ 7000000000000) (hn : n ≤ 90000) (hXY : Below X.heap.size X Y) (hB : X.heap.size ≤ B)
    (hZ : Z.heap[g]? = some (.cells #[lv, xv, .slice none 0 0, .slice none 0 0, v', .slice none 0 0] 39 (0, 0))) (hl : Z.ownsRow (g + 1) 65 1 v' (es.length + 4) (es ++ [x0, x1, x2, x3]))
    (m0 : Z.ownsRow (g + 1) 67 2 x0 n (reps (mp es.length) (.int .i64 0) n)) (m1 : Z.ownsRow (g + 1) 67 2 x1 (n + 1) (reps (mp es.length) (.int .i64 0) (n + 1)))
    (m2 : Z.ownsRow (g + 1) 67 2 x2 (n + 2) (reps (mp es.length) (.int .i64 0) (n + 2))) (m3 : Z.ownsRow (g + 1) 67 2 x3 (n + 3) (reps (mp es.length) (.int .i64 0) (n + 3)))
    (hb : Below g Y Z) (hp : ∀ e s v n xs, e ≠ 65 → (∀ q, v.ownBlock = some q → q < B) → Y.ownsRow (g + 1) e s v n xs → Z.ownsRow (g + 1) e s v n xs) : SI Z g lv (k + 1) := by
  have hg : g < X.heap.size := (Array.getElem?_eq_some_iff.1 hW).1
  have hne1 : 134 ≠ 65 := by decide
  have hne2 : 9 ≠ 65 := by decide
  have hpX : ∀ e s v n xs, e ≠ 65 → X.ownsRow (g + 1) e s v n xs → Z.ownsRow (g + 1) e s v n xs := fun e s v n xs he ho =>
    hp e s v n xs he (fun q hq => by have := (ho.lt q hq).2; omega) (own_below ho hXY)
  refine ⟨xv, v', ps, es ++ [x0, x1, x2, x3], hZ, hpX _ _ _ _ _ (by decide) hx, ?_, ⟨by rw [List.length_append]; exact hl, ?_, by simp; omega⟩, by simp; omega, by simp; omega, by omega⟩
  · exact hok.move (fun e s v n xs he _ ho => hpX e s v n xs (by rcases he with rfl | rfl; exact hne1; exact hne2) ho) ((hXY.mono (Nat.le_of_lt hg)).trans hb)
  · intro i hi
    rw [List.length_append] at hi
    simp only [List.length_cons, List.length_nil] at hi
    by_cases hic : i < es.length
    · obtain ⟨m, hm, ho⟩ := hs.ent i hic
      rw [List.getElem_append_left hic]
      exact ⟨m, hm, hpX _ _ _ _ _ (by decide) ho⟩
    · obtain ⟨j, rfl⟩ : ∃ j, i = es.length + j := ⟨i - es.length, by omega⟩
      rw [mp_same _ _ h4 (by omega), List.getElem_append_right (by omega)]
      have hj : j = 0 ∨ j = 1 ∨ j = 2 ∨ j = 3 := by omega
      rcases hj with rfl | rfl | rfl | rfl
      · exact ⟨n, by omega, by simpa using m0⟩
      · exact ⟨n + 1, by omega, by simpa using m1⟩
      · exact ⟨n + 2, by omega, by simpa using m2⟩
      · exact ⟨n + 3, by omega, by simpa using m3⟩

end Go.Proofs.YtfcbgfomhmcikaaGreatDoor

namespace Go.Proofs.YtfcbgfomhmcikaaGreatDoor
open Go.RowKit

theorem lentC_block {X w1 : World} {cs : List Pr} {lv v : Value} (hl : LentC X w1 cs lv v) : X.heap.size ≤ w1.heap.size ∧ Below X.heap.size X w1 ∧ ∀ q, v.ownBlock = some q → q = X.heap.size ∧ X.heap.size < w1.heap.size := by
  rcases hl with ⟨_, _, rfl, rfl⟩ | ⟨ad, cc, _, rfl, ho, hb, hlt⟩
  · exact ⟨Nat.le_refl _, Below.refl _ _, fun q hq => by cases hq⟩
  · exact ⟨by omega, hb, fun q hq => by cases hq; exact ⟨rfl, hlt⟩⟩

theorem lentC_form {X w1 : World} {cs : List Pr} {lv v : Value} (hl : LentC X w1 cs lv v) : ∃ ao n c, v = .slice ao n c := by
  rcases hl with ⟨_, _, rfl, rfl⟩ | ⟨ad, cc, _, rfl, ho, hb, hlt⟩
  · exact ⟨_, _, _, rfl⟩
  · exact ⟨_, _, _, rfl⟩

theorem lentC_new {X w1 : World} {cs : List Pr} {lv v : Value} (hl : LentC X w1 cs lv v) (hr : RefOk X lv cs) :
    Calls Tryz.prog 52 #[v] w1 fun e w' => ∃ p, e = .returned (.tuple #[p, .int .i64 (Se.newErr cs)]) ∧ Below w1.heap.size w1 w' ∧ ((Se.newErr cs ≠ 0 ∧ p = .pointer none) ∨ (Se.newErr cs = 0 ∧ IxAt w' w1.heap.size p cs)) := by
  have hlen := hr.len
  rcases hl with ⟨_, rfl, rfl, rfl⟩ | ⟨ad, cc, _, rfl, ho, hb, hlt⟩
  · refine (ixNew_nil _).mono ?_
    rintro e w' ⟨rfl, rfl⟩
    exact ⟨_, rfl, Below.refl _ _, .inl ⟨by decide, rfl⟩⟩
  · refine ixNew_any cs X.heap.size (cs.length + 8) w1 (by omega) (fun x hx => by have := (hr.txt x hx).2; omega) (fun k hk => ?_)
    have := own_pair ho k (by rw [lentC_length]; omega)
    rw [lentC_low cs k hk] at this
    exact this

theorem refNew_any {w : World} {cs : List Pr} {lv : Value} (hr : RefOk w lv cs) :
    Calls Tryz.prog 53 #[lv] w fun e w' => e = .returned (.int .i64 (Se.newErr cs)) ∧ w' = w := by
  have hlen := hr.len
  by_cases h0 : cs.length = 0
  · obtain rfl : cs = [] := List.eq_nil_of_length_eq_zero h0
    rcases hr.src with ⟨rfl, _, _⟩ | ⟨ad, c, rfl, _⟩
    · exact refNew_nil w 0 none
    · exact refNew_nil w c (some ad)
  · rcases hr.src with ⟨rfl, h1, _⟩ | ⟨ad, c, rfl, hs⟩
    · exact absurd h1 h0
    · exact refNew_row cs ad c w (by omega) (fun x hx => by have := (hr.txt x hx).2; omega) hs (by omega)

theorem lentC_whole {X w1 w3 : World} {cs : List Pr} {lv v : Value} (hl : LentC X w1 cs lv v) (hr : RefOk X lv cs) (hb : Below w1.heap.size w1 w3) :
    Calls Tryz.prog 54 #[v, lv] w3 fun e w' => e = .returned (.bool true) ∧ w3.grownBy w' v.ownBlock := by
  rcases hl with ⟨rfl, _, rfl, _⟩ | ⟨ad, cc, rfl, rfl, ho, hb1, hlt⟩
  · refine (wholeContigs_nil _ w3).mono ?_
    rintro e w' ⟨rfl, rfl⟩
    exact ⟨rfl, World.grownBy.refl _ _⟩
  · rcases hr.src with ⟨h, _⟩ | ⟨ad', c', hv, hs⟩
    · simp at h
    · simp only [Value.slice.injEq, Option.some.injEq, true_and] at hv
      obtain ⟨rfl, rfl⟩ := hv
      refine wholeContigs_row cs X.heap.size cc ad w3 hr.len (src_keep (src_keep hs hb1) hb) (fun hp he => ?_) (own_below ho hb)
      have := World.block_lt_of_cell? X _ (src_first hs 0 hp)
      rw [add_block, he] at this
      omega


theorem Tryz.infoPair : (Tryz.prog.info? 59).map (fun i => (i.zero, i.size, i.bytes)) = some (some (.agg #[.pointer none, .slice none 0 0]), 2, 32) := by kernel_rfl

set_option maxRecDepth 100000 in
set_option maxHeartbeats 800000 in
theorem made_any (X : World) (g : Nat) (lv v : Value) (cs : List Pr) (k : Nat) (hI : SI X g lv k) (hR : RefAt X g v cs) (hk : (k + 1) * 32 ≤ 140737488355328) :
    Calls Tryz.prog 22 #[.pointer (some ⟨g, 0, none⟩), v] X fun e X' => e = .returned (.bool true) ∧ SI X' g lv (k + 1) ∧ Below g X X' := by
  have hgX := si_lt hI
  have HI : Hid _ := hI
  have HR : Hid _ := hR
  obtain ⟨E, hE⟩ : ∃ E, E = Se.newErr cs := ⟨_, rfl⟩
  have HE : Hid _ := hE
  obtain ⟨va, vc, hvf⟩ := hR.form
  subst hvf
  clear hI hR hE
  go_enter Tryz.func22, Tryz.ntmps22
  go_wp2_with fail
  refine (lentContigs_any cs _ _ HR.out.ref).mono ?_
  rintro e w1 ⟨v1, rfl, hl⟩
  have HL : Hid _ := hl
  clear hl
  go_wp2_with fail
  refine (lentC_new HL.out HR.out.ref).mono ?_
  rw [← HE.out]
  rintro e w2 ⟨p, rfl, hb2, hp⟩
  obtain ⟨hs1, hb1, hq1⟩ := lentC_block HL.out
  have HB1 : Hid _ := hb1
  have HB2 : Hid _ := hb2
  have hbX2 := hb1.trans (hb2.mono hs1)
  have HBX2 : Hid _ := hbX2
  have HR2 : Hid _ := HR.out.below (hbX2.mono (Nat.le_of_lt hgX))
  have HP : Hid _ := hp
  clear hb1 hb2 hbX2 hp
  go_wp2_with fail
  refine (refNew_any HR2.out.ref).mono ?_
  rw [← HE.out]
  rintro e w3 ⟨rfl, hw3⟩
  subst w3
  go_wp2_with fail
  refine (lentC_whole HL.out HR.out.ref HB2.out).mono ?_
  rintro e w4 ⟨rfl, hg4⟩
  have hbX4 : Below X.heap.size X w4 := HBX2.out.grown hg4 HBX2.out.size (fun q hq => by have := hq1 q hq; omega)
  have HBX4 : Hid _ := hbX4
  have HG4 : Hid _ := hg4
  have hsz4 := hbX4.size
  clear hbX4 hg4
  by_cases h0 : E = 0
  · have hix : IxAt w2 w1.heap.size p cs := by
      rcases HP.out with ⟨h1, _⟩ | ⟨_, h2⟩
      · exact absurd h0 h1
      · exact h2
    have hix4 : IxAt w4 (g + 1) p cs := by
      obtain ⟨bx, top, bot, h1, h2, h3, h4⟩ := hix
      have hm : ∀ e s u n xs, w2.ownsRow w1.heap.size e s u n xs → w4.ownsRow (g + 1) e s u n xs := fun e s u n xs ho =>
        own_base (ho.kept HG4.out (by
          cases hq : u.ownBlock with
          | none => exact .inl rfl
          | some q =>
            right
            intro hh
            have h1 := (ho.lt q hq).1
            have h2 := hq1 q hh.symm
            omega)) (by omega)
      exact ⟨bx, top, bot, h1, hm _ _ _ _ _ h2, hm _ _ _ _ _ h3, hm _ _ _ _ _ h4⟩
    have HIX : Hid _ := hix4
    obtain ⟨bx, hpx⟩ : ∃ bx, p = .pointer (some ⟨bx, 0, none⟩) := by obtain ⟨bx, _, _, h1, _⟩ := hix; exact ⟨bx, h1⟩
    subst hpx
    obtain ⟨xv, vp, ps, es, hW, hx, hok, hsh, e4, e5, e6⟩ := HI.out
    obtain ⟨xa, xc, hxf⟩ := own_form hx
    subst hxf
    have hW4 := (HBX4.out.block g hgX).trans hW
    have c1 : w4.cell? ⟨g, 1, none⟩ = some (.slice xa ps.length xc) := cell_of_row w4 g 1 _ _ _ hW4
    have hg4 : g < w4.heap.size := by omega
    have HX4 : Hid _ := own_below hx HBX4.out
    have HSI : Hid _ := fun Z xv' a b c => @si_made X w4 Z g k lv (.slice xa ps.length xc) xv' vp (.pointer (some ⟨bx, 0, none⟩)) (.slice va cs.length vc) ps es cs hW hx hok hsh e4 e5 e6 HBX4.out HIX.out (by rw [← HE.out]; exact h0) HR.out a b c
    have HW4 : Hid _ := hW4
    have HE0 : Hid _ := h0
    clear hix hix4 hW hx hok hsh hW4 HP HI HR2 h0
    rw [HE0.out]
    go_wp2_with (at_builtin; refine app_src (W := w4) rfl _ _ 32 rfl (g + 1) 59 _ 2 32 Tryz.underlying32 Tryz.infoPair rfl (by decide) (.slice xa ps.length xc) ps.length (Pxs ps) (.slice (some ⟨w4.heap.size, 0, none⟩) 1 1) 1 [.pointer (some ⟨bx, 0, none⟩), .slice va cs.length vc] rfl rfl (by exact World.ownsRow.alloc HX4.out _) (.inr ⟨_, _, rfl, by exact two_cells _ _ _ _⟩) rfl (by simp [Value.oneCell']) (by exact (Below.refl (g + 1) w4).alloc (by omega) _) (by simp; omega) (by omega) (by decide) ?_; intro xv' w6 hown6 hbel6 hsz6 hkeep6; obtain ⟨ya, yc, hyf⟩ := own_form hown6; subst hyf; have hw6 := (hbel6.block g (by omega)).trans HW4.out; have cw6 : w6.cell? ⟨g, 1, none⟩ = some (.slice xa ps.length xc) := cell_of_row w6 g 1 _ _ _ hw6; have fw6 : w6.frozen? ⟨g, 1, none⟩ = false := frozen_of_row w6 g 1 _ _ hw6; have HF : Hid _ := HSI.out w6 _ hown6 hbel6 (fun q hq hn => (hkeep6 q (by simp; omega) hn).trans (Below.heap_alloc _ _ _ hq)); have HBF : Hid _ := hbel6; clear hw6 hown6 hbel6 hsz6 hkeep6 HSI)
    go_ret
    exact ⟨rfl, HF.out, ((HBX4.out.mono (Nat.le_of_lt hgX)).trans (HBF.out.mono (Nat.le_succ g))).setCell (p := ⟨g, 1, none⟩) (Nat.le_refl _) _⟩
  · have hpn : p = .pointer none := by
      rcases HP.out with ⟨_, h2⟩ | ⟨h1, _⟩
      · exact h2
      · exact absurd h1 h0
    subst hpn
    have h0' : (E == 0) = false := by rw [beq_eq_false_iff_ne]; exact h0
    have HF : Hid _ := (si_below HI.out HBX4.out).2
    clear HP
    go_wp2
    go_ret
    exact ⟨rfl, HF.out, HBX4.out.mono (Nat.le_of_lt hgX)⟩

end Go.Proofs.YtfcbgfomhmcikaaGreatDoor

namespace Go.Proofs.YtfcbgfomhmcikaaGreatDoor
open Go.RowKit

/-- what 'lentRecords' answers: nil, or a new row -/
def LentR (w w' : World) (rs : List Rc) (lv v : Value) : Prop :=
  (lv = .slice none 0 0 ∧ rs = [] ∧ v = .slice none 0 0 ∧ w' = w) ∨
  (∃ ad cc, lv = .slice (some ad) rs.length cc ∧ v = .slice (some ⟨w.heap.size, 0, none⟩) rs.length (rs.length + 8) ∧
    w'.ownsRow w.heap.size 47 8 (.slice (some ⟨w.heap.size, 0, none⟩) (rs.length + 8) (rs.length + 8)) (rs.length + 8) (Rcs (lentR rs)) ∧ Below w.heap.size w w' ∧ w.heap.size < w'.heap.size)

set_option maxRecDepth 100000 in
set_option maxHeartbeats 1600000 in
theorem lentRecords_any (rs : List Rc) (lv : Value) (w : World) (hr : RecsOk w lv rs) :
    Calls Tryz.prog 42 #[lv] w fun e w' => ∃ v, e = .returned v ∧ LentR w w' rs lv v := by
  have hnil := fun (wy : World) (a : Option Addr) (l c : Nat) => Lib.run_eql_slice_nil (P := Tryz.prog) wy 40 47 a l c 0 0 Tryz.underlying40
  obtain ⟨i0, hi, hz0, hz1, hz2⟩ := info_parts Tryz.infoRec2
  have hlen := hr.len
  rcases hr.src with ⟨rfl, hc0, _⟩ | ⟨ad, cc, rfl, hsrc⟩
  · obtain rfl : rs = [] := List.eq_nil_of_length_eq_zero hc0
    clear hlen hr hc0
    go_enter Tryz.func42, Tryz.ntmps42
    go_wp2
    go_ret
    exact ⟨_, rfl, .inl ⟨rfl, rfl, rfl, rfl⟩⟩
  · clear hr
    have HSRC : Hid _ := hsrc
    clear hsrc
    go_enter Tryz.func42, Tryz.ntmps42
    go_wp2_with (at_make; refine wpList_make_full _ rfl _ _ 40 rfl w.heap.size 47 i0 (.agg #[.string ⟨#[]⟩, .int .i64 0, .int .i64 0, .string ⟨#[]⟩, .int .i64 0, .int .i64 0, .string ⟨#[]⟩, .string ⟨#[]⟩]) 8 Tryz.underlying40 hi hz0 hz1 _ _ _ _ (rs.length + 8) rfl rfl (by omega) (by omega) (by rw [hz2]; omega) (by unfold maxLen; omega) (Nat.le_refl _) ?_; intro w1 hown0 hgrow; rw [made_recs] at hown0; have hb1 : Below w.heap.size w w1 := (Below.refl _ _).grown hgrow (Nat.le_refl _) (fun k hk => by cases hk); obtain ⟨W2, hcopy, hown2, hgrow2⟩ := copy_lentR rs w.heap.size cc ad w1 (src_keep HSRC.out hb1) hown0)
    have hb2 : Below w.heap.size w W2 := hb1.grown hgrow2 (by have := hgrow.size; omega) (fun k hk => by cases hk; exact Nat.le_refl _)
    clear hcopy hown0 hgrow hgrow2 hb1 hnil
    go_loopw [5] (fun i wr => ∃ k : Nat, rs.length ≤ k ∧ k ≤ rs.length + 8 ∧ i = .int .i64 (k : Int) ∧ wr.ownsRow w.heap.size 47 8 (.slice (some ⟨w.heap.size, 0, none⟩) (rs.length + 8) (rs.length + 8)) (rs.length + 8) (Rcs (filledR (lentR rs) (rs.length + 8) k)) ∧ Below w.heap.size w wr)
      (fun i _ => rs.length + 8 - (intOf i).toNat)
    case atStart => exact ⟨rs.length, Nat.le_refl _, by omega, rfl, hown2, hb2⟩
    case round =>
      clear hown2 hb2
      obtain ⟨k, hk1, hk, rfl, hown, hbel⟩ := hrel
      by_cases hlt : k < rs.length + 8
      · have hkl : k < (filledR (lentR rs) (rs.length + 8) k).length := by rw [filledR_length _ _ _ (lentR_length rs) (by omega)]; exact hlt
        obtain ⟨p0, p1, p2, p3, p4, p5, p6, p7⟩ := own_rec hown k hkl
        have f := fun i => hown.frozenAt (k * 8 + i)
        have f0 := f 0
        have f1 := f 1
        have f2 := f 2
        have f3 := f 3
        have f4 := f 4
        have f5 := f 5
        have f6 := f 6
        have f7 := f 7
        rw [Nat.add_zero] at f0
        have hset := own_set8 hown k hkl beR
        rw [show (filledR (lentR rs) (rs.length + 8) k).set k beR = filledR (lentR rs) (rs.length + 8) (k + 1) from by rw [← filledR_set _ _ _ (lentR_length rs) hlt, lentR_high rs k hk1]] at hset
        have HST : Hid _ := hset.1
        have HB1 : Hid _ := hbel.grown hset.2 hbel.size (fun q hq => by cases hq; exact Nat.le_refl _)
        clear hset hown hbel f
        have hlt' : (k : Int) < (rs.length : Int) + 8 := by omega
        go_wp2
        go_roundw
        case rel => exact ⟨k + 1, by omega, by omega, by go_num, HST.out, HB1.out⟩
        case measure => simp [intOf]; omega
      · have hke : k = rs.length + 8 := by omega
        rw [hke, filledR_whole _ _ (lentR_length rs)] at hown
        have hlt' : ¬ (k : Int) < (rs.length : Int) + 8 := by omega
        have hlt9 : w.heap.size < wr.heap.size := by
          rcases hown.2 with ⟨h, _⟩ | ⟨g, cap, cur, hv, _, hg, _⟩
          · simp at h
          · simp only [Value.slice.injEq, Option.some.injEq, Addr.mk.injEq, and_true, true_and] at hv
            obtain ⟨rfl, _⟩ := hv
            exact (Array.getElem?_eq_some_iff.1 hg).1
        clear hke
        have HO : Hid _ := hown
        have HB : Hid _ := hbel
        clear hown hbel
        go_wp2
        go_ret
        exact ⟨_, rfl, .inr ⟨_, _, rfl, rfl, HO.out, HB.out, hlt9⟩⟩

theorem eq_rec (n c l k : ByteArray) (v s p m : Int) (w : World) :
    (Op.equalIn 10000 47 (.agg #[.string n, .int .i64 v, .int .i64 s, .string c, .int .i64 p, .int .i64 m, .string l, .string k]) (.agg #[.string n, .int .i64 v, .int .i64 s, .string c, .int .i64 p, .int .i64 m, .string l, .string k])).run Tryz.prog w = .ok true w := by
  simp [go_sem, Tryz.underlying47, Tryz.underlying9, Tryz.underlying3]
theorem eql_rec (n c l k : ByteArray) (v s p m : Int) (w : World) :
    (binOp .eql 47 (.agg #[.string n, .int .i64 v, .int .i64 s, .string c, .int .i64 p, .int .i64 m, .string l, .string k]) (.agg #[.string n, .int .i64 v, .int .i64 s, .string c, .int .i64 p, .int .i64 m, .string l, .string k])).run Tryz.prog w = .ok (.bool true) w := by
  rw [run_eql_struct, eq_rec]; rfl

set_option maxRecDepth 100000 in
set_option maxHeartbeats 1600000 in
theorem wholeRecords_nil (v : Value) (w : World) :
    Calls Tryz.prog 45 #[v, .slice none 0 0] w fun e w' => e = .returned (.bool true) ∧ w' = w := by
  have hnil := fun (wy : World) (a : Option Addr) (l c : Nat) => Lib.run_eql_slice_nil (P := Tryz.prog) wy 40 47 a l c 0 0 Tryz.underlying40
  go_enter Tryz.func45, Tryz.ntmps45
  go_wp2
  go_ret
  exact ⟨rfl, rfl⟩

theorem wipe_rec {w wr Y : World} {rs : List Rc} {G k : Nat} (hgr : w.grownBy wr (some G)) (hown : wr.ownsRow G 47 8 (.slice (some ⟨G, 0, none⟩) (rs.length + 8) (rs.length + 8)) (rs.length + 8) (Rcs (wipedR rs k))) (hk : k < rs.length + 8) (hY : wr.grownBy Y none) :
    ((((((((Y.setCell ⟨G, k * 8, none⟩ (.string ⟨#[111, 116, 104, 101, 114]⟩)).setCell ⟨G, k * 8 + 1, none⟩ (.int .i64 0)).setCell ⟨G, k * 8 + 2, none⟩ (.int .i64 0)).setCell ⟨G, k * 8 + 3, none⟩ (.string ⟨#[]⟩)).setCell ⟨G, k * 8 + 4, none⟩ (.int .i64 0)).setCell ⟨G, k * 8 + 5, none⟩ (.int .i64 0)).setCell ⟨G, k * 8 + 6, none⟩ (.string ⟨#[]⟩)).setCell ⟨G, k * 8 + 7, none⟩ (.string ⟨#[]⟩)).ownsRow G 47 8 (.slice (some ⟨G, 0, none⟩) (rs.length + 8) (rs.length + 8)) (rs.length + 8) (Rcs (wipedR rs (k + 1))) ∧
      w.grownBy ((((((((Y.setCell ⟨G, k * 8, none⟩ (.string ⟨#[111, 116, 104, 101, 114]⟩)).setCell ⟨G, k * 8 + 1, none⟩ (.int .i64 0)).setCell ⟨G, k * 8 + 2, none⟩ (.int .i64 0)).setCell ⟨G, k * 8 + 3, none⟩ (.string ⟨#[]⟩)).setCell ⟨G, k * 8 + 4, none⟩ (.int .i64 0)).setCell ⟨G, k * 8 + 5, none⟩ (.int .i64 0)).setCell ⟨G, k * 8 + 6, none⟩ (.string ⟨#[]⟩)).setCell ⟨G, k * 8 + 7, none⟩ (.string ⟨#[]⟩)) (some G) := by
  have h0 := hown.kept hY (.inr (by simp [Value.ownBlock]))
  have h1 := own_set8 h0 k (by rw [wipedR_length _ _ (by omega)]; exact hk) otR
  rw [wipedR_set rs k hk] at h1
  exact ⟨h1.1, grown_trans (grown_trans hgr (grown_weak hY)) h1.2⟩

set_option maxRecDepth 100000 in
set_option maxHeartbeats 1600000 in
theorem wholeRecords_row (rs : List Rc) (G cc : Nat) (ad : Addr) (w : World) (hlen : rs.length * 96 ≤ 140737488351232) (hsrc : ∀ j u, (Rcs rs)[j]? = some u → w.cell? (ad.add j) = some u) (hne : 0 < rs.length → ad.block ≠ G)
    (hown : w.ownsRow G 47 8 (.slice (some ⟨G, 0, none⟩) (rs.length + 8) (rs.length + 8)) (rs.length + 8) (Rcs (lentR rs))) :
    Calls Tryz.prog 45 #[.slice (some ⟨G, 0, none⟩) rs.length (rs.length + 8), .slice (some ad) rs.length cc] w fun e w' => e = .returned (.bool true) ∧ w.grownBy w' (some G) := by
  have hnil := fun (wy : World) (a : Option Addr) (l c : Nat) => Lib.run_eql_slice_nil (P := Tryz.prog) wy 40 47 a l c 0 0 Tryz.underlying40
  have heq := eql_rec
  have HO : Hid _ := hown
  have HSRC : Hid _ := hsrc
  have HNE : Hid _ := hne
  have hGw : G < w.heap.size := by
    rcases hown.2 with ⟨h, _⟩ | ⟨g, cap, cur, hv, _, hg, _⟩
    · simp at h
    · simp only [Value.slice.injEq, Option.some.injEq, Addr.mk.injEq, and_true, true_and] at hv
      obtain ⟨rfl, _⟩ := hv
      exact (Array.getElem?_eq_some_iff.1 hg).1
  clear hown hsrc hne
  have hcut : (0 : Int) ≤ (rs.length : Int) + 8 := by omega
  go_enter Tryz.func45, Tryz.ntmps45
  go_wp2
  clear hnil
  go_loopw [7, 8] (fun ok i wr => ∃ k : Nat, k ≤ rs.length + 8 ∧ i = .int .i64 (k : Int) ∧ ok = .bool true ∧ wr.ownsRow G 47 8 (.slice (some ⟨G, 0, none⟩) (rs.length + 8) (rs.length + 8)) (rs.length + 8) (Rcs (wipedR rs k)) ∧ w.grownBy wr (some G))
    (fun _ i _ => rs.length + 8 - (intOf i).toNat)
  case atStart => exact ⟨0, by omega, rfl, rfl, by rw [wipedR_zero]; exact HO.out, World.grownBy.refl _ _⟩
  case round =>
    obtain ⟨k, hk, rfl, rfl, hown, hgr⟩ := hrel
    by_cases hlt : k < rs.length + 8
    · have hGr : G < wr.heap.size := by have := hgr.size; omega
      have hpp := own_rec hown k (by rw [wipedR_length _ _ (by omega)]; exact hlt)
      have hat := wipedR_at rs k hlt (by rw [wipedR_length _ _ (by omega)]; exact hlt)
      rw [hat] at hpp
      have HOW : Hid _ := hown
      have HGR : Hid _ := hgr
      have hsz := hgr.size
      have f := fun i => hown.frozenAt (k * 8 + i)
      have f0 := f 0
      have f1 := f 1
      have f2 := f 2
      have f3 := f 3
      have f4 := f 4
      have f5 := f 5
      have f6 := f 6
      have f7 := f 7
      rw [Nat.add_zero] at f0
      clear f
      have hlt' : (k : Int) < (rs.length : Int) + 8 := by omega
      by_cases hin : k < rs.length
      · have hin' : (k : Int) < (rs.length : Int) := by omega
        rw [lentR_low rs k hin] at hpp
        have hcs := rc_src HSRC.out k hin
        have hb0 : (ad.add (k * 8)).block = ad.block := add_block ad _
        have hbne : some (ad.add (k * 8)).block ≠ some G := by rw [hb0]; intro h; exact HNE.out (by omega) (Option.some.inj h)
        have hq : ∀ (a : Addr) (v : Value), w.cell? a = some v → a.block = (ad.add (k * 8)).block → wr.cell? a = some v := fun a v hc hab => hgr.cell hc (by rw [hab]; exact hbne)
        obtain ⟨y, hy⟩ : ∃ y : Rc, y = rs[k] := ⟨_, rfl⟩
        rw [← hy] at hpp hcs
        clear hy
        obtain ⟨p0, p1, p2, p3, p4, p5, p6, p7⟩ := hpp
        obtain ⟨s0, s1, s2, s3, s4, s5, s6, s7⟩ := hcs
        replace s0 := hq _ _ s0 rfl
        replace s1 := hq _ _ s1 rfl
        replace s2 := hq _ _ s2 rfl
        replace s3 := hq _ _ s3 rfl
        replace s4 := hq _ _ s4 rfl
        replace s5 := hq _ _ s5 rfl
        replace s6 := hq _ _ s6 rfl
        replace s7 := hq _ _ s7 rfl
        have hadr := World.block_lt_of_cell? wr _ s0
        clear hat hown hgr hq hbne hb0
        go_wp2_with fail
        go_quiet (fail)
        go_wp2
        go_roundw
        case rel =>
          have hfin := wipe_rec HGR.out HOW.out hlt (grown_new wr (.cells #[.string ⟨y.nm.toArray⟩, .int .i64 y.vd, .int .i64 y.sd, .string ⟨y.ct.toArray⟩, .int .i64 y.pl, .int .i64 y.mm, .string ⟨y.lt.toArray⟩, .string ⟨y.cl.toArray⟩] 47) nq)
          exact ⟨k + 1, by omega, by go_num, rfl, hfin.1, hfin.2⟩
        case measure => simp [intOf]; omega
      · have hin' : ¬ (k : Int) < (rs.length : Int) := by omega
        rw [lentR_high rs k (by omega)] at hpp
        have p0 : wr.cell? ⟨G, k * 8, none⟩ = some (.string ⟨#[98, 101, 121, 111, 110, 100]⟩) := hpp.1
        have p1 : wr.cell? ⟨G, k * 8 + 1, none⟩ = some (.int .i64 0) := hpp.2.1
        have p2 : wr.cell? ⟨G, k * 8 + 2, none⟩ = some (.int .i64 0) := hpp.2.2.1
        have p3 : wr.cell? ⟨G, k * 8 + 3, none⟩ = some (.string ⟨#[]⟩) := hpp.2.2.2.1
        have p4 : wr.cell? ⟨G, k * 8 + 4, none⟩ = some (.int .i64 0) := hpp.2.2.2.2.1
        have p5 : wr.cell? ⟨G, k * 8 + 5, none⟩ = some (.int .i64 0) := hpp.2.2.2.2.2.1
        have p6 : wr.cell? ⟨G, k * 8 + 6, none⟩ = some (.string ⟨#[]⟩) := hpp.2.2.2.2.2.2.1
        have p7 : wr.cell? ⟨G, k * 8 + 7, none⟩ = some (.string ⟨#[]⟩) := hpp.2.2.2.2.2.2.2
        clear hpp hat hown hgr
        go_wp2_with fail
        go_quiet (fail)
        go_wp2
        go_roundw
        case rel =>
          have hfin := wipe_rec HGR.out HOW.out hlt (grown_new wr (.cells #[.string ⟨#[98, 101, 121, 111, 110, 100]⟩, .int .i64 0, .int .i64 0, .string ⟨#[]⟩, .int .i64 0, .int .i64 0, .string ⟨#[]⟩, .string ⟨#[]⟩] 47) nq)
          exact ⟨k + 1, by omega, by go_num, rfl, hfin.1, hfin.2⟩
        case measure => simp [intOf]; omega
    · have hlt' : ¬ (k : Int) < (rs.length : Int) + 8 := by omega
      have HGR : Hid _ := hgr
      clear hown hgr
      go_wp2
      go_ret
      exact ⟨rfl, HGR.out⟩

end Go.Proofs.YtfcbgfomhmcikaaGreatDoor
