/-
  THE WALK of the program's Find. Own text of the verifier.
-/
import Derived.Test.YtjebhbopmfcopaaGreatDoorIxPlaces
namespace Go.Proofs.YtjebhbopmfcopaaGreatDoor
open Go.RowKit

theorem Ix.str_top {n : Int} (h : Lt.topB n = true) : Ix.str 1 = Ix.str n := by
  have h4 : n = 1 ∨ n = 3 := by simpa [Lt.topB] using h
  rcases h4 with rfl | rfl <;> rfl
theorem Ix.str_bot {n : Int} (h : Lt.topB n = false) (hs : Lt.strandB n = true) : Ix.str 2 = Ix.str n := by
  have h4 : n = 2 ∨ n = 4 := by
    rw [Lt.strandB_int] at hs
    simp only [Lt.topB, Bool.or_eq_false_iff, beq_eq_false_iff_ne, Bool.or_eq_true, beq_iff_eq] at h hs
    omega
  rcases h4 with rfl | rfl <;> rfl

theorem ixContigs_any (n : Int) (w : World) (bx : Nat) (a1 a2 : Option Addr) (n1 n2 c1 c2 : Nat) (x0 : w.cell? ⟨bx, 0, none⟩ = some (.slice a1 n1 c1)) (x1 : w.cell? ⟨bx, 1, none⟩ = some (.slice a2 n2 c2)) :
    Calls Tryz.prog 150 #[.pointer (some ⟨bx, 0, none⟩), .int .i64 n] w fun e w' => e = .returned (if Lt.topB n then .slice a1 n1 c1 else .slice a2 n2 c2) ∧ w' = w := by
  obtain ⟨r, hr⟩ : ∃ r, r = (if Lt.topB n then Value.slice a1 n1 c1 else .slice a2 n2 c2) := ⟨_, rfl⟩
  rw [← hr]
  cases h1 : Lt.topB n
  all_goals
    have HR : Hid (r = _) := hr
    rw [h1] at HR
    have HT : Hid _ := h1
    clear hr h1
    go_enter Tryz.func150, Tryz.ntmps150
    go_wp2_with (go_at_call 157; refine (strTop_any _ _).mono ?_; rintro e w' ⟨rfl, hw⟩; subst w'; rw [HT.out])
    go_ret
    exact ⟨by rw [HR.out]; rfl, rfl⟩

theorem own_strs {X : World} {B : Nat} {v : Value} {n : Int} {cs : List Pr} (h : X.ownsRow B 9 1 v cs.length (Ix.strs n cs)) (hp : 0 < cs.length) :
    ∃ g c, v = .slice (some ⟨g, 0, none⟩) cs.length c ∧ ∀ k (h : k < cs.length), X.cell? ⟨g, k, none⟩ = some (Ix.str n cs[k]) := by
  obtain ⟨g, c, rfl, _, _⟩ := own_pos h hp
  refine ⟨g, c, rfl, fun k hk => ?_⟩
  rw [h.cellAt k (by omega)]
  simp [Ix.strs, hk]

set_option maxRecDepth 100000 in
set_option maxHeartbeats 4000000 in
theorem ixFind_any (cs : List Pr) (B : Nat) (p : Value) (s : ByteArray) (n b : Int) (w : World) (hI : IxAt w B p cs) (hR : Se.Right cs) (hs : s.size ≤ 140737488355327) :
    Calls Tryz.prog 86 #[p, .string s, .int .i64 n, .int .i64 b] w fun e w' =>
      ∃ v, e = .returned (.tuple #[v, .int .i64 (Se.findErr n b s.data.toList)]) ∧ w'.ownsRow w.heap.size 78 2 v (Se.findOut n b s.data.toList cs).length (Se.pls (Se.findOut n b s.data.toList cs)) ∧ (Se.findErr n b s.data.toList ≠ 0 → v = .slice none 0 0) ∧ Below w.heap.size w w' := by
  have hsz : s.data.toList.length = s.size := by simp
  have hsm : s.size ≤ maxLen := by unfold maxLen; omega
  have hbad : ∀ x : Int, Se.findErr n b s.data.toList = x → x ≠ 0 → Se.findOut n b s.data.toList cs = [] := fun x h h0 => by rw [Se.findOut, if_neg (by rw [h]; exact h0)]
  have hE0 : (s.toList = []) ↔ s.size = 0 := by rw [ByteArray.toList_eq, List.eq_nil_iff_length_eq_zero, hsz]
  obtain ⟨E, hE⟩ : ∃ E, E = Se.findErr n b s.data.toList := ⟨_, rfl⟩
  obtain ⟨O, hO⟩ : ∃ O, O = Se.findOut n b s.data.toList cs := ⟨_, rfl⟩
  rw [← hE, ← hO] at hbad
  rw [← hE, ← hO]
  have HFIN : Hid (E ≠ 0 → ∀ X : World, X.ownsRow w.heap.size 78 2 (.slice none 0 0) O.length (Se.pls O)) := fun h X => by
    rw [hbad E rfl h]; exact World.ownsRow_nil _ _ _ _
  clear hbad
  obtain ⟨bx, top, bot, rfl, hx, hto, hbo⟩ := hI
  have hpos := hR.pos
  have hfew := hR.few
  obtain ⟨gt, ct, rfl, htop⟩ := own_strs hto hpos
  obtain ⟨gb, cb, rfl, hbot⟩ := own_strs hbo hpos
  have x0 : w.cell? ⟨bx, 0, none⟩ = some (.slice (some ⟨gt, 0, none⟩) cs.length ct) := by rw [hx.cellAt 0 (by omega)]; rfl
  have x1 : w.cell? ⟨bx, 1, none⟩ = some (.slice (some ⟨gb, 0, none⟩) cs.length cb) := by rw [hx.cellAt 1 (by omega)]; rfl
  have HX0 : Hid _ := x0
  have HX1 : Hid _ := x1
  have HTOP : Hid _ := htop
  have HBOT : Hid _ := hbot
  have HN : Hid (∀ x ∈ cs, x.2.length ≤ 100000) := fun x hx => by have := hR.len x hx; omega
  clear hx hto hbo x0 x1 htop hbot hR
  cases hst : Lt.strandB n with
  | false =>
    have HE : Hid (E = 1) := by show _ = _; rw [hE, Se.findErr, if_pos hst]
    have HT : Hid _ := hst
    clear hst hE hO hsz hE0
    go_enter Tryz.func86, Tryz.ntmps86
    go_wp2_with (go_at_call 77; refine (strIs_any _ _).mono ?_; rintro e w' ⟨rfl, hw⟩; subst w'; rw [HT.out])
    go_ret2
    exact ⟨_, ret_two HE.out.symm, HFIN.out (by rw [HE.out]; decide) _, fun _ => rfl, Below.refl _ _⟩
  | true =>
    have HT : Hid _ := hst
    by_cases hb0 : b < 0
    · have HE : Hid (E = 1) := by show _ = _; rw [hE, Se.findErr, if_neg (by simp [hst]), if_pos hb0]
      clear hst hE hO hsz hE0
      go_enter Tryz.func86, Tryz.ntmps86
      go_wp2_with (go_at_call 77; refine (strIs_any _ _).mono ?_; rintro e w' ⟨rfl, hw⟩; subst w'; rw [HT.out])
      go_ret2
      exact ⟨_, ret_two HE.out.symm, HFIN.out (by rw [HE.out]; decide) _, fun _ => rfl, Below.refl _ _⟩
    · by_cases hb3 : 3 < b
      · have HE : Hid (E = 1) := by show _ = _; rw [hE, Se.findErr, if_neg (by simp [hst]), if_neg hb0, if_pos hb3]
        clear hst hE hO hsz hE0
        go_enter Tryz.func86, Tryz.ntmps86
        go_wp2_with (go_at_call 77; refine (strIs_any _ _).mono ?_; rintro e w' ⟨rfl, hw⟩; subst w'; rw [HT.out])
        go_ret2
        exact ⟨_, ret_two HE.out.symm, HFIN.out (by rw [HE.out]; decide) _, fun _ => rfl, Below.refl _ _⟩
      · have hEL : E = Se.lettersErr s.data.toList := by rw [hE, Se.findErr, if_neg (by simp [hst]), if_neg hb0, if_neg hb3]
        by_cases h0 : s.size = 0
        · have HE : Hid (E = 8) := by show _ = _; rw [hEL, Se.lettersErr, hsz, if_pos h0]; split <;> rfl
          have h0' : s.toList.isEmpty = true := by rw [List.isEmpty_iff]; exact hE0.2 h0
          clear hst hE hO hsz hE0 h0 hEL
          go_enter Tryz.func86, Tryz.ntmps86
          go_wp2_with (go_at_call 77; refine (strIs_any _ _).mono ?_; rintro e w' ⟨rfl, hw⟩; subst w'; rw [HT.out])
          go_ret2
          exact ⟨_, ret_two HE.out.symm, HFIN.out (by rw [HE.out]; decide) _, fun _ => rfl, Below.refl _ _⟩
        · have h0' : s.toList.isEmpty = false := by rw [List.isEmpty_eq_false_iff]; exact fun h => h0 (hE0.1 h)
          cases hL : Lt.allL s.data.toList with
          | false =>
            have HE : Hid (E = 8) := by show _ = _; rw [hEL, Se.lettersErr, if_pos hL]
            have HL : Hid _ := hL
            clear hst hE hO hsz hE0 h0 hEL hL
            go_enter Tryz.func86, Tryz.ntmps86
            go_wp2_with (first
              | (go_at_call 77; refine (strIs_any _ _).mono ?_; rintro e w' ⟨rfl, hw⟩; subst w'; rw [HT.out])
              | (go_at_call 98; refine (areLetters_any _ _ hsm).mono ?_; rintro e w' ⟨rfl, hw⟩; subst w'; rw [HL.out]))
            go_ret2
            exact ⟨_, ret_two HE.out.symm, HFIN.out (by rw [HE.out]; decide) _, fun _ => rfl, Below.refl _ _⟩
          | true =>
            have HL : Hid _ := hL
            by_cases h1 : 128 < s.size
            · have HE : Hid (E = 7) := by show _ = _; rw [hEL, Se.lettersErr, if_neg (by simp [hL]), hsz, if_neg h0, if_pos h1]
              have h1' : (128 : Int) < (s.size : Int) := by omega
              clear hst hE hO hsz hE0 h0 hEL hL
              go_enter Tryz.func86, Tryz.ntmps86
              go_wp2_with (first
                | (go_at_call 77; refine (strIs_any _ _).mono ?_; rintro e w' ⟨rfl, hw⟩; subst w'; rw [HT.out])
                | (go_at_call 98; refine (areLetters_any _ _ hsm).mono ?_; rintro e w' ⟨rfl, hw⟩; subst w'; rw [HL.out]))
              go_ret2
              exact ⟨_, ret_two HE.out.symm, HFIN.out (by rw [HE.out]; decide) _, fun _ => rfl, Below.refl _ _⟩
            · have HE : Hid (E = 0) := by show _ = _; rw [hEL, Se.lettersErr, if_neg (by simp [hL]), hsz, if_neg h0, if_neg h1]
              have HO : Hid (O = Se.inAll n b s.data.toList cs cs.length) := by show _ = _; rw [hO, Se.findOut, if_pos (by rw [← hE]; exact HE.out)]
              have h1' : ¬ (128 : Int) < (s.size : Int) := by omega
              have hsl : s.data.toList.length ≤ 1000 := by rw [hsz]; omega
              have HSL : Hid _ := hsl
              obtain ⟨gx, cx, hsel, hcx⟩ : ∃ gx cx, (if Lt.topB n then (Value.slice (some ⟨gt, 0, none⟩) cs.length ct) else .slice (some ⟨gb, 0, none⟩) cs.length cb) = .slice (some ⟨gx, 0, none⟩) cs.length cx ∧ ∀ k (h : k < cs.length), w.cell? ⟨gx, k, none⟩ = some (Ix.str n cs[k]) := by
                cases ht : Lt.topB n with
                | true => exact ⟨gt, ct, rfl, fun k h => by rw [HTOP.out k h, Ix.str_top ht]⟩
                | false => exact ⟨gb, cb, rfl, fun k h => by rw [HBOT.out k h, Ix.str_bot ht hst]⟩
              have HSEL : Hid _ := hsel
              have HCX : Hid _ := hcx
              clear hst hE hO hsz hE0 h0 hEL hL hsl hsel hcx
              go_enter Tryz.func86, Tryz.ntmps86
              go_wp2_with (first
                | (go_at_call 77; refine (strIs_any _ _).mono ?_; rintro e w' ⟨rfl, hw⟩; subst w'; rw [HT.out])
                | (go_at_call 98; refine (areLetters_any _ _ hsm).mono ?_; rintro e w' ⟨rfl, hw⟩; subst w'; rw [HL.out])
                | (go_at_call 150; refine (ixContigs_any n _ bx _ _ _ _ _ _ HX0.out HX1.out).mono ?_; rintro e w' ⟨rfl, hw⟩; subst w'; rw [HSEL.out])
                | (go_at_call 117; refine (ixConvert_any _ _ _ hsm HL.out HT.out).mono ?_; rintro e w1 ⟨rfl, hb1⟩)
                | (go_at_call 149; refine (places_any cs gx cx s.data.toList n b _ HT.out (by omega) (by omega) (by omega) HN.out HSL.out (fun k h => (hb1.cell (p := ⟨gx, k, none⟩) (World.block_lt_of_cell? w _ (HCX.out k h))).trans (HCX.out k h))).mono ?_; rw [← HO.out]; rintro e w2 ⟨v, rfl, ho, hb2⟩))
              go_ret2
              exact ⟨_, ret_two HE.out.symm, own_base ho hb1.size, fun h => absurd HE.out h, hb1.trans (hb2.mono hb1.size)⟩

end Go.Proofs.YtjebhbopmfcopaaGreatDoor
