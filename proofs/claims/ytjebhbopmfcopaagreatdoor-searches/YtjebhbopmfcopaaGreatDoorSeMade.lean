/-
  THE WALK of the World's 'made': the contigs are lent, an index is made of them, the error is held against the document's. Own text of the verifier.
-/
import Derived.Test.YtjebhbopmfcopaaGreatDoorSeWorld
namespace Go.Proofs.YtjebhbopmfcopaaGreatDoor
open Go.RowKit

theorem lentC_block {X w1 : World} {cs : List Pr} {lv v : Value} (hl : LentC X w1 cs lv v) : X.heap.size ≤ w1.heap.size ∧ Below X.heap.size X w1 ∧ ∀ q, v.ownBlock = some q → q = X.heap.size ∧ X.heap.size < w1.heap.size := by
  rcases hl with ⟨_, _, rfl, rfl⟩ | ⟨ad, cc, _, rfl, ho, hb, hlt⟩
  · exact ⟨Nat.le_refl _, Below.refl _ _, fun q hq => by cases hq⟩
  · exact ⟨by omega, hb, fun q hq => by cases hq; exact ⟨rfl, hlt⟩⟩

theorem lentC_form {X w1 : World} {cs : List Pr} {lv v : Value} (hl : LentC X w1 cs lv v) : ∃ ao n c, v = .slice ao n c := by
  rcases hl with ⟨_, _, rfl, rfl⟩ | ⟨ad, cc, _, rfl, ho, hb, hlt⟩
  · exact ⟨_, _, _, rfl⟩
  · exact ⟨_, _, _, rfl⟩

theorem lentC_new {X w1 : World} {cs : List Pr} {lv v : Value} (hl : LentC X w1 cs lv v) (hr : RefOk X lv cs) :
    Calls Tryz.prog 26 #[v] w1 fun e w' => ∃ p, e = .returned (.tuple #[p, .int .i64 (Se.newErr cs)]) ∧ Below w1.heap.size w1 w' ∧ ((Se.newErr cs ≠ 0 ∧ p = .pointer none) ∨ (Se.newErr cs = 0 ∧ IxAt w' w1.heap.size p cs)) := by
  have hlen := hr.len
  rcases hl with ⟨_, rfl, rfl, rfl⟩ | ⟨ad, cc, _, rfl, ho, hb, hlt⟩
  · refine (ixNew_nil _).mono ?_
    rintro e w' ⟨rfl, rfl⟩
    exact ⟨_, rfl, Below.refl _ _, .inl ⟨by decide, rfl⟩⟩
  · refine ixNew_any cs X.heap.size (cs.length + 8) w1 (by omega) (fun x hx => by have := (hr.txt x hx).2; omega) (fun k hk => ?_)
    have := own_pair ho k (by rw [lentC_length]; omega)
    rw [lentC_low cs k hk] at this
    exact this

theorem refNew_any {w : World} {cs : List Pr} {lv : Value} (hr : RefOk w lv cs) :
    Calls Tryz.prog 112 #[lv] w fun e w' => e = .returned (.int .i64 (Se.newErr cs)) ∧ w' = w := by
  have hlen := hr.len
  by_cases h0 : cs.length = 0
  · obtain rfl : cs = [] := List.eq_nil_of_length_eq_zero h0
    rcases hr.src with ⟨rfl, _, _⟩ | ⟨ad, c, rfl, _⟩
    · exact refNew_nil w 0 none
    · exact refNew_nil w c (some ad)
  · rcases hr.src with ⟨rfl, h1, _⟩ | ⟨ad, c, rfl, hs⟩
    · exact absurd h1 h0
    · exact refNew_row cs ad c w (by omega) (fun x hx => by have := (hr.txt x hx).2; omega) hs (by omega)

theorem lentC_whole {X w1 w3 : World} {cs : List Pr} {lv v : Value} (hl : LentC X w1 cs lv v) (hr : RefOk X lv cs) (hb : Below w1.heap.size w1 w3) :
    Calls Tryz.prog 113 #[v, lv] w3 fun e w' => e = .returned (.bool true) ∧ w3.grownBy w' v.ownBlock := by
  rcases hl with ⟨rfl, _, rfl, _⟩ | ⟨ad, cc, rfl, rfl, ho, hb1, hlt⟩
  · refine (wholeContigs_nil _ w3).mono ?_
    rintro e w' ⟨rfl, rfl⟩
    exact ⟨rfl, World.grownBy.refl _ _⟩
  · rcases hr.src with ⟨h, _⟩ | ⟨ad', c', hv, hs⟩
    · simp at h
    · simp only [Value.slice.injEq, Option.some.injEq, true_and] at hv
      obtain ⟨rfl, rfl⟩ := hv
      refine wholeContigs_row cs X.heap.size cc ad w3 hr.len (src_keep (src_keep hs hb1) hb) (fun hp he => ?_) (own_below ho hb)
      have := World.block_lt_of_cell? X _ (src_first hs 0 hp)
      rw [add_block, he] at this
      omega


theorem Tryz.infoPair : (Tryz.prog.info? 115).map (fun i => (i.zero, i.size, i.bytes)) = some (some (.agg #[.pointer none, .slice none 0 0]), 2, 32) := by kernel_rfl

set_option maxRecDepth 100000 in
set_option maxHeartbeats 800000 in
theorem made_any (X : World) (g : Nat) (lv v : Value) (cs : List Pr) (k : Nat) (hI : SI X g lv k) (hR : RefAt X g v cs) (hk : (k + 1) * 32 ≤ 140737488355328) :
    Calls Tryz.prog 53 #[.pointer (some ⟨g, 0, none⟩), v] X fun e X' => e = .returned (.bool true) ∧ SI X' g lv (k + 1) ∧ Below g X X' := by
  have hgX := si_lt hI
  have HI : Hid _ := hI
  have HR : Hid _ := hR
  obtain ⟨E, hE⟩ : ∃ E, E = Se.newErr cs := ⟨_, rfl⟩
  have HE : Hid _ := hE
  obtain ⟨va, vc, hvf⟩ := hR.form
  subst hvf
  clear hI hR hE
  go_enter Tryz.func53, Tryz.ntmps53
  go_wp2_with fail
  refine (lentContigs_any cs _ _ HR.out.ref).mono ?_
  rintro e w1 ⟨v1, rfl, hl⟩
  have HL : Hid _ := hl
  clear hl
  go_wp2_with fail
  refine (lentC_new HL.out HR.out.ref).mono ?_
  rw [← HE.out]
  rintro e w2 ⟨p, rfl, hb2, hp⟩
  obtain ⟨hs1, hb1, hq1⟩ := lentC_block HL.out
  have HB1 : Hid _ := hb1
  have HB2 : Hid _ := hb2
  have hbX2 := hb1.trans (hb2.mono hs1)
  have HBX2 : Hid _ := hbX2
  have HR2 : Hid _ := HR.out.below (hbX2.mono (Nat.le_of_lt hgX))
  have HP : Hid _ := hp
  clear hb1 hb2 hbX2 hp
  go_wp2_with fail
  refine (refNew_any HR2.out.ref).mono ?_
  rw [← HE.out]
  rintro e w3 ⟨rfl, hw3⟩
  subst w3
  go_wp2_with fail
  refine (lentC_whole HL.out HR.out.ref HB2.out).mono ?_
  rintro e w4 ⟨rfl, hg4⟩
  have hbX4 : Below X.heap.size X w4 := HBX2.out.grown hg4 HBX2.out.size (fun q hq => by have := hq1 q hq; omega)
  have HBX4 : Hid _ := hbX4
  have HG4 : Hid _ := hg4
  have hsz4 := hbX4.size
  clear hbX4 hg4
  by_cases h0 : E = 0
  · have hix : IxAt w2 w1.heap.size p cs := by
      rcases HP.out with ⟨h1, _⟩ | ⟨_, h2⟩
      · exact absurd h0 h1
      · exact h2
    have hix4 : IxAt w4 (g + 1) p cs := by
      obtain ⟨bx, top, bot, h1, h2, h3, h4⟩ := hix
      have hm : ∀ e s u n xs, w2.ownsRow w1.heap.size e s u n xs → w4.ownsRow (g + 1) e s u n xs := fun e s u n xs ho =>
        own_base (ho.kept HG4.out (by
          cases hq : u.ownBlock with
          | none => exact .inl rfl
          | some q =>
            right
            intro hh
            have h1 := (ho.lt q hq).1
            have h2 := hq1 q hh.symm
            omega)) (by omega)
      exact ⟨bx, top, bot, h1, hm _ _ _ _ _ h2, hm _ _ _ _ _ h3, hm _ _ _ _ _ h4⟩
    have HIX : Hid _ := hix4
    obtain ⟨bx, hpx⟩ : ∃ bx, p = .pointer (some ⟨bx, 0, none⟩) := by obtain ⟨bx, _, _, h1, _⟩ := hix; exact ⟨bx, h1⟩
    subst hpx
    obtain ⟨xv, vp, ps, es, hW, hx, hok, hsh, e4, e5, e6⟩ := HI.out
    obtain ⟨xa, xc, hxf⟩ := own_form hx
    subst hxf
    have hW4 := (HBX4.out.block g hgX).trans hW
    have c1 : w4.cell? ⟨g, 1, none⟩ = some (.slice xa ps.length xc) := cell_of_row w4 g 1 _ _ _ hW4
    have hg4 : g < w4.heap.size := by omega
    have HX4 : Hid _ := own_below hx HBX4.out
    have HSI : Hid _ := fun Z xv' a b c => @si_made X w4 Z g k lv (.slice xa ps.length xc) xv' vp (.pointer (some ⟨bx, 0, none⟩)) (.slice va cs.length vc) ps es cs hW hx hok hsh e4 e5 e6 HBX4.out HIX.out (by rw [← HE.out]; exact h0) HR.out a b c
    have HW4 : Hid _ := hW4
    have HE0 : Hid _ := h0
    clear hix hix4 hW hx hok hsh hW4 HP HI HR2 h0
    rw [HE0.out]
    go_wp2_with (at_builtin; refine app_src (W := w4) rfl _ _ 61 rfl (g + 1) 115 _ 2 32 Tryz.underlying61 Tryz.infoPair rfl (by decide) (.slice xa ps.length xc) ps.length (Pxs ps) (.slice (some ⟨w4.heap.size, 0, none⟩) 1 1) 1 [.pointer (some ⟨bx, 0, none⟩), .slice va cs.length vc] rfl rfl (by exact World.ownsRow.alloc HX4.out _) (.inr ⟨_, _, rfl, by exact two_cells _ _ _ _⟩) rfl (by simp [Value.oneCell']) (by exact (Below.refl (g + 1) w4).alloc (by omega) _) (by simp; omega) (by omega) (by decide) ?_; intro xv' w6 hown6 hbel6 hsz6 hkeep6; obtain ⟨ya, yc, hyf⟩ := own_form hown6; subst hyf; have hw6 := (hbel6.block g (by omega)).trans HW4.out; have cw6 : w6.cell? ⟨g, 1, none⟩ = some (.slice xa ps.length xc) := cell_of_row w6 g 1 _ _ _ hw6; have fw6 : w6.frozen? ⟨g, 1, none⟩ = false := frozen_of_row w6 g 1 _ _ hw6; have HF : Hid _ := HSI.out w6 _ hown6 hbel6 (fun q hq hn => (hkeep6 q (by simp; omega) hn).trans (Below.heap_alloc _ _ _ hq)); have HBF : Hid _ := hbel6; clear hw6 hown6 hbel6 hsz6 hkeep6 HSI)
    go_ret
    exact ⟨rfl, HF.out, ((HBX4.out.mono (Nat.le_of_lt hgX)).trans (HBF.out.mono (Nat.le_succ g))).setCell (p := ⟨g, 1, none⟩) (Nat.le_refl _) _⟩
  · have hpn : p = .pointer none := by
      rcases HP.out with ⟨_, h2⟩ | ⟨h1, _⟩
      · exact h2
      · exact absurd h1 h0
    subst hpn
    have h0' : (E == 0) = false := by rw [beq_eq_false_iff_ne]; exact h0
    have HF : Hid _ := (si_below HI.out HBX4.out).2
    clear HP
    go_wp2
    go_ret
    exact ⟨rfl, HF.out, HBX4.out.mono (Nat.le_of_lt hgX)⟩

end Go.Proofs.YtjebhbopmfcopaaGreatDoor
