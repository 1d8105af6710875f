/-
  THE WALK of the steps of kind Find. Own text of the verifier.
-/
import Derived.Test.YtjebhbopmfcopaaGreatDoorSePick
import Derived.Deep.RegionHeld3
namespace Go.Proofs.YtjebhbopmfcopaaGreatDoor
open Go.RowKit

set_option maxRecDepth 100000 in
set_option maxHeartbeats 1600000 in
theorem step_find (w : World) (g : Nat) (lv : Value) (k : Nat) (a b c : Int) (s t : ByteArray) (la : Option Addr) (ln lc : Nat) (hI : SI w g lv k)
    (ha1 : -9223372036854775808 ≤ a) (ha2 : a ≤ 9223372036854775807) (hk : 4 * k + 4 ≤ 7000000000000) (hs : s.size ≤ 140737488351232) :
    Calls Tryz.prog 23 #[.pointer (some ⟨g, 0, none⟩), .agg #[.int .i64 6, .int .i64 a, .int .i64 b, .int .i64 c, .string s, .string t, .slice la ln lc]] w fun e w' => e = .returned (.bool true) ∧ SI w' g lv (k + 1) ∧ Below g w w' := by
  have hg := si_lt hI
  have HI : Hid _ := hI
  have HIB : Hid (∀ Y, Below w.heap.size w Y → SI Y g lv (k + 1)) := fun Y hb => (si_below hI hb).2
  obtain ⟨xv, vp, ps, es, hW, hx, hok, hsh, e4, e5, e6⟩ := hI
  obtain ⟨xa, xc, hxf⟩ := own_form hx
  subst hxf
  have c1 : w.cell? ⟨g, 1, none⟩ = some (.slice xa ps.length xc) := cell_of_row w g 1 _ _ _ hW
  by_cases h0 : ps.length = 0
  · have hNi : ((ps.length : Int) == 0) = true := by rw [beq_iff_eq]; omega
    have HB0 : Hid (∀ o, Below w.heap.size w (w.alloc o)) := fun o => (Below.refl _ _).alloc (Nat.le_refl _) o
    rw [h0] at c1
    clear hx hok hsh hW HI h0
    go_enter Tryz.func23, Tryz.ntmps23
    go_wp2
    go_ret
    exact ⟨rfl, HIB.out _ (HB0.out _), (HB0.out _).mono (Nat.le_of_lt hg)⟩
  · obtain ⟨gx, cx, hxs, hgx1, hgx2⟩ := own_pos hx (by omega)
    simp only [Value.slice.injEq, true_and] at hxs
    obtain ⟨rfl, rfl⟩ := hxs
    have hNi : ((ps.length : Int) == 0) = false := by rw [beq_eq_false_iff_ne]; omega
    obtain ⟨j, hj, hjv⟩ := pickV_in a ps.length (by omega)
    have HPK : Hid (∀ W : World, Calls Tryz.prog 54 #[.int .i64 a, .int .i64 (ps.length : Int)] W fun e w' => e = .returned (.int .i64 (j : Int)) ∧ w' = W) := fun W => by
      have := pick_any a ps.length W ha1 ha2 (by omega) (by omega)
      rw [hjv] at this
      exact this
    have hj' : (j : Int) < (ps.length : Int) := by omega
    obtain ⟨px, hpx⟩ : ∃ px, px = ps[j] := ⟨_, rfl⟩
    have hmem : px ∈ ps := by rw [hpx]; exact List.getElem_mem _
    obtain ⟨q0, q1⟩ := Pxs_at ps j hj
    rw [← hpx] at q0 q1
    have p0 : w.cell? ⟨gx, j * 2, none⟩ = some px.1 := (hx.cellAt (j * 2) (by omega)).trans q0
    have p1 : w.cell? ⟨gx, j * 2 + 1, none⟩ = some px.2.1 := (hx.cellAt (j * 2 + 1) (by omega)).trans q1
    obtain ⟨hix, _, hra⟩ := hok px hmem
    obtain ⟨bx, hbx⟩ : ∃ bx, px.1 = .pointer (some ⟨bx, 0, none⟩) := by obtain ⟨bx, _, _, h1, _⟩ := hix; exact ⟨bx, h1⟩
    obtain ⟨va, vc, hvf⟩ := hra.form
    have HFD : Hid (∀ Y, Below w.heap.size w Y → Calls Tryz.prog 55 #[.pointer (some ⟨g, 0, none⟩), .agg #[.pointer (some ⟨bx, 0, none⟩), .slice va px.2.2.length vc], .agg #[.int .i64 6, .int .i64 a, .int .i64 b, .int .i64 c, .string s, .string t, .slice la ln lc]] Y fun e X' => e = .returned (.bool true) ∧ SI X' g lv (k + 1) ∧ Below g w X') := fun Y hb => by
      have hWY := (hb.block g hg).trans hW
      have hokY := hok.move (fun e s v n xs _ _ ho => own_below ho hb) (hb.mono (Nat.le_of_lt hg))
      have h := found_any Y g lv k _ vp ps es px hmem 6 a b c s t la ln lc hWY (own_below hx hb) hokY (shelfP_below hsh hb) e4 e5 e6 hk hs
      rw [hbx, hvf] at h
      exact h.mono (by rintro e w' ⟨h1, h2, h3⟩; exact ⟨h1, h2, (hb.mono (Nat.le_of_lt hg)).trans h3⟩)
    rw [hbx] at p0
    rw [hvf] at p1
    generalize px.2.2.length = n0 at *
    clear hx hok hsh hW HI hix hra hbx hvf hpx hmem q0 q1 HIB
    go_enter Tryz.func23, Tryz.ntmps23
    go_wp2_with fail
    go_region_held3 (fun Y => Y.cell? ⟨g, 1, none⟩ = some (.slice (some ⟨gx, 0, none⟩) ps.length xc) ∧ Y.cell? ⟨w.heap.size, 1, none⟩ = some (.int .i64 a) ∧ Y.cell? ⟨gx, j * 2, none⟩ = some (.pointer (some ⟨bx, 0, none⟩)) ∧ Y.cell? ⟨gx, j * 2 + 1, none⟩ = some (.slice va n0 vc)) (go_keep)
      (first
        | (go_at_call 54; refine (HPK.out _).mono ?_; rintro e w' ⟨rfl, hw⟩; subst w'))
    all_goals
      go_wp2_with fail
      refine (HFD.out _ (by exact (((Below.refl _ _).alloc (Nat.le_refl _) _).alloc (by simp) _).drew)).mono ?_
      rintro e w' ⟨rfl, hsi, hb⟩
      go_wp2
      go_ret
      exact ⟨rfl, hsi, hb⟩

end Go.Proofs.YtjebhbopmfcopaaGreatDoor
