/-
  THE WALKS of the steps of kinds Reverse and Convert, of an empty book, and of the law Strands. Own text of the verifier.
-/
import Derived.Test.YtjebhbopmfcopaaGreatDoorPlays
import Derived.Test.YtjebhbopmfcopaaGreatDoorRefStrand
namespace Go.Proofs.YtjebhbopmfcopaaGreatDoor
open Go.RowKit

set_option maxRecDepth 100000 in
set_option maxHeartbeats 800000 in
theorem looks_empty (w : World) (g : Nat) (c2 : w.cell? ⟨g, 2, none⟩ = some (.slice none 0 0)) (c3 : w.cell? ⟨g, 3, none⟩ = some (.slice none 0 0)) (c4 : w.cell? ⟨g, 4, none⟩ = some (.slice none 0 0)) (c5 : w.cell? ⟨g, 5, none⟩ = some (.slice none 0 0)) :
    Calls Tryz.prog 24 #[.pointer (some ⟨g, 2, none⟩)] w fun e w' => e = .returned (.bool true) ∧ w' = w := by
  go_enter Tryz.func24, Tryz.ntmps24
  go_wp2
  refine wp_loop_rounds 1 ?_
  rw [rounds_succ]
  go_wp2
  refine wp_loop_rounds 1 ?_
  rw [rounds_succ]
  go_wp2
  refine wp_loop_rounds 1 ?_
  rw [rounds_succ]
  go_wp2
  refine wp_loop_rounds 1 ?_
  rw [rounds_succ]
  go_wp2
  go_ret
  exact ⟨rfl, rfl⟩

set_option maxRecDepth 100000 in
set_option maxHeartbeats 1600000 in
theorem step_reverse (w : World) (p : Value) (a b c : Int) (s t : ByteArray) (la : Option Addr) (ln lc : Nat) (hs : s.size ≤ 140737488355327) :
    Calls Tryz.prog 23 #[p, .agg #[.int .i64 3, .int .i64 a, .int .i64 b, .int .i64 c, .string s, .string t, .slice la ln lc]] w fun e w' => e = .returned (.bool true) ∧ Below w.heap.size w w' := by
  have hsm : s.size ≤ maxLen := by unfold maxLen; omega
  have hb0 : ∀ o, Below w.heap.size w (w.alloc o) := fun o => (Below.refl _ _).alloc (Nat.le_refl _) o
  cases hL : Lt.allL s.data.toList with
  | false =>
    have HL : Hid _ := hL
    clear hL
    have HB0 : Hid _ := hb0
    clear hb0
    go_enter Tryz.func23, Tryz.ntmps23
    go_wp2_with (first
      | (go_at_call 46; refine (reverse_bad _ _ hsm HL.out).mono ?_; rintro e w' ⟨rfl, hw⟩; subst w')
      | (go_at_call 47; refine (refRev_bad _ _ hsm HL.out).mono ?_; rintro e w' ⟨rfl, hw⟩; subst w'))
    go_ret
    exact ⟨rfl, HB0.out _⟩
  | true =>
    have HL : Hid _ := hL
    clear hL
    have HB0 : Hid _ := hb0
    clear hb0
    go_enter Tryz.func23, Tryz.ntmps23
    go_wp2_with fail
    refine (reverse_good _ _ (by omega) HL.out).mono ?_
    rintro e w1 ⟨rfl, hb1⟩
    have hz1 := hb1.size
    rw [World.size_alloc] at hz1
    have k4 : w1.cell? ⟨w.heap.size, 4, none⟩ = some (.string s) := by rw [hb1.cell (by simp)]; simp
    go_wp2_with fail
    refine (refRev_good _ _ hs HL.out).mono ?_
    rintro e w2 ⟨rfl, hb2⟩
    go_wp2
    go_ret
    exact ⟨rfl, ((HB0.out _).trans (hb1.mono (by simp))).trans (hb2.mono (by omega))⟩

set_option maxRecDepth 100000 in
set_option maxHeartbeats 1600000 in
theorem step_convert (w : World) (p : Value) (a b c : Int) (s t : ByteArray) (la : Option Addr) (ln lc : Nat) (hs : s.size ≤ 140737488355327) :
    Calls Tryz.prog 23 #[p, .agg #[.int .i64 4, .int .i64 a, .int .i64 b, .int .i64 c, .string s, .string t, .slice la ln lc]] w fun e w' => e = .returned (.bool true) ∧ Below w.heap.size w w' := by
  have hsm : s.size ≤ maxLen := by unfold maxLen; omega
  have HB0 : Hid (∀ o, Below w.heap.size w (w.alloc o)) := fun o => (Below.refl _ _).alloc (Nat.le_refl _) o
  cases hL : Lt.allL s.data.toList with
  | false =>
    have HL : Hid _ := hL
    clear hL
    go_enter Tryz.func23, Tryz.ntmps23
    go_wp2_with (first
      | (go_at_call 48; refine (convert_bad _ _ _ hsm HL.out).mono ?_; rintro e w' ⟨rfl, hw⟩; subst w')
      | (go_at_call 49; refine (refConv_bad _ _ _ hsm HL.out).mono ?_; rintro e w' ⟨rfl, hw⟩; subst w'))
    go_ret
    exact ⟨rfl, HB0.out _⟩
  | true =>
    have HL : Hid _ := hL
    clear hL
    cases hN : Lt.strandB a with
    | false =>
      have HN : Hid _ := hN
      clear hN
      go_enter Tryz.func23, Tryz.ntmps23
      go_wp2_with (first
        | (go_at_call 48; refine (convert_none _ _ _ hsm HL.out (frm_none HN.out)).mono ?_; rintro e w' ⟨rfl, hw⟩; subst w')
        | (go_at_call 49; refine (refConv_none _ _ _ hsm HL.out HN.out).mono ?_; rintro e w' ⟨rfl, hw⟩; subst w'))
      go_ret
      exact ⟨rfl, HB0.out _⟩
    | true =>
      have HN : Hid _ := hN
      clear hN
      go_enter Tryz.func23, Tryz.ntmps23
      go_wp2_with fail
      refine (convert_good _ _ (Lt.frm a) (Lt.tow a) _ hsm HL.out rfl rfl (trn_frm HN.out).1).mono ?_
      rintro e w1 ⟨rfl, hb1⟩
      have hz1 := hb1.size
      rw [World.size_alloc] at hz1
      have k4 : w1.cell? ⟨w.heap.size, 4, none⟩ = some (.string s) := by rw [hb1.cell (by simp)]; simp
      have k1 : w1.cell? ⟨w.heap.size, 1, none⟩ = some (.int .i64 a) := by rw [hb1.cell (by simp)]; simp
      go_wp2_with fail
      refine (refConv_good _ _ _ hs HL.out HN.out).mono ?_
      rintro e w2 ⟨rfl, hb2⟩
      go_wp2
      go_ret
      exact ⟨rfl, ((HB0.out _).trans (hb1.mono (by simp))).trans (hb2.mono (by omega))⟩

/-- a kind that is in play, of two -/
theorem inL_two {x y k : Int} (h : inL [x, y] k = true) : k = x ∨ k = y := by
  simp [inL] at h
  rcases h with h | h
  · exact .inl h.symm
  · exact .inr h.symm

theorem firstOps_small (h : Nat) : ∀ o ∈ firstOps h, o.s.size ≤ 100 ∧ o.t.size ≤ 100 := by
  intro o ho
  simp only [firstOps, List.mem_cons, List.not_mem_nil, or_false] at ho
  rcases ho with rfl | rfl | rfl | rfl | rfl | rfl | rfl | rfl | rfl | rfl <;> (dsimp only; decide)

set_option maxRecDepth 100000 in
set_option maxHeartbeats 1600000 in
theorem strands_any (w : World) (refsV scriptV : Value) (rs : List Value) (ss : List OpV)
    (hrefs : Src w refsV rs.length rs) (hrs : ∀ u ∈ rs, u.oneCell' = true) (hrl : (1 + rs.length) * 24 ≤ 140737488355328)
    (hscr : Src w scriptV ss.length (ss.flatMap OpV.cells)) (hsl : (10 + ss.length) * 88 ≤ 140737488355328) (hsz : ∀ o ∈ ss, o.s.size ≤ 140737488355327) :
    Calls Tryz.prog 4 #[refsV, scriptV] w fun e w' => e = .returned (.bool true) ∧ Below w.heap.size w w' := by
  have hb0 : Below w.heap.size w (w.alloc (.cells #[.int .i64 3, .int .i64 4] 3)) := (Below.refl _ _).alloc (Nat.le_refl _) _
  go_enter Tryz.func4, Tryz.ntmps4
  go_wp2_with fail
  refine (plays_any (w.alloc (.cells #[.int .i64 3, .int .i64 4] 3)) refsV scriptV rs ss [3, 4] w.heap.size 2 (hrefs.mono hb0) hrs hrl (hscr.mono hb0) hsl rfl (by decide) ?_ ?_).mono ?_
  · intro j hj
    match j, hj with
    | 0, _ => simp
    | 1, _ => simp
  · intro w0 g h h1 lv hst
    refine ⟨fun _ w1 => w1.heap[g]? = some (.cells #[lv, .slice none 0 0, .slice none 0 0, .slice none 0 0, .slice none 0 0, .slice none 0 0] 68 (0, 0)), hst.world, ?_, ?_, ?_⟩
    · intro _ w1 w2 h1 h2
      have h3 := (h2.block g (Array.getElem?_eq_some_iff.1 h1).1).trans h1
      exact ⟨h3, h3⟩
    · intro o ho hin _ w1 _ hI _ hg
      have hs : o.s.size ≤ 140737488355327 := by
        rcases List.mem_append.1 ho with h | h
        · have := (firstOps_small _ o h).1; omega
        · exact hsz o h
      rcases inL_two hin with hk | hk
      · rw [hk]
        refine (step_reverse w1 _ o.a o.b o.c o.s o.t o.la o.ln o.lc hs).mono ?_
        rintro e w2 ⟨rfl, hb⟩
        exact ⟨rfl, (hb.block g hg).trans hI, hb.mono (by omega)⟩
      · rw [hk]
        refine (step_convert w1 _ o.a o.b o.c o.s o.t o.la o.ln o.lc hs).mono ?_
        rintro e w2 ⟨rfl, hb⟩
        exact ⟨rfl, (hb.block g hg).trans hI, hb.mono (by omega)⟩
    · intro _ w1 _ hI _ _
      have hc : ∀ j, w1.cell? ⟨g, j, none⟩ = (#[lv, .slice none 0 0, .slice none 0 0, .slice none 0 0, .slice none 0 0, .slice none 0 0] : Array Value)[j]? := fun j => cell_of_row w1 g j _ _ _ hI
      refine (looks_empty w1 g (hc 2) (hc 3) (hc 4) (hc 5)).mono ?_
      rintro e w2 ⟨rfl, rfl⟩
      exact ⟨rfl, hI, Below.refl _ _⟩
  · rintro e w1 ⟨rfl, hb1⟩
    go_wp2
    go_ret
    exact ⟨rfl, hb0.trans (hb1.mono (by simp))⟩

end Go.Proofs.YtjebhbopmfcopaaGreatDoor
