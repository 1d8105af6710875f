/-
  THE WALKS of the steps of kinds Fasta and Fastq, and of the law Texts. Own text of the verifier.
-/
import Derived.Test.YtjebhbopmfcopaaGreatDoorTxWorldQ
import Derived.Test.YtjebhbopmfcopaaGreatDoorStrandsWalk
namespace Go.Proofs.YtjebhbopmfcopaaGreatDoor
open Go.RowKit

theorem ti_below {X Y : World} {g k : Nat} {lv : Value} (h : TI X g lv k) (hb : Below X.heap.size X Y) : TI Y g lv k ∧ TI Y g lv (k + 1) := by
  obtain ⟨vc, vr, cs, rs, hW, hsc, hsr, h1, h2, h3, h4⟩ := h
  have hW' := (hb.block g (Array.getElem?_eq_some_iff.1 hW).1).trans hW
  exact ⟨⟨vc, vr, cs, rs, hW', shelf_below hsc hb, shelf_below hsr hb, h1, h2, h3, h4⟩, ⟨vc, vr, cs, rs, hW', shelf_below hsc hb, shelf_below hsr hb, h1, h2, by omega, by omega⟩⟩

theorem ti_lt {X : World} {g k : Nat} {lv : Value} (h : TI X g lv k) : g < X.heap.size := by
  obtain ⟨vc, vr, cs, rs, hW, _⟩ := h
  exact (Array.getElem?_eq_some_iff.1 hW).1

set_option maxRecDepth 100000 in
set_option maxHeartbeats 1600000 in
theorem step_fasta (w : World) (g : Nat) (lv : Value) (k : Nat) (a b c : Int) (s t : ByteArray) (la : Option Addr) (ln lc : Nat) (hI : TI w g lv k) (hk : 4 * k + 4 ≤ 7000000000000) (hs : s.size ≤ 140737488351232) :
    Calls Tryz.prog 23 #[.pointer (some ⟨g, 0, none⟩), .agg #[.int .i64 1, .int .i64 a, .int .i64 b, .int .i64 c, .string s, .string t, .slice la ln lc]] w fun e w' => e = .returned (.bool true) ∧ TI w' g lv (k + 1) ∧ Below g w w' := by
  have hb0 : ∀ o, Below w.heap.size w (w.alloc o) := fun o => (Below.refl _ _).alloc (Nat.le_refl _) o
  have hg := ti_lt hI
  have HI : Hid _ := fun o => (ti_below hI (hb0 o)).1
  have HB : Hid _ := hb0
  have HG : Hid _ := hg
  clear hI hb0 hg
  go_enter Tryz.func23, Tryz.ntmps23
  go_wp2_with fail
  refine (wfasta_any _ g lv k s c (HI.out _) hk hs).mono ?_
  rintro e w1 ⟨rfl, hI1, hb1⟩
  go_wp2
  go_ret
  exact ⟨rfl, hI1, ((HB.out _).mono (Nat.le_of_lt HG.out)).trans hb1⟩

set_option maxRecDepth 100000 in
set_option maxHeartbeats 1600000 in
theorem step_fastq (w : World) (g : Nat) (lv : Value) (k : Nat) (a b c : Int) (s t : ByteArray) (la : Option Addr) (ln lc : Nat) (hI : TI w g lv k) (hk : 4 * k + 4 ≤ 7000000000000) (hs : s.size ≤ 140737488351232) :
    Calls Tryz.prog 23 #[.pointer (some ⟨g, 0, none⟩), .agg #[.int .i64 2, .int .i64 a, .int .i64 b, .int .i64 c, .string s, .string t, .slice la ln lc]] w fun e w' => e = .returned (.bool true) ∧ TI w' g lv (k + 1) ∧ Below g w w' := by
  have hb0 : ∀ o, Below w.heap.size w (w.alloc o) := fun o => (Below.refl _ _).alloc (Nat.le_refl _) o
  have hg := ti_lt hI
  have HI : Hid _ := fun o => (ti_below hI (hb0 o)).1
  have HB : Hid _ := hb0
  have HG : Hid _ := hg
  clear hI hb0 hg
  go_enter Tryz.func23, Tryz.ntmps23
  go_wp2_with fail
  refine (wfastq_any _ g lv k s c (HI.out _) hk hs).mono ?_
  rintro e w1 ⟨rfl, hI1, hb1⟩
  go_wp2
  go_ret
  exact ⟨rfl, hI1, ((HB.out _).mono (Nat.le_of_lt HG.out)).trans hb1⟩

set_option maxRecDepth 100000 in
set_option maxHeartbeats 1600000 in
theorem texts_any (w : World) (refsV scriptV : Value) (rs : List Value) (ss : List OpV)
    (hrefs : Src w refsV rs.length rs) (hrs : ∀ u ∈ rs, u.oneCell' = true) (hrl : (1 + rs.length) * 24 ≤ 140737488355328)
    (hscr : Src w scriptV ss.length (ss.flatMap OpV.cells)) (hsl : (10 + ss.length) * 88 ≤ 140737488355328) (hsz : ∀ o ∈ ss, o.s.size ≤ 140737488351232) :
    Calls Tryz.prog 3 #[refsV, scriptV] w fun e w' => e = .returned (.bool true) ∧ Below w.heap.size w w' := by
  have hb0 : Below w.heap.size w (w.alloc (.cells #[.int .i64 1, .int .i64 2] 3)) := (Below.refl _ _).alloc (Nat.le_refl _) _
  go_enter Tryz.func3, Tryz.ntmps3
  go_wp2_with fail
  refine (plays_any (w.alloc (.cells #[.int .i64 1, .int .i64 2] 3)) refsV scriptV rs ss [1, 2] w.heap.size 2 (hrefs.mono hb0) hrs hrl (hscr.mono hb0) hsl rfl (by decide) ?_ ?_).mono ?_
  · intro j hj
    match j, hj with
    | 0, _ => simp
    | 1, _ => simp
  · intro w0 g h h1 lv hst
    refine ⟨fun k w1 => TI w1 g lv k, ?_, ?_, ?_, ?_⟩
    · refine ⟨.slice none 0 0, .slice none 0 0, [], [], hst.world, ⟨World.ownsRow_nil _ _ _ _, by simp, by simp⟩, ⟨World.ownsRow_nil _ _ _ _, by simp, by simp⟩, by simp, by simp, by simp, by simp⟩
    · intro k w1 w2 h1 h2
      exact ti_below h1 h2
    · intro o ho hin k w1 hk hI _ hg
      have hs : o.s.size ≤ 140737488351232 := by
        rcases List.mem_append.1 ho with h | h
        · have := (firstOps_small _ o h).1; omega
        · have := hsz o h; omega
      rcases inL_two hin with hkk | hkk
      · rw [hkk]
        exact step_fasta w1 g lv k o.a o.b o.c o.s o.t o.la o.ln o.lc hI (by omega) hs
      · rw [hkk]
        exact step_fastq w1 g lv k o.a o.b o.c o.s o.t o.la o.ln o.lc hI (by omega) hs
    · intro k w1 _ hI _ _
      have hI' := hI
      obtain ⟨vc, vr, cs, rs, hW, hsc, hsr, _⟩ := hI'
      refine (looks_full w1 g lv _ vc vr cs rs hW hsc hsr).mono ?_
      rintro e w2 ⟨rfl, hb⟩
      exact ⟨rfl, (ti_below hI hb).1, hb.mono (Nat.le_of_lt (ti_lt hI))⟩
  · rintro e w1 ⟨rfl, hb1⟩
    go_wp2
    go_ret
    exact ⟨rfl, hb0.trans (hb1.mono (by simp))⟩

end Go.Proofs.YtjebhbopmfcopaaGreatDoor
