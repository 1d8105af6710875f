/-
  THE WALK of the law Searches. Own text of the verifier.
  THE WALK of the law Aligns. Own text of the verifier.
-/
import Derived.Test.YtjebhbopmfcopaaGreatDoorBun9
import Derived.Test.YtjebhbopmfcopaaGreatDoorBun14
import Derived.Test.YtjebhbopmfcopaaGreatDoorBun1
import Derived.Test.YtjebhbopmfcopaaGreatDoorBun2
import Derived.Test.YtjebhbopmfcopaaGreatDoorBun3
import Derived.Test.YtjebhbopmfcopaaGreatDoorBun4
import Derived.Test.YtjebhbopmfcopaaGreatDoorBun5
import Derived.Test.YtjebhbopmfcopaaGreatDoorBun6
import Derived.Test.YtjebhbopmfcopaaGreatDoorBun7
import Derived.Test.YtjebhbopmfcopaaGreatDoorBun8
import Derived.Test.YtjebhbopmfcopaaGreatDoorBun10
import Derived.Test.YtjebhbopmfcopaaGreatDoorBun11
import Derived.Test.YtjebhbopmfcopaaGreatDoorBun12
import Derived.Test.YtjebhbopmfcopaaGreatDoorBun13
namespace Go.Proofs.YtjebhbopmfcopaaGreatDoor
open Go.RowKit

theorem firstOps_a (h : Nat) : ∀ o ∈ firstOps h, -9223372036854775808 ≤ o.a ∧ o.a ≤ 9223372036854775807 := by
  intro o ho
  simp only [firstOps, List.mem_cons, List.not_mem_nil, or_false] at ho
  rcases ho with rfl | rfl | rfl | rfl | rfl | rfl | rfl | rfl | rfl | rfl <;> (dsimp only; decide)

/-- the reference of the law's own -/
def ownC : List Pr := [([111, 110, 101], [65, 67, 71, 84, 84, 67, 71, 65])]

theorem ownC_at {w0 : World} {h1 g : Nat} (h : w0.heap[h1]? = some (.cells #[.string ⟨#[111, 110, 101]⟩, .string ⟨#[65, 67, 71, 84, 84, 67, 71, 65]⟩] 59 (0, 0))) (hlt : h1 < g) : RefAt w0 g (.slice (some ⟨h1, 0, none⟩) 1 1) ownC := by
  refine ⟨⟨.inr ⟨⟨h1, 0, none⟩, 1, rfl, fun j u hj => ?_⟩, by decide, by decide⟩, fun _ ad l c hv => ?_⟩
  · rw [Addr.add_lit, Nat.zero_add, cell_of_row _ _ j _ _ _ h, ← hj]
    simp [ownC, Prs, prCells]
  · simp only [Value.slice.injEq, Option.some.injEq] at hv
    obtain ⟨rfl, _, _⟩ := hv
    exact hlt

set_option maxRecDepth 100000 in
set_option maxHeartbeats 1600000 in
theorem searches_any (w : World) (refsV scriptV : Value) (rs : List Value) (ss : List OpV)
    (hrefs : Src w refsV rs.length rs) (hrs : ∀ u ∈ rs, u.oneCell' = true) (hrl : (1 + rs.length) * 24 ≤ 140737488355328) (hro : ∀ v ∈ rs, ∃ cs, RefOk w v cs)
    (hscr : Src w scriptV ss.length (ss.flatMap OpV.cells)) (hsl : (10 + ss.length) * 88 ≤ 140737488355328) (hsz : ∀ o ∈ ss, o.s.size ≤ 140737488351232 ∧ -9223372036854775808 ≤ o.a ∧ o.a ≤ 9223372036854775807) :
    Calls Tryz.prog 5 #[refsV, scriptV] w fun e w' => e = .returned (.bool true) ∧ Below w.heap.size w w' := by
  have hb0 : Below w.heap.size w (w.alloc (.cells #[.int .i64 5, .int .i64 6] 3)) := (Below.refl _ _).alloc (Nat.le_refl _) _
  have hs0 : (w.alloc (.cells #[.int .i64 5, .int .i64 6] 3)).heap.size = w.heap.size + 1 := by simp
  go_enter Tryz.func5, Tryz.ntmps5
  go_wp2_with fail
  refine (plays_any (w.alloc (.cells #[.int .i64 5, .int .i64 6] 3)) refsV scriptV rs ss [5, 6] w.heap.size 2 (hrefs.mono hb0) hrs hrl (hscr.mono hb0) hsl rfl (by decide) ?_ ?_).mono ?_
  · intro j hj
    match j, hj with
    | 0, _ => simp
    | 1, _ => simp
  · intro w0 g h h1 lv hst
    obtain ⟨gl, cl, hlv, hgl1, hgl2⟩ := own_pos hst.refs (by omega)
    subst hlv
    have hsize := hst.size
    have hold := hst.old
    have hglg : gl < g := by
      have h2 := hst.world
      rcases hst.refs.2 with ⟨hv, _⟩ | ⟨g2, cap2, cur2, hv, _, hg2, _⟩
      · simp at hv
      · simp only [Value.slice.injEq, Option.some.injEq, Addr.mk.injEq, and_true, true_and] at hv
        obtain ⟨rfl, _⟩ := hv
        by_cases he : gl = g
        · rw [he, h2] at hg2
          simp at hg2
        · omega
    have hR0 : RefsAt w0 g gl (1 + rs.length) := by
      intro j hj
      have hc := hst.refs.cellAt j (by omega)
      cases j with
      | zero => exact ⟨_, _, hc, ownC_at hst.contig hst.h1_lt⟩
      | succ j =>
        have hjr : j < rs.length := by omega
        rw [show ([Value.slice (some ⟨h1, 0, none⟩) 1 1] ++ rs)[j + 1]? = some rs[j] from by simp [hjr]] at hc
        obtain ⟨cs, hcs⟩ := hro rs[j] (List.getElem_mem _)
        refine ⟨_, cs, hc, ?_⟩
        have hA : RefAt w w.heap.size rs[j] cs := ⟨hcs, fun hp ad l c hv => by
          rcases hcs.src with ⟨hn, h0, _⟩ | ⟨ad', c', hv', hsrc⟩
          · omega
          · rw [hv] at hv'
            simp only [Value.slice.injEq, Option.some.injEq] at hv'
            obtain ⟨rfl, _, _⟩ := hv'
            have := World.block_lt_of_cell? w _ (src_first hsrc 0 hp)
            rw [add_block] at this
            exact this⟩
        have hB := hA.below (hb0.trans (hst.below.mono (by omega)))
        exact ⟨hB.ref, fun hp ad l c hv => by have := hB.low hp ad l c hv; omega⟩
    have hRk : ∀ w1, Below g w0 w1 → RefsAt w1 g gl (1 + rs.length) := by
      intro w1 hb j hj
      obtain ⟨v, cs, hc, hr⟩ := hR0 j hj
      exact ⟨v, cs, (hb.cell (p := ⟨gl, j, none⟩) hglg).trans hc, hr.below hb⟩
    refine ⟨fun k w1 => SI w1 g (.slice (some ⟨gl, 0, none⟩) (1 + rs.length) cl) k, ?_, ?_, ?_, ?_⟩
    · exact ⟨.slice none 0 0, .slice none 0 0, [], [], hst.world, World.ownsRow_nil _ _ _ _, (show PairsOk w0 g [] from fun p hp => by cases hp), ⟨World.ownsRow_nil _ _ _ _, by simp, by simp⟩, by simp, by simp, by simp⟩
    · intro k w1 w2 h1 h2
      exact si_below h1 h2
    · intro o ho hin k w1 hk hI hbw hg
      have hs : o.s.size ≤ 140737488351232 ∧ -9223372036854775808 ≤ o.a ∧ o.a ≤ 9223372036854775807 := by
        rcases List.mem_append.1 ho with h | h
        · have h1 := (firstOps_small _ o h).1
          have h2 := firstOps_a _ o h
          exact ⟨by omega, h2⟩
        · exact hsz o h
      rcases inL_two hin with hkk | hkk
      · rw [hkk]
        exact step_index w1 g gl (1 + rs.length) cl k o.a o.b o.c o.s o.t o.la o.ln o.lc hI (hRk w1 hbw) (by omega) (by omega) hglg hs.2.1 hs.2.2 (by omega)
      · rw [hkk]
        exact step_find w1 g _ k o.a o.b o.c o.s o.t o.la o.ln o.lc hI hs.2.1 hs.2.2 (by omega) hs.1
    · intro k w1 _ hI _ _
      have hI' := hI
      obtain ⟨xv, vp, ps, es, hW, _, _, hsh, _⟩ := hI'
      refine (looks_places w1 g _ _ vp es hW hsh).mono ?_
      rintro e w2 ⟨rfl, rfl⟩
      exact ⟨rfl, hI, Below.refl _ _⟩
  · rintro e w1 ⟨rfl, hb1⟩
    go_wp2
    go_ret
    exact ⟨rfl, hb0.trans (hb1.mono (by simp))⟩

end Go.Proofs.YtjebhbopmfcopaaGreatDoor

namespace Go.Proofs.YtjebhbopmfcopaaGreatDoor
open Go.RowKit

set_option maxRecDepth 100000 in
set_option maxHeartbeats 1600000 in
theorem aligns_any (w : World) (refsV scriptV : Value) (rs : List Value) (ss : List OpV)
    (hrefs : Src w refsV rs.length rs) (hrs : ∀ u ∈ rs, u.oneCell' = true) (hrl : (1 + rs.length) * 24 ≤ 140737488355328) (hro : ∀ v ∈ rs, ∃ cs, RefOk w v cs)
    (hscr : Src w scriptV ss.length (ss.flatMap OpV.cells)) (hsl : (10 + ss.length) * 88 ≤ 140737488355328) (hsz : ∀ o ∈ ss, (o.s.size ≤ 140737488351232 ∧ o.t.size ≤ 140737488351232) ∧ -9223372036854775808 ≤ o.a ∧ o.a ≤ 9223372036854775807) :
    Calls Tryz.prog 7 #[refsV, scriptV] w fun e w' => e = .returned (.bool true) ∧ Below w.heap.size w w' := by
  have hb0 : Below w.heap.size w (w.alloc (.cells #[.int .i64 5, .int .i64 7] 3)) := (Below.refl _ _).alloc (Nat.le_refl _) _
  have hs0 : (w.alloc (.cells #[.int .i64 5, .int .i64 7] 3)).heap.size = w.heap.size + 1 := by simp
  go_enter Tryz.func7, Tryz.ntmps7
  go_wp2_with fail
  refine (plays_any (w.alloc (.cells #[.int .i64 5, .int .i64 7] 3)) refsV scriptV rs ss [5, 7] w.heap.size 2 (hrefs.mono hb0) hrs hrl (hscr.mono hb0) hsl rfl (by decide) ?_ ?_).mono ?_
  · intro j hj
    match j, hj with
    | 0, _ => simp
    | 1, _ => simp
  · intro w0 g h h1 lv hst
    obtain ⟨gl, cl, hlv, hgl1, hgl2⟩ := own_pos hst.refs (by omega)
    subst hlv
    have hsize := hst.size
    have hold := hst.old
    have hglg : gl < g := by
      have h2 := hst.world
      rcases hst.refs.2 with ⟨hv, _⟩ | ⟨g2, cap2, cur2, hv, _, hg2, _⟩
      · simp at hv
      · simp only [Value.slice.injEq, Option.some.injEq, Addr.mk.injEq, and_true, true_and] at hv
        obtain ⟨rfl, _⟩ := hv
        by_cases he : gl = g
        · rw [he, h2] at hg2
          simp at hg2
        · omega
    have hR0 : RefsAt w0 g gl (1 + rs.length) := by
      intro j hj
      have hc := hst.refs.cellAt j (by omega)
      cases j with
      | zero => exact ⟨_, _, hc, ownC_at hst.contig hst.h1_lt⟩
      | succ j =>
        have hjr : j < rs.length := by omega
        rw [show ([Value.slice (some ⟨h1, 0, none⟩) 1 1] ++ rs)[j + 1]? = some rs[j] from by simp [hjr]] at hc
        obtain ⟨cs, hcs⟩ := hro rs[j] (List.getElem_mem _)
        refine ⟨_, cs, hc, ?_⟩
        have hA : RefAt w w.heap.size rs[j] cs := ⟨hcs, fun hp ad l c hv => by
          rcases hcs.src with ⟨hn, h0, _⟩ | ⟨ad', c', hv', hsrc⟩
          · omega
          · rw [hv] at hv'
            simp only [Value.slice.injEq, Option.some.injEq] at hv'
            obtain ⟨rfl, _, _⟩ := hv'
            have := World.block_lt_of_cell? w _ (src_first hsrc 0 hp)
            rw [add_block] at this
            exact this⟩
        have hB := hA.below (hb0.trans (hst.below.mono (by omega)))
        exact ⟨hB.ref, fun hp ad l c hv => by have := hB.low hp ad l c hv; omega⟩
    have hRk : ∀ w1, Below g w0 w1 → RefsAt w1 g gl (1 + rs.length) := by
      intro w1 hb j hj
      obtain ⟨v, cs, hc, hr⟩ := hR0 j hj
      exact ⟨v, cs, (hb.cell (p := ⟨gl, j, none⟩) hglg).trans hc, hr.below hb⟩
    refine ⟨fun k w1 => SI w1 g (.slice (some ⟨gl, 0, none⟩) (1 + rs.length) cl) k, ?_, ?_, ?_, ?_⟩
    · exact ⟨.slice none 0 0, .slice none 0 0, [], [], hst.world, World.ownsRow_nil _ _ _ _, (show PairsOk w0 g [] from fun p hp => by cases hp), ⟨World.ownsRow_nil _ _ _ _, by simp, by simp⟩, by simp, by simp, by simp⟩
    · intro k w1 w2 h1 h2
      exact si_below h1 h2
    · intro o ho hin k w1 hk hI hbw hg
      have hs : (o.s.size ≤ 140737488351232 ∧ o.t.size ≤ 140737488351232) ∧ -9223372036854775808 ≤ o.a ∧ o.a ≤ 9223372036854775807 := by
        rcases List.mem_append.1 ho with h | h
        · have h1 := (firstOps_small _ o h).1
          have h2 := firstOps_a _ o h
          have h3 := (firstOps_small _ o h).2
          exact ⟨⟨by omega, by omega⟩, h2⟩
        · exact hsz o h
      rcases inL_two hin with hkk | hkk
      · rw [hkk]
        exact step_index w1 g gl (1 + rs.length) cl k o.a o.b o.c o.s o.t o.la o.ln o.lc hI (hRk w1 hbw) (by omega) (by omega) hglg hs.2.1 hs.2.2 (by omega)
      · rw [hkk]
        exact step_align w1 g _ k o.a o.b o.c o.s o.t o.la o.ln o.lc hI hs.2.1 hs.2.2 (by omega) hs.1.1 hs.1.2
    · intro k w1 _ hI _ _
      have hI' := hI
      obtain ⟨xv, vp, ps, es, hW, _, _, hsh, _⟩ := hI'
      refine (looks_places w1 g _ _ vp es hW hsh).mono ?_
      rintro e w2 ⟨rfl, rfl⟩
      exact ⟨rfl, hI, Below.refl _ _⟩
  · rintro e w1 ⟨rfl, hb1⟩
    go_wp2
    go_ret
    exact ⟨rfl, hb0.trans (hb1.mono (by simp))⟩

end Go.Proofs.YtjebhbopmfcopaaGreatDoor
