/-
  THE WALK of the law Lines, whole: the program's Render and Parse answer as they should. Own text of the verifier.
-/
import Derived.Test.YtfcbgfomhmcikaaGreatDoorBun17
import Derived.Test.YtfcbgfomhmcikaaGreatDoorXPrRender
import Derived.Test.YtfcbgfomhmcikaaGreatDoorXPrParse
namespace Go.Proofs.YtfcbgfomhmcikaaGreatDoor
open Go.RowKit

theorem render_ok : RenderOk :=
  ⟨fun rs G cc w hG hn hS hsrc => render_row rs G cc (some ⟨G, 0, none⟩) w (fun _ => rfl) hn hS hsrc hG,
   fun w hG => render_row [] 0 0 none w (fun h => absurd h (by decide)) (by decide) (fun _ h => by cases h) (fun j u h => by simp [Rcs] at h) hG⟩

theorem parse_ok : ParseOk := by
  intro s w hG hs
  have h := parse_any s.data.toList w hG (by simp; omega)
  exact h

set_option maxRecDepth 100000 in
set_option maxHeartbeats 1600000 in
theorem lines_any (w : World) (refsV scriptV : Value) (rs : List Value) (ss : List OpV)
    (hrefs : Src w refsV rs.length rs) (hrs : ∀ u ∈ rs, u.oneCell' = true) (hrl : (1 + rs.length) * 24 ≤ 140737488355328)
    (hscr : Src w scriptV ss.length (ss.flatMap OpV.cells)) (hsl : (10 + ss.length) * 88 ≤ 140737488355328) (hsz : ∀ o ∈ ss, o.s.size ≤ 10000000)
    (hrec : ∀ o ∈ ss, o.k = 8 → ∃ l : List Rc, RecsOk w (.slice o.la o.ln o.lc) l ∧ l.length ≤ 10000000) (hG : LnG w) :
    Calls Tryz.prog 6 #[refsV, scriptV] w fun e w' => e = .returned (.bool true) ∧ Below w.heap.size w w' := by
  have hb0 : Below w.heap.size w (w.alloc (.cells #[.int .i64 8, .int .i64 9] 3)) := (Below.refl _ _).alloc (Nat.le_refl _) _
  go_enter Tryz.func6, Tryz.ntmps6
  go_wp2_with fail
  refine (plays_any (w.alloc (.cells #[.int .i64 8, .int .i64 9] 3)) refsV scriptV rs ss [8, 9] w.heap.size 2 (hrefs.mono hb0) hrs hrl (hscr.mono hb0) hsl rfl (by decide) ?_ ?_).mono ?_
  · intro j hj
    match j, hj with
    | 0, _ => simp
    | 1, _ => simp
  · refine lines_inv render_ok parse_ok _ (hG.below hG.few hb0) rs ss hsl hsz ?_
    intro o ho hk
    obtain ⟨l, h1, h2⟩ := hrec o ho hk
    exact ⟨l, h1.below hb0, h2⟩
  · rintro e w1 ⟨rfl, hb1⟩
    go_wp2
    go_ret
    exact ⟨rfl, hb0.trans (hb1.mono (by simp))⟩

end Go.Proofs.YtfcbgfomhmcikaaGreatDoor
