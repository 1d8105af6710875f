/-
  THE WALKS of the steps of kinds Index and Find. Own text of the verifier.
-/
import Derived.Test.YtjebhbopmfcopaaGreatDoorSePick
namespace Go.Proofs.YtjebhbopmfcopaaGreatDoor
open Go.RowKit

/-- the references: each lies below block g -/
def RefsAt (X : World) (g gl N : Nat) : Prop := ∀ j, j < N → ∃ v cs, X.cell? ⟨gl, j, none⟩ = some v ∧ RefAt X g v cs

set_option maxRecDepth 100000 in
set_option maxHeartbeats 1600000 in
theorem step_index (w : World) (g : Nat) (gl N cl : Nat) (k : Nat) (a b c : Int) (s t : ByteArray) (la : Option Addr) (ln lc : Nat) (hI : SI w g (.slice (some ⟨gl, 0, none⟩) N cl) k) (hrefs : RefsAt w g gl N) (hN : 0 < N) (hN2 : N ≤ 140737488355328) (hgl : gl < g)
    (ha1 : -9223372036854775808 ≤ a) (ha2 : a ≤ 9223372036854775807) (hk : (k + 1) * 32 ≤ 140737488355328) :
    Calls Tryz.prog 23 #[.pointer (some ⟨g, 0, none⟩), .agg #[.int .i64 5, .int .i64 a, .int .i64 b, .int .i64 c, .string s, .string t, .slice la ln lc]] w fun e w' => e = .returned (.bool true) ∧ SI w' g (.slice (some ⟨gl, 0, none⟩) N cl) (k + 1) ∧ Below g w w' := by
  have hg := si_lt hI
  have c0 : w.cell? ⟨g, 0, none⟩ = some (.slice (some ⟨gl, 0, none⟩) N cl) := by
    obtain ⟨_, _, _, _, hW, _⟩ := hI
    exact cell_of_row w g 0 _ _ _ hW
  have HI : Hid (∀ Y, Below w.heap.size w Y → SI Y g (.slice (some ⟨gl, 0, none⟩) N cl) k) := fun Y hb => (si_below hI hb).1
  have HR : Hid (∀ j, j < N → ∃ v cs, w.cell? ⟨gl, j, none⟩ = some v ∧ (∃ va vc, v = .slice va cs.length vc) ∧ ∀ Y, Below w.heap.size w Y → RefAt Y g v cs) := fun j hj => by
    obtain ⟨v, cs, h1, h2⟩ := hrefs j hj
    exact ⟨v, cs, h1, h2.form, fun Y hb => h2.below (hb.mono (Nat.le_of_lt hg))⟩
  have hNi : ((N : Int) == 0) = false := by rw [beq_eq_false_iff_ne]; omega
  have hgl2 : gl < w.heap.size := by omega
  obtain ⟨j, hj, hjv⟩ := pickV_in a N hN
  have HPK : Hid (∀ W : World, Calls Tryz.prog 54 #[.int .i64 a, .int .i64 (N : Int)] W fun e w' => e = .returned (.int .i64 (j : Int)) ∧ w' = W) := fun W => by
    have := pick_any a N W ha1 ha2 hN hN2
    rw [hjv] at this
    exact this
  obtain ⟨v, cs, hcv, ⟨va, vc, rfl⟩, hRv⟩ := HR.out j hj
  have HMD : Hid (∀ Y, Below w.heap.size w Y → Calls Tryz.prog 53 #[.pointer (some ⟨g, 0, none⟩), .slice va cs.length vc] Y fun e w' => e = .returned (.bool true) ∧ SI w' g (.slice (some ⟨gl, 0, none⟩) N cl) (k + 1) ∧ Below g w w') := fun Y hb =>
    (made_any Y g _ _ cs k (HI.out Y hb) (hRv Y hb) hk).mono (by rintro e w' ⟨h1, h2, h3⟩; exact ⟨h1, h2, (hb.mono (Nat.le_of_lt hg)).trans h3⟩)
  have hj' : (j : Int) < (N : Int) := by omega
  clear hI hrefs hjv HR hRv HI
  go_enter Tryz.func23, Tryz.ntmps23
  go_wp2_with fail
  go_region_with (first
    | (go_at_call 54; refine (HPK.out _).mono ?_; rintro e w' ⟨rfl, hw⟩; subst w')
    | (go_at_call 53; refine (HMD.out _ (by exact ((Below.refl _ _).alloc (Nat.le_refl _) _).drew)).mono ?_; rintro e w' ⟨rfl, hsi, hb⟩))
  all_goals (go_wp2; go_ret; exact ⟨rfl, hsi, hb⟩)

end Go.Proofs.YtjebhbopmfcopaaGreatDoor
