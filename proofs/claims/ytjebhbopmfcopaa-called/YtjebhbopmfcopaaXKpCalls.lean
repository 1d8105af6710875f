/-
  LAWS for the walk of Called. Own text of the verifier.
-/
import Derived.Test.YtjebhbopmfcopaaBun15
import Derived.Test.YtjebhbopmfcopaaBun17
import Derived.Test.YtjebhbopmfcopaaXKpApart
namespace Go.Proofs.Ytjebhbopmfcopaa
open Go.RowKit

/-- what is so of a call -/
theorem Kp.call_cases {n : Int} {t : List UInt8} {p : Nat} {o y : UInt8} (hp : t[p]? = some y) :
    (y ≠ Al.bare n ∧ Al.call n o t p = 46) ∨ (y = Al.bare n ∧ o = Al.bare n ∧ (Al.call n o t p = 90 ∨ Al.call n o t p = 88 ∨ Al.call n o t p = 72 ∨ Al.call n o t p = 85)) ∨
    (y = Al.bare n ∧ o = Al.gone n ∧ (Al.call n o t p = 122 ∨ Al.call n o t p = 120 ∨ Al.call n o t p = 104 ∨ Al.call n o t p = 117)) ∨ (y = Al.bare n ∧ o ≠ Al.bare n ∧ o ≠ Al.gone n ∧ Al.call n o t p = 46) := by
  unfold Al.call
  rw [hp]
  by_cases h1 : y = Al.bare n
  · rw [if_neg (by rw [h1]; simp)]
    by_cases h2 : o = Al.bare n
    · rw [if_pos h2]
      right; left
      refine ⟨h1, h2, ?_⟩
      rcases Al.follows_cases n t p with h | h | h | h <;> rw [h] <;> decide
    · rw [if_neg h2]
      by_cases h3 : o = Al.gone n
      · rw [if_pos h3]
        right; right; left
        exact ⟨h1, h3, Al.follows_cases n t p⟩
      · rw [if_neg h3]
        right; right; right
        exact ⟨h1, h2, h3, rfl⟩
  · rw [if_pos (by simpa using h1)]
    exact .inl ⟨h1, rfl⟩
theorem Kp.to_int {c : UInt8} {k : Nat} (h : c = UInt8.ofNat k) (hk : k < 256) : (c.toNat : Int) = (k : Int) := by rw [h, UInt8.toNat_ofNat']; omega
theorem Kp.ne_int {c : UInt8} {k : Nat} (h : c ≠ UInt8.ofNat k) (hk : k < 256) : ((c.toNat : Int) == (k : Int)) = false := by
  rw [beq_eq_false_iff_ne]
  intro h2
  exact h ((Lt.toNat_inj hk).1 (by omega))
theorem Kp.nm_ne {i j : Nat} (hi : i < 4) (hj : j < 4) (h : i ≠ j) : (Kp.nm i == Kp.nm j) = false := by
  obtain rfl | rfl | rfl | rfl : i = 0 ∨ i = 1 ∨ i = 2 ∨ i = 3 := by omega
  all_goals
    obtain rfl | rfl | rfl | rfl : j = 0 ∨ j = 1 ∨ j = 2 ∨ j = 3 := by omega
    all_goals first | (exact absurd rfl h) | rfl

end Go.Proofs.Ytjebhbopmfcopaa
