/-
  THE WALK of the statement's own 'letters': letters made of any text. Own text of the verifier.
-/
import Derived.Test.YtjebhbopmfcopaaBytes
namespace Go.Proofs.Ytjebhbopmfcopaa
open Go.RowKit

theorem Lt.allL_snoc {l : List UInt8} {c : UInt8} (h : Lt.allL l = true) (hc : Lt.isL c = true) : Lt.allL (l ++ [c]) = true := by
  simp only [Lt.allL, List.all_append, List.all_cons, List.all_nil, Bool.and_true, Bool.and_eq_true] at *
  exact ⟨h, hc⟩

set_option maxRecDepth 100000 in
set_option maxHeartbeats 800000 in
theorem letters_any (s : ByteArray) (most : Int) (w : World) (hs : s.size ≤ maxLen) (h0 : 1 ≤ most) (h1 : most ≤ 100000) :
    Calls Try.prog 8 #[.string s, .int .i64 most] w fun e w' =>
      ∃ t : List UInt8, e = .returned (.string ⟨t.toArray⟩) ∧ Lt.allL t = true ∧ 1 ≤ t.length ∧ (t.length : Int) ≤ most ∧ Below w.heap.size w w' := by
  unfold maxLen at hs
  go_enter Try.func8, Try.ntmps8
  go_wp2
  go_loopw [5, 6] (fun v i wr => ∃ l : List UInt8, (l.length : Int) ≤ most ∧ l.length ≤ s.size ∧ i = .int .i64 (l.length : Int) ∧ Hid (Lt.allL l = true) ∧ wr.ownsRow w.heap.size 5 1 v l.length (Bys l) ∧ Below w.heap.size w wr)
    (fun _ i _ => s.size - (intOf i).toNat)
  case atStart => exact ⟨[], by simpa using (by omega : (0 : Int) ≤ most), Nat.zero_le _, rfl, rfl, World.ownsRow_nil _ _ _ _, Below.refl _ _⟩
  case round =>
    obtain ⟨l, hm, hk, rfl, HA, hown, hbel⟩ := hrel
    have hsz := hbel.size
    generalize hkk : l.length = k at *
    have HK : Hid (l.length = k) := hkk
    clear hkk
    by_cases hlt : k < s.size
    · by_cases hlm : (k : Int) < most
      · obtain ⟨c, hc⟩ : ∃ c : Int, c = (s[k].toNat : Int) := ⟨_, rfl⟩
        have hc0 : 0 ≤ c ∧ c < 256 := by have := s[k].toNat_lt; omega
        have h4 : c % 4 = 0 ∨ c % 4 = 1 ∨ c % 4 = 2 ∨ c % 4 = 3 := by omega
        rw [hc] at h4
        clear hc hc0 c
        by_cases h255 : ((s[k].toNat : Int) == 255) = true
        · have h4 : (s[k].toNat : Int) % 4 = 3 := by have : (s[k].toNat : Int) = 255 := by simpa using h255
                                                     omega
          go_wp2_with (at_builtin; refine app_byte rfl _ _ rfl w.heap.size _ l 78 rfl rfl (by rw [HK.out]; exact hown) hbel (by omega) (by rw [HK.out]; omega) ?_; intro v' w1 hown1 hbel1 hsz1)
          go_roundw
          case rel => exact ⟨l ++ [78], by rw [List.length_append, HK.out]; simp; omega, by rw [List.length_append, HK.out]; simp; omega, by rw [List.length_append, HK.out]; rfl, Lt.allL_snoc HA.out rfl, hown1, hbel1⟩
          case measure => simp [intOf]; omega
        · rw [Bool.not_eq_true] at h255
          rcases h4 with h4 | h4 | h4 | h4
          · go_wp2_with (at_builtin; refine app_byte rfl _ _ rfl w.heap.size _ l 65 rfl rfl (by rw [HK.out]; exact hown) hbel (by omega) (by rw [HK.out]; omega) ?_; intro v' w1 hown1 hbel1 hsz1)
            go_roundw
            case rel => exact ⟨l ++ [65], by rw [List.length_append, HK.out]; simp; omega, by rw [List.length_append, HK.out]; simp; omega, by rw [List.length_append, HK.out]; rfl, Lt.allL_snoc HA.out rfl, hown1, hbel1⟩
            case measure => simp [intOf]; omega
          · go_wp2_with (at_builtin; refine app_byte rfl _ _ rfl w.heap.size _ l 67 rfl rfl (by rw [HK.out]; exact hown) hbel (by omega) (by rw [HK.out]; omega) ?_; intro v' w1 hown1 hbel1 hsz1)
            go_roundw
            case rel => exact ⟨l ++ [67], by rw [List.length_append, HK.out]; simp; omega, by rw [List.length_append, HK.out]; simp; omega, by rw [List.length_append, HK.out]; rfl, Lt.allL_snoc HA.out rfl, hown1, hbel1⟩
            case measure => simp [intOf]; omega
          · go_wp2_with (at_builtin; refine app_byte rfl _ _ rfl w.heap.size _ l 71 rfl rfl (by rw [HK.out]; exact hown) hbel (by omega) (by rw [HK.out]; omega) ?_; intro v' w1 hown1 hbel1 hsz1)
            go_roundw
            case rel => exact ⟨l ++ [71], by rw [List.length_append, HK.out]; simp; omega, by rw [List.length_append, HK.out]; simp; omega, by rw [List.length_append, HK.out]; rfl, Lt.allL_snoc HA.out rfl, hown1, hbel1⟩
            case measure => simp [intOf]; omega
          · go_wp2_with (at_builtin; refine app_byte rfl _ _ rfl w.heap.size _ l 84 rfl rfl (by rw [HK.out]; exact hown) hbel (by omega) (by rw [HK.out]; omega) ?_; intro v' w1 hown1 hbel1 hsz1)
            go_roundw
            case rel => exact ⟨l ++ [84], by rw [List.length_append, HK.out]; simp; omega, by rw [List.length_append, HK.out]; simp; omega, by rw [List.length_append, HK.out]; rfl, Lt.allL_snoc HA.out rfl, hown1, hbel1⟩
            case measure => simp [intOf]; omega
      · obtain ⟨ao, cap, hv⟩ := own_form hown
        subst hv
        have hback := back_own hown
        by_cases hk0 : k = 0
        · exfalso; omega
        · have hk1 : ((k : Int) == 0) = false := by rw [beq_eq_false_iff_ne]; omega
          go_wp2
          go_ret
          exact ⟨l, rfl, HA.out, by rw [HK.out]; omega, by rw [HK.out]; omega, hbel⟩
    · obtain ⟨ao, cap, hv⟩ := own_form hown
      subst hv
      have hback := back_own hown
      by_cases hk0 : k = 0
      · have hk1 : ((k : Int) == 0) = true := by rw [beq_iff_eq]; omega
        go_wp2
        go_ret
        exact ⟨[65], rfl, rfl, by simp, by simpa using h0, hbel⟩
      · have hk1 : ((k : Int) == 0) = false := by rw [beq_eq_false_iff_ne]; omega
        go_wp2
        go_ret
        exact ⟨l, rfl, HA.out, by rw [HK.out]; omega, by rw [HK.out]; omega, hbel⟩

end Go.Proofs.Ytjebhbopmfcopaa
