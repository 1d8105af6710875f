/-
  THE WALK of 'bleached': some cytosines of a strand are turned. Own text of the verifier.
-/
import Derived.Test.YtjebhbopmfcopaaBun11
namespace Go.Proofs.Ytjebhbopmfcopaa
open Go.RowKit

/-- what becomes of a letter -/
def Kp.bl (n : Int) (a b : UInt8) : Prop := b = a ∨ (Lt.topB n = true ∧ a = 67 ∧ b = 84) ∨ (Lt.topB n = false ∧ a = 71 ∧ b = 65)
structure Kp.Bl (n : Int) (s t : List UInt8) : Prop where
  len : t.length = s.length
  at_ : ∀ j (h1 : j < s.length) (h2 : j < t.length), Kp.bl n s[j] t[j]
/-- ... and the letters from k on are as they were -/
structure Kp.BlTo (n : Int) (s t : List UInt8) (k : Nat) : Prop where
  bl : Kp.Bl n s t
  rest : ∀ j (h1 : j < s.length) (h2 : j < t.length), k ≤ j → t[j] = s[j]

theorem Kp.BlTo.start (n : Int) (s : List UInt8) : Kp.BlTo n s s 0 := ⟨⟨rfl, fun _ _ _ => .inl rfl⟩, fun _ _ _ _ => rfl⟩
theorem Kp.BlTo.skip {n : Int} {s t : List UInt8} {k : Nat} (h : Kp.BlTo n s t k) : Kp.BlTo n s t (k + 1) := ⟨h.bl, fun j h1 h2 h3 => h.rest j h1 h2 (by omega)⟩
theorem Kp.BlTo.turn {n : Int} {s t : List UInt8} {k : Nat} {c : UInt8} (h : Kp.BlTo n s t k) (hk : k < s.length) (hc : Kp.bl n s[k] c) : Kp.BlTo n s (t.set k c) (k + 1) := by
  refine ⟨⟨by rw [List.length_set]; exact h.bl.len, fun j h1 h2 => ?_⟩, fun j h1 h2 h3 => ?_⟩
  · rw [List.getElem_set]
    split
    · next e => subst e; exact hc
    · exact h.bl.at_ j h1 _
  · rw [List.getElem_set, if_neg (by omega)]
    exact h.rest j h1 _ (by omega)

set_option maxRecDepth 100000 in
set_option maxHeartbeats 1600000 in
theorem kbleached_any (s r : ByteArray) (n : Int) (w : World) (hn : Lt.strandB n = true) (hs : s.size ≤ 1000000) (hr : r.size ≤ 140737488355327) :
    Calls Try.prog 15 #[.string s, .int .i64 n, .string r] w fun e w' => ∃ t : List UInt8, e = .returned (.string ⟨t.toArray⟩) ∧ Hid (Kp.Bl n s.data.toList t) ∧ Below w.heap.size w w' := by
  obtain ⟨cap, w1, hconv, hcap, hcm, hmk0, hbel0⟩ := mk_of_string s w (by unfold maxLen; omega)
  unfold maxLen at hcm
  go_enter Try.func15, Try.ntmps15
  go_wp2
  clear hconv
  go_loopw [8] (fun i wr => ∃ (k : Nat) (l : List UInt8), k ≤ s.size ∧ i = .int .i64 k ∧ Hid (Kp.BlTo n s.data.toList l k) ∧ Mk wr w.heap.size s.size (Bys l) ∧ Below w.heap.size w wr)
    (fun i _ => s.size - (intOf i).toNat)
  case atStart => exact ⟨0, _, Nat.zero_le _, rfl, Kp.BlTo.start _ _, hmk0, hbel0⟩
  case round =>
    clear hmk0 hbel0
    obtain ⟨k, l, hk, rfl, HT, hmk, hbel⟩ := hrel
    have HLL : Hid (l.length = s.size) := by show _ = _; rw [HT.out.bl.len]; simp
    by_cases hgo : k < s.size ∧ 0 < r.size
    · obtain ⟨hlt, hr0⟩ := hgo
      have hc0 := hmk.cell hlt
      rw [Bys_at l k (by rw [HLL.out]; exact hlt), HT.out.rest k (by simpa using hlt) (by rw [HLL.out]; exact hlt) (Nat.le_refl _)] at hc0
      have hc0' : wr.cell? ⟨w.heap.size, k, none⟩ = some (.int .u8 (s[k].toNat : Int)) := hc0
      have hj : k % r.size < r.size := Nat.mod_lt _ hr0
      have hr1 : ((r.size : Int) == 0) = false := by rw [beq_eq_false_iff_ne]; omega
      have hlt' : (k : Int) < (s.size : Int) := by omega
      have hr0' : (0 : Int) < (r.size : Int) := by omega
      have hfr := hmk.frozen hlt
      clear hc0
      cases h2 : ((r[k % r.size].toNat : Int) % 2 == 0) with
      | true =>
        have HT2 : Hid _ := HT.out.skip
        clear HT
        go_wp2
        go_roundw
        case rel => exact ⟨k + 1, l, by omega, by go_num, HT2.out, hmk, hbel⟩
        case measure => simp [intOf]; omega
      | false =>
        by_cases htop : Lt.topB n = true
        · cases h67 : ((s[k].toNat : Int) == 67) with
          | true =>
            have hst := hmk.stored k (.int .u8 84)
            rw [show (Value.int .u8 84) = .int .u8 ((84 : UInt8).toNat : Int) from rfl, ← Bys_set] at hst
            have HS : Hid (Mk (wr.setCell ⟨w.heap.size, k, none⟩ (.int .u8 84)) w.heap.size s.size (Bys (l.set k 84))) := hst
            have HB : Hid _ := hbel.setCell (p := ⟨w.heap.size, k, none⟩) (Nat.le_refl _) (.int .u8 84)
            have HT2 : Hid _ := HT.out.turn (c := 84) (by simpa using hlt) (.inr (.inl ⟨htop, UInt8.toNat_inj.1 (by have h := h67; rw [beq_iff_eq] at h; have h' : (s.data[k].toNat : Int) = 67 := h; simp; omega), rfl⟩))
            have hd : ((n == 1) = true) ∨ ((n == 1) = false ∧ (n == 3) = true) := by
              unfold Lt.topB at htop
              cases h1 : (n == 1)
              · exact .inr ⟨rfl, by simpa [h1] using htop⟩
              · exact .inl rfl
            have h24 : (n == 2) = false ∧ (n == 4) = false := by
              rw [beq_eq_false_iff_ne, beq_eq_false_iff_ne]
              rcases hd with h | ⟨_, h⟩ <;> (rw [beq_iff_eq] at h; omega)
            obtain ⟨n2, n4⟩ := h24
            clear HT hst hmk hbel htop hn
            rcases hd with n1 | ⟨n1, n3⟩
            all_goals
              go_wp2
              go_roundw
              case rel => exact ⟨k + 1, _, by omega, by go_num, HT2.out, HS.out, HB.out⟩
              case measure => simp [intOf]; omega
          | false =>
            have HT2 : Hid _ := HT.out.skip
            have hd : ((n == 1) = true) ∨ ((n == 1) = false ∧ (n == 3) = true) := by
              unfold Lt.topB at htop
              cases h1 : (n == 1)
              · exact .inr ⟨rfl, by simpa [h1] using htop⟩
              · exact .inl rfl
            have h24 : (n == 2) = false ∧ (n == 4) = false := by
              rw [beq_eq_false_iff_ne, beq_eq_false_iff_ne]
              rcases hd with h | ⟨_, h⟩ <;> (rw [beq_iff_eq] at h; omega)
            obtain ⟨n2, n4⟩ := h24
            clear HT htop hn
            rcases hd with n1 | ⟨n1, n3⟩
            all_goals
              go_wp2
              go_roundw
              case rel => exact ⟨k + 1, l, by omega, by go_num, HT2.out, hmk, hbel⟩
              case measure => simp [intOf]; omega
        · have htop' : Lt.topB n = false := by simpa using htop
          have hd : (n == 1) = false ∧ (n == 3) = false := by
            unfold Lt.topB at htop'
            exact Bool.or_eq_false_iff.1 htop'
          have he : ((n == 2) = true) ∨ ((n == 2) = false ∧ (n == 4) = true) := by
            rcases Pa.strand_cases hn with h | h | h | h
            · rw [h] at hd; simp at hd
            · left; rw [h]; rfl
            · rw [h] at hd; simp at hd
            · right; rw [h]; exact ⟨rfl, rfl⟩
          obtain ⟨n1, n3⟩ := hd
          cases h71 : ((s[k].toNat : Int) == 71) with
          | true =>
            have hst := hmk.stored k (.int .u8 65)
            rw [show (Value.int .u8 65) = .int .u8 ((65 : UInt8).toNat : Int) from rfl, ← Bys_set] at hst
            have HS : Hid (Mk (wr.setCell ⟨w.heap.size, k, none⟩ (.int .u8 65)) w.heap.size s.size (Bys (l.set k 65))) := hst
            have HB : Hid _ := hbel.setCell (p := ⟨w.heap.size, k, none⟩) (Nat.le_refl _) (.int .u8 65)
            have HT2 : Hid _ := HT.out.turn (c := 65) (by simpa using hlt) (.inr (.inr ⟨htop', UInt8.toNat_inj.1 (by have h := h71; rw [beq_iff_eq] at h; have h' : (s.data[k].toNat : Int) = 71 := h; simp; omega), rfl⟩))
            clear HT hst hmk hbel htop htop' hn
            rcases he with n2 | ⟨n2, n4⟩
            all_goals
              go_wp2
              go_roundw
              case rel => exact ⟨k + 1, _, by omega, by go_num, HT2.out, HS.out, HB.out⟩
              case measure => simp [intOf]; omega
          | false =>
            have HT2 : Hid _ := HT.out.skip
            clear HT htop htop' hn
            rcases he with n2 | ⟨n2, n4⟩
            all_goals
              go_wp2
              go_roundw
              case rel => exact ⟨k + 1, l, by omega, by go_num, HT2.out, hmk, hbel⟩
              case measure => simp [intOf]; omega
    · have hback := Mk.back (cap := cap) (l := l) (by rw [HLL.out]; exact hmk)
      rw [HLL.out] at hback
      have HF : Hid _ := HT.out.bl
      have HBB : Hid _ := hbel
      clear HT hmk hbel HLL
      by_cases hlt : k < s.size
      · have hr0 : r.size = 0 := by omega
        have hr1 : ¬ (0 : Int) < (r.size : Int) := by omega
        have hlt' : (k : Int) < (s.size : Int) := by omega
        clear hgo hr0
        go_wp2
        go_ret
        exact ⟨l, rfl, HF.out, HBB.out⟩
      · have hlt' : ¬ (k : Int) < (s.size : Int) := by omega
        clear hgo
        go_wp2
        go_ret
        exact ⟨l, rfl, HF.out, HBB.out⟩

end Go.Proofs.Ytjebhbopmfcopaa
