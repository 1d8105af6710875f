/-
  THE DOCUMENT'S New: its error. Own text of the verifier.
-/
import Derived.Test.YtjebhbopmfcopaaGreatDoorSeFind
namespace Go.Proofs.YtjebhbopmfcopaaGreatDoor
open Go.RowKit

/-- a contig that may not be -/
def Se.wrong (c : Pr) : Bool := !Lt.allL c.2 || c.2.length == 0
def Se.total : List Pr → Nat
  | [] => 0
  | c :: r => c.2.length + Se.total r
/-- New's error -/
def Se.newErr (cs : List Pr) : Int := if cs.length = 0 then 2 else if cs.any Se.wrong = true then 2 else if 16 < cs.length then 4 else if 4096 < Se.total cs then 4 else 0

theorem Se.total_append (a b : List Pr) : Se.total (a ++ b) = Se.total a + Se.total b := by
  induction a with
  | nil => simp [Se.total]
  | cons c a ih => simp only [List.cons_append, Se.total, ih]; omega
theorem Se.total_take (cs : List Pr) (k : Nat) (h : k < cs.length) : Se.total (cs.take (k + 1)) = Se.total (cs.take k) + cs[k].2.length := by
  rw [List.take_succ_eq_append_getElem h, Se.total_append]
  simp [Se.total]
theorem Se.total_le (N : Nat) : ∀ (cs : List Pr), (∀ x ∈ cs, x.2.length ≤ N) → Se.total cs ≤ cs.length * N := by
  intro cs
  induction cs with
  | nil => intro _; simp [Se.total]
  | cons c r ih =>
    intro h
    have h1 := h c (List.mem_cons_self ..)
    have h2 := ih (fun x hx => h x (List.mem_cons_of_mem _ hx))
    simp only [Se.total, List.length_cons, Nat.succ_mul]
    omega
theorem Se.any_take (cs : List Pr) (k : Nat) (h : k < cs.length) (h0 : (cs.take k).any Se.wrong = false) (h1 : Se.wrong cs[k] = false) : (cs.take (k + 1)).any Se.wrong = false := by
  rw [List.take_succ_eq_append_getElem h, List.any_append, h0]
  simp [h1]
theorem Se.any_at (cs : List Pr) (k : Nat) (h : k < cs.length) (h1 : Se.wrong cs[k] = true) : cs.any Se.wrong = true := List.any_eq_true.2 ⟨cs[k], List.getElem_mem _, h1⟩

set_option maxRecDepth 100000 in
set_option maxHeartbeats 4000000 in
theorem refNew_nil (w : World) (c : Nat) (ao : Option Addr) : Calls Tryz.prog 112 #[.slice ao 0 c] w fun e w' => e = .returned (.int .i64 2) ∧ w' = w := by
  go_enter Tryz.func112, Tryz.ntmps112
  go_wp2
  go_ret
  exact ⟨rfl, rfl⟩

set_option maxRecDepth 100000 in
set_option maxHeartbeats 1600000 in
theorem refNew_row (cs : List Pr) (ad : Addr) (cc : Nat) (w : World) (hc : cs.length ≤ 140737488355327) (hN : ∀ x ∈ cs, x.2.length ≤ 140737488355327)
    (hsrc : ∀ j u, (Prs cs)[j]? = some u → w.cell? (ad.add j) = some u) (hpos : 0 < cs.length) :
    Calls Tryz.prog 112 #[.slice (some ad) cs.length cc] w fun e w' => e = .returned (.int .i64 (Se.newErr cs)) ∧ w' = w := by
  obtain ⟨E, hE⟩ : ∃ E, E = Se.newErr cs := ⟨_, rfl⟩
  rw [← hE]
  have HE : Hid _ := hE
  have HSRC : Hid _ := hsrc
  have HN : Hid _ := hN
  clear hE hsrc hN
  have hp' : ((cs.length : Int) == 0) = false := by rw [beq_eq_false_iff_ne]; omega
  go_enter Tryz.func112, Tryz.ntmps112
  go_wp2
  clear hp'
  go_loop [3, 4] (fun t i => ∃ (k : Nat) (x : Int), k ≤ cs.length ∧ i = .int .i64 (k : Int) ∧ t = .int .i64 x ∧ Hid (k ≤ 16 → x = (Se.total (cs.take k) : Nat)) ∧ Hid ((cs.take k).any Se.wrong = false)) (fun _ i => cs.length - (intOf i).toNat)
  case atStart => exact ⟨0, 0, Nat.zero_le _, rfl, rfl, fun _ => by simp [Se.total], by simp [Hid]⟩
  case round =>
    obtain ⟨k, x, hk, rfl, rfl, HX, HA⟩ := hrel
    by_cases hlt : k < cs.length
    · have hlt' : (k : Int) < (cs.length : Int) := by omega
      have hcell2 : w.cell? ⟨(ad.add (k * 2)).block, (ad.add (k * 2)).off + 1, none⟩ = some (.string ⟨cs[k].2.toArray⟩) := by rw [addr_next]; exact src_pair HSRC.out k hlt
      have HTT : Hid _ := Se.total_take cs k hlt
      have HAT : Hid _ := Se.any_take cs k hlt HA.out
      have HAA : Hid _ := Se.any_at cs k hlt
      have hcN : cs[k].2.length ≤ 140737488355327 := HN.out _ (List.getElem_mem _)
      have HTL : Hid (Se.total (cs.take k) ≤ k * 140737488355327) := by
        have h1 := Se.total_le 140737488355327 (cs.take k) (fun x hx => HN.out x (List.mem_of_mem_take hx))
        rw [List.length_take, Nat.min_eq_left (by omega)] at h1
        exact h1
      clear HA
      obtain ⟨y, hy⟩ : ∃ y : Pr, y = cs[k] := ⟨_, rfl⟩
      rw [← hy] at hcell2 HTT HAT HAA hcN
      clear hy
      have hsz : (⟨y.2.toArray⟩ : ByteArray).size = y.2.length := by simp [ByteArray.size]
      have hsm : (⟨y.2.toArray⟩ : ByteArray).size ≤ maxLen := by rw [hsz]; unfold maxLen; omega
      have hW : Se.wrong y = (!Lt.allL y.2 || y.2.length == 0) := rfl
      have HW : Hid _ := hW
      clear hW
      cases hL : Lt.allL y.2 with
      | false =>
        have HL : Hid _ := hL
        have HR : Hid (E = 2) := by show _ = _; rw [HE.out, Se.newErr, if_neg (by omega), if_pos (HAA.out (by rw [HW.out, hL]; rfl))]
        clear hL HAT HTT HAA HX
        go_wp2_with (go_at_call 100; refine (plain_any _ _ hsm).mono ?_; rintro e w' ⟨rfl, hw⟩; subst w'; rw [HL.out])
        go_ret
        exact ⟨ret_int HR.out.symm, rfl⟩
      | true =>
        have HL : Hid _ := hL
        by_cases h0 : y.2.length = 0
        · have HR : Hid (E = 2) := by show _ = _; rw [HE.out, Se.newErr, if_neg (by omega), if_pos (HAA.out (by rw [HW.out, hL, h0]; rfl))]
          have hie : y.2.isEmpty = true := by simpa using h0
          clear hL HAT HTT HAA HX h0
          go_wp2_with (go_at_call 100; refine (plain_any _ _ hsm).mono ?_; rintro e w' ⟨rfl, hw⟩; subst w'; rw [HL.out])
          go_ret
          exact ⟨ret_int HR.out.symm, rfl⟩
        · have hie : y.2.isEmpty = false := by simpa using h0
          have HAT2 : Hid _ := HAT.out (by rw [HW.out, hL]; simpa using h0)
          clear hL HAT HAA h0
          by_cases h16 : k < 16
          · obtain ⟨T, hT⟩ : ∃ T, T = Se.total (cs.take k) := ⟨_, rfl⟩
            have hx : x = (T : Int) := by rw [hT]; exact HX.out (by omega)
            have hTl : T ≤ 16 * 140737488355327 := by
              rw [hT]
              refine Nat.le_trans HTL.out (Nat.mul_le_mul_right _ (by omega))
            rw [← hT] at HTT
            subst hx
            clear hT HX HTL
            go_wp2_with (go_at_call 100; refine (plain_any _ _ hsm).mono ?_; rintro e w' ⟨rfl, hw⟩; subst w'; rw [HL.out])
            go_round
            case rel => exact ⟨k + 1, _, by omega, by go_num, rfl, fun _ => by rw [HTT.out]; simp, HAT2.out⟩
            case measure => simp [intOf]; omega
          · clear HX HTL HTT
            go_wp2_with (go_at_call 100; refine (plain_any _ _ hsm).mono ?_; rintro e w' ⟨rfl, hw⟩; subst w'; rw [HL.out])
            go_round
            case rel => exact ⟨k + 1, _, by omega, by go_num, rfl, fun h => absurd h (by omega), HAT2.out⟩
            case measure => simp [intOf]; omega
    · have hke : k = cs.length := by omega
      have hlt' : ¬ (k : Int) < (cs.length : Int) := by omega
      have HA2 : Hid (cs.any Se.wrong = false) := by have := HA.out; rw [hke, List.take_length] at this; exact this
      have HX2 : Hid (cs.length ≤ 16 → x = (Se.total cs : Nat)) := by have := HX.out; rw [hke, List.take_length] at this; exact this
      clear HA HX hke
      by_cases h16 : 16 < cs.length
      · have HR : Hid (E = 4) := by show _ = _; rw [HE.out, Se.newErr, if_neg (by omega), if_neg (by rw [HA2.out]; simp), if_pos h16]
        have h16' : (16 : Int) < (cs.length : Int) := by omega
        go_wp2
        go_ret
        exact ⟨ret_int HR.out.symm, rfl⟩
      · have h16' : ¬ (16 : Int) < (cs.length : Int) := by omega
        have hx := HX2.out (by omega)
        by_cases h4 : 4096 < Se.total cs
        · have HR : Hid (E = 4) := by show _ = _; rw [HE.out, Se.newErr, if_neg (by omega), if_neg (by rw [HA2.out]; simp), if_neg h16, if_pos h4]
          have h4' : (4096 : Int) < x := by omega
          clear hx
          go_wp2
          go_ret
          exact ⟨ret_int HR.out.symm, rfl⟩
        · have HR : Hid (E = 0) := by show _ = _; rw [HE.out, Se.newErr, if_neg (by omega), if_neg (by rw [HA2.out]; simp), if_neg h16, if_neg h4]
          have h4' : ¬ (4096 : Int) < x := by omega
          clear hx
          go_wp2
          go_ret
          exact ⟨ret_int HR.out.symm, rfl⟩

end Go.Proofs.YtjebhbopmfcopaaGreatDoor
