/-
  THE WALKS of the program's verdictOf and strandOf. Own text of the verifier.
  THE DOCUMENT'S Align, its small walks: letters along the reference, mismatches. Own text of the verifier.
  THE DOCUMENT'S Align: what follows a place, and the call of a position. Own text of the verifier.
  THE DOCUMENT'S Align: the letter of a call. Own text of the verifier.
-/
import Derived.Test.YtfcbgfomhmcikaaGreatDoorBun8
import Derived.Test.YtfcbgfomhmcikaaGreatDoorBun10
import Derived.BigQuiet
import Derived.Deep.RegionWith
namespace Go.Proofs.YtfcbgfomhmcikaaGreatDoor
open Go.RowKit

/-- the verdict that a word names -/
def Ln.vo (y : List UInt8) : Int := if (([117, 110, 109, 97, 112, 112, 101, 100] : List UInt8) == y) = true then 0 else if (([97, 108, 105, 103, 110, 101, 100] : List UInt8) == y) = true then 1 else if (([97, 109, 98, 105, 103, 117, 111, 117, 115] : List UInt8) == y) = true then 2 else -1
/-- the strand that a word names -/
def Ln.so (y : List UInt8) : Int := if (([] : List UInt8) == y) = true then 0 else if (([79, 84] : List UInt8) == y) = true then 1 else if (([79, 66] : List UInt8) == y) = true then 2 else if (([67, 84, 79, 84] : List UInt8) == y) = true then 3 else if (([67, 84, 79, 66] : List UInt8) == y) = true then 4 else 0

/-- none of the first k words is it -/
def Ln.noV (y : List UInt8) (k : Nat) : Prop := (0 < k → (([117, 110, 109, 97, 112, 112, 101, 100] : List UInt8) == y) = false) ∧ (1 < k → (([97, 108, 105, 103, 110, 101, 100] : List UInt8) == y) = false) ∧ (2 < k → (([97, 109, 98, 105, 103, 117, 111, 117, 115] : List UInt8) == y) = false)
/-- none of the first k words is it -/
def Ln.noS (y : List UInt8) (k : Nat) : Prop := (0 < k → (([] : List UInt8) == y) = false) ∧ (1 < k → (([79, 84] : List UInt8) == y) = false) ∧ (2 < k → (([79, 66] : List UInt8) == y) = false) ∧ (3 < k → (([67, 84, 79, 84] : List UInt8) == y) = false) ∧ (4 < k → (([67, 84, 79, 66] : List UInt8) == y) = false)
theorem ix_verdictOf0 (wy : World) : (Instr.index 151 (.agg #[.string ⟨#[117, 110, 109, 97, 112, 112, 101, 100]⟩, .string ⟨#[97, 108, 105, 103, 110, 101, 100]⟩, .string ⟨#[97, 109, 98, 105, 103, 117, 111, 117, 115]⟩]) (.int .i64 0)).run Tryz.prog wy = .ok (.string ⟨#[117, 110, 109, 97, 112, 112, 101, 100]⟩) wy := by
  first | kernel_rfl | go_simp
theorem ix_verdictOf1 (wy : World) : (Instr.index 151 (.agg #[.string ⟨#[117, 110, 109, 97, 112, 112, 101, 100]⟩, .string ⟨#[97, 108, 105, 103, 110, 101, 100]⟩, .string ⟨#[97, 109, 98, 105, 103, 117, 111, 117, 115]⟩]) (.int .i64 1)).run Tryz.prog wy = .ok (.string ⟨#[97, 108, 105, 103, 110, 101, 100]⟩) wy := by
  first | kernel_rfl | go_simp
theorem ix_verdictOf2 (wy : World) : (Instr.index 151 (.agg #[.string ⟨#[117, 110, 109, 97, 112, 112, 101, 100]⟩, .string ⟨#[97, 108, 105, 103, 110, 101, 100]⟩, .string ⟨#[97, 109, 98, 105, 103, 117, 111, 117, 115]⟩]) (.int .i64 2)).run Tryz.prog wy = .ok (.string ⟨#[97, 109, 98, 105, 103, 117, 111, 117, 115]⟩) wy := by
  first | kernel_rfl | go_simp
theorem ix_strandOf0 (wy : World) : (Instr.index 152 (.agg #[.string ⟨#[]⟩, .string ⟨#[79, 84]⟩, .string ⟨#[79, 66]⟩, .string ⟨#[67, 84, 79, 84]⟩, .string ⟨#[67, 84, 79, 66]⟩]) (.int .i64 0)).run Tryz.prog wy = .ok (.string ⟨#[]⟩) wy := by
  first | kernel_rfl | go_simp
theorem ix_strandOf1 (wy : World) : (Instr.index 152 (.agg #[.string ⟨#[]⟩, .string ⟨#[79, 84]⟩, .string ⟨#[79, 66]⟩, .string ⟨#[67, 84, 79, 84]⟩, .string ⟨#[67, 84, 79, 66]⟩]) (.int .i64 1)).run Tryz.prog wy = .ok (.string ⟨#[79, 84]⟩) wy := by
  first | kernel_rfl | go_simp
theorem ix_strandOf2 (wy : World) : (Instr.index 152 (.agg #[.string ⟨#[]⟩, .string ⟨#[79, 84]⟩, .string ⟨#[79, 66]⟩, .string ⟨#[67, 84, 79, 84]⟩, .string ⟨#[67, 84, 79, 66]⟩]) (.int .i64 2)).run Tryz.prog wy = .ok (.string ⟨#[79, 66]⟩) wy := by
  first | kernel_rfl | go_simp
theorem ix_strandOf3 (wy : World) : (Instr.index 152 (.agg #[.string ⟨#[]⟩, .string ⟨#[79, 84]⟩, .string ⟨#[79, 66]⟩, .string ⟨#[67, 84, 79, 84]⟩, .string ⟨#[67, 84, 79, 66]⟩]) (.int .i64 3)).run Tryz.prog wy = .ok (.string ⟨#[67, 84, 79, 84]⟩) wy := by
  first | kernel_rfl | go_simp
theorem ix_strandOf4 (wy : World) : (Instr.index 152 (.agg #[.string ⟨#[]⟩, .string ⟨#[79, 84]⟩, .string ⟨#[79, 66]⟩, .string ⟨#[67, 84, 79, 84]⟩, .string ⟨#[67, 84, 79, 66]⟩]) (.int .i64 4)).run Tryz.prog wy = .ok (.string ⟨#[67, 84, 79, 66]⟩) wy := by
  first | kernel_rfl | go_simp

set_option maxRecDepth 100000 in
set_option maxHeartbeats 800000 in
theorem verdictOf_any (y : List UInt8) (w : World) (hG : LnG w) :
    Calls Tryz.prog 132 #[.string ⟨y.toArray⟩] w fun e w' => e = .returned (.int .i64 (Ln.vo y)) ∧ w' = w := by
  have c0 : w.cell? ⟨0, 0, none⟩ = some (.string ⟨#[117, 110, 109, 97, 112, 112, 101, 100]⟩) := hG.vd 0 (by omega)
  have c1 : w.cell? ⟨0, 1, none⟩ = some (.string ⟨#[97, 108, 105, 103, 110, 101, 100]⟩) := hG.vd 1 (by omega)
  have c2 : w.cell? ⟨0, 2, none⟩ = some (.string ⟨#[97, 109, 98, 105, 103, 117, 111, 117, 115]⟩) := hG.vd 2 (by omega)
  obtain ⟨V, hV⟩ : ∃ V, V = Ln.vo y := ⟨_, rfl⟩
  rw [← hV]
  have HV : Hid _ := hV
  clear hV hG
  have i0 := ix_verdictOf0
  have i1 := ix_verdictOf1
  have i2 := ix_verdictOf2
  go_enter Tryz.func132, Tryz.ntmps132
  go_wp2
  go_loop [6] (fun i => ∃ k : Nat, k ≤ 3 ∧ i = .int .i64 (k : Int) ∧ Hid (Ln.noV y k)) (fun i => 3 - (intOf i).toNat)
  case atStart => exact ⟨0, by omega, rfl, by simp [Hid, Ln.noV]⟩
  case round =>
    obtain ⟨k, hk, rfl, HA⟩ := hrel
    obtain rfl | rfl | rfl | rfl : k = 0 ∨ k = 1 ∨ k = 2 ∨ k = 3 := by omega
    · cases hy : (([117, 110, 109, 97, 112, 112, 101, 100] : List UInt8) == y) with
      | true =>
        have HF : Hid (V = 0) := by
          show _ = _
          rw [HV.out]
          unfold Ln.vo
          rw [if_pos hy]
        clear HA
        go_wp2
        go_ret
        exact ⟨ret_int HF.out.symm, rfl⟩
      | false =>
        have HB : Hid (Ln.noV y 1) := ⟨fun _ => hy, fun h => absurd h (by omega), fun h => absurd h (by omega)⟩
        clear HA
        go_wp2
        go_round
        case rel => exact ⟨1, by omega, by go_num, HB.out⟩
        case measure => simp [intOf]
    · cases hy : (([97, 108, 105, 103, 110, 101, 100] : List UInt8) == y) with
      | true =>
        have HF : Hid (V = 1) := by
          show _ = _
          rw [HV.out]
          unfold Ln.vo
          rw [if_neg (by rw [HA.out.1 (by omega)]; simp)]
          rw [if_pos hy]
        clear HA
        go_wp2
        go_ret
        exact ⟨ret_int HF.out.symm, rfl⟩
      | false =>
        have HB : Hid (Ln.noV y 2) := ⟨fun _ => HA.out.1 (by omega), fun _ => hy, fun h => absurd h (by omega)⟩
        clear HA
        go_wp2
        go_round
        case rel => exact ⟨2, by omega, by go_num, HB.out⟩
        case measure => simp [intOf]
    · cases hy : (([97, 109, 98, 105, 103, 117, 111, 117, 115] : List UInt8) == y) with
      | true =>
        have HF : Hid (V = 2) := by
          show _ = _
          rw [HV.out]
          unfold Ln.vo
          rw [if_neg (by rw [HA.out.1 (by omega)]; simp)]
          rw [if_neg (by rw [HA.out.2.1 (by omega)]; simp)]
          rw [if_pos hy]
        clear HA
        go_wp2
        go_ret
        exact ⟨ret_int HF.out.symm, rfl⟩
      | false =>
        have HB : Hid (Ln.noV y 3) := ⟨fun _ => HA.out.1 (by omega), fun _ => HA.out.2.1 (by omega), fun _ => hy⟩
        clear HA
        go_wp2
        go_round
        case rel => exact ⟨3, by omega, by go_num, HB.out⟩
        case measure => simp [intOf]
    · have HF : Hid (V = -1) := by
        show _ = _
        rw [HV.out]
        unfold Ln.vo
        rw [if_neg (by rw [HA.out.1 (by omega)]; simp), if_neg (by rw [HA.out.2.1 (by omega)]; simp), if_neg (by rw [HA.out.2.2 (by omega)]; simp)]
      clear HA
      go_wp2
      go_ret
      exact ⟨ret_int HF.out.symm, rfl⟩

set_option maxRecDepth 100000 in
set_option maxHeartbeats 800000 in
theorem strandOf_any (y : List UInt8) (w : World) (hG : LnG w) :
    Calls Tryz.prog 134 #[.string ⟨y.toArray⟩] w fun e w' => e = .returned (.int .i64 (Ln.so y)) ∧ w' = w := by
  have c0 : w.cell? ⟨1, 0, none⟩ = some (.string ⟨#[]⟩) := hG.s0
  have c1 : w.cell? ⟨1, 1, none⟩ = some (.string ⟨#[79, 84]⟩) := hG.sd 1 (by omega) (by omega)
  have c2 : w.cell? ⟨1, 2, none⟩ = some (.string ⟨#[79, 66]⟩) := hG.sd 2 (by omega) (by omega)
  have c3 : w.cell? ⟨1, 3, none⟩ = some (.string ⟨#[67, 84, 79, 84]⟩) := hG.sd 3 (by omega) (by omega)
  have c4 : w.cell? ⟨1, 4, none⟩ = some (.string ⟨#[67, 84, 79, 66]⟩) := hG.sd 4 (by omega) (by omega)
  obtain ⟨V, hV⟩ : ∃ V, V = Ln.so y := ⟨_, rfl⟩
  rw [← hV]
  have HV : Hid _ := hV
  clear hV hG
  have i0 := ix_strandOf0
  have i1 := ix_strandOf1
  have i2 := ix_strandOf2
  have i3 := ix_strandOf3
  have i4 := ix_strandOf4
  go_enter Tryz.func134, Tryz.ntmps134
  go_wp2
  go_loop [6] (fun i => ∃ k : Nat, k ≤ 5 ∧ i = .int .i64 (k : Int) ∧ Hid (Ln.noS y k)) (fun i => 5 - (intOf i).toNat)
  case atStart => exact ⟨0, by omega, rfl, by simp [Hid, Ln.noS]⟩
  case round =>
    obtain ⟨k, hk, rfl, HA⟩ := hrel
    obtain rfl | rfl | rfl | rfl | rfl | rfl : k = 0 ∨ k = 1 ∨ k = 2 ∨ k = 3 ∨ k = 4 ∨ k = 5 := by omega
    · cases hy : (([] : List UInt8) == y) with
      | true =>
        have HF : Hid (V = 0) := by
          show _ = _
          rw [HV.out]
          unfold Ln.so
          rw [if_pos hy]
        clear HA
        go_wp2
        go_ret
        exact ⟨ret_int HF.out.symm, rfl⟩
      | false =>
        have HB : Hid (Ln.noS y 1) := ⟨fun _ => hy, fun h => absurd h (by omega), fun h => absurd h (by omega), fun h => absurd h (by omega), fun h => absurd h (by omega)⟩
        clear HA
        go_wp2
        go_round
        case rel => exact ⟨1, by omega, by go_num, HB.out⟩
        case measure => simp [intOf]
    · cases hy : (([79, 84] : List UInt8) == y) with
      | true =>
        have HF : Hid (V = 1) := by
          show _ = _
          rw [HV.out]
          unfold Ln.so
          rw [if_neg (by rw [HA.out.1 (by omega)]; simp)]
          rw [if_pos hy]
        clear HA
        go_wp2
        go_ret
        exact ⟨ret_int HF.out.symm, rfl⟩
      | false =>
        have HB : Hid (Ln.noS y 2) := ⟨fun _ => HA.out.1 (by omega), fun _ => hy, fun h => absurd h (by omega), fun h => absurd h (by omega), fun h => absurd h (by omega)⟩
        clear HA
        go_wp2
        go_round
        case rel => exact ⟨2, by omega, by go_num, HB.out⟩
        case measure => simp [intOf]
    · cases hy : (([79, 66] : List UInt8) == y) with
      | true =>
        have HF : Hid (V = 2) := by
          show _ = _
          rw [HV.out]
          unfold Ln.so
          rw [if_neg (by rw [HA.out.1 (by omega)]; simp)]
          rw [if_neg (by rw [HA.out.2.1 (by omega)]; simp)]
          rw [if_pos hy]
        clear HA
        go_wp2
        go_ret
        exact ⟨ret_int HF.out.symm, rfl⟩
      | false =>
        have HB : Hid (Ln.noS y 3) := ⟨fun _ => HA.out.1 (by omega), fun _ => HA.out.2.1 (by omega), fun _ => hy, fun h => absurd h (by omega), fun h => absurd h (by omega)⟩
        clear HA
        go_wp2
        go_round
        case rel => exact ⟨3, by omega, by go_num, HB.out⟩
        case measure => simp [intOf]
    · cases hy : (([67, 84, 79, 84] : List UInt8) == y) with
      | true =>
        have HF : Hid (V = 3) := by
          show _ = _
          rw [HV.out]
          unfold Ln.so
          rw [if_neg (by rw [HA.out.1 (by omega)]; simp)]
          rw [if_neg (by rw [HA.out.2.1 (by omega)]; simp)]
          rw [if_neg (by rw [HA.out.2.2.1 (by omega)]; simp)]
          rw [if_pos hy]
        clear HA
        go_wp2
        go_ret
        exact ⟨ret_int HF.out.symm, rfl⟩
      | false =>
        have HB : Hid (Ln.noS y 4) := ⟨fun _ => HA.out.1 (by omega), fun _ => HA.out.2.1 (by omega), fun _ => HA.out.2.2.1 (by omega), fun _ => hy, fun h => absurd h (by omega)⟩
        clear HA
        go_wp2
        go_round
        case rel => exact ⟨4, by omega, by go_num, HB.out⟩
        case measure => simp [intOf]
    · cases hy : (([67, 84, 79, 66] : List UInt8) == y) with
      | true =>
        have HF : Hid (V = 4) := by
          show _ = _
          rw [HV.out]
          unfold Ln.so
          rw [if_neg (by rw [HA.out.1 (by omega)]; simp)]
          rw [if_neg (by rw [HA.out.2.1 (by omega)]; simp)]
          rw [if_neg (by rw [HA.out.2.2.1 (by omega)]; simp)]
          rw [if_neg (by rw [HA.out.2.2.2.1 (by omega)]; simp)]
          rw [if_pos hy]
        clear HA
        go_wp2
        go_ret
        exact ⟨ret_int HF.out.symm, rfl⟩
      | false =>
        have HB : Hid (Ln.noS y 5) := ⟨fun _ => HA.out.1 (by omega), fun _ => HA.out.2.1 (by omega), fun _ => HA.out.2.2.1 (by omega), fun _ => HA.out.2.2.2.1 (by omega), fun _ => hy⟩
        clear HA
        go_wp2
        go_round
        case rel => exact ⟨5, by omega, by go_num, HB.out⟩
        case measure => simp [intOf]
    · have HF : Hid (V = 0) := by
        show _ = _
        rw [HV.out]
        unfold Ln.so
        rw [if_neg (by rw [HA.out.1 (by omega)]; simp), if_neg (by rw [HA.out.2.1 (by omega)]; simp), if_neg (by rw [HA.out.2.2.1 (by omega)]; simp), if_neg (by rw [HA.out.2.2.2.1 (by omega)]; simp), if_neg (by rw [HA.out.2.2.2.2 (by omega)]; simp)]
      clear HA
      go_wp2
      go_ret
      exact ⟨ret_int HF.out.symm, rfl⟩

end Go.Proofs.YtfcbgfomhmcikaaGreatDoor

namespace Go.Proofs.YtfcbgfomhmcikaaGreatDoor
open Go.RowKit

/-- a read's letters along the reference -/
def Al.along (s : List UInt8) (n : Int) : List UInt8 := if n == 2 || n == 3 then Lt.rev s else s

/-- a mismatch of a read's letter a with the reference's b -/
def Al.mm (n : Int) (a b : UInt8) : Bool := !(a == b && a != 78) && !((Lt.topB n && b == 67 && a == 84) || (!Lt.topB n && b == 71 && a == 65))
/-- the mismatches -/
def Al.mis (n : Int) : List UInt8 → List UInt8 → Nat
  | a :: s, b :: t => (if Al.mm n a b then 1 else 0) + Al.mis n s t
  | _, _ => 0

theorem Al.mis_take (n : Int) : ∀ (s t : List UInt8) (k : Nat) (h1 : k < s.length) (h2 : k < t.length), Al.mis n (s.take (k + 1)) (t.take (k + 1)) = Al.mis n (s.take k) (t.take k) + (if Al.mm n s[k] t[k] then 1 else 0) := by
  intro s
  induction s with
  | nil => intro t k h1; simp at h1
  | cons a s ih =>
    intro t k h1 h2
    cases t with
    | nil => simp at h2
    | cons b t =>
      cases k with
      | zero => simp [Al.mis]
      | succ k =>
        have := ih t k (by simpa using h1) (by simpa using h2)
        simp only [List.take_succ_cons, Al.mis, List.getElem_cons_succ] at this ⊢
        omega
theorem Al.mis_le (n : Int) : ∀ (s t : List UInt8), Al.mis n s t ≤ s.length := by
  intro s
  induction s with
  | nil => intro t; simp [Al.mis]
  | cons a s ih =>
    intro t
    cases t with
    | nil => simp [Al.mis]
    | cons b t => have := ih t; simp only [Al.mis, List.length_cons]; split <;> omega
theorem Al.mis_whole (n : Int) : ∀ (s t : List UInt8) (k : Nat), s.length ≤ k → Al.mis n (s.take k) (t.take k) = Al.mis n s t := by
  intro s
  induction s with
  | nil => intro t k _; simp [Al.mis]
  | cons a s ih =>
    intro t k h
    obtain ⟨k, rfl⟩ : ∃ j, k = j + 1 := ⟨k - 1, by simp at h; omega⟩
    cases t with
    | nil => simp [Al.mis]
    | cons b t => simp only [List.take_succ_cons, Al.mis]; rw [ih t k (by simpa using h)]

theorem u8_eqI (a b : UInt8) : (a == b) = ((a.toNat : Int) == (b.toNat : Int)) := by
  have e1 := u8_bne a b
  simp only [bne] at e1
  exact Bool.not_inj e1

theorem Al.mm_int (n : Int) (a b : UInt8) : Al.mm n a b = (!(((a.toNat : Int) == (b.toNat : Int)) && ((a.toNat : Int) != 78)) && !((Lt.topB n && ((b.toNat : Int) == 67) && ((a.toNat : Int) == 84)) || (!Lt.topB n && ((b.toNat : Int) == 71) && ((a.toNat : Int) == 65)))) := by
  unfold Al.mm
  rw [u8_eqI a b, u8_bne a 78, u8_eqI b 67, u8_eqI a 84, u8_eqI b 71, u8_eqI a 65]
  rfl

set_option maxRecDepth 100000 in
set_option maxHeartbeats 1600000 in
theorem mismatches_any (s t : ByteArray) (n : Int) (w : World) (hs : s.size ≤ 1000000) (ht : s.size ≤ t.size) (htm : t.size ≤ 140737488355327) :
    Calls Tryz.prog 96 #[.string s, .string t, .int .i64 n] w fun e w' => e = .returned (.int .i64 (Al.mis n s.data.toList t.data.toList : Nat)) ∧ ∃ m, w' = w.drewN m := by
  obtain ⟨TB, hTB⟩ : ∃ TB, TB = Lt.topB n := ⟨_, rfl⟩
  have HTC : Hid (∀ W : World, Calls Tryz.prog 73 #[.int .i64 n] W fun e w' => e = .returned (.bool TB) ∧ w' = W) := fun W => by rw [hTB]; exact top_any n W
  have HTB : Hid _ := hTB
  clear hTB
  go_enter Tryz.func96, Tryz.ntmps96
  go_wp2
  go_loopw [7, 8] (fun m i wr => ∃ k j : Nat, k ≤ s.size ∧ i = .int .i64 (k : Int) ∧ m = .int .i64 (j : Int) ∧ j ≤ k ∧ Hid (j = Al.mis n (s.data.toList.take k) (t.data.toList.take k)) ∧ Hid (∃ q, wr = w.drewN q)) (fun _ i _ => s.size - (intOf i).toNat)
  case atStart => exact ⟨0, 0, Nat.zero_le _, rfl, rfl, Nat.le_refl _, by simp [Al.mis, Hid], ⟨0, rfl⟩⟩
  case round =>
    obtain ⟨k, j, hk, rfl, rfl, hjk, HJ, HW⟩ := hrel
    by_cases hlt : k < s.size
    · have hlt2 : k < t.size := by omega
      have HT : Hid _ := Al.mis_take n s.data.toList t.data.toList k (by simpa using hlt) (by simpa using hlt2)
      have hi1 := ix_str s k hlt (k : Int) rfl
      have hi2 := ix_str t k hlt2 (k : Int) rfl
      have hlt' : (k : Int) < (s.size : Int) := by omega
      have hlt2' : (k : Int) < (t.size : Int) := by omega
      have HO : Hid _ := Al.mm_int n s[k] t[k]
      rw [← HTB.out] at HO
      cases h1 : ((s[k].toNat : Int) == (t[k].toNat : Int)) <;> cases h2 : ((s[k].toNat : Int) != 78) <;> cases h3 : TB
      all_goals
        have HOF : Hid _ := HO.out
        rw [h1, h2, h3] at HOF
        clear HO
        have HTC2 : Hid _ := HTC.out
        rw [h3] at HTC2
        go_wp2_with fail
        go_quiet (fail)
        go_wp2_with (go_at_call 73; refine (HTC2.out _).mono ?_; rintro e w' ⟨rfl, hw⟩; subst w')
        all_goals
          go_roundw
          case rel =>
            have e1 : Al.mm n s[k] t[k] = _ := HOF.out
            refine ⟨k + 1, j + (if Al.mm n s[k] t[k] then 1 else 0), by omega, by go_num, ?_, ?_, ?_, ?_⟩
            · rw [e1]; simp [*]
            · rw [e1]; split <;> omega
            · show j + _ = _
              rw [HT.out, ← HJ.out]
              rfl
            · obtain ⟨q, rfl⟩ := HW.out
              exact ⟨q + nq, by rw [drewN_more]⟩
          case measure => simp [intOf]; omega
    · have HF : Hid _ := Al.mis_whole n s.data.toList t.data.toList k (by simp; omega)
      have hlt' : ¬ (k : Int) < (s.size : Int) := by omega
      go_wp2
      go_ret
      exact ⟨ret_int (by rw [HJ.out, HF.out]), HW.out⟩

end Go.Proofs.YtfcbgfomhmcikaaGreatDoor

namespace Go.Proofs.YtfcbgfomhmcikaaGreatDoor
open Go.RowKit

set_option maxHeartbeats 800000 in
theorem along_any (s : ByteArray) (n : Int) (w : World) (hs : s.size ≤ 140737488355327) :
    Calls Tryz.prog 95 #[.string s, .int .i64 n] w fun e w' => e = .returned (.string ⟨(Al.along s.data.toList n).toArray⟩) ∧ Below w.heap.size w w' := by
  obtain ⟨R, hR⟩ : ∃ R, R = Al.along s.data.toList n := ⟨_, rfl⟩
  rw [← hR]
  unfold Al.along at hR
  cases h2 : (n == 2) <;> cases h3 : (n == 3)
  all_goals
    have HR : Hid (R = _) := hR
    rw [h2, h3] at HR
    clear hR
    have HC : Hid (∀ W : World, Calls Tryz.prog 38 #[.string s] W fun e w' => e = .returned (.string ⟨(Lt.rev s.data.toList).toArray⟩) ∧ Below W.heap.size W w') := fun W => refReverse_any s W hs
    go_enter Tryz.func95, Tryz.ntmps95
    first
      | (go_wp2_with (go_at_call 38; refine (HC.out _).mono ?_; rintro e w1 ⟨rfl, hb1⟩)
         go_ret
         exact ⟨by rw [HR.out]; rfl, hb1⟩)
      | (go_wp2
         go_ret
         exact ⟨by rw [HR.out]; rfl, Below.refl _ _⟩)

/-- is it A, C or T? -/
def Al.rest (c : UInt8) : Bool := c == 65 || c == 67 || c == 84

set_option maxHeartbeats 400000 in
theorem rest_any (c : UInt8) (w : World) :
    Calls Tryz.prog 138 #[.int .u8 (c.toNat : Int)] w fun e w' => e = .returned (.bool (Al.rest c)) ∧ w' = w := by
  obtain ⟨R, hR⟩ : ∃ R, R = Al.rest c := ⟨_, rfl⟩
  rw [← hR]
  have h : Al.rest c = (((c.toNat : Int) == 65) || ((c.toNat : Int) == 67) || ((c.toNat : Int) == 84)) := by unfold Al.rest; rw [u8_eqI c 65, u8_eqI c 67, u8_eqI c 84]; rfl
  rw [h] at hR
  clear h
  cases h1 : ((c.toNat : Int) == 65) <;> cases h2 : ((c.toNat : Int) == 67) <;> cases h3 : ((c.toNat : Int) == 84)
  all_goals
    have HR : Hid (R = _) := hR
    rw [h1, h2, h3] at HR
    clear hR
    go_enter Tryz.func138, Tryz.ntmps138
    go_wp2
    go_ret
    exact ⟨ret_bool (by rw [HR.out]; rfl), rfl⟩

/-- the k-th letter that follows a place; 0: there is none -/
def Al.next (n : Int) (t : List UInt8) (p k : Nat) : UInt8 :=
  if Lt.topB n then (match t[p + k]? with | some c => c | none => 0) else if p < k then 0 else (match t[p - k]? with | some c => Lt.comp c | none => 0)

set_option maxRecDepth 100000 in
set_option maxHeartbeats 800000 in
theorem next_any (t : ByteArray) (p k : Nat) (n : Int) (w : World) (ht : t.size ≤ 140737488355327) (hp : p < t.size) (hk : k ≤ 2) :
    Calls Tryz.prog 137 #[.string t, .int .i64 (p : Int), .int .i64 n, .int .i64 (k : Int)] w fun e w' => e = .returned (.int .u8 ((Al.next n t.data.toList p k).toNat : Int)) ∧ w' = w := by
  have hsz : t.data.toList.length = t.size := by simp
  have hat : ∀ i (h : i < t.size), t.data.toList[i]? = some t[i] := fun i h => by
    rw [List.getElem?_eq_getElem (by rw [hsz]; exact h)]; rfl
  obtain ⟨R, hR⟩ : ∃ R, R = Al.next n t.data.toList p k := ⟨_, rfl⟩
  rw [← hR]
  unfold Al.next at hR
  cases hT : Lt.topB n with
  | true =>
    have HTC : Hid (∀ W : World, Calls Tryz.prog 73 #[.int .i64 n] W fun e w' => e = .returned (.bool true) ∧ w' = W) := fun W => by rw [← hT]; exact top_any n W
    rw [hT, if_pos rfl] at hR
    have h0 : ¬ ((p : Int) + (k : Int)) < 0 := by omega
    by_cases hin : p + k < t.size
    · rw [hat _ hin] at hR
      have HR : Hid (R = t[p + k]) := hR
      have hi := ix_str t (p + k) hin ((p : Int) + (k : Int)) (by omega)
      have hin' : ¬ (t.size : Int) ≤ (p : Int) + (k : Int) := by omega
      have hin2 : (p : Int) + (k : Int) < (t.size : Int) := by omega
      clear hR hat hT
      go_enter Tryz.func137, Tryz.ntmps137
      go_wp2_with (go_at_call 73; refine (HTC.out _).mono ?_; rintro e w' ⟨rfl, hw⟩; subst w')
      go_ret
      exact ⟨ret_int (by rw [HR.out]), rfl⟩
    · rw [List.getElem?_eq_none (by rw [hsz]; omega)] at hR
      have HR : Hid (R = 0) := hR
      have hin' : (t.size : Int) ≤ (p : Int) + (k : Int) := by omega
      clear hR hat hT
      go_enter Tryz.func137, Tryz.ntmps137
      go_wp2_with (go_at_call 73; refine (HTC.out _).mono ?_; rintro e w' ⟨rfl, hw⟩; subst w')
      go_ret
      exact ⟨ret_int (by rw [HR.out]; rfl), rfl⟩
  | false =>
    have HTC : Hid (∀ W : World, Calls Tryz.prog 73 #[.int .i64 n] W fun e w' => e = .returned (.bool false) ∧ w' = W) := fun W => by rw [← hT]; exact top_any n W
    rw [hT, if_neg (by simp)] at hR
    by_cases hlow : p < k
    · rw [if_pos hlow] at hR
      have HR : Hid (R = 0) := hR
      have hin' : (p : Int) - (k : Int) < 0 := by omega
      clear hR hat hT
      go_enter Tryz.func137, Tryz.ntmps137
      go_wp2_with (go_at_call 73; refine (HTC.out _).mono ?_; rintro e w' ⟨rfl, hw⟩; subst w')
      go_ret
      exact ⟨ret_int (by rw [HR.out]; rfl), rfl⟩
    · rw [if_neg hlow, hat (p - k) (by omega)] at hR
      have HR : Hid (R = Lt.comp (t[p - k]'(by omega))) := hR
      have hi := ix_str t (p - k) (by omega) ((p : Int) - (k : Int)) (by omega)
      have hn0 : ¬ (p : Int) - (k : Int) < 0 := by omega
      have hin' : ¬ (t.size : Int) ≤ (p : Int) - (k : Int) := by omega
      have hin2 : (p : Int) - (k : Int) < (t.size : Int) := by omega
      clear hR hat hT
      go_enter Tryz.func137, Tryz.ntmps137
      go_wp2_with (first
        | (go_at_call 73; refine (HTC.out _).mono ?_; rintro e w' ⟨rfl, hw⟩; subst w')
        | (go_at_call 70; refine (other_any _ _).mono ?_; rintro e w' ⟨rfl, hw⟩; subst w'))
      go_ret
      exact ⟨ret_int (by rw [HR.out]), rfl⟩

end Go.Proofs.YtfcbgfomhmcikaaGreatDoor

namespace Go.Proofs.YtfcbgfomhmcikaaGreatDoor
open Go.RowKit

/-- the letter of a call, in lower case -/
def Al.follows (n : Int) (t : List UInt8) (p : Nat) : UInt8 :=
  if Al.next n t p 1 == 71 then 122 else if Al.rest (Al.next n t p 1) && Al.next n t p 2 == 71 then 120 else if Al.rest (Al.next n t p 1) && Al.rest (Al.next n t p 2) then 104 else 117

theorem Al.follows_cases (n : Int) (t : List UInt8) (p : Nat) : Al.follows n t p = 122 ∨ Al.follows n t p = 120 ∨ Al.follows n t p = 104 ∨ Al.follows n t p = 117 := by
  unfold Al.follows
  split
  · exact .inl rfl
  · split
    · exact .inr (.inl rfl)
    · split
      · exact .inr (.inr (.inl rfl))
      · exact .inr (.inr (.inr rfl))

set_option maxRecDepth 100000 in
set_option maxHeartbeats 800000 in
theorem follows_any (t : ByteArray) (p : Nat) (n : Int) (w : World) (ht : t.size ≤ 140737488355327) (hp : p < t.size) :
    Calls Tryz.prog 127 #[.string t, .int .i64 (p : Int), .int .i64 n] w fun e w' => e = .returned (.int .u8 ((Al.follows n t.data.toList p).toNat : Int)) ∧ w' = w := by
  obtain ⟨R, hR⟩ : ∃ R, R = Al.follows n t.data.toList p := ⟨_, rfl⟩
  rw [← hR]
  obtain ⟨A, hA⟩ : ∃ A, A = Al.next n t.data.toList p 1 := ⟨_, rfl⟩
  obtain ⟨B, hB⟩ : ∃ B, B = Al.next n t.data.toList p 2 := ⟨_, rfl⟩
  unfold Al.follows at hR
  rw [← hA, ← hB, u8_eqI A 71, u8_eqI B 71] at hR
  have HN1 : Hid (∀ W : World, Calls Tryz.prog 137 #[.string t, .int .i64 (p : Int), .int .i64 n, .int .i64 1] W fun e w' => e = .returned (.int .u8 (A.toNat : Int)) ∧ w' = W) := fun W => by rw [hA]; exact next_any t p 1 n W ht hp (by omega)
  have HN2 : Hid (∀ W : World, Calls Tryz.prog 137 #[.string t, .int .i64 (p : Int), .int .i64 n, .int .i64 2] W fun e w' => e = .returned (.int .u8 (B.toNat : Int)) ∧ w' = W) := fun W => by rw [hB]; exact next_any t p 2 n W ht hp (by omega)
  clear hA hB
  obtain ⟨RA, hRA⟩ : ∃ x, x = Al.rest A := ⟨_, rfl⟩
  obtain ⟨RB, hRB⟩ : ∃ x, x = Al.rest B := ⟨_, rfl⟩
  rw [← hRA, ← hRB] at hR
  have HR1 : Hid (∀ W : World, Calls Tryz.prog 138 #[.int .u8 (A.toNat : Int)] W fun e w' => e = .returned (.bool RA) ∧ w' = W) := fun W => by rw [hRA]; exact rest_any A W
  have HR2 : Hid (∀ W : World, Calls Tryz.prog 138 #[.int .u8 (B.toNat : Int)] W fun e w' => e = .returned (.bool RB) ∧ w' = W) := fun W => by rw [hRB]; exact rest_any B W
  have h71 : ((71 : UInt8).toNat : Int) = 71 := rfl
  rw [h71] at hR
  obtain ⟨a, ha⟩ : ∃ a : Int, a = (A.toNat : Int) := ⟨_, rfl⟩
  obtain ⟨b, hb⟩ : ∃ b : Int, b = (B.toNat : Int) := ⟨_, rfl⟩
  rw [← ha] at HN1 HR1 hR
  rw [← hb] at HN2 HR2 hR
  clear ha hb hRA hRB h71
  cases h1 : (a == 71) <;> cases h2 : (b == 71) <;> cases h3 : RA <;> cases h4 : RB
  all_goals
    have HR : Hid (R = _) := hR
    rw [h1, h2, h3, h4] at HR
    have HQ1 : Hid _ := HR1.out
    have HQ2 : Hid _ := HR2.out
    rw [h3] at HQ1
    rw [h4] at HQ2
    clear hR
    go_enter Tryz.func127, Tryz.ntmps127
    go_wp2_with (first
      | (go_at_call_of 137 (Value.int IntKind.i64 1); refine (HN1.out _).mono ?_; rintro e w' ⟨rfl, hw⟩; subst w')
      | (go_at_call 137; refine (HN2.out _).mono ?_; rintro e w' ⟨rfl, hw⟩; subst w')
      | (go_at_call_of 138 (Value.int IntKind.u8 a); refine (HQ1.out _).mono ?_; rintro e w' ⟨rfl, hw⟩; subst w')
      | (go_at_call 138; refine (HQ2.out _).mono ?_; rintro e w' ⟨rfl, hw⟩; subst w'))
    go_ret
    exact ⟨ret_int (by rw [HR.out]; rfl), rfl⟩

/-- the letter that a strand's treatment turns, and what it turns into -/
def Al.bare (n : Int) : UInt8 := if Lt.topB n then 67 else 71
def Al.gone (n : Int) : UInt8 := if Lt.topB n then 84 else 65
/-- the call of a position: the read's letter c, the contig's letters t -/
def Al.call (n : Int) (c : UInt8) (t : List UInt8) (p : Nat) : UInt8 :=
  if t[p]? ≠ some (Al.bare n) then 46 else if c = Al.bare n then Al.follows n t p - 32 else if c = Al.gone n then Al.follows n t p else 46

theorem follows_up (n : Int) (t : List UInt8) (p : Nat) : ((Al.follows n t p).toNat : Int) - 32 = ((Al.follows n t p - 32).toNat : Int) ∧ 32 ≤ ((Al.follows n t p).toNat : Int) := by
  rcases Al.follows_cases n t p with h | h | h | h <;> rw [h] <;> decide

set_option maxRecDepth 100000 in
set_option maxHeartbeats 800000 in
theorem call_any (c : UInt8) (t : ByteArray) (p : Nat) (n : Int) (w : World) (ht : t.size ≤ 140737488355327) (hp : p < t.size) :
    Calls Tryz.prog 97 #[.int .u8 (c.toNat : Int), .string t, .int .i64 (p : Int), .int .i64 n] w fun e w' => e = .returned (.int .u8 ((Al.call n c t.data.toList p).toNat : Int)) ∧ w' = w := by
  have hat : t.data.toList[p]? = some t[p] := by rw [List.getElem?_eq_getElem (by simpa using hp)]; rfl
  obtain ⟨R, hR⟩ : ∃ R, R = Al.call n c t.data.toList p := ⟨_, rfl⟩
  rw [← hR]
  unfold Al.call at hR
  rw [hat] at hR
  have hi := ix_str t p hp (p : Int) rfl
  have hp' : (p : Int) < (t.size : Int) := by omega
  obtain ⟨Fo, hFo⟩ : ∃ x, x = Al.follows n t.data.toList p := ⟨_, rfl⟩
  have hup := follows_up n t.data.toList p
  rw [← hFo] at hR hup
  have HFC : Hid (∀ W : World, Calls Tryz.prog 127 #[.string t, .int .i64 (p : Int), .int .i64 n] W fun e w' => e = .returned (.int .u8 (Fo.toNat : Int)) ∧ w' = W) := fun W => by rw [hFo]; exact follows_any t p n W ht hp
  clear hFo hat
  cases hT : Lt.topB n with
  | true =>
    have HTC : Hid (∀ W : World, Calls Tryz.prog 73 #[.int .i64 n] W fun e w' => e = .returned (.bool true) ∧ w' = W) := fun W => by rw [← hT]; exact top_any n W
    have HUC : Hid (∀ W : World, Calls Tryz.prog 41 #[.int .u8 67, .int .i64 n] W fun e w' => e = .returned (.int .u8 84) ∧ w' = W) := fun W => by
      have h := refTurned_any 67 n W
      have e : Lt.trn 67 n = 84 := by unfold Lt.trn; rw [hT]; rfl
      rw [e] at h
      exact h
    have hBa : Al.bare n = 67 := by unfold Al.bare; rw [hT]; rfl
    have hGo : Al.gone n = 84 := by unfold Al.gone; rw [hT]; rfl
    rw [hBa, hGo] at hR
    clear hBa hGo hT
    by_cases h1 : t[p] = 67
    · have h1' : (t[p].toNat : Int) = 67 := by rw [h1]; rfl
      rw [if_neg (by rw [h1]; simp)] at hR
      by_cases h2 : c = 67
      · have h2' : ((c.toNat : Int) == 67) = true := by rw [h2]; rfl
        have HR : Hid (((R.toNat : Nat) : Int) = (Fo.toNat : Int) - 32) := by show _ = _; rw [hR, if_pos h2]; exact hup.1.symm
        have hup2 := hup.2
        clear hR h1 h2 hup
        go_enter Tryz.func97, Tryz.ntmps97
        go_wp2_with (first
          | (go_at_call 73; refine (HTC.out _).mono ?_; rintro e w' ⟨rfl, hw⟩; subst w')
          | (go_at_call 127; refine (HFC.out _).mono ?_; rintro e w' ⟨rfl, hw⟩; subst w')
          | (go_at_call 41; refine (HUC.out _).mono ?_; rintro e w' ⟨rfl, hw⟩; subst w'))
        go_ret
        exact ⟨ret_int (by have h5 := HR.out; have h6 := Fo.toNat_lt; omega), rfl⟩
      · have h2' : ((c.toNat : Int) == 67) = false := by rw [beq_eq_false_iff_ne]; intro h; exact h2 (UInt8.toNat_inj.1 (by simp; omega))
        rw [if_neg h2] at hR
        by_cases h3 : c = 84
        · have h3' : ((c.toNat : Int) == 84) = true := by rw [h3]; rfl
          have HR : Hid (R = Fo) := by show _ = _; rw [hR, if_pos h3]
          clear hR h1 h2 h3 hup
          go_enter Tryz.func97, Tryz.ntmps97
          go_wp2_with (first
            | (go_at_call 73; refine (HTC.out _).mono ?_; rintro e w' ⟨rfl, hw⟩; subst w')
            | (go_at_call 127; refine (HFC.out _).mono ?_; rintro e w' ⟨rfl, hw⟩; subst w')
            | (go_at_call 41; refine (HUC.out _).mono ?_; rintro e w' ⟨rfl, hw⟩; subst w'))
          go_ret
          exact ⟨ret_int (by rw [HR.out]), rfl⟩
        · have h3' : ((c.toNat : Int) == 84) = false := by rw [beq_eq_false_iff_ne]; intro h; exact h3 (UInt8.toNat_inj.1 (by simp; omega))
          have HR : Hid (R = 46) := by show _ = _; rw [hR, if_neg h3]
          clear hR h1 h2 h3 hup
          go_enter Tryz.func97, Tryz.ntmps97
          go_wp2_with (first
            | (go_at_call 73; refine (HTC.out _).mono ?_; rintro e w' ⟨rfl, hw⟩; subst w')
            | (go_at_call 127; refine (HFC.out _).mono ?_; rintro e w' ⟨rfl, hw⟩; subst w')
            | (go_at_call 41; refine (HUC.out _).mono ?_; rintro e w' ⟨rfl, hw⟩; subst w'))
          go_ret
          exact ⟨ret_int (by rw [HR.out]; rfl), rfl⟩
    · have h1' : ((t[p].toNat : Int) != 67) = true := by rw [bne_iff_ne]; intro h; exact h1 (UInt8.toNat_inj.1 (by simp; omega))
      have HR : Hid (R = 46) := by show _ = _; rw [hR, if_pos (by intro h; exact h1 (Option.some.inj h))]
      clear hR h1 hup
      go_enter Tryz.func97, Tryz.ntmps97
      go_wp2_with (first
        | (go_at_call 73; refine (HTC.out _).mono ?_; rintro e w' ⟨rfl, hw⟩; subst w')
        | (go_at_call 127; refine (HFC.out _).mono ?_; rintro e w' ⟨rfl, hw⟩; subst w')
        | (go_at_call 41; refine (HUC.out _).mono ?_; rintro e w' ⟨rfl, hw⟩; subst w'))
      go_ret
      exact ⟨ret_int (by rw [HR.out]; rfl), rfl⟩
  | false =>
    have HTC : Hid (∀ W : World, Calls Tryz.prog 73 #[.int .i64 n] W fun e w' => e = .returned (.bool false) ∧ w' = W) := fun W => by rw [← hT]; exact top_any n W
    have HUC : Hid (∀ W : World, Calls Tryz.prog 41 #[.int .u8 71, .int .i64 n] W fun e w' => e = .returned (.int .u8 65) ∧ w' = W) := fun W => by
      have h := refTurned_any 71 n W
      have e : Lt.trn 71 n = 65 := by unfold Lt.trn; rw [hT]; rfl
      rw [e] at h
      exact h
    have hBa : Al.bare n = 71 := by unfold Al.bare; rw [hT]; rfl
    have hGo : Al.gone n = 65 := by unfold Al.gone; rw [hT]; rfl
    rw [hBa, hGo] at hR
    clear hBa hGo hT
    by_cases h1 : t[p] = 71
    · have h1' : (t[p].toNat : Int) = 71 := by rw [h1]; rfl
      rw [if_neg (by rw [h1]; simp)] at hR
      by_cases h2 : c = 71
      · have h2' : ((c.toNat : Int) == 71) = true := by rw [h2]; rfl
        have HR : Hid (((R.toNat : Nat) : Int) = (Fo.toNat : Int) - 32) := by show _ = _; rw [hR, if_pos h2]; exact hup.1.symm
        have hup2 := hup.2
        clear hR h1 h2 hup
        go_enter Tryz.func97, Tryz.ntmps97
        go_wp2_with (first
          | (go_at_call 73; refine (HTC.out _).mono ?_; rintro e w' ⟨rfl, hw⟩; subst w')
          | (go_at_call 127; refine (HFC.out _).mono ?_; rintro e w' ⟨rfl, hw⟩; subst w')
          | (go_at_call 41; refine (HUC.out _).mono ?_; rintro e w' ⟨rfl, hw⟩; subst w'))
        go_ret
        exact ⟨ret_int (by have h5 := HR.out; have h6 := Fo.toNat_lt; omega), rfl⟩
      · have h2' : ((c.toNat : Int) == 71) = false := by rw [beq_eq_false_iff_ne]; intro h; exact h2 (UInt8.toNat_inj.1 (by simp; omega))
        rw [if_neg h2] at hR
        by_cases h3 : c = 65
        · have h3' : ((c.toNat : Int) == 65) = true := by rw [h3]; rfl
          have HR : Hid (R = Fo) := by show _ = _; rw [hR, if_pos h3]
          clear hR h1 h2 h3 hup
          go_enter Tryz.func97, Tryz.ntmps97
          go_wp2_with (first
            | (go_at_call 73; refine (HTC.out _).mono ?_; rintro e w' ⟨rfl, hw⟩; subst w')
            | (go_at_call 127; refine (HFC.out _).mono ?_; rintro e w' ⟨rfl, hw⟩; subst w')
            | (go_at_call 41; refine (HUC.out _).mono ?_; rintro e w' ⟨rfl, hw⟩; subst w'))
          go_ret
          exact ⟨ret_int (by rw [HR.out]), rfl⟩
        · have h3' : ((c.toNat : Int) == 65) = false := by rw [beq_eq_false_iff_ne]; intro h; exact h3 (UInt8.toNat_inj.1 (by simp; omega))
          have HR : Hid (R = 46) := by show _ = _; rw [hR, if_neg h3]
          clear hR h1 h2 h3 hup
          go_enter Tryz.func97, Tryz.ntmps97
          go_wp2_with (first
            | (go_at_call 73; refine (HTC.out _).mono ?_; rintro e w' ⟨rfl, hw⟩; subst w')
            | (go_at_call 127; refine (HFC.out _).mono ?_; rintro e w' ⟨rfl, hw⟩; subst w')
            | (go_at_call 41; refine (HUC.out _).mono ?_; rintro e w' ⟨rfl, hw⟩; subst w'))
          go_ret
          exact ⟨ret_int (by rw [HR.out]; rfl), rfl⟩
    · have h1' : ((t[p].toNat : Int) != 71) = true := by rw [bne_iff_ne]; intro h; exact h1 (UInt8.toNat_inj.1 (by simp; omega))
      have HR : Hid (R = 46) := by show _ = _; rw [hR, if_pos (by intro h; exact h1 (Option.some.inj h))]
      clear hR h1 hup
      go_enter Tryz.func97, Tryz.ntmps97
      go_wp2_with (first
        | (go_at_call 73; refine (HTC.out _).mono ?_; rintro e w' ⟨rfl, hw⟩; subst w')
        | (go_at_call 127; refine (HFC.out _).mono ?_; rintro e w' ⟨rfl, hw⟩; subst w')
        | (go_at_call 41; refine (HUC.out _).mono ?_; rintro e w' ⟨rfl, hw⟩; subst w'))
      go_ret
      exact ⟨ret_int (by rw [HR.out]; rfl), rfl⟩

end Go.Proofs.YtfcbgfomhmcikaaGreatDoor
