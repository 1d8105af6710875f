/-
  THE WALK of 'mark': a text of its own for the n-th list. Own text of the verifier.
-/
import Derived.Test.YtjebhbopmfcopaaGreatDoorTxRefFa
namespace Go.Proofs.YtjebhbopmfcopaaGreatDoor
open Go.RowKit

/-- a number's bits, the lowest first, as digits -/
def bits : Nat → Nat → List UInt8
  | 0, _ => []
  | f + 1, k => if k = 0 then [] else UInt8.ofNat (48 + k % 2) :: bits f (k / 2)

theorem bits_log : ∀ (f k j : Nat), k < 2 ^ j → (bits f k).length ≤ j := by
  intro f
  induction f with
  | zero => intro k j _; simp [bits]
  | succ f ih =>
    intro k j h
    unfold bits
    split
    · simp
    · next hk =>
      obtain ⟨j, rfl⟩ : ∃ i, j = i + 1 := by
        cases j with
        | zero => simp at h; omega
        | succ i => exact ⟨i, rfl⟩
      have := ih (k / 2) j (by rw [Nat.pow_succ] at h; omega)
      simp; omega

/-- the mark of the n-th list -/
def mk (n : Nat) : List UInt8 := 109 :: bits (n / 4 + 1) (n / 4)

theorem mk_length (n : Nat) (hn : n ≤ 8000000000000) : (mk n).length ≤ 51 := by
  have := bits_log (n / 4 + 1) (n / 4) 50 (by omega)
  simp [mk]; omega
theorem mk_same (n i : Nat) (h : n % 4 = 0) (hi : i < 4) : mk (n + i) = mk n := by
  unfold mk
  rw [show (n + i) / 4 = n / 4 by omega]

theorem bits_step (f k : Nat) (hk : 0 < k) : bits (f + 1) k = UInt8.ofNat (48 + k % 2) :: bits f (k / 2) := by rw [bits, if_neg (by omega)]
theorem bits_zero (f : Nat) : bits f 0 = [] := by cases f <;> simp [bits]

theorem digit_int (k : Nat) : (48 + (k : Int) % 2) = ((UInt8.ofNat (48 + k % 2)).toNat : Int) := by
  rw [UInt8.toNat_ofNat']
  omega

set_option maxRecDepth 100000 in
set_option maxHeartbeats 1600000 in
theorem mark_any (n : Nat) (w : World) (hn : n ≤ 8000000000000) :
    Calls Tryz.prog 57 #[.int .i64 (n : Int)] w fun e w' => e = .returned (.string ⟨(mk n).toArray⟩) ∧ Below w.heap.size w w' := by
  have HL : Hid _ := mk_length n hn
  obtain ⟨M, hM⟩ : ∃ M, M = mk n := ⟨_, rfl⟩
  rw [← hM] at HL ⊢
  have HM : Hid (M = [109] ++ bits (n / 4 + 1) (n / 4)) := hM
  clear hM
  go_enter Tryz.func57, Tryz.ntmps57
  go_wp2
  go_loopw [3, 4] (fun st kv wr => ∃ (l : List UInt8) (f k : Nat), st = .string ⟨l.toArray⟩ ∧ kv = .int .i64 (k : Int) ∧ k ≤ n / 4 ∧ k < f ∧ Hid (M = l ++ bits f k) ∧ Below w.heap.size w wr) (fun _ kv _ => (intOf kv).toNat)
  case atStart => exact ⟨[109], n / 4 + 1, n / 4, rfl, by go_num, Nat.le_refl _, by omega, HM, Below.refl _ _⟩
  case round =>
    clear HM
    obtain ⟨l, f, k, rfl, rfl, hk, hf, HM, hbel⟩ := hrel
    have hsz := hbel.size
    by_cases hpos : 0 < k
    · obtain ⟨f, rfl⟩ : ∃ f', f = f' + 1 := ⟨f - 1, by omega⟩
      have hb := bits_step f k hpos
      obtain ⟨d, hd⟩ : ∃ d, d = UInt8.ofNat (48 + k % 2) := ⟨_, rfl⟩
      have hdi := digit_int k
      rw [← hd] at hb hdi
      have HM2 : Hid (M = (l ++ [d]) ++ bits f (k / 2)) := by show _ = _; rw [HM.out, hb]; simp
      have hll : l.length ≤ 8388607 := by
        have h1 := HL.out
        have h2 := congrArg List.length HM2.out
        simp at h2
        omega
      have HDI : Hid _ := hdi
      clear HM hd hb hdi
      have hadd : ∀ wy, (Op.stringOp .add ⟨l.toArray⟩ ⟨[d].toArray⟩).run Tryz.prog wy = .ok (.string ⟨(l ++ [d]).toArray⟩) wy := fun wy => run_string_add_lists wy l [d] (by omega) (by simp)
      have hconv : (convert 43 9 (.slice (some ⟨wr.heap.size, 0, none⟩) 1 1)).run Tryz.prog (wr.alloc (Obj.cells #[Value.int IntKind.u8 (48 + (k : Int) % 2)] 5)) = .ok (.string ⟨[d].toArray⟩) (wr.alloc (Obj.cells #[Value.int IntKind.u8 (48 + (k : Int) % 2)] 5)) := by
        rw [HDI.out]
        exact run_convert_bytes_back (P := Tryz.prog) _ 43 9 5 ⟨wr.heap.size, 0, none⟩ 1 [d] Tryz.underlying43 Tryz.underlying5 Tryz.underlying9 (fun j hj => by
          match j, hj with
          | 0, _ => simp [Addr.add])
      have HB1 : Hid (∀ o, Below w.heap.size w (wr.alloc o)) := fun o => hbel.alloc hsz o
      go_wp2
      go_roundw
      case rel => exact ⟨l ++ [d], f, k / 2, rfl, by go_num, by omega, by omega, HM2, HB1.out _⟩
      case measure => simp [intOf]; omega
    · have hk0 : k = 0 := by omega
      subst hk0
      have HF : Hid (l = M) := by show _ = _; rw [HM.out, bits_zero]; simp
      clear HM
      go_wp2
      go_ret
      exact ⟨by rw [← HF.out]; rfl, hbel⟩

end Go.Proofs.YtjebhbopmfcopaaGreatDoor
