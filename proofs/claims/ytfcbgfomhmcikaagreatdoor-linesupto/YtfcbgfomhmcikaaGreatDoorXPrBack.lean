/-
  The line of a right record leads the program back to it: its fields by Split, the record by what they are taken for. Own text of the verifier.
-/
import Derived.Test.YtfcbgfomhmcikaaGreatDoorBun23
import Derived.Lib.SplitLaws
namespace Go.Proofs.YtfcbgfomhmcikaaGreatDoor
open Go.RowKit

theorem Ln.nat_dig_all : ∀ (a : Fin 65) (b : Fin 64), Ln.nat (Ln.dig 3 (64 * a.val + b.val)) = ((64 * a.val + b.val : Nat) : Int) := by decide +kernel
theorem Ln.nat_dig (n : Nat) (h : n ≤ 4096) : Ln.nat (Ln.dig 3 n) = (n : Int) := by
  have := Ln.nat_dig_all ⟨n / 64, by omega⟩ ⟨n % 64, by omega⟩
  simp only at this
  rw [show 64 * (n / 64) + n % 64 = n by omega] at this
  exact this

theorem Ln.sp_right {r : Rc} (h : r.right = true) : Ln.sp r.fields = r := by
  obtain ⟨_, h0, h2, hf, hb⟩ := Rc.right_parts h
  by_cases hv : r.vd = 1
  · obtain ⟨f1, _, _, _, f5, f6, f7, f8⟩ := Rc.full_parts (hf hv)
    rw [Rc.fields, if_pos hv]
    simp only [Ln.sp]
    rw [vo_verdict h0 h2, so_strand f1, Ln.nat_dig _ (by omega), Ln.nat_dig _ (by omega)]
    rw [show ((r.pl.toNat : Nat) : Int) = r.pl by omega, show ((r.mm.toNat : Nat) : Int) = r.mm by omega]
  · have hbare := hb hv
    simp only [Rc.bare, Bool.and_eq_true, beq_iff_eq, List.isEmpty_iff] at hbare
    obtain ⟨b1, b2, b3, b4, b5, b6⟩ := hbare
    rw [Rc.fields, if_neg hv]
    simp only [Ln.sp]
    rw [vo_verdict h0 h2]
    cases r
    simp_all

/-! ### Split -/

theorem Ln.ib_miss : ∀ (a : List UInt8), (∀ c ∈ a, c ≠ 9) → Lib.indexByte a 9 = -1 := by
  intro a
  induction a with
  | nil => intro _; rfl
  | cons b l ih =>
    intro h
    have hb : (b == (9 : UInt8)) = false := beq_eq_false_iff_ne.2 (h b (by simp))
    have hl := ih (fun c hc => h c (by simp [hc]))
    unfold Lib.indexByte
    rw [hb, hl]
    rfl
theorem Ln.ib_hit : ∀ (a t : List UInt8), (∀ c ∈ a, c ≠ 9) → Lib.indexByte (a ++ 9 :: t) 9 = (a.length : Int) := by
  intro a t
  induction a with
  | nil => intro _; rfl
  | cons b l ih =>
    intro h
    have hb : (b == (9 : UInt8)) = false := beq_eq_false_iff_ne.2 (h b (by simp))
    have hl := ih (fun c hc => h c (by simp [hc]))
    rw [List.cons_append]
    unfold Lib.indexByte
    rw [hb, hl]
    have : (((l.length : Int)) == -1) = false := beq_eq_false_iff_ne.2 (by omega)
    simp [this]

theorem Ln.count_clean (a : List UInt8) (h : ∀ c ∈ a, c ≠ 9) : a.count 9 = 0 := by
  rw [List.count_eq_zero]
  intro hm
  exact h 9 hm rfl

theorem Ln.split_join : ∀ (fs : List (List UInt8)), fs ≠ [] → (∀ f ∈ fs, ∀ c ∈ f, c ≠ 9) → Lib.splitK [9] 0 ((Lib.join fs [9]).count 9) (Lib.join fs [9]) = fs := by
  intro fs
  induction fs with
  | nil => intro h; exact absurd rfl h
  | cons f l ih =>
    intro _ hc
    have hf := hc f (by simp)
    cases l with
    | nil =>
      have e : Lib.join [f] [9] = f := by simp [Lib.join, List.intercalate]
      rw [e, Ln.count_clean f hf]
      rfl
    | cons g l =>
      have e : Lib.join (f :: g :: l) [9] = f ++ 9 :: Lib.join (g :: l) [9] := by simp [Lib.join, List.intercalate]
      have hi := ih (by simp) (fun x hx => hc x (by simp at hx ⊢; exact .inr hx))
      have ec : (f ++ 9 :: Lib.join (g :: l) [9]).count 9 = (Lib.join (g :: l) [9]).count 9 + 1 := by
        rw [List.count_append, Ln.count_clean f hf, List.count_cons_self]; omega
      have ei := Ln.ib_hit f (Lib.join (g :: l) [9]) hf
      rw [e, ec]
      unfold Lib.splitK
      rw [Lib.index_one, ei]
      have hne : (((f.length : Int)) == -1) = false := beq_eq_false_iff_ne.2 (by omega)
      rw [hne]
      simp only [Bool.false_eq_true, if_false, Int.toNat_natCast, Nat.add_zero, List.length_singleton]
      rw [List.take_left, show (f ++ 9 :: Lib.join (g :: l) [9]).drop (f.length + 1) = Lib.join (g :: l) [9] by
        rw [← List.drop_drop, List.drop_left]; rfl]
      rw [hi]

/-- the pieces of a text between tabs -/
def Ln.cuts (t : List UInt8) : List (List UInt8) := Lib.splitK [9] 0 (t.count 9) t

theorem Rc.fields_clean {r : Rc} (h : r.right = true) : ∀ f ∈ r.fields, Ln.clean f := by
  obtain ⟨hn, h0, h2, hf, hb⟩ := Rc.right_parts h
  have cn := name_clean hn
  have cv := verdict_clean r.vd
  by_cases hv : r.vd = 1
  · obtain ⟨f1, f2, f3, f4, f5, f6, f7, f8⟩ := Rc.full_parts (hf hv)
    have cs := strand_clean r.sd
    have cc := name_clean f2
    have cp := dig_clean r.pl.toNat (by omega)
    have cm := dig_clean r.mm.toNat (by omega)
    have cl := clean_all isL_clean f3
    have ck := clean_all isCall_clean f4
    rw [Rc.fields, if_pos hv]
    intro f hm
    simp only [List.mem_cons, List.not_mem_nil, or_false] at hm
    rcases hm with rfl | rfl | rfl | rfl | rfl | rfl | rfl | rfl <;> assumption
  · rw [Rc.fields, if_neg hv]
    intro f hm
    simp only [List.mem_cons, List.not_mem_nil, or_false] at hm
    rcases hm with rfl | rfl <;> assumption

/-- a right record is what the pieces of its line are taken for -/
theorem Ln.sp_line {r : Rc} {t : List UInt8} (h : r.right = true) (ht : r.line = t ++ [10]) : Ln.sp (Ln.cuts t) = r := by
  have e : t = Lib.join r.fields [9] := by
    have := Rc.line_join r
    rw [ht] at this
    exact List.append_cancel_right this
  have hne : r.fields ≠ [] := by unfold Rc.fields; split <;> simp
  unfold Ln.cuts
  rw [e, Ln.split_join r.fields hne (fun f hf c hc => ((Rc.fields_clean h) f hf c hc).2)]
  exact Ln.sp_right h

end Go.Proofs.YtfcbgfomhmcikaaGreatDoor
