/-
  PLAIN MATHEMATICS of the program's search: letters that are bleached already, held against each other. Own text of the verifier.
-/
import Derived.Test.YtjebhbopmfcopaaGreatDoorSeFind
namespace Go.Proofs.YtjebhbopmfcopaaGreatDoor
open Go.RowKit

/-- the positions at which letters differ, or the first is N -/
def Ix.miss : List UInt8 → List UInt8 → Nat
  | a :: s, b :: t => (if a == b && a != 78 then 0 else 1) + Ix.miss s t
  | _, _ => 0

theorem Ix.miss_take : ∀ (s t : List UInt8) (k : Nat) (h1 : k < s.length) (h2 : k < t.length), Ix.miss (s.take (k + 1)) (t.take (k + 1)) = Ix.miss (s.take k) (t.take k) + (if s[k] == t[k] && s[k] != 78 then 0 else 1) := by
  intro s
  induction s with
  | nil => intro t k h1; simp at h1
  | cons a s ih =>
    intro t k h1 h2
    cases t with
    | nil => simp at h2
    | cons b t =>
      cases k with
      | zero => simp [Ix.miss]
      | succ k =>
        have := ih t k (by simpa using h1) (by simpa using h2)
        simp only [List.take_succ_cons, Ix.miss, List.getElem_cons_succ] at this ⊢
        omega

theorem Ix.miss_whole : ∀ (s t : List UInt8) (k : Nat), s.length ≤ k → Ix.miss (s.take k) (t.take k) = Ix.miss s t := by
  intro s
  induction s with
  | nil => intro t k _; simp [Ix.miss]
  | cons a s ih =>
    intro t k h
    obtain ⟨k, rfl⟩ : ∃ j, k = j + 1 := ⟨k - 1, by simp at h; omega⟩
    cases t with
    | nil => simp [Ix.miss]
    | cons b t => simp only [List.take_succ_cons, Ix.miss]; rw [ih t k (by simpa using h)]

theorem Ix.miss_part : ∀ (s t : List UInt8) (k : Nat), Ix.miss (s.take k) (t.take k) ≤ Ix.miss s t := by
  intro s
  induction s with
  | nil => intro t k; simp [Ix.miss]
  | cons a s ih =>
    intro t k
    cases k with
    | zero => simp [Ix.miss]
    | succ k =>
      cases t with
      | nil => simp [Ix.miss]
      | cons b t => have := ih t k; simp only [List.take_succ_cons, Ix.miss]; omega

theorem Ix.trn_sub {n : Int} (hn : Lt.strandB n = true) (c : UInt8) : Lt.trn c n = Lt.sub (Lt.frm n) (Lt.tow n) c := by
  have h4 : n = 1 ∨ n = 2 ∨ n = 3 ∨ n = 4 := by
    simp only [Lt.strandB, Bool.and_eq_true, decide_eq_true_eq] at hn
    omega
  rcases h4 with rfl | rfl | rfl | rfl <;> simp [Lt.trn, Lt.sub, Lt.frm, Lt.tow, Lt.topB]

theorem Ix.sub_78 {n : Int} (hn : Lt.strandB n = true) (c : UInt8) : (Lt.sub (Lt.frm n) (Lt.tow n) c = 78) ↔ c = 78 := by
  have h4 : n = 1 ∨ n = 2 ∨ n = 3 ∨ n = 4 := by
    simp only [Lt.strandB, Bool.and_eq_true, decide_eq_true_eq] at hn
    omega
  rcases h4 with rfl | rfl | rfl | rfl
  · exact Lt.every (p := fun c => (Lt.sub (Lt.frm 1) (Lt.tow 1) c = 78) ↔ c = 78) (by decide +kernel) c
  · exact Lt.every (p := fun c => (Lt.sub (Lt.frm 2) (Lt.tow 2) c = 78) ↔ c = 78) (by decide +kernel) c
  · exact Lt.every (p := fun c => (Lt.sub (Lt.frm 3) (Lt.tow 3) c = 78) ↔ c = 78) (by decide +kernel) c
  · exact Lt.every (p := fun c => (Lt.sub (Lt.frm 4) (Lt.tow 4) c = 78) ↔ c = 78) (by decide +kernel) c

theorem Ix.off_sub {n : Int} (hn : Lt.strandB n = true) (a b : UInt8) :
    (Lt.sub (Lt.frm n) (Lt.tow n) a == Lt.sub (Lt.frm n) (Lt.tow n) b && Lt.sub (Lt.frm n) (Lt.tow n) a != 78) = !Se.off n a b := by
  have ha := Ix.sub_78 hn a
  have hb := Ix.sub_78 hn b
  unfold Se.off
  rw [Ix.trn_sub hn, Ix.trn_sub hn]
  generalize Lt.sub (Lt.frm n) (Lt.tow n) a = A at *
  generalize Lt.sub (Lt.frm n) (Lt.tow n) b = B at *
  rw [Bool.eq_iff_iff]
  simp only [Bool.and_eq_true, beq_iff_eq, bne_iff_ne, Bool.not_eq_true', Bool.or_eq_false_iff, beq_eq_false_iff_ne, ne_eq, bne_eq_false_iff_eq]
  constructor
  · rintro ⟨h1, h2⟩
    exact ⟨⟨fun h => h2 (ha.2 h), fun h => h2 (h1.trans (hb.2 h))⟩, h1⟩
  · rintro ⟨⟨h1, _⟩, h2⟩
    exact ⟨h2, fun h => h1 (ha.1 h)⟩

theorem Ix.miss_conv {n : Int} (hn : Lt.strandB n = true) : ∀ (s t : List UInt8), Ix.miss (Lt.conv (Lt.frm n) (Lt.tow n) s) (Lt.conv (Lt.frm n) (Lt.tow n) t) = Se.three n s t := by
  intro s
  induction s with
  | nil => intro t; simp [Ix.miss, Se.three, Lt.conv]
  | cons a s ih =>
    intro t
    cases t with
    | nil => simp [Ix.miss, Se.three, Lt.conv]
    | cons b t =>
      have := ih t
      simp only [Lt.conv, List.map_cons, Ix.miss, Se.three] at this ⊢
      rw [this, Ix.off_sub hn]
      cases Se.off n a b <;> simp

theorem Ix.conv_drop (f t : UInt8) (l : List UInt8) (k : Nat) : Lt.conv f t (l.drop k) = (Lt.conv f t l).drop k := by simp [Lt.conv]

theorem Ix.conv_drop_miss {n : Int} (hn : Lt.strandB n = true) (s t : List UInt8) (p : Nat) (b : Int) :
    decide ((Ix.miss (Lt.conv (Lt.frm n) (Lt.tow n) s) ((Lt.conv (Lt.frm n) (Lt.tow n) t).drop p) : Int) ≤ b) = Se.stands n b s t p := by
  rw [← Ix.conv_drop, Ix.miss_conv hn, Se.stands]

end Go.Proofs.YtjebhbopmfcopaaGreatDoor
