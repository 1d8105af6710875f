/-
  PLAIN MATHEMATICS of letters: which bytes are letters, the letter of the other strand, what bleaching turns. No program is named here. Own text of the verifier.
-/
namespace Go.Proofs.YtjebhbopmfcopaaGreatDoor.Lt

def isL (c : UInt8) : Bool := c == 65 || c == 67 || c == 71 || c == 84 || c == 78

def comp (c : UInt8) : UInt8 := if c = 65 then 84 else if c = 67 then 71 else if c = 71 then 67 else if c = 84 then 65 else c

def allL (l : List UInt8) : Bool := l.all isL

def rev (l : List UInt8) : List UInt8 := (l.map comp).reverse

def sub (f t c : UInt8) : UInt8 := if c = f then t else c

def conv (f t : UInt8) (l : List UInt8) : List UInt8 := l.map (sub f t)

theorem toNat_inj {c : UInt8} {n : Nat} (hn : n < 256) : (c.toNat = n) ↔ c = UInt8.ofNat n := by
  constructor
  · intro h
    apply UInt8.toNat_inj.1
    rw [h, UInt8.toNat_ofNat']
    omega
  · intro h
    rw [h, UInt8.toNat_ofNat']
    omega

theorem comp_isL {c : UInt8} (h : isL c = true) : isL (comp c) = true := by
  simp only [isL, Bool.or_eq_true, beq_iff_eq] at h
  rcases h with (((h | h) | h) | h) | h <;> subst h <;> decide

theorem comp_comp {c : UInt8} : comp (comp c) = c := by
  unfold comp
  repeat (first | split | (subst_vars; rfl) | simp_all)

theorem rev_length (l : List UInt8) : (rev l).length = l.length := by simp [rev]

theorem rev_rev (l : List UInt8) : rev (rev l) = l := by
  simp only [rev, List.map_reverse, List.reverse_reverse, List.map_map]
  rw [show (comp ∘ comp) = id from funext fun c => comp_comp]
  simp

theorem rev_allL {l : List UInt8} (h : allL l = true) : allL (rev l) = true := by
  simp only [allL, rev, List.all_reverse, List.all_map, List.all_eq_true] at *
  intro c hc
  exact comp_isL (h c hc)

theorem conv_length (f t : UInt8) (l : List UInt8) : (conv f t l).length = l.length := by simp [conv]

theorem conv_allL {f t : UInt8} (ht : isL t = true) {l : List UInt8} (h : allL l = true) : allL (conv f t l) = true := by
  simp only [allL, conv, List.all_map, List.all_eq_true] at *
  intro c hc
  simp only [Function.comp, sub]
  split
  · exact ht
  · exact h c hc

theorem conv_conv {f t : UInt8} (h : t ≠ f) (l : List UInt8) : conv f t (conv f t l) = conv f t l := by
  simp only [conv, List.map_map]
  congr 1
  funext c
  simp only [Function.comp, sub]
  by_cases hc : c = f
  · simp [hc, h]
  · simp [hc]

/-- what is turned round and bleached for the bottom, turned round again, is what is bleached for the top -/
theorem sub_comp {c : UInt8} (h : isL c = true) : comp (sub 71 65 (comp c)) = sub 67 84 c := by
  simp only [isL, Bool.or_eq_true, beq_iff_eq] at h
  rcases h with (((h | h) | h) | h) | h <;> subst h <;> decide

theorem rev_conv_rev {l : List UInt8} (h : allL l = true) : rev (conv 71 65 (rev l)) = conv 67 84 l := by
  simp only [rev, conv, List.map_reverse, List.reverse_reverse, List.map_map]
  apply List.map_congr_left
  intro c hc
  exact sub_comp (by simp only [allL, List.all_eq_true] at h; exact h c hc)

/-- a fact on bytes, asked of each of the 256 -/
theorem every {p : UInt8 → Prop} [DecidablePred p] (h : (List.range 256).all (fun n => decide (p (UInt8.ofNat n))) = true) (c : UInt8) : p c := by
  have h1 := List.all_eq_true.1 h c.toNat (by rw [List.mem_range]; exact c.toNat_lt)
  rw [UInt8.ofNat_toNat] at h1
  exact of_decide_eq_true h1

theorem isL_int (c : UInt8) : isL c = ((c.toNat : Int) == 65 || (c.toNat : Int) == 67 || (c.toNat : Int) == 71 || (c.toNat : Int) == 84 || (c.toNat : Int) == 78) :=
  every (p := fun c => isL c = ((c.toNat : Int) == 65 || (c.toNat : Int) == 67 || (c.toNat : Int) == 71 || (c.toNat : Int) == 84 || (c.toNat : Int) == 78)) (by decide +kernel) c

theorem comp_int (c : UInt8) : ((comp c).toNat : Int) = if ((c.toNat : Int) == 65) = true then 84 else if ((c.toNat : Int) == 67) = true then 71 else if ((c.toNat : Int) == 71) = true then 67 else if ((c.toNat : Int) == 84) = true then 65 else (c.toNat : Int) :=
  every (p := fun c => ((comp c).toNat : Int) = if ((c.toNat : Int) == 65) = true then 84 else if ((c.toNat : Int) == 67) = true then 71 else if ((c.toNat : Int) == 71) = true then 67 else if ((c.toNat : Int) == 84) = true then 65 else (c.toNat : Int)) (by decide +kernel) c

/-- which letter a strand's treatment turns, and into which; 0: it is no strand -/
def frm (n : Int) : UInt8 := if (n == 1) = true then 67 else if (n == 3) = true then 67 else if (n == 2) = true then 71 else if (n == 4) = true then 71 else 0
def tow (n : Int) : UInt8 := if (n == 1) = true then 84 else if (n == 3) = true then 84 else if (n == 2) = true then 65 else if (n == 4) = true then 65 else 0

theorem allL_take_succ (s : ByteArray) (k : Nat) (h : k < s.size) : allL (s.data.toList.take (k + 1)) = (allL (s.data.toList.take k) && isL s[k]) := by
  rw [show s.data.toList.take (k + 1) = s.data.toList.take k ++ [s[k]] from by rw [List.take_succ_eq_append_getElem (by simpa using h)]; rfl]
  simp [allL]

theorem allL_stop (s : ByteArray) (k : Nat) (h : k < s.size) (hn : isL s[k] = false) : allL s.data.toList = false := by
  unfold allL
  rw [List.all_eq_false]
  exact ⟨s[k], by have : s[k] = s.data.toList[k]'(by simpa using h) := rfl
                  rw [this]; exact List.getElem_mem _, by simp [hn]⟩

theorem allL_whole (s : ByteArray) (k : Nat) (h : ¬ k < s.size) (ht : allL (s.data.toList.take k) = true) : allL s.data.toList = true := by
  rwa [List.take_of_length_le (by simp; omega)] at ht

theorem take_snoc (s : ByteArray) (k : Nat) (h : k < s.size) : s.data.toList.take (k + 1) = s.data.toList.take k ++ [s[k]] := by
  rw [List.take_succ_eq_append_getElem (by simpa using h)]; rfl

def topB (n : Int) : Bool := n == 1 || n == 3
def strandB (n : Int) : Bool := decide (1 ≤ n) && decide (n ≤ 4)
theorem strandB_int (n : Int) : strandB n = ((n == 1) || (n == 2) || (n == 3) || (n == 4)) := by
  rw [Bool.eq_iff_iff]
  simp only [strandB, Bool.and_eq_true, decide_eq_true_eq, Bool.or_eq_true, beq_iff_eq]
  omega
theorem frm_tow_none {n : Int} (h : strandB n = false) : frm n = 0 ∧ tow n = 0 := by
  rw [strandB_int] at h
  simp only [Bool.or_eq_false_iff] at h
  simp [frm, tow, h]
theorem frm_tow_top {n : Int} (h : topB n = true) : frm n = 67 ∧ tow n = 84 := by
  have h4 : n = 1 ∨ n = 3 := by simpa [topB] using h
  rcases h4 with rfl | rfl <;> exact ⟨rfl, rfl⟩
theorem frm_tow_bot {n : Int} (h : topB n = false) (hs : strandB n = true) : frm n = 71 ∧ tow n = 65 := by
  have h4 : n = 2 ∨ n = 4 := by
    rw [strandB_int] at hs
    simp only [topB, Bool.or_eq_false_iff, beq_eq_false_iff_ne, Bool.or_eq_true, beq_iff_eq] at h hs
    omega
  rcases h4 with rfl | rfl <;> exact ⟨rfl, rfl⟩

end Go.Proofs.YtjebhbopmfcopaaGreatDoor.Lt
