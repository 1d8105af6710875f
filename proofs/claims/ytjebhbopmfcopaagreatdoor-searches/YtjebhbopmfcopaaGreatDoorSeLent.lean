/-
  CONTIGS THAT ARE HANDED IN: with spare room, laid by the statement itself, and looked at again behind the call. Own text of the verifier.
-/
import Derived.Test.YtjebhbopmfcopaaGreatDoorTxLent
import Derived.Test.YtjebhbopmfcopaaGreatDoorSeNew
import Derived.Test.YtjebhbopmfcopaaGreatDoorTxMarks
import Derived.Test.YtjebhbopmfcopaaGreatDoorTxSame
import Derived.BigQuiet
namespace Go.Proofs.YtjebhbopmfcopaaGreatDoor
open Go.RowKit

/-- what lies behind them; what the caller writes over them -/
def beC : Pr := ([98, 101, 121, 111, 110, 100], [65, 65, 65, 65])
def otC : Pr := ([111, 116, 104, 101, 114], [67, 71])
def lentC (cs : List Pr) : List Pr := cs ++ List.replicate 8 beC

theorem lentC_length (cs : List Pr) : (lentC cs).length = cs.length + 8 := by simp [lentC]
theorem lentC_low (cs : List Pr) (k : Nat) (h1 : k < cs.length) (h : k < (lentC cs).length) : (lentC cs)[k] = cs[k] := by simp only [lentC, List.getElem_append_left h1]
theorem lentC_high (cs : List Pr) (k : Nat) (h1 : cs.length ≤ k) (h : k < (lentC cs).length) : (lentC cs)[k] = beC := by
  simp only [lentC, List.getElem_append_right h1, List.getElem_replicate]

theorem Prs_cons (o : Pr) (l : List Pr) : Prs (o :: l) = .string ⟨o.1.toArray⟩ :: .string ⟨o.2.toArray⟩ :: Prs l := rfl
theorem Prs_set (l : List Pr) (k : Nat) (h : k < l.length) (x : Pr) : ((Prs l).set (k * 2) (.string ⟨x.1.toArray⟩)).set (k * 2 + 1) (.string ⟨x.2.toArray⟩) = Prs (l.set k x) := by
  induction l generalizing k with
  | nil => simp at h
  | cons o l ih =>
    cases k with
    | zero => simp [Prs_cons]
    | succ k =>
      rw [Prs_cons, show (k + 1) * 2 = k * 2 + 1 + 1 by omega, List.set_cons_succ, List.set_cons_succ, List.set_cons_succ, List.set_cons_succ, List.set_cons_succ, Prs_cons, ih k (by simpa using h)]

/-- while they are laid: the first k, then empty ones -/
def filledP (l : List Pr) (n k : Nat) : List Pr := l.take k ++ List.replicate (n - k) ([], [])
theorem filledP_length (l : List Pr) (n k : Nat) (h : l.length = n) (hk : k ≤ n) : (filledP l n k).length = n := by simp [filledP]; omega
theorem filledP_whole (l : List Pr) (n : Nat) (h : l.length = n) : filledP l n n = l := by simp [filledP, ← h]
theorem filledP_set (l : List Pr) (n k : Nat) (h : l.length = n) (hk : k < n) : (filledP l n k).set k (l[k]'(by omega)) = filledP l n (k + 1) := by
  unfold filledP
  have h1 : (l.take k).length = k := by rw [List.length_take]; omega
  rw [List.set_append, if_neg (by omega), h1, Nat.sub_self, List.take_succ_eq_append_getElem (by omega)]
  obtain ⟨m, hm⟩ : ∃ m, n - k = m + 1 := ⟨n - k - 1, by omega⟩
  rw [hm, show n - (k + 1) = m by omega, List.replicate_succ, List.set_cons_zero, List.append_assoc, List.singleton_append]

/-- while they are looked at: the first k written over -/
def wipedP (cs : List Pr) (k : Nat) : List Pr := List.replicate k otC ++ (lentC cs).drop k
theorem wipedP_zero (cs : List Pr) : wipedP cs 0 = lentC cs := by simp [wipedP]
theorem wipedP_length (cs : List Pr) (k : Nat) (h : k ≤ cs.length + 8) : (wipedP cs k).length = cs.length + 8 := by simp [wipedP, lentC_length]; omega
theorem wipedP_at (cs : List Pr) (k : Nat) (h : k < cs.length + 8) (h2 : k < (wipedP cs k).length) : (wipedP cs k)[k] = (lentC cs)[k]'(by rw [lentC_length]; exact h) := by
  simp only [wipedP]
  rw [List.getElem_append_right (by simp)]
  simp
theorem wipedP_set (cs : List Pr) (k : Nat) (h : k < cs.length + 8) : (wipedP cs k).set k otC = wipedP cs (k + 1) := by
  rw [wipedP, wipedP, List.set_append, if_neg (by simp), List.length_replicate, Nat.sub_self]
  rw [List.drop_eq_getElem_cons (by rw [lentC_length]; exact h), List.set_cons_zero, List.replicate_succ']
  simp

theorem Tryz.infoContig2 : (Tryz.prog.info? 59).map (fun i => (i.zero, i.size, i.bytes)) = some (some (.agg #[.string ⟨#[]⟩, .string ⟨#[]⟩]), 2, 32) := by kernel_rfl
theorem Tryz.sizeContig : (Tryz.prog.info? 59).map (·.size) = some 2 := by kernel_rfl

/-- empty contigs, as they are made -/
theorem made_two (m : Nat) : (madeCells (Value.agg #[.string ⟨#[]⟩, .string ⟨#[]⟩]).cells (m * 2)).toList = Prs (List.replicate m ([], [])) := by
  have h1 : (madeCells (Value.agg #[.string ⟨#[]⟩, .string ⟨#[]⟩]).cells (m * 2)).toList = List.replicate (m * 2) (.string ⟨#[]⟩) := by
    apply List.ext_getElem?
    intro j
    have hc : (Value.agg #[.string ⟨#[]⟩, .string ⟨#[]⟩]).cells = #[.string ⟨#[]⟩, .string ⟨#[]⟩] := rfl
    rw [hc]
    by_cases hj : j < m * 2
    · have h2 : j % 2 = 0 ∨ j % 2 = 1 := by omega
      rcases h2 with h2 | h2 <;> simp [madeCells, hj, h2]
    · simp [madeCells, hj]
  rw [h1]
  induction m with
  | zero => rfl
  | succ m ih =>
    have hm := ih (by
      have := h1
      apply List.ext_getElem?
      intro j
      have hc : (Value.agg #[.string ⟨#[]⟩, .string ⟨#[]⟩]).cells = #[.string ⟨#[]⟩, .string ⟨#[]⟩] := rfl
      rw [hc]
      by_cases hj : j < m * 2
      · have h2 : j % 2 = 0 ∨ j % 2 = 1 := by omega
        rcases h2 with h2 | h2 <;> simp [madeCells, hj, h2]
      · simp [madeCells, hj])
    rw [show (m + 1) * 2 = m * 2 + 1 + 1 by omega, List.replicate_succ, List.replicate_succ, List.replicate_succ, Prs_cons, ← hm]

/-- 'copy(out, l)', elements of several cells -/
theorem run_copy_many {P : Program} (w : World) (dT sT ty elem : TypeId) (g o dLen dCap : Nat) (a : Addr) (sLen sCap : Nat) (cur : Array Value) (t : TypeId) (cs : List Value) (size : Nat)
    (hu : P.underlying dT = some (.slice elem)) (hs : (P.info? elem).map (·.size) = some size)
    (hg : w.heap[g]? = some (.cells cur t (0, 0))) (hn : cs.length = Nat.min sLen dLen * size)
    (hsrc : ∀ j v, cs[j]? = some v → w.cell? (a.add j) = some v) (hfit : o + cs.length ≤ cur.size) (h1 : ∀ v ∈ cs, v.oneCell' = true) :
    (Builtin.copy_ #[dT, sT] ty #[.slice (some ⟨g, o, none⟩) dLen dCap, .slice (some a) sLen sCap]).run P w =
      .ok (goInt (Nat.min sLen dLen)) (w.setRow g (cur.toList.take o ++ cs ++ cur.toList.drop (o + cs.length)).toArray) := by
  have hl := run_loadCells_list (P := P) w a cs hsrc
  have hst := run_storeCells_at P g o t cs 0 cur w hg (by simpa using hfit) h1
  cases hq : P.info? elem with
  | none => simp [hq] at hs
  | some i =>
    have hi : i.size = size := by simpa [hq] using hs
    simp [Builtin.copy_, run_underlying hu, Builtin.lenOf, Builtin.firstCells, sizeOf, typeInfo, hq, hi, ← hn, hl, hst]

/-- 'copy(out, l)' into contigs just made -/
theorem copy_lentC (cs : List Pr) (G cc : Nat) (ad : Addr) (w1 : World) (hsrc : ∀ j u, (Prs cs)[j]? = some u → w1.cell? (ad.add j) = some u)
    (hown : w1.ownsRow G 59 2 (.slice (some ⟨G, 0, none⟩) (cs.length + 8) (cs.length + 8)) (cs.length + 8) (Prs (List.replicate (cs.length + 8) ([], [])))) :
    ∃ W2, (∀ ty, (Builtin.copy_ #[29, 29] ty #[.slice (some ⟨G, 0, none⟩) (cs.length + 8) (cs.length + 8), .slice (some ad) cs.length cc]).run Tryz.prog w1 = .ok (goInt cs.length) W2) ∧
      W2.ownsRow G 59 2 (.slice (some ⟨G, 0, none⟩) (cs.length + 8) (cs.length + 8)) (cs.length + 8) (Prs (filledP (lentC cs) (cs.length + 8) cs.length)) ∧ w1.grownBy W2 (some G) := by
  rcases hown.2 with ⟨h, _⟩ | ⟨g, cap, cur, hv, hb, hg, hnc, hcm, hcs, htake⟩
  · simp at h
  · simp only [Value.slice.injEq, Option.some.injEq, Addr.mk.injEq, and_true, true_and] at hv
    obtain ⟨rfl, rfl⟩ := hv
    have hmin : Nat.min cs.length (cs.length + 8) = cs.length := Nat.min_eq_left (by omega)
    have hc : cur.toList = Prs (List.replicate (cs.length + 8) ([], [])) := by
      rw [← htake, List.take_of_length_le (by rw [Array.length_toList, hcs]; exact Nat.le_refl _)]
    have hrun := fun ty => run_copy_many (P := Tryz.prog) w1 29 29 ty 59 G 0 (cs.length + 8) (cs.length + 8) ad cs.length cc cur 59 (Prs cs) 2 Tryz.underlying29 Tryz.sizeContig hg (by rw [hmin, Prs_length]) hsrc (by rw [hcs, Prs_length]; omega) (Prs_one cs)
    rw [hmin] at hrun
    refine ⟨_, hrun, ?_, ⟨rfl, rfl, rfl, by simp [World.setRow], fun k _ hk => setRow_other w1 G k _ (fun e => hk (by simp [e]))⟩⟩
    have he : (cur.toList.take 0 ++ Prs cs ++ cur.toList.drop (0 + (Prs cs).length)) = Prs (filledP (lentC cs) (cs.length + 8) cs.length) := by
      rw [hc, filledP, lentC, List.take_zero, List.nil_append, List.take_append_of_le_length (Nat.le_refl _), List.take_length, Prs_append]
      congr 1
      rw [Nat.zero_add, show cs.length + 8 - cs.length = 8 by omega, ← List.replicate_append_replicate, Prs_append, List.drop_append_of_le_length (by rw [Prs_length, Prs_length, List.length_replicate]; exact Nat.le_refl _), List.drop_of_length_le (by rw [Prs_length, Prs_length, List.length_replicate]; exact Nat.le_refl _), List.nil_append]
    have hl : (Prs (filledP (lentC cs) (cs.length + 8) cs.length)).length = (cs.length + 8) * 2 := by
      rw [Prs_length, filledP_length _ _ _ (lentC_length cs) (by omega)]
    rw [he]
    refine ⟨hl, .inr ⟨G, cs.length + 8, _, rfl, hb, setRow_heap w1 G cur _ 59 _ hg, Nat.le_refl _, hcm, by simp [hl], ?_⟩⟩
    rw [List.take_of_length_le (by simp [hl])]

end Go.Proofs.YtjebhbopmfcopaaGreatDoor
