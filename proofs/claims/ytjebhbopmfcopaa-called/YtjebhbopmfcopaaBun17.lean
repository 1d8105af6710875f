/-
  PLAIN MATHEMATICS of P12: a read turned round has the same candidates, on the strands beside their own. Own text of the verifier.
-/
import Derived.Test.YtjebhbopmfcopaaBun11
namespace Go.Proofs.Ytjebhbopmfcopaa
open Go.RowKit

/-- the strand beside a strand -/
def Al.swap (n : Int) : Int := if n = 1 then 3 else if n = 2 then 4 else if n = 3 then 1 else 2

section
variable {n m : Int} (h : Lt.topB n = Lt.topB m)
include h
theorem Al.mm_top (a b : UInt8) : Al.mm n a b = Al.mm m a b := by unfold Al.mm; rw [h]
theorem Al.mis_top : ∀ (s t : List UInt8), Al.mis n s t = Al.mis m s t := by
  intro s
  induction s with
  | nil => intro t; simp [Al.mis]
  | cons a s ih =>
    intro t
    cases t with
    | nil => simp [Al.mis]
    | cons b t => simp only [Al.mis]; rw [Al.mm_top h, ih t]
theorem Se.off_top (a b : UInt8) : Se.off n a b = Se.off m a b := by unfold Se.off Lt.trn; rw [h]
theorem Se.three_top : ∀ (s t : List UInt8), Se.three n s t = Se.three m s t := by
  intro s
  induction s with
  | nil => intro t; simp [Se.three]
  | cons a s ih =>
    intro t
    cases t with
    | nil => simp [Se.three]
    | cons b t => simp only [Se.three]; rw [Se.off_top h, ih t]
theorem Se.inAll_top (b : Int) (s : List UInt8) (cs : List Pr) : ∀ k, Se.inAll n b s cs k = Se.inAll m b s cs k := by
  intro k
  induction k with
  | zero => rfl
  | succ k ih =>
    rw [Se.inAll, Se.inAll, ih]
    have e : ∀ t c, Se.inOne n b s t c = Se.inOne m b s t c := fun t c => by
      unfold Se.inOne Se.upto
      rw [show Se.stands n b s t = Se.stands m b s t from funext fun p => by unfold Se.stands; rw [Se.three_top h]]
    cases cs[k]? with
    | none => rfl
    | some x => dsimp only; rw [e]
theorem Al.next_top (t : List UInt8) (p k : Nat) : Al.next n t p k = Al.next m t p k := by unfold Al.next; rw [h]
theorem Al.call_top (c : UInt8) (t : List UInt8) (p : Nat) : Al.call n c t p = Al.call m c t p := by
  unfold Al.call Al.follows Al.bare Al.gone
  rw [Al.next_top h, Al.next_top h, h]
theorem Al.calls_top (s t : List UInt8) (p k : Nat) : Al.calls n s t p k = Al.calls m s t p k := by
  unfold Al.calls
  exact List.map_congr_left fun j _ => Al.call_top h _ _ _
end

/-- a candidate of m mismatches, held against the best so far -/
def Al.put (st : Al.St) (m : Nat) (x am : Rc) : Al.St := if 0 ≤ st.least ∧ st.least < (m : Int) then st else if (m : Int) = st.least then ⟨am, st.least⟩ else ⟨x, (m : Int)⟩

theorem Al.put_high {st : Al.St} {m : Nat} (x am : Rc) (h1 : 0 ≤ st.least) (h2 : st.least < (m : Int)) : Al.put st m x am = st := by unfold Al.put; rw [if_pos ⟨h1, h2⟩]
theorem Al.put_eq {st : Al.St} {m : Nat} (x am : Rc) (h : (m : Int) = st.least) : Al.put st m x am = ⟨am, (m : Int)⟩ := by unfold Al.put; rw [if_neg (by omega), if_pos h, h]
theorem Al.put_low {st : Al.St} {m : Nat} (x am : Rc) (h : st.least < 0 ∨ (m : Int) < st.least) : Al.put st m x am = ⟨x, (m : Int)⟩ := by unfold Al.put; rw [if_neg (by omega), if_neg (by omega)]

theorem Al.put_two (a b : Nat) (x y am : Rc) : Al.put ⟨x, (a : Int)⟩ b y am = Al.put ⟨y, (b : Int)⟩ a x am := by
  rcases Nat.lt_trichotomy a b with h | h | h
  · rw [Al.put_high y am (by simp only; omega) (by simp only; omega), Al.put_low x am (.inr (by simp only; omega))]
  · subst h
    rw [Al.put_eq y am rfl, Al.put_eq x am rfl]
  · rw [Al.put_low y am (.inr (by simp only; omega)), Al.put_high x am (by simp only; omega) (by simp only; omega)]

theorem Al.put_comm (st : Al.St) (a b : Nat) (x y am : Rc) : Al.put (Al.put st a x am) b y am = Al.put (Al.put st b y am) a x am := by
  have key : ∀ (a b : Nat) (x y : Rc), (st.least < 0 ∨ (a : Int) < st.least) → 0 ≤ st.least → st.least ≤ (b : Int) → Al.put ⟨x, (a : Int)⟩ b y am = Al.put (Al.put st b y am) a x am := by
    intro a b x y ha h0 hb
    rw [Al.put_high y am (by simp only; omega) (by simp only; omega)]
    by_cases he : (b : Int) = st.least
    · rw [Al.put_eq y am he, Al.put_low x am (.inr (by simp only; omega))]
    · rw [Al.put_high y am h0 (by omega), Al.put_low x am ha]
  by_cases ha : st.least < 0 ∨ (a : Int) < st.least
  · rw [Al.put_low x am ha]
    by_cases hb : st.least < 0 ∨ (b : Int) < st.least
    · rw [Al.put_low y am hb, Al.put_two]
    · exact key a b x y ha (by omega) (by omega)
  · by_cases hb : st.least < 0 ∨ (b : Int) < st.least
    · rw [Al.put_low y am hb]
      exact (key b a y x hb (by omega) (by omega)).symm
    · by_cases ea : (a : Int) = st.least
      · rw [Al.put_eq x am ea]
        by_cases eb : (b : Int) = st.least
        · rw [Al.put_eq y am eb, Al.put_eq y am (by simp only; omega), Al.put_eq x am (by simp only; omega), show (b : Int) = (a : Int) by omega]
        · rw [Al.put_high (st := st) y am (by omega) (by omega), Al.put_high y am (by simp only; omega) (by simp only; omega), Al.put_eq x am ea]
      · rw [Al.put_high (st := st) (m := a) x am (by omega) (by omega)]
        by_cases eb : (b : Int) = st.least
        · rw [Al.put_eq y am eb, Al.put_high x am (by simp only; omega) (by simp only; omega)]
        · rw [Al.put_high (st := st) (m := b) y am (by omega) (by omega), Al.put_high (st := st) (m := a) x am (by omega) (by omega)]

/-- a candidate, with its strand and letters -/
abbrev Al.Cn := Int × List UInt8 × (Nat × Nat)
def Al.cstep (nm : List UInt8) (cs : List Pr) (st : Al.St) (c : Al.Cn) : Al.St := Al.step nm c.1 c.2.1 cs st c.2.2
def Al.row (r : List UInt8) (b : Int) (cs : List Pr) (n : Int) : List Al.Cn := (Se.inAll n b (Al.along r n) cs cs.length).map (fun q => (n, Al.along r n, q))

theorem Al.cstep_put (nm : List UInt8) (cs : List Pr) (st : Al.St) (c : Al.Cn) : Al.cstep nm cs st c = match cs[c.2.2.1]? with | none => st | some z => Al.put st (Al.mis c.1 c.2.1 (z.2.drop c.2.2.2)) ⟨nm, 1, c.1, z.1, (c.2.2.2 : Int), (Al.mis c.1 c.2.1 (z.2.drop c.2.2.2) : Int), c.2.1, Al.calls c.1 c.2.1 z.2 c.2.2.2 c.2.1.length⟩ ⟨nm, 2, 0, [], 0, 0, [], []⟩ := by
  unfold Al.cstep Al.step Al.put
  cases cs[c.2.2.1]? <;> rfl

theorem Al.cstep_comm (nm : List UInt8) (cs : List Pr) (st : Al.St) (x y : Al.Cn) : Al.cstep nm cs (Al.cstep nm cs st x) y = Al.cstep nm cs (Al.cstep nm cs st y) x := by
  rw [Al.cstep_put nm cs st x, Al.cstep_put nm cs st y, Al.cstep_put, Al.cstep_put]
  cases cs[x.2.2.1]? with
  | none => cases cs[y.2.2.1]? <;> rfl
  | some z =>
    cases cs[y.2.2.1]? with
    | none => rfl
    | some u => exact Al.put_comm _ _ _ _ _ _

theorem Al.upto_rows (nm r : List UInt8) (b : Int) (cs : List Pr) : Al.upto nm r b cs 4 = ((Al.row r b cs 1 ++ Al.row r b cs 2) ++ (Al.row r b cs 3 ++ Al.row r b cs 4)).foldl (Al.cstep nm cs) ⟨⟨nm, 0, 0, [], 0, 0, [], []⟩, -1⟩ := by
  have e : ∀ (st : Al.St) (n : Int), Al.strand nm r b cs st n = (Al.row r b cs n).foldl (Al.cstep nm cs) st := fun st n => by
    unfold Al.strand Al.row
    rw [List.foldl_map]
    rfl
  rw [List.foldl_append, List.foldl_append, List.foldl_append, ← e, ← e, ← e, ← e]
  rfl

/-- a record on the strand beside its own -/
def Al.turnR (x : Rc) : Rc := if x.vd = 1 then ⟨x.nm, x.vd, Al.swap x.sd, x.ct, x.pl, x.mm, x.lt, x.cl⟩ else x
def Al.turn (st : Al.St) : Al.St := ⟨Al.turnR st.best, st.least⟩

theorem Al.turn_put (st : Al.St) (m : Nat) (x am : Rc) (h : Al.turnR am = am) : Al.put (Al.turn st) m (Al.turnR x) am = Al.turn (Al.put st m x am) := by
  unfold Al.put
  show (if 0 ≤ st.least ∧ st.least < (m : Int) then Al.turn st else if (m : Int) = st.least then ⟨am, st.least⟩ else ⟨Al.turnR x, (m : Int)⟩) = _
  split
  · rfl
  · split
    · show _ = Al.St.mk (Al.turnR am) _
      rw [h]
    · rfl

theorem Al.turn_step (nm : List UInt8) (cs : List Pr) (st : Al.St) (c : Al.Cn) (hc : Lt.topB (Al.swap c.1) = Lt.topB c.1) : Al.cstep nm cs (Al.turn st) (Al.swap c.1, c.2) = Al.turn (Al.cstep nm cs st c) := by
  rw [Al.cstep_put, Al.cstep_put]
  dsimp only
  cases cs[c.2.2.1]? with
  | none => rfl
  | some z =>
    dsimp only
    rw [Al.mis_top hc, Al.calls_top hc, ← Al.turn_put _ _ _ _ (by rfl)]
    rfl

theorem Al.turn_fold (nm : List UInt8) (cs : List Pr) : ∀ (l : List Al.Cn) (st : Al.St), (∀ c ∈ l, Lt.topB (Al.swap c.1) = Lt.topB c.1) → (l.map (fun c => (Al.swap c.1, c.2))).foldl (Al.cstep nm cs) (Al.turn st) = Al.turn (l.foldl (Al.cstep nm cs) st) := by
  intro l
  induction l with
  | nil => intro st _; rfl
  | cons c l ih =>
    intro st h
    rw [List.map_cons, List.foldl_cons, List.foldl_cons, Al.turn_step _ _ _ _ (h c List.mem_cons_self)]
    exact ih _ (fun d hd => h d (List.mem_cons_of_mem _ hd))

theorem Al.row_turn (r : List UInt8) (b : Int) (cs : List Pr) (n m : Int) (h1 : Al.swap m = n) (h2 : Lt.topB n = Lt.topB m) (h3 : Al.along (Lt.rev r) n = Al.along r m) : Al.row (Lt.rev r) b cs n = (Al.row r b cs m).map (fun c => (Al.swap c.1, c.2)) := by
  unfold Al.row
  rw [h3, Se.inAll_top h2, List.map_map]
  refine List.map_congr_left fun q _ => ?_
  show (n, _, _) = (Al.swap m, _, _)
  rw [h1]

theorem Al.row_strand (r : List UInt8) (b : Int) (cs : List Pr) (n : Int) (h : Lt.topB (Al.swap n) = Lt.topB n) : ∀ c ∈ Al.row r b cs n, Lt.topB (Al.swap c.1) = Lt.topB c.1 := by
  intro c hc
  unfold Al.row at hc
  obtain ⟨q, _, rfl⟩ := List.mem_map.1 hc
  exact h

/-- a read turned round -/
theorem Al.mirror (nm r : List UInt8) (b : Int) (cs : List Pr) : Al.upto nm (Lt.rev r) b cs 4 = Al.turn (Al.upto nm r b cs 4) := by
  have e1 : Al.along (Lt.rev r) 1 = Al.along r 3 := rfl
  have e2 : Al.along (Lt.rev r) 2 = Al.along r 4 := by show Lt.rev (Lt.rev r) = r; exact Lt.rev_rev r
  have e3 : Al.along (Lt.rev r) 3 = Al.along r 1 := by show Lt.rev (Lt.rev r) = r; exact Lt.rev_rev r
  have e4 : Al.along (Lt.rev r) 4 = Al.along r 2 := rfl
  have hp : ((Al.row r b cs 1 ++ Al.row r b cs 2) ++ (Al.row r b cs 3 ++ Al.row r b cs 4)).Perm ((Al.row r b cs 3 ++ Al.row r b cs 4) ++ (Al.row r b cs 1 ++ Al.row r b cs 2)) := List.perm_append_comm
  rw [Al.upto_rows nm r b cs, hp.foldl_eq' (fun x _ y _ z => Al.cstep_comm nm cs z x y), ← Al.turn_fold, Al.upto_rows]
  · rw [Al.row_turn r b cs 1 3 rfl rfl e1, Al.row_turn r b cs 2 4 rfl rfl e2, Al.row_turn r b cs 3 1 rfl rfl e3, Al.row_turn r b cs 4 2 rfl rfl e4, List.map_append, List.map_append, List.map_append]
    rfl
  · intro c hc
    rcases List.mem_append.1 hc with hc | hc
    · rcases List.mem_append.1 hc with hc | hc
      · exact Al.row_strand r b cs 3 rfl c hc
      · exact Al.row_strand r b cs 4 rfl c hc
    · rcases List.mem_append.1 hc with hc | hc
      · exact Al.row_strand r b cs 1 rfl c hc
      · exact Al.row_strand r b cs 2 rfl c hc

end Go.Proofs.Ytjebhbopmfcopaa
