/-
  THE STEPS AHEAD OF EVERY SCRIPT ('first'), 'among', and a step as seven cells. Own text of the verifier.
  THE WALK of 'among': does a number stand in a list? Own text of the verifier.
  'plays', ONCE FOR ALL SCRIPTS: whatever invariant the steps in play keep. Own text of the verifier.
  THE WALK of 'keepsContigs': a list that came out is marked, appended to thrice, and written into the book. Own text of the verifier.
  THE WALK of the program's New. Own text of the verifier.
-/
import Derived.Test.YtjebhbopmfcopaaBun1
import Derived.Test.YtjebhbopmfcopaaBun3
import Derived.Test.YtjebhbopmfcopaaBun5
namespace Go.Proofs.Ytjebhbopmfcopaa
open Go.RowKit

/-- a step, as a value: its seven cells -/
structure OpV where
  k : Int
  a : Int
  b : Int
  c : Int
  s : ByteArray
  t : ByteArray
  la : Option Addr
  ln : Nat
  lc : Nat

def OpV.cells (o : OpV) : List Value := [.int .i64 o.k, .int .i64 o.a, .int .i64 o.b, .int .i64 o.c, .string o.s, .string o.t, .slice o.la o.ln o.lc]

/-- the ten steps that are asked in any case; h: the block of the one record -/
def firstOps (h : Nat) : List OpV := [
  ⟨1, 0, 0, 0, ⟨#[62, 111, 110, 101, 10, 65, 67, 71, 84, 10, 116, 84, 67, 103, 97, 10]⟩, ⟨#[]⟩, none, 0, 0⟩,
  ⟨2, 0, 0, 0, ⟨#[64, 114, 10, 65, 67, 71, 10, 43, 10, 73, 73, 73, 10]⟩, ⟨#[]⟩, none, 0, 0⟩,
  ⟨3, 0, 0, 0, ⟨#[65, 67, 71, 84, 78]⟩, ⟨#[]⟩, none, 0, 0⟩,
  ⟨4, 1, 0, 0, ⟨#[65, 67, 71, 84, 78]⟩, ⟨#[]⟩, none, 0, 0⟩,
  ⟨5, 0, 0, 0, ⟨#[]⟩, ⟨#[]⟩, none, 0, 0⟩,
  ⟨6, 0, 1, 1, ⟨#[84, 84, 71]⟩, ⟨#[]⟩, none, 0, 0⟩,
  ⟨7, 0, 0, 0, ⟨#[114]⟩, ⟨#[84, 84, 84, 71]⟩, none, 0, 0⟩,
  ⟨8, 0, 0, 0, ⟨#[]⟩, ⟨#[]⟩, some ⟨h, 0, none⟩, 1, 1⟩,
  ⟨9, 0, 0, 0, ⟨#[114, 9, 97, 109, 98, 105, 103, 117, 111, 117, 115, 10]⟩, ⟨#[]⟩, none, 0, 0⟩,
  ⟨10, 0, 2, 0, ⟨#[62, 111, 110, 101, 10, 65, 67, 71, 84, 84, 67, 71, 65, 10]⟩, ⟨#[64, 114, 10, 84, 84, 84, 71, 10, 43, 10, 73, 73, 73, 73, 10]⟩, none, 0, 0⟩]

def recordCells : Array Value := #[.string ⟨#[114]⟩, .int .i64 0, .int .i64 0, .string ⟨#[]⟩, .int .i64 0, .int .i64 0, .string ⟨#[]⟩, .string ⟨#[]⟩]

end Go.Proofs.Ytjebhbopmfcopaa

namespace Go.Proofs.Ytjebhbopmfcopaa
open Go.RowKit

/-- does k stand in the list? -/
def inL (pl : List Int) (k : Int) : Bool := pl.any (· == k)

theorem inL_stop (pl : List Int) (k : Int) (j : Nat) (h : j < pl.length) (he : (pl[j] == k) = true) : inL pl k = true := by
  rw [inL, List.any_eq_true]
  exact ⟨pl[j], List.getElem_mem _, he⟩
theorem inL_snoc (pl : List Int) (k : Int) (j : Nat) (h : j < pl.length) (h0 : inL (pl.take j) k = false) (he : (pl[j] == k) = false) : inL (pl.take (j + 1)) k = false := by
  rw [List.take_succ_eq_append_getElem h]
  simp only [inL, List.any_append, List.any_cons, List.any_nil, Bool.or_false] at *
  rw [h0, he]; rfl
theorem inL_whole (pl : List Int) (k : Int) (j : Nat) (h : ¬ j < pl.length) (h0 : inL (pl.take j) k = false) : inL pl k = false := by
  rwa [List.take_of_length_le (by omega)] at h0

end Go.Proofs.Ytjebhbopmfcopaa

namespace Go.Proofs.Ytjebhbopmfcopaa
open Go.RowKit

theorem Try.infoConts : (Try.prog.info? 32).map (fun i => (i.zero, i.size, i.bytes)) = some (some (.slice none 0 0), 1, 24) := by kernel_rfl

theorem cells_length (l : List OpV) : (l.flatMap OpV.cells).length = l.length * 7 := by
  induction l with
  | nil => rfl
  | cons o l ih => rw [List.flatMap_cons, List.length_append, ih, List.length_cons]; simp [OpV.cells]; omega

theorem cells_at (l : List OpV) (k : Nat) (h : k < l.length) (j : Nat) (hj : j < 7) : (l.flatMap OpV.cells)[k * 7 + j]? = (l[k].cells)[j]? := by
  induction l generalizing k with
  | nil => simp at h
  | cons o l ih =>
    rw [List.flatMap_cons]
    cases k with
    | zero => rw [List.getElem?_append_left (by simp [OpV.cells]; omega)]; simp
    | succ k =>
      rw [List.getElem?_append_right (by simp [OpV.cells]; omega)]
      have e : (k + 1) * 7 + j - o.cells.length = k * 7 + j := by simp [OpV.cells]; omega
      rw [e, ih k (by simpa using h)]
      simp

theorem cells_one (l : List OpV) : ∀ u ∈ l.flatMap OpV.cells, u.oneCell' = true := by
  intro u hu
  obtain ⟨o, ho, hu⟩ := List.mem_flatMap.1 hu
  simp only [OpV.cells, List.mem_cons, List.not_mem_nil, or_false] at hu
  rcases hu with rfl | rfl | rfl | rfl | rfl | rfl | rfl <;> rfl

theorem own_pos {w : World} {base e size n : Nat} {v : Value} {xs : List Value} (h : w.ownsRow base e size v n xs) (hn : 0 < n) : ∃ g cap, v = .slice (some ⟨g, 0, none⟩) n cap ∧ base ≤ g ∧ g < w.heap.size := by
  rcases h.2 with ⟨_, rfl⟩ | ⟨g, cap, cur, rfl, hb, hg, _⟩
  · omega
  · exact ⟨g, cap, rfl, hb, (Array.getElem?_eq_some_iff.1 hg).1⟩

/-- the reference of the law's own, just made -/
def contigObj : Obj := .cells #[.string ⟨#[111, 110, 101]⟩, .string ⟨#[65, 67, 71, 84, 84, 67, 71, 65]⟩] 58

theorem lit3 (w w2 : World) (hbel2 : Below w.heap.size w w2) :
    ((w2.alloc (.cells #[.string ⟨#[111, 110, 101]⟩, .string ⟨#[65, 67, 71, 84, 84, 67, 71, 65]⟩] 58)).alloc (.cells #[.slice (some ⟨w2.heap.size, 0, none⟩) 1 1] 32)).ownsRow w.heap.size 32 1 (.slice (some ⟨w2.heap.size + 1, 0, none⟩) 1 1) 1 [.slice (some ⟨w2.heap.size, 0, none⟩) 1 1] ∧
    Below w.heap.size w ((w2.alloc (.cells #[.string ⟨#[111, 110, 101]⟩, .string ⟨#[65, 67, 71, 84, 84, 67, 71, 65]⟩] 58)).alloc (.cells #[.slice (some ⟨w2.heap.size, 0, none⟩) 1 1] 32)) ∧
    ((w2.alloc (.cells #[.string ⟨#[111, 110, 101]⟩, .string ⟨#[65, 67, 71, 84, 84, 67, 71, 65]⟩] 58)).alloc (.cells #[.slice (some ⟨w2.heap.size, 0, none⟩) 1 1] 32)).heap[w2.heap.size]? = some contigObj := by
  have hs := hbel2.size
  generalize hA : (Obj.cells #[.string ⟨#[111, 110, 101]⟩, .string ⟨#[65, 67, 71, 84, 84, 67, 71, 65]⟩] 58) = A
  have hn : (w2.alloc A).heap.size = w2.heap.size + 1 := World.size_alloc ..
  have ho := World.ownsRow_lit (base := w.heap.size) (e := 32) (size := 1) (w2.alloc A) #[.slice (some ⟨w2.heap.size, 0, none⟩) 1 1] 1 (by rw [hn]; omega) (by decide) rfl
  rw [hn] at ho
  refine ⟨ho, (hbel2.alloc hs _).alloc (by rw [hn]; omega) _, ?_⟩
  refine (Below.heap_alloc _ _ _ (by rw [hn]; omega)).trans ?_
  rw [contigObj, hA]
  exact heap_alloc_new w2 _

end Go.Proofs.Ytjebhbopmfcopaa

namespace Go.Proofs.Ytjebhbopmfcopaa
open Go.RowKit

/-- the first k of a list's elements marked -/
def mixed (M : List UInt8) (out : List Pr) (k : Nat) : List Pr := List.replicate k (M, []) ++ out.drop k

theorem mixed_zero (M : List UInt8) (out : List Pr) : mixed M out 0 = out := by simp [mixed]
theorem mixed_whole (M : List UInt8) (out : List Pr) (k : Nat) (h : out.length ≤ k) : Prs (mixed M out k) = marks M k := by
  rw [mixed, List.drop_of_length_le h, List.append_nil]; rfl
theorem mixed_length (M : List UInt8) (out : List Pr) (k : Nat) (h : k ≤ out.length) : (mixed M out k).length = out.length := by simp [mixed]; omega
theorem mixed_set (M : List UInt8) (out : List Pr) (k : Nat) (h : k < out.length) :
    ((Prs (mixed M out k)).set (k * 2) (.string ⟨M.toArray⟩)).set (k * 2 + 1) (.string ⟨#[]⟩) = Prs (mixed M out (k + 1)) := by
  have hl : (Prs (List.replicate k (M, ([] : List UInt8)))).length = k * 2 := by rw [Prs_length, List.length_replicate]
  rw [mixed, mixed, Prs_append, Prs_append, List.replicate_succ', Prs_append, List.append_assoc]
  rw [List.set_append, if_neg (by omega), hl, Nat.sub_self, List.set_append, if_neg (by omega), hl, show k * 2 + 1 - k * 2 = 1 by omega]
  congr 1
  rw [List.drop_eq_getElem_cons h]
  simp only [Prs, List.flatMap_cons, List.flatMap_nil, prCells, List.cons_append, List.nil_append, List.append_nil, List.set_cons_zero, List.set_cons_succ]

theorem below_grown {g : Nat} {w wr w3 : World} {lb : Option Nat} (h : Below g w wr) (hg : g ≤ wr.heap.size) (hgr : wr.grownBy w3 lb) (hlb : ∀ k, lb = some k → g ≤ k) : Below g w w3 := h.grown hgr hg hlb

/-- an append of one element more never doubles a long row -/
theorem next_one (n : Nat) : Builtin.nextslicecap (n + 1) n ≤ n + (n + 768) / 4 + 1 := by
  unfold Builtin.nextslicecap
  split
  · omega
  · split
    · omega
    · simp only [Builtin.growBy]
      rw [if_neg (by omega), if_pos (by omega)]
      omega

/-- 'own = append(own, x)': one element more, as far as the model bears it -/
theorem app_own_one {w : World} {ops : Array Oper} {rest : List Oper} {o : Oper} {a : Act} {Q : Exit → Act → World → Prop} (hgd : o.guard = none) (s x : Operand) (t : TypeId)
    (ho : o.op = .call { callee := .builtin .append, args := #[s, x], argTypes := #[t, t] })
    (base : Nat) (e : TypeId) (z : Value) (ht : Try.prog.underlying t = some (.slice e)) (hinfo : (Try.prog.info? e).map (fun i => (i.zero, i.size, i.bytes)) = some (some z, 1, 24)) (hzs : z.cells.size = 1)
    (v : Value) (n : Nat) (xs : List Value) (hs : a.eval s = v) (hown : w.ownsRow base e 1 v n xs) (ad : Addr) (c : Nat) (y : Value) (hx : a.eval x = .slice (some ad) 1 c) (hy : w.cell? ad = some y) (hone : y.oneCell' = true)
    (hbase : base ≤ w.heap.size) (hlen : n ≤ 7000000000000)
    (h : ∀ v' w', w'.ownsRow base e 1 v' (n + 1) (xs ++ [y]) → w.grownBy w' v.ownBlock → wpList Try.prog ops Q rest (a.put o.dst v') w') :
    wpList Try.prog ops Q (o :: rest) a w := by
  obtain ⟨i0, hi, hz0, hz1, hz2⟩ := info_parts hinfo
  have hnews : ∀ j u, [y][j]? = some u → w.cell? (ad.add j) = some u := by
    intro j u hj
    match j, hj with
    | 0, hj =>
      simp at hj
      subst hj
      obtain ⟨b, off, k⟩ := ad
      simpa [Addr.add] using hy
  have h1 : ∀ u ∈ [y], u.oneCell' = true := by intro u hu; simp at hu; subst hu; exact hone
  by_cases hbig : n ≤ 1000000000
  · exact wpList_append_own _ hgd s x t ho base e i0 z 1 24 ht hi hz0 hz1 hz2 hzs (by decide) v n xs hs hown ad 1 c [y] hx rfl hnews h1 (by unfold maxLen; omega) (by omega) hbase (fun v' w' g1 g2 _ => h v' w' g1 g2)
  · rcases hown.2 with ⟨_, h0⟩ | ⟨g, cap, cur, hv, hb, hg, hnc, hcm, hcs, htk⟩
    · omega
    · subst hv
      by_cases hroom : n + 1 ≤ cap
      · exact wpList_append_fits _ hgd s x t ho base e i0 1 ht hi hz1 g n cap xs hs hown ad 1 c [y] hx rfl hnews h1 hroom (fun w' g1 g2 => h _ w' g1 g2)
      · have hcap : cap = n := by omega
        subst hcap
        have hxl : xs.length = cap * 1 := hown.1
        have hr := run_append_grow (P := Try.prog) w t o.type e i0 z ht hi hz0 ⟨g, 0, none⟩ cap cap xs (by rw [hz1]; exact hxl) (fun j u hj => hown.cells rfl j u hj) ad 1 c [y] (by rw [hz1]; rfl) hnews (by omega) (by omega)
          (by rw [hz2]; have := next_one cap; omega)
        have hge := grownCap_ge w (cap + 1) cap e
        have hcm' := grownCap_le_maxLen w (cap + 1) cap e (by unfold maxLen; omega)
        refine wpList_plain hgd fun K hK => ?_
        unfold Oper.wp
        simp [execOp, ho, resolve, invoke, builtin, hs, hx, hr, Result.andThen]
        refine hK _ _ (h _ _ ⟨by simp [hxl], .inr ⟨w.heap.size, _, _, rfl, hbase, heap_alloc_new w.drew _, hge, hcm', ?_, ?_⟩⟩ ⟨rfl, rfl, rfl, by simp, fun k hk _ => Below.heap_alloc w.drew _ k hk⟩)
        · have e1 : (xs ++ [y]).length = cap + 1 := by simp; omega
          simp only [Array.size_append, List.size_toArray, size_zeroCells, hzs, e1]
          omega
        · have e1 : xs.length = cap := by omega
          have e2 : (cap + 1) * 1 = (xs ++ [y]).length := by simp [e1]
          rw [e2]
          simp only [Array.toList_append]
          exact List.take_left

theorem own_raise {w : World} {b b' e size n : Nat} {v : Value} {xs : List Value} (h : w.ownsRow b e size v n xs) (hb : ∀ k, v.ownBlock = some k → b' ≤ k) : w.ownsRow b' e size v n xs := by
  refine ⟨h.1, ?_⟩
  rcases h.2 with h0 | ⟨g, cap, cur, rfl, h1, h2⟩
  · exact .inl h0
  · exact .inr ⟨g, cap, cur, rfl, hb g rfl, h2⟩

end Go.Proofs.Ytjebhbopmfcopaa

namespace Go.Proofs.Ytjebhbopmfcopaa
open Go.RowKit

/-- an index that answers for contigs -/
def IxAt (X : World) (B : Nat) (p : Value) (cs : List Pr) : Prop :=
  ∃ bx top bot, p = .pointer (some ⟨bx, 0, none⟩) ∧ X.ownsRow B 80 2 (.slice (some ⟨bx, 0, none⟩) 1 1) 1 [top, bot] ∧ X.ownsRow B 9 1 top cs.length (Ix.strs 1 cs) ∧ X.ownsRow B 9 1 bot cs.length (Ix.strs 2 cs)

theorem IxAt.below {X Y : World} {B : Nat} {p : Value} {cs : List Pr} (h : IxAt X B p cs) (hb : Below X.heap.size X Y) : IxAt Y B p cs := by
  obtain ⟨bx, top, bot, h1, h2, h3, h4⟩ := h
  exact ⟨bx, top, bot, h1, own_below h2 hb, own_below h3 hb, own_below h4 hb⟩

theorem Se.err_two (cs : List Pr) (h : (!cs.any Se.wrong && decide (0 < cs.length)) = false) : Se.newErr cs = 2 := by
  unfold Se.newErr
  by_cases h0 : cs.length = 0
  · rw [if_pos h0]
  · rw [if_neg h0]
    have : cs.any Se.wrong = true := by
      rw [decide_eq_true (by omega), Bool.and_true] at h
      simpa using h
    rw [if_pos this]
theorem Se.err_four (cs : List Pr) (h : (!cs.any Se.wrong && decide (0 < cs.length)) = true) (h4 : (decide (4096 < Se.total cs) || decide (16 < cs.length)) = true) : Se.newErr cs = 4 := by
  rw [Bool.and_eq_true] at h
  unfold Se.newErr
  rw [if_neg (by have := of_decide_eq_true h.2; omega), if_neg (by have := h.1; simpa using this)]
  rw [Bool.or_eq_true] at h4
  by_cases h16 : 16 < cs.length
  · rw [if_pos h16]
  · rw [if_neg h16]
    rcases h4 with h4 | h4
    · rw [if_pos (of_decide_eq_true h4)]
    · exact absurd (of_decide_eq_true h4) h16
theorem Se.err_none (cs : List Pr) (h : (!cs.any Se.wrong && decide (0 < cs.length)) = true) (h4 : (decide (4096 < Se.total cs) || decide (16 < cs.length)) = false) : Se.newErr cs = 0 := by
  rw [Bool.and_eq_true] at h
  rw [Bool.or_eq_false_iff] at h4
  unfold Se.newErr
  rw [if_neg (by have := of_decide_eq_true h.2; omega), if_neg (by have := h.1; simpa using this), if_neg (of_decide_eq_false h4.2), if_neg (of_decide_eq_false h4.1)]

theorem Se.total_mem (cs : List Pr) (x : Pr) (h : x ∈ cs) : x.2.length ≤ Se.total cs := by
  induction cs with
  | nil => cases h
  | cons c r ih =>
    simp only [Se.total]
    rcases List.mem_cons.1 h with rfl | h
    · omega
    · have := ih h; omega

/-- what is so of contigs that New takes -/
structure Se.Right (cs : List Pr) : Prop where
  pos : 0 < cs.length
  few : cs.length ≤ 16
  len : ∀ x ∈ cs, x.2.length ≤ 4096
  let_ : ∀ x ∈ cs, Lt.allL x.2 = true

theorem Se.right_of (cs : List Pr) (h : Se.newErr cs = 0) : Se.Right cs := by
  unfold Se.newErr at h
  split at h
  · simp at h
  · split at h
    · simp at h
    · split at h
      · simp at h
      · split at h
        · simp at h
        · next h0 h1 h2 h3 =>
          refine ⟨by omega, by omega, fun x hx => by have := Se.total_mem cs x hx; omega, fun x hx => ?_⟩
          have h4 : ¬ Se.wrong x = true := fun hw => h1 (List.any_eq_true.2 ⟨x, hx, hw⟩)
          simp only [Se.wrong, Bool.or_eq_true, Bool.not_eq_true', not_or, Bool.not_eq_false] at h4
          exact h4.1

theorem ret_two' {v : Value} {a b : Int} (h : a = b) : Ending.returned (.tuple #[v, .int .i64 a]) = .returned (.tuple #[v, .int .i64 b]) := by rw [h]

set_option maxRecDepth 100000 in
set_option maxHeartbeats 400000 in
theorem ixNew_nil (w : World) : Calls Try.prog 27 #[.slice none 0 0] w fun e w' => e = .returned (.tuple #[.pointer none, .int .i64 2]) ∧ w' = w := by
  go_enter Try.func27, Try.ntmps27
  go_wp2_with (go_at_call 39; refine (areContigs_nil _).mono ?_; rintro e w' ⟨rfl, hw⟩; subst w')
  go_ret2
  exact ⟨rfl, rfl⟩

set_option maxRecDepth 100000 in
set_option maxHeartbeats 1600000 in
theorem ixNew_any (cs : List Pr) (G cc : Nat) (w : World) (hc : cs.length ≤ 140737488355327) (hN : ∀ x ∈ cs, x.2.length ≤ 140737488355327) (hC : Cs w G cs) :
    Calls Try.prog 27 #[.slice (some ⟨G, 0, none⟩) cs.length cc] w fun e w' => ∃ p, e = .returned (.tuple #[p, .int .i64 (Se.newErr cs)]) ∧ Below w.heap.size w w' ∧ ((Se.newErr cs ≠ 0 ∧ p = .pointer none) ∨ (Se.newErr cs = 0 ∧ IxAt w' w.heap.size p cs)) := by
  have HN : Hid _ := hN
  have HC : Hid (Cs w G cs) := hC
  clear hN hC
  cases h1 : (!cs.any Se.wrong && decide (0 < cs.length)) with
  | false =>
    have HE : Hid _ := Se.err_two cs h1
    have H1 : Hid _ := h1
    clear h1
    go_enter Try.func27, Try.ntmps27
    go_wp2_with (go_at_call 39; refine (areContigs_any cs G cc _ hc HN.out HC.out).mono ?_; rw [H1.out]; rintro e w1 ⟨rfl, hb1⟩)
    go_ret2
    exact ⟨_, ret_two' HE.out.symm, hb1, .inl ⟨by rw [HE.out]; decide, rfl⟩⟩
  | true =>
    have H1 : Hid _ := h1
    cases h2 : (decide (4096 < Se.total cs) || decide (16 < cs.length)) with
    | true =>
      have HE : Hid _ := Se.err_four cs h1 h2
      have H2 : Hid _ := h2
      clear h1 h2
      go_enter Try.func27, Try.ntmps27
      go_wp2_with fail
      refine (areContigs_any cs G cc _ hc HN.out HC.out).mono ?_
      rw [H1.out]
      rintro e w1 ⟨rfl, hb1⟩
      go_wp2_with fail
      refine (areTooMany_any cs G cc _ hc HN.out (Cs.below HC.out hb1)).mono ?_
      rw [H2.out]
      rintro e w2 ⟨rfl, hb2⟩
      go_wp2
      go_ret2
      exact ⟨_, ret_two' HE.out.symm, hb1.trans (hb2.mono hb1.size), .inl ⟨by rw [HE.out]; decide, rfl⟩⟩
    | false =>
      have HE : Hid _ := Se.err_none cs h1 h2
      have H2 : Hid _ := h2
      clear h1 h2
      have hr := Se.right_of cs HE.out
      have hfew := hr.few
      have HLN : Hid (∀ x ∈ cs, x.2.length ≤ 100000) := fun x hx => by have := hr.len x hx; omega
      have HLL : Hid _ := hr.let_
      clear hr
      go_enter Try.func27, Try.ntmps27
      go_wp2_with fail
      refine (areContigs_any cs G cc _ hc HN.out HC.out).mono ?_
      rw [H1.out]
      rintro e w1 ⟨rfl, hb1⟩
      go_wp2_with fail
      refine (areTooMany_any cs G cc _ hc HN.out (Cs.below HC.out hb1)).mono ?_
      rw [H2.out]
      rintro e w2 ⟨rfl, hb2⟩
      have hb12 := hb1.trans (hb2.mono hb1.size)
      have HC2 : Hid _ := Cs.below HC.out hb12
      go_wp2_with fail
      refine (converted_any cs G cc 1 _ (by omega) HLN.out HLL.out (by decide) HC2.out).mono ?_
      rintro e w3 ⟨v1, rfl, ho1, hb3⟩
      go_wp2_with fail
      refine (converted_any cs G cc 2 _ (by omega) HLN.out HLL.out (by decide) (Cs.below HC2.out hb3)).mono ?_
      rintro e w4 ⟨v2, rfl, ho2, hb4⟩
      have hb13 := hb12.trans (hb3.mono hb12.size)
      have hb14 := hb13.trans (hb4.mono hb13.size)
      have s1 := hb12.size
      have s2 := hb13.size
      have s3 := hb14.size
      have o1 := own_base (own_below ho1 hb4) s1
      have o2 := own_base ho2 s2
      have hfin : IxAt (w4.alloc (.cells #[v1, v2] 80)) w.heap.size (.pointer (some ⟨w4.heap.size, 0, none⟩)) cs :=
        ⟨w4.heap.size, v1, v2, rfl, World.ownsRow_lit w4 #[v1, v2] 1 s3 (by decide) rfl, o1.alloc _, o2.alloc _⟩
      have HFIN : Hid _ := hfin
      have HBF : Hid _ := hb14.alloc s3 (.cells #[v1, v2] 80)
      obtain ⟨a1, c1, hf1⟩ := own_form ho1
      obtain ⟨a2, c2, hf2⟩ := own_form ho2
      subst hf1 hf2
      clear hfin o1 o2 ho1 ho2 hb3 hb4 hb13 hb14 hb12 hb1 hb2
      go_wp2
      go_ret2
      exact ⟨_, ret_two' HE.out.symm, HBF.out, .inr ⟨HE.out, HFIN.out⟩⟩

end Go.Proofs.Ytjebhbopmfcopaa
