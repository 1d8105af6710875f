/-
  THE WORLD of the law Searches: its indexes, each beside its reference, and its book of places. Own text of the verifier.
  THE WALK of the World's 'made': the contigs are lent, an index is made of them, the error is held against the document's. Own text of the verifier.
  THE WALK of the World's 'found': an index is asked, and the document; the answers are held against each other, and what came out is written into the book. Own text of the verifier.
  THE PROGRAM'S Align: letters along the reference, places that lie in the contigs, the calls. Own text of the verifier.
  THE DOCUMENT'S RECORDS: the line of one that is right. Own text of the verifier.
  THE DOCUMENT'S Render. Own text of the verifier.
  RECORDS THAT ARE HANDED IN: with spare room, laid by the statement itself, and looked at again behind the call. Own text of the verifier.
-/
import Derived.Test.YtjebhbopmfcopaaBun7
import Derived.Test.YtjebhbopmfcopaaBun8
import Derived.Laws.StructEq
import Derived.Test.YtjebhbopmfcopaaXPaMis
import Derived.Test.YtjebhbopmfcopaaBun4
import Derived.BigQuiet
import Derived.Test.YtjebhbopmfcopaaBun3
namespace Go.Proofs.Ytjebhbopmfcopaa
open Go.RowKit

theorem add_block (ad : Addr) (j : Nat) : (ad.add j).block = ad.block := by unfold Addr.add; split <;> rfl

/-- a reference that lies below block g -/
structure RefAt (X : World) (g : Nat) (v : Value) (cs : List Pr) : Prop where
  ref : RefOk X v cs
  low : 0 < cs.length → ∀ ad l c, v = .slice (some ad) l c → ad.block < g

theorem RefAt.below {X Y : World} {g : Nat} {v : Value} {cs : List Pr} (h : RefAt X g v cs) (hb : Below g X Y) : RefAt Y g v cs := by
  refine ⟨⟨?_, h.ref.len, h.ref.txt⟩, h.low⟩
  rcases h.ref.src with hs | ⟨ad, c, rfl, hs⟩
  · exact .inl hs
  · refine .inr ⟨ad, c, rfl, fun j u hj => ?_⟩
    have hpos : 0 < cs.length := by
      have := (List.getElem?_eq_some_iff.1 hj).1
      rw [Prs_length] at this
      omega
    rw [hb.cell (p := ad.add j) (by rw [add_block]; exact h.low hpos ad _ _ rfl)]
    exact hs j u hj

theorem RefAt.form {X : World} {g : Nat} {v : Value} {cs : List Pr} (h : RefAt X g v cs) : ∃ ao c, v = .slice ao cs.length c := by
  rcases h.ref.src with ⟨rfl, h0, _⟩ | ⟨ad, c, rfl, _⟩
  · exact ⟨none, 0, by rw [h0]⟩
  · exact ⟨some ad, c, rfl⟩

/-- an index of the program, its reference, and what that holds -/
abbrev Px := Value × Value × List Pr
def pxCells (p : Px) : List Value := [p.1, p.2.1]
def Pxs (l : List Px) : List Value := l.flatMap pxCells
theorem Pxs_cons (p : Px) (l : List Px) : Pxs (p :: l) = p.1 :: p.2.1 :: Pxs l := rfl
theorem Pxs_length (l : List Px) : (Pxs l).length = l.length * 2 := by
  induction l with
  | nil => rfl
  | cons a l ih => rw [Pxs_cons, List.length_cons, List.length_cons, ih, List.length_cons]; omega
theorem Pxs_append (l r : List Px) : Pxs (l ++ r) = Pxs l ++ Pxs r := by simp [Pxs]
theorem Pxs_at (l : List Px) (k : Nat) (h : k < l.length) : (Pxs l)[k * 2]? = some l[k].1 ∧ (Pxs l)[k * 2 + 1]? = some l[k].2.1 := by
  induction l generalizing k with
  | nil => simp at h
  | cons a l ih =>
    cases k with
    | zero => simp [Pxs_cons]
    | succ k =>
      have := ih k (by simpa using h)
      rw [Pxs_cons, show (k + 1) * 2 = k * 2 + 1 + 1 by omega]
      simpa using this

/-- each index answers for its reference -/
def PairsOk (X : World) (g : Nat) (ps : List Px) : Prop := ∀ p ∈ ps, IxAt X (g + 1) p.1 p.2.2 ∧ Se.newErr p.2.2 = 0 ∧ RefAt X g p.2.1 p.2.2

theorem IxAt.move {X Z : World} {B : Nat} {p : Value} {cs : List Pr} (h : IxAt X B p cs)
    (hp : ∀ e s v n xs, (e = 80 ∨ e = 9) → (∀ q, v.ownBlock = some q → q < X.heap.size) → X.ownsRow B e s v n xs → Z.ownsRow B e s v n xs) : IxAt Z B p cs := by
  obtain ⟨bx, top, bot, h1, h2, h3, h4⟩ := h
  exact ⟨bx, top, bot, h1, hp _ _ _ _ _ (.inl rfl) (fun q hq => (h2.lt q hq).2) h2, hp _ _ _ _ _ (.inr rfl) (fun q hq => (h3.lt q hq).2) h3, hp _ _ _ _ _ (.inr rfl) (fun q hq => (h4.lt q hq).2) h4⟩

theorem PairsOk.move {X Z : World} {g : Nat} {ps : List Px} (h : PairsOk X g ps)
    (hp : ∀ e s v n xs, (e = 80 ∨ e = 9) → (∀ q, v.ownBlock = some q → q < X.heap.size) → X.ownsRow (g + 1) e s v n xs → Z.ownsRow (g + 1) e s v n xs) (hb : Below g X Z) : PairsOk Z g ps :=
  fun p hm => let ⟨h1, h2, h3⟩ := h p hm; ⟨h1.move hp, h2, h3.below hb⟩

end Go.Proofs.Ytjebhbopmfcopaa

namespace Go.Proofs.Ytjebhbopmfcopaa
open Go.RowKit

theorem lentC_block {X w1 : World} {cs : List Pr} {lv v : Value} (hl : LentC X w1 cs lv v) : X.heap.size ≤ w1.heap.size ∧ Below X.heap.size X w1 ∧ ∀ q, v.ownBlock = some q → q = X.heap.size ∧ X.heap.size < w1.heap.size := by
  rcases hl with ⟨_, _, rfl, rfl⟩ | ⟨ad, cc, _, rfl, ho, hb, hlt⟩
  · exact ⟨Nat.le_refl _, Below.refl _ _, fun q hq => by cases hq⟩
  · exact ⟨by omega, hb, fun q hq => by cases hq; exact ⟨rfl, hlt⟩⟩

theorem lentC_form {X w1 : World} {cs : List Pr} {lv v : Value} (hl : LentC X w1 cs lv v) : ∃ ao n c, v = .slice ao n c := by
  rcases hl with ⟨_, _, rfl, rfl⟩ | ⟨ad, cc, _, rfl, ho, hb, hlt⟩
  · exact ⟨_, _, _, rfl⟩
  · exact ⟨_, _, _, rfl⟩

theorem lentC_new {X w1 : World} {cs : List Pr} {lv v : Value} (hl : LentC X w1 cs lv v) (hr : RefOk X lv cs) :
    Calls Try.prog 27 #[v] w1 fun e w' => ∃ p, e = .returned (.tuple #[p, .int .i64 (Se.newErr cs)]) ∧ Below w1.heap.size w1 w' ∧ ((Se.newErr cs ≠ 0 ∧ p = .pointer none) ∨ (Se.newErr cs = 0 ∧ IxAt w' w1.heap.size p cs)) := by
  have hlen := hr.len
  rcases hl with ⟨_, rfl, rfl, rfl⟩ | ⟨ad, cc, _, rfl, ho, hb, hlt⟩
  · refine (ixNew_nil _).mono ?_
    rintro e w' ⟨rfl, rfl⟩
    exact ⟨_, rfl, Below.refl _ _, .inl ⟨by decide, rfl⟩⟩
  · refine ixNew_any cs X.heap.size (cs.length + 8) w1 (by omega) (fun x hx => by have := (hr.txt x hx).2; omega) (fun k hk => ?_)
    have := own_pair ho k (by rw [lentC_length]; omega)
    rw [lentC_low cs k hk] at this
    exact this

end Go.Proofs.Ytjebhbopmfcopaa

namespace Go.Proofs.Ytjebhbopmfcopaa
open Go.RowKit

theorem eq_place (a b : Int) (w : World) : (Op.equalIn 10000 37 (.agg #[.int .i64 a, .int .i64 b]) (.agg #[.int .i64 a, .int .i64 b])).run Try.prog w = .ok true w := by
  simp [go_sem, Try.underlying37, Try.underlying3]
theorem eql_place (a b : Int) (w : World) : (binOp .eql 37 (.agg #[.int .i64 a, .int .i64 b]) (.agg #[.int .i64 a, .int .i64 b])).run Try.prog w = .ok (.bool true) w := by
  rw [run_eql_struct, eq_place]; rfl

theorem pls_at (l : List (Nat × Nat)) (k : Nat) (h : k < l.length) : (Se.pls l)[k * 2]? = some (.int .i64 (l[k].1 : Int)) ∧ (Se.pls l)[k * 2 + 1]? = some (.int .i64 (l[k].2 : Int)) := by
  induction l generalizing k with
  | nil => simp at h
  | cons a l ih =>
    have e : Se.pls (a :: l) = .int .i64 (a.1 : Int) :: .int .i64 (a.2 : Int) :: Se.pls l := rfl
    cases k with
    | zero => rw [e]; simp
    | succ k =>
      have := ih k (by simpa using h)
      rw [e, show (k + 1) * 2 = k * 2 + 1 + 1 by omega]
      simpa using this

theorem own_place {w : World} {base e n cap g : Nat} {l : List (Nat × Nat)} (h : w.ownsRow base e 2 (.slice (some ⟨g, 0, none⟩) n cap) n (Se.pls l)) (k : Nat) (hk : k < l.length) :
    w.cell? ⟨g, k * 2, none⟩ = some (.int .i64 (l[k].1 : Int)) ∧ w.cell? ⟨g, k * 2 + 1, none⟩ = some (.int .i64 (l[k].2 : Int)) := by
  have hl : l.length * 2 = n * 2 := by have := h.1; rw [Se.pls_length] at this; exact this
  obtain ⟨p0, p1⟩ := pls_at l k hk
  exact ⟨(h.cellAt (k * 2) (by omega)).trans p0, (h.cellAt (k * 2 + 1) (by omega)).trans p1⟩

theorem Se.findOut_length {cs : List Pr} (h : Se.Right cs) (n b : Int) (S : List UInt8) : (Se.findOut n b S cs).length ≤ 90000 := by
  unfold Se.findOut
  split
  · have h1 := Se.inAll_length n b S cs 4096 h.len cs.length
    have h2 := h.few
    have h3 : cs.length * (4096 + 1) ≤ 16 * (4096 + 1) := Nat.mul_le_mul_right _ h2
    omega
  · simp

end Go.Proofs.Ytjebhbopmfcopaa

namespace Go.Proofs.Ytjebhbopmfcopaa
open Go.RowKit

theorem Pa.strand_cases {n : Int} (h : Lt.strandB n = true) : n = 1 ∨ n = 2 ∨ n = 3 ∨ n = 4 := by
  rw [Lt.strandB_int] at h
  simp only [Bool.or_eq_true, beq_iff_eq] at h
  omega

set_option maxHeartbeats 800000 in
theorem palong_any (s : ByteArray) (n : Int) (w : World) (hs : s.size ≤ 140737488355327) (hn : Lt.strandB n = true) (hL : n = 1 ∨ Lt.allL s.data.toList = true) :
    Calls Try.prog 42 #[.string s, .int .i64 n] w fun e w' => e = .returned (.string ⟨(Al.along s.data.toList n).toArray⟩) ∧ Below w.heap.size w w' := by
  obtain ⟨R, hR⟩ : ∃ R, R = Al.along s.data.toList n := ⟨_, rfl⟩
  rw [← hR]
  have HC : Hid (Lt.allL s.data.toList = true → ∀ W : World, Calls Try.prog 9 #[.string s] W fun e w' => e = .returned (.tuple #[.string ⟨(Lt.rev s.data.toList).toArray⟩, .int .i64 0]) ∧ Below W.heap.size W w') := fun h W => reverse_good s W (by omega) h
  rcases Pa.strand_cases hn with rfl | rfl | rfl | rfl
  · have HR : Hid (R = s.data.toList) := hR
    clear hR hL hn
    go_enter Try.func42, Try.ntmps42
    go_wp2
    go_ret
    exact ⟨by rw [HR.out]; rfl, Below.refl _ _⟩
  · have HR : Hid (R = Lt.rev s.data.toList) := hR
    have HC2 : Hid _ := HC.out (hL.resolve_left (by decide))
    clear hR hL hn HC
    go_enter Try.func42, Try.ntmps42
    go_wp2_with (go_at_call 9; refine (HC2.out _).mono ?_; rintro e w1 ⟨rfl, hb1⟩)
    go_ret
    exact ⟨by rw [HR.out]; rfl, hb1⟩
  · have HR : Hid (R = Lt.rev s.data.toList) := hR
    have HC2 : Hid _ := HC.out (hL.resolve_left (by decide))
    clear hR hL hn HC
    go_enter Try.func42, Try.ntmps42
    go_wp2_with (go_at_call 9; refine (HC2.out _).mono ?_; rintro e w1 ⟨rfl, hb1⟩)
    go_ret
    exact ⟨by rw [HR.out]; rfl, hb1⟩
  · have HR : Hid (R = s.data.toList) := hR
    clear hR hL hn
    go_enter Try.func42, Try.ntmps42
    go_wp2
    go_ret
    exact ⟨by rw [HR.out]; rfl, Below.refl _ _⟩

set_option maxRecDepth 100000 in
set_option maxHeartbeats 800000 in
theorem plies_yes (N cc : Nat) (ad : Addr) (c p m : Nat) (x : List UInt8) (w : World) (hc : c < N) (hx : p + m ≤ x.length) (hxm : x.length ≤ 100000) (s1 : w.cell? (ad.add (c * 2 + 1)) = some (.string ⟨x.toArray⟩)) :
    Calls Try.prog 43 #[.slice (some ad) N cc, .agg #[.int .i64 (c : Int), .int .i64 (p : Int)], .int .i64 (m : Int)] w fun e w' => e = .returned (.bool true) ∧ Below w.heap.size w w' := by
  have hs1 : ∀ o, (w.alloc o).cell? ⟨(ad.add (c * 2)).block, (ad.add (c * 2)).off + 1, none⟩ = some (.string ⟨x.toArray⟩) := fun o => by
    rw [addr_next]
    exact (((Below.refl _ _).alloc (Nat.le_refl _) o).cell (World.block_lt_of_cell? w _ s1)).trans s1
  have HB : Hid (∀ o n, Below w.heap.size w ((w.alloc o).drewN n)) := fun o n => below_drewN ((Below.refl _ _).alloc (Nat.le_refl _) o) n
  have hc' : (c : Int) < (N : Int) := by omega
  have hxs : (⟨x.toArray⟩ : ByteArray).size = x.length := str_size x
  have hx' : (p : Int) + (m : Int) ≤ (x.length : Int) := by omega
  clear s1
  go_enter Try.func43, Try.ntmps43
  go_wp2_with fail
  go_quiet (fail)
  go_wp2
  go_ret
  exact ⟨ret_bool (by simp), HB.out _ _⟩

theorem Pa.calls_at (n : Int) (s t : List UInt8) (p m k : Nat) (h : k < (Al.calls n s t p m).length) : (Al.calls n s t p m)[k] = Al.call n (s.getD k 0) t (p + k) := by
  simp [Al.calls]

set_option maxRecDepth 100000 in
set_option maxHeartbeats 800000 in
theorem pcalls_any (s t : ByteArray) (p : Nat) (n : Int) (w : World) (hn : Lt.strandB n = true) (hs : s.size ≤ 1000000) (ht : t.size ≤ 1000000) (hp : p + s.size ≤ t.size) (hL : Lt.allL t.data.toList = true) :
    Calls Try.prog 47 #[.string s, .string t, .int .i64 (p : Int), .int .i64 n] w fun e w' => e = .returned (.string ⟨(Al.calls n s.data.toList t.data.toList p s.size).toArray⟩) ∧ Below w.heap.size w w' := by
  have HPC : Hid _ := fun (c : UInt8) (k : Nat) (h : k < t.size) (W : World) => pcall_any c t k n W hn (by omega) h hL
  have hsm : s.size ≤ maxLen := by unfold maxLen; omega
  have hssz : s.data.toList.length = s.size := by simp
  obtain ⟨i0, hi, hz0, hz1, hz2⟩ := info_parts Try.infoU8
  obtain ⟨CL, hCL⟩ : ∃ CL, CL = Al.calls n s.data.toList t.data.toList p s.size := ⟨_, rfl⟩
  have HR : Hid (CL.length = s.size) := by show _ = _; rw [hCL, Al.calls_length]
  have HAT : Hid (∀ k (h : k < CL.length) (h2 : k < s.size), CL[k] = Al.call n s[k] t.data.toList (p + k)) := fun k h h2 => by
    subst hCL
    rw [Pa.calls_at, List.getD_eq_getElem?_getD, List.getElem?_eq_getElem (by rw [hssz]; exact h2)]
    rfl
  rw [← hCL]
  clear hCL hL hn
  go_enter Try.func47, Try.ntmps47
  go_wp2_with (at_make; refine wpList_make_full _ rfl _ _ 59 rfl w.heap.size 5 i0 (.int .u8 0) 1 Try.underlying59 hi hz0 hz1 _ _ _ _ s.size rfl rfl rfl rfl ?h1 ?h2 ?h3 ?_)
  case h1 => rw [hz2]; omega
  case h2 => exact hsm
  case h3 => exact Nat.le_refl _
  · intro w1 hown0 hgrow
    have hbel0 : Below w.heap.size w w1 := (Below.refl _ _).grown hgrow (Nat.le_refl _) (fun k hk => by cases hk)
    rw [toList_madeCells_one, ← filled_zero CL s.size] at hown0
    clear hgrow
    go_wp2
    go_loopw [16] (fun i wr => ∃ k : Nat, k ≤ s.size ∧ i = .int .i64 k ∧ wr.ownsRow w.heap.size 5 1 (.slice (some ⟨w.heap.size, 0, none⟩) s.size s.size) s.size (filled CL s.size k) ∧ Below w.heap.size w wr)
      (fun i _ => s.size - (intOf i).toNat)
    case atStart => exact ⟨0, Nat.zero_le _, rfl, hown0, hbel0⟩
    case round =>
      clear hown0 hbel0
      obtain ⟨k, hk, rfl, hown, hbel⟩ := hrel
      by_cases hlt : k < s.size
      · obtain ⟨v0, hc0, _⟩ := own_cell hown k hlt
        have hfr := hown.frozenAt k
        have hkc : k < CL.length := by rw [HR.out]; exact hlt
        obtain ⟨cl, hcl⟩ : ∃ cl, cl = CL[k] := ⟨_, rfl⟩
        have hst := hown.stored k (.int .u8 (cl.toNat : Int))
        rw [hcl, filled_set _ _ _ HR.out hlt, ← hcl] at hst
        have hbel1 := hbel.setCell (p := ⟨w.heap.size, k, none⟩) (Nat.le_refl _) (.int .u8 (cl.toNat : Int))
        have hi1 := ix_str s k hlt (k : Int) rfl
        have hlt' : (k : Int) < (s.size : Int) := by omega
        have HCC : Hid (∀ W : World, Calls Try.prog 49 #[.int .u8 (s[k].toNat : Int), .string t, .int .i64 ((p : Int) + (k : Int)), .int .i64 n] W fun e w' => e = .returned (.int .u8 (cl.toNat : Int)) ∧ w' = W) := fun W => by
          have h := HPC.out s[k] (p + k) (by omega) W
          rw [← HAT.out k hkc hlt, ← hcl, show ((p + k : Nat) : Int) = (p : Int) + (k : Int) by omega] at h
          exact h
        have HST := hst.1
        clear hst hcl
        have HST : Hid _ := HST
        have HB : Hid _ := hbel1
        clear hbel1 hown hbel
        go_wp2_with (go_at_call 49; refine (HCC.out _).mono ?_; rintro e w' ⟨rfl, hw⟩; subst w')
        go_roundw
        case rel => exact ⟨k + 1, by omega, by go_num, HST.out, HB.out⟩
        case measure => simp [intOf]; omega
      · have hkn : k = s.size := by omega
        subst hkn
        rw [filled_whole _ _ HR.out] at hown
        have hback := back_own hown
        go_wp2
        go_ret
        exact ⟨rfl, hbel⟩

end Go.Proofs.Ytjebhbopmfcopaa

namespace Go.Proofs.Ytjebhbopmfcopaa
open Go.RowKit

/-- the line of a record -/
def Rc.line (r : Rc) : List UInt8 :=
  if r.vd = 1 then r.nm ++ [9] ++ Ln.verdict r.vd ++ [9] ++ Ln.strand r.sd ++ [9] ++ r.ct ++ [9] ++ Ln.dig 3 r.pl.toNat ++ [9] ++ Ln.dig 3 r.mm.toNat ++ [9] ++ r.lt ++ [9] ++ r.cl ++ [10]
  else r.nm ++ [9] ++ Ln.verdict r.vd ++ [10]

theorem Ln.verdict_length (n : Int) : (Ln.verdict n).length ≤ 9 := by unfold Ln.verdict; split; decide; split <;> decide
theorem Ln.strand_length (n : Int) : (Ln.strand n).length ≤ 4 := by unfold Ln.strand; split; decide; split; decide; split <;> decide

theorem add_hid (x y z : List UInt8) (hz : z = x ++ y) (h : z.length ≤ 9223372036854775807) : ∀ w : World, (Op.stringOp .add ⟨x.toArray⟩ ⟨y.toArray⟩).run Try.prog w = .ok (.string ⟨z.toArray⟩) w := fun w => by
  have := add_texts w x y (by rw [hz, List.length_append] at h; omega)
  rw [hz]
  exact this

structure Rc.Short (r : Rc) : Prop where
  nm : r.nm.length ≤ 32
  ct : r.ct.length ≤ 32
  lt : r.lt.length ≤ 128
  cl : r.cl.length ≤ 128
  p0 : 0 ≤ r.pl
  p1 : r.pl ≤ 4096
  m0 : 0 ≤ r.mm
  m1 : r.mm ≤ 128

theorem Rc.short_of {r : Rc} (h : r.right = true) : r.nm.length ≤ 32 ∧ (r.vd = 1 → r.Short) := by
  unfold Rc.right at h
  split at h
  · simp at h
  · next hn =>
    have hn' : Ln.name r.nm = true := by simpa using hn
    have h32 : r.nm.length ≤ 32 := by
      simp only [Ln.name, Bool.and_eq_true, decide_eq_true_eq] at hn'
      exact hn'.2.2
    refine ⟨h32, fun hv => ?_⟩
    split at h
    · simp at h
    · split at h
      · simp at h
      · simp only [Rc.full, Ln.name, Bool.and_eq_true, decide_eq_true_eq, beq_iff_eq] at h
        obtain ⟨_, ⟨_, _, hc⟩, _, _, h1, h2, _, h4, h5, h6, h7⟩ := h
        exact ⟨h32, hc, by omega, by omega, h1, h2, h5, by omega⟩

theorem Rc.line_length {r : Rc} (h : r.right = true) : r.line.length ≤ 400 := by
  obtain ⟨h1, h2⟩ := Rc.short_of h
  have hv := Ln.verdict_length r.vd
  unfold Rc.line
  split
  · next hv1 =>
    obtain ⟨s1, s2, s3, s4, _, _, _, _⟩ := h2 hv1
    have := Ln.strand_length r.sd
    have := Ln.dig_length 3 r.pl.toNat
    have := Ln.dig_length 3 r.mm.toNat
    simp only [List.length_append, List.length_cons, List.length_nil]
    omega
  · simp only [List.length_append, List.length_cons, List.length_nil]
    omega

end Go.Proofs.Ytjebhbopmfcopaa

namespace Go.Proofs.Ytjebhbopmfcopaa
open Go.RowKit

def rcCells (r : Rc) : List Value := [.string ⟨r.nm.toArray⟩, .int .i64 r.vd, .int .i64 r.sd, .string ⟨r.ct.toArray⟩, .int .i64 r.pl, .int .i64 r.mm, .string ⟨r.lt.toArray⟩, .string ⟨r.cl.toArray⟩]
def Rcs (l : List Rc) : List Value := l.flatMap rcCells
theorem Rcs_length (l : List Rc) : (Rcs l).length = l.length * 8 := by
  induction l with
  | nil => rfl
  | cons a l ih => rw [Rcs, List.flatMap_cons, List.length_append, ← Rcs, ih, List.length_cons]; simp [rcCells]; omega
theorem Rcs_append (l r : List Rc) : Rcs (l ++ r) = Rcs l ++ Rcs r := by simp [Rcs]
theorem Rcs_at (l : List Rc) (k : Nat) (h : k < l.length) (j : Nat) (hj : j < 8) : (Rcs l)[k * 8 + j]? = (rcCells l[k])[j]? := by
  induction l generalizing k with
  | nil => simp at h
  | cons o l ih =>
    rw [Rcs, List.flatMap_cons]
    cases k with
    | zero => rw [List.getElem?_append_left (by simp [rcCells]; omega)]; simp
    | succ k =>
      rw [List.getElem?_append_right (by simp [rcCells]; omega)]
      have e : (k + 1) * 8 + j - (rcCells o).length = k * 8 + j := by simp [rcCells]; omega
      rw [e]
      have := ih k (by simpa using h)
      rw [Rcs] at this
      rw [this]
      simp
theorem Rcs_one (l : List Rc) : ∀ u ∈ Rcs l, u.oneCell' = true := by
  intro u hu
  obtain ⟨o, _, hu⟩ := List.mem_flatMap.1 hu
  simp only [rcCells, List.mem_cons, List.not_mem_nil, or_false] at hu
  rcases hu with rfl | rfl | rfl | rfl | rfl | rfl | rfl | rfl <;> rfl

theorem addr_some (ad : Addr) (k i : Nat) (hi : 0 < i) : (⟨(ad.add k).block, (ad.add k).off + i, none⟩ : Addr) = ad.add (k + i) := by
  unfold Addr.add
  by_cases h : k = 0
  · simp [h]; omega
  · simp [h]; omega

/-- the cells of one record among several, as a walk asks for them -/
theorem rc_src {w : World} {ad : Addr} {l : List Rc} (h : ∀ j u, (Rcs l)[j]? = some u → w.cell? (ad.add j) = some u) (k : Nat) (hk : k < l.length) :
    w.cell? (ad.add (k * 8)) = some (.string ⟨l[k].nm.toArray⟩) ∧ w.cell? ⟨(ad.add (k * 8)).block, (ad.add (k * 8)).off + 1, none⟩ = some (.int .i64 l[k].vd) ∧ w.cell? ⟨(ad.add (k * 8)).block, (ad.add (k * 8)).off + 2, none⟩ = some (.int .i64 l[k].sd) ∧
    w.cell? ⟨(ad.add (k * 8)).block, (ad.add (k * 8)).off + 3, none⟩ = some (.string ⟨l[k].ct.toArray⟩) ∧ w.cell? ⟨(ad.add (k * 8)).block, (ad.add (k * 8)).off + 4, none⟩ = some (.int .i64 l[k].pl) ∧ w.cell? ⟨(ad.add (k * 8)).block, (ad.add (k * 8)).off + 5, none⟩ = some (.int .i64 l[k].mm) ∧
    w.cell? ⟨(ad.add (k * 8)).block, (ad.add (k * 8)).off + 6, none⟩ = some (.string ⟨l[k].lt.toArray⟩) ∧ w.cell? ⟨(ad.add (k * 8)).block, (ad.add (k * 8)).off + 7, none⟩ = some (.string ⟨l[k].cl.toArray⟩) := by
  have g : ∀ j u, j < 8 → (rcCells l[k])[j]? = some u → w.cell? (ad.add (k * 8 + j)) = some u := fun j u hj hu => h _ _ ((Rcs_at l k hk j hj).trans hu)
  refine ⟨g 0 _ (by omega) rfl, ?_, ?_, ?_, ?_, ?_, ?_, ?_⟩
  · rw [addr_some _ _ _ (by omega)]; exact g 1 _ (by omega) rfl
  · rw [addr_some _ _ _ (by omega)]; exact g 2 _ (by omega) rfl
  · rw [addr_some _ _ _ (by omega)]; exact g 3 _ (by omega) rfl
  · rw [addr_some _ _ _ (by omega)]; exact g 4 _ (by omega) rfl
  · rw [addr_some _ _ _ (by omega)]; exact g 5 _ (by omega) rfl
  · rw [addr_some _ _ _ (by omega)]; exact g 6 _ (by omega) rfl
  · rw [addr_some _ _ _ (by omega)]; exact g 7 _ (by omega) rfl

/-- Render: the error, and the text -/
def Ln.renderErr (l : List Rc) : Int := if l.all Rc.right then 0 else 9
def Ln.lines (l : List Rc) : List UInt8 := l.flatMap Rc.line
def Ln.render (l : List Rc) : List UInt8 := if l.all Rc.right then Ln.lines l else []

theorem Ln.lines_snoc (l : List Rc) (k : Nat) (h : k < l.length) : Ln.lines (l.take (k + 1)) = Ln.lines (l.take k) ++ l[k].line := by
  rw [List.take_succ_eq_append_getElem h, Ln.lines, List.flatMap_append, ← Ln.lines]
  simp
theorem Ln.lines_length : ∀ (l : List Rc), l.all Rc.right = true → (Ln.lines l).length ≤ l.length * 400 := by
  intro l
  induction l with
  | nil => intro _; simp [Ln.lines]
  | cons a l ih =>
    intro h
    rw [List.all_cons, Bool.and_eq_true] at h
    have h1 := Rc.line_length h.1
    have h2 := ih h.2
    rw [Ln.lines, List.flatMap_cons, List.length_append, ← Ln.lines, List.length_cons]
    omega

end Go.Proofs.Ytjebhbopmfcopaa

namespace Go.Proofs.Ytjebhbopmfcopaa
open Go.RowKit

/-- records that lie somewhere, of a size that can be -/
structure RecsOk (w : World) (v : Value) (rs : List Rc) : Prop where
  src : Src w v rs.length (Rcs rs)
  len : rs.length * 96 ≤ 140737488351232
  txt : ∀ r ∈ rs, r.Small

def beR : Rc := ⟨[98, 101, 121, 111, 110, 100], 0, 0, [], 0, 0, [], []⟩
def otR : Rc := ⟨[111, 116, 104, 101, 114], 0, 0, [], 0, 0, [], []⟩
def zrR : Rc := ⟨[], 0, 0, [], 0, 0, [], []⟩
def lentR (rs : List Rc) : List Rc := rs ++ List.replicate 8 beR

theorem lentR_length (rs : List Rc) : (lentR rs).length = rs.length + 8 := by simp [lentR]
theorem lentR_low (rs : List Rc) (k : Nat) (h1 : k < rs.length) (h : k < (lentR rs).length) : (lentR rs)[k] = rs[k] := by simp only [lentR, List.getElem_append_left h1]
theorem lentR_high (rs : List Rc) (k : Nat) (h1 : rs.length ≤ k) (h : k < (lentR rs).length) : (lentR rs)[k] = beR := by
  simp only [lentR, List.getElem_append_right h1, List.getElem_replicate]

theorem Rcs_cons (r : Rc) (l : List Rc) : Rcs (r :: l) = .string ⟨r.nm.toArray⟩ :: .int .i64 r.vd :: .int .i64 r.sd :: .string ⟨r.ct.toArray⟩ :: .int .i64 r.pl :: .int .i64 r.mm :: .string ⟨r.lt.toArray⟩ :: .string ⟨r.cl.toArray⟩ :: Rcs l := rfl
theorem Rcs_set (l : List Rc) (k : Nat) (h : k < l.length) (x : Rc) :
    ((((((((Rcs l).set (k * 8) (.string ⟨x.nm.toArray⟩)).set (k * 8 + 1) (.int .i64 x.vd)).set (k * 8 + 2) (.int .i64 x.sd)).set (k * 8 + 3) (.string ⟨x.ct.toArray⟩)).set (k * 8 + 4) (.int .i64 x.pl)).set (k * 8 + 5) (.int .i64 x.mm)).set (k * 8 + 6) (.string ⟨x.lt.toArray⟩)).set (k * 8 + 7) (.string ⟨x.cl.toArray⟩) = Rcs (l.set k x) := by
  induction l generalizing k with
  | nil => simp at h
  | cons o l ih =>
    cases k with
    | zero => simp [Rcs_cons]
    | succ k =>
      have e : ∀ i, (k + 1) * 8 + i = k * 8 + i + 1 + 1 + 1 + 1 + 1 + 1 + 1 + 1 := fun i => by omega
      have e0 : (k + 1) * 8 = k * 8 + 1 + 1 + 1 + 1 + 1 + 1 + 1 + 1 := by omega
      rw [e 1, e 2, e 3, e 4, e 5, e 6, e 7, e0, Rcs_cons]
      simp only [List.set_cons_succ]
      rw [ih k (by simpa using h), Rcs_cons]

def filledR (l : List Rc) (n k : Nat) : List Rc := l.take k ++ List.replicate (n - k) zrR
theorem filledR_length (l : List Rc) (n k : Nat) (h : l.length = n) (hk : k ≤ n) : (filledR l n k).length = n := by simp [filledR]; omega
theorem filledR_whole (l : List Rc) (n : Nat) (h : l.length = n) : filledR l n n = l := by simp [filledR, ← h]
theorem filledR_set (l : List Rc) (n k : Nat) (h : l.length = n) (hk : k < n) : (filledR l n k).set k (l[k]'(by omega)) = filledR l n (k + 1) := by
  unfold filledR
  have h1 : (l.take k).length = k := by rw [List.length_take]; omega
  rw [List.set_append, if_neg (by omega), h1, Nat.sub_self, List.take_succ_eq_append_getElem (by omega)]
  obtain ⟨m, hm⟩ : ∃ m, n - k = m + 1 := ⟨n - k - 1, by omega⟩
  rw [hm, show n - (k + 1) = m by omega, List.replicate_succ, List.set_cons_zero, List.append_assoc, List.singleton_append]

def wipedR (rs : List Rc) (k : Nat) : List Rc := List.replicate k otR ++ (lentR rs).drop k
theorem wipedR_zero (rs : List Rc) : wipedR rs 0 = lentR rs := by simp [wipedR]
theorem wipedR_length (rs : List Rc) (k : Nat) (h : k ≤ rs.length + 8) : (wipedR rs k).length = rs.length + 8 := by simp [wipedR, lentR_length]; omega
theorem wipedR_at (rs : List Rc) (k : Nat) (h : k < rs.length + 8) (h2 : k < (wipedR rs k).length) : (wipedR rs k)[k] = (lentR rs)[k]'(by rw [lentR_length]; exact h) := by
  simp only [wipedR]
  rw [List.getElem_append_right (by simp)]
  simp
theorem wipedR_set (rs : List Rc) (k : Nat) (h : k < rs.length + 8) : (wipedR rs k).set k otR = wipedR rs (k + 1) := by
  rw [wipedR, wipedR, List.set_append, if_neg (by simp), List.length_replicate, Nat.sub_self]
  rw [List.drop_eq_getElem_cons (by rw [lentR_length]; exact h), List.set_cons_zero, List.replicate_succ']
  simp

theorem Try.infoRec2 : (Try.prog.info? 42).map (fun i => (i.zero, i.size, i.bytes)) = some (some (.agg #[.string ⟨#[]⟩, .int .i64 0, .int .i64 0, .string ⟨#[]⟩, .int .i64 0, .int .i64 0, .string ⟨#[]⟩, .string ⟨#[]⟩]), 8, 96) := by kernel_rfl
theorem Try.sizeRec2 : (Try.prog.info? 42).map (·.size) = some 8 := by kernel_rfl

/-- empty records, as they are made -/
theorem made_recs (m : Nat) : (madeCells (Value.agg #[.string ⟨#[]⟩, .int .i64 0, .int .i64 0, .string ⟨#[]⟩, .int .i64 0, .int .i64 0, .string ⟨#[]⟩, .string ⟨#[]⟩]).cells (m * 8)).toList = Rcs (List.replicate m zrR) := by
  have hc : (Value.agg #[.string ⟨#[]⟩, .int .i64 0, .int .i64 0, .string ⟨#[]⟩, .int .i64 0, .int .i64 0, .string ⟨#[]⟩, .string ⟨#[]⟩]).cells = #[.string ⟨#[]⟩, .int .i64 0, .int .i64 0, .string ⟨#[]⟩, .int .i64 0, .int .i64 0, .string ⟨#[]⟩, .string ⟨#[]⟩] := rfl
  rw [hc]
  apply List.ext_getElem?
  intro j
  by_cases hj : j < m * 8
  · have hq : j / 8 < m := by omega
    have hj' : j = j / 8 * 8 + j % 8 := by omega
    have h2 := Rcs_at (List.replicate m zrR) (j / 8) (by simpa using hq) (j % 8) (by omega)
    rw [← hj'] at h2
    rw [h2, List.getElem_replicate]
    have h8 : j % 8 = 0 ∨ j % 8 = 1 ∨ j % 8 = 2 ∨ j % 8 = 3 ∨ j % 8 = 4 ∨ j % 8 = 5 ∨ j % 8 = 6 ∨ j % 8 = 7 := by omega
    rcases h8 with h8 | h8 | h8 | h8 | h8 | h8 | h8 | h8 <;> rw [h8] <;> simp [madeCells, hj, h8, rcCells, zrR]
  · rw [List.getElem?_eq_none (by simp [madeCells]; omega), List.getElem?_eq_none (by rw [Rcs_length, List.length_replicate]; omega)]

/-- a record stored into one of several -/
theorem own_set8 {w : World} {b e G n cap : Nat} {l : List Rc} (h : w.ownsRow b e 8 (.slice (some ⟨G, 0, none⟩) n cap) n (Rcs l)) (k : Nat) (hk : k < l.length) (x : Rc) :
    ((((((((w.setCell ⟨G, k * 8, none⟩ (.string ⟨x.nm.toArray⟩)).setCell ⟨G, k * 8 + 1, none⟩ (.int .i64 x.vd)).setCell ⟨G, k * 8 + 2, none⟩ (.int .i64 x.sd)).setCell ⟨G, k * 8 + 3, none⟩ (.string ⟨x.ct.toArray⟩)).setCell ⟨G, k * 8 + 4, none⟩ (.int .i64 x.pl)).setCell ⟨G, k * 8 + 5, none⟩ (.int .i64 x.mm)).setCell ⟨G, k * 8 + 6, none⟩ (.string ⟨x.lt.toArray⟩)).setCell ⟨G, k * 8 + 7, none⟩ (.string ⟨x.cl.toArray⟩)).ownsRow b e 8 (.slice (some ⟨G, 0, none⟩) n cap) n (Rcs (l.set k x)) ∧
    w.grownBy ((((((((w.setCell ⟨G, k * 8, none⟩ (.string ⟨x.nm.toArray⟩)).setCell ⟨G, k * 8 + 1, none⟩ (.int .i64 x.vd)).setCell ⟨G, k * 8 + 2, none⟩ (.int .i64 x.sd)).setCell ⟨G, k * 8 + 3, none⟩ (.string ⟨x.ct.toArray⟩)).setCell ⟨G, k * 8 + 4, none⟩ (.int .i64 x.pl)).setCell ⟨G, k * 8 + 5, none⟩ (.int .i64 x.mm)).setCell ⟨G, k * 8 + 6, none⟩ (.string ⟨x.lt.toArray⟩)).setCell ⟨G, k * 8 + 7, none⟩ (.string ⟨x.cl.toArray⟩)) (some G) := by
  have h0 := h.stored (k * 8) (.string ⟨x.nm.toArray⟩)
  have h1 := h0.1.stored (k * 8 + 1) (.int .i64 x.vd)
  have h2 := h1.1.stored (k * 8 + 2) (.int .i64 x.sd)
  have h3 := h2.1.stored (k * 8 + 3) (.string ⟨x.ct.toArray⟩)
  have h4 := h3.1.stored (k * 8 + 4) (.int .i64 x.pl)
  have h5 := h4.1.stored (k * 8 + 5) (.int .i64 x.mm)
  have h6 := h5.1.stored (k * 8 + 6) (.string ⟨x.lt.toArray⟩)
  have h7 := h6.1.stored (k * 8 + 7) (.string ⟨x.cl.toArray⟩)
  rw [Rcs_set l k hk x] at h7
  exact ⟨h7.1, grown_trans (grown_trans (grown_trans (grown_trans (grown_trans (grown_trans (grown_trans h0.2 h1.2) h2.2) h3.2) h4.2) h5.2) h6.2) h7.2⟩

/-- the cells of one record of a row -/
theorem own_rec {w : World} {b e G n cap : Nat} {l : List Rc} (h : w.ownsRow b e 8 (.slice (some ⟨G, 0, none⟩) n cap) n (Rcs l)) (k : Nat) (hk : k < l.length) :
    w.cell? ⟨G, k * 8, none⟩ = some (.string ⟨l[k].nm.toArray⟩) ∧ w.cell? ⟨G, k * 8 + 1, none⟩ = some (.int .i64 l[k].vd) ∧ w.cell? ⟨G, k * 8 + 2, none⟩ = some (.int .i64 l[k].sd) ∧ w.cell? ⟨G, k * 8 + 3, none⟩ = some (.string ⟨l[k].ct.toArray⟩) ∧
    w.cell? ⟨G, k * 8 + 4, none⟩ = some (.int .i64 l[k].pl) ∧ w.cell? ⟨G, k * 8 + 5, none⟩ = some (.int .i64 l[k].mm) ∧ w.cell? ⟨G, k * 8 + 6, none⟩ = some (.string ⟨l[k].lt.toArray⟩) ∧ w.cell? ⟨G, k * 8 + 7, none⟩ = some (.string ⟨l[k].cl.toArray⟩) := by
  have hl : l.length * 8 = n * 8 := by have := h.1; rw [Rcs_length] at this; exact this
  have g : ∀ j, j < 8 → w.cell? ⟨G, k * 8 + j, none⟩ = (rcCells l[k])[j]? := fun j hj => by rw [h.cellAt (k * 8 + j) (by omega), Rcs_at l k hk j hj]
  exact ⟨g 0 (by omega), g 1 (by omega), g 2 (by omega), g 3 (by omega), g 4 (by omega), g 5 (by omega), g 6 (by omega), g 7 (by omega)⟩

end Go.Proofs.Ytjebhbopmfcopaa
