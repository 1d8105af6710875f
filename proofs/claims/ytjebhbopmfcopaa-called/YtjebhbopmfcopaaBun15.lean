/-
  THE PROGRAM'S Align, with and without an error. Own text of the verifier.
  THE WALKS of 'works' and 'open'. Own text of the verifier.
  HOW IT STANDS within the statements of what follows: the piece that was handed in, the reference, its index. Own text of the verifier.
-/
import Derived.Test.YtjebhbopmfcopaaXPaAlign
import Derived.Test.YtjebhbopmfcopaaBun12
import Derived.Test.YtjebhbopmfcopaaXKpPiece
namespace Go.Proofs.Ytjebhbopmfcopaa
open Go.RowKit

theorem palign_any (nm lt : List UInt8) (b : Int) (cs : List Pr) (B : Nat) (p : Value) (G cc : Nat) (w : World) (hnm : nm.length ≤ 140737488355327) (hl : lt.length ≤ 140737488355327) (hR : Se.Right cs) (hZ : ∀ x ∈ cs, x.1.length ≤ 140737488355327) (hI : IxAt w B p cs) (hG : G < w.heap.size) (hsrc : ∀ j u, (Prs cs)[j]? = some u → w.cell? ((⟨G, 0, none⟩ : Addr).add j) = some u) :
    Calls Try.prog 16 #[.slice (some ⟨G, 0, none⟩) cs.length cc, p, .agg #[.string ⟨nm.toArray⟩, .string ⟨lt.toArray⟩], .int .i64 b] w fun e w' =>
      e = .returned (.tuple #[.agg (Rc.vals (Al.align nm lt b cs)), .int .i64 (Al.err b lt)]) ∧ Below w.heap.size w w' := by
  by_cases hE : Al.err b lt = 0
  · have h := palign_good nm lt b cs B p G cc w hnm hR hZ hI hE hG hsrc
    rw [Al.align, if_pos hE, hE]
    exact h
  · rw [Al.align, if_neg hE]
    exact palign_bad nm lt b cs B p _ _ _ w hl hR hI hE

end Go.Proofs.Ytjebhbopmfcopaa

namespace Go.Proofs.Ytjebhbopmfcopaa
open Go.RowKit

def Kp.own : List Pr := [([111, 110, 101], [65, 67, 71, 84, 84, 67, 71, 65])]
theorem Kp.own_err : Se.newErr Kp.own = 0 := by rfl
theorem Kp.own_align : Al.align [114] [84, 84, 84, 71] 0 Kp.own = ⟨[114], 1, 1, [111, 110, 101], 3, 0, [84, 84, 84, 71], [46, 46, 122, 46]⟩ := by kernel_rfl
theorem Kp.own_none : Al.err 0 [84, 84, 84, 71] = 0 := by rfl

theorem Kp.eq_rec (n c l k : ByteArray) (v s p m : Int) (w : World) :
    (Op.equalIn 10000 42 (.agg #[.string n, .int .i64 v, .int .i64 s, .string c, .int .i64 p, .int .i64 m, .string l, .string k]) (.agg #[.string n, .int .i64 v, .int .i64 s, .string c, .int .i64 p, .int .i64 m, .string l, .string k])).run Try.prog w = .ok true w := by
  simp [go_sem, Try.underlying42, Try.underlying9, Try.underlying3]
theorem Kp.eql_rec (n c l k : ByteArray) (v s p m : Int) (w : World) :
    (binOp .eql 42 (.agg #[.string n, .int .i64 v, .int .i64 s, .string c, .int .i64 p, .int .i64 m, .string l, .string k]) (.agg #[.string n, .int .i64 v, .int .i64 s, .string c, .int .i64 p, .int .i64 m, .string l, .string k])).run Try.prog w = .ok (.bool true) w := by
  rw [run_eql_struct, Kp.eq_rec]; rfl

set_option maxRecDepth 100000 in
set_option maxHeartbeats 800000 in
theorem kworks_any (w : World) : Calls Try.prog 28 #[] w fun e w' => e = .returned (.bool true) ∧ Below w.heap.size w w' := by
  have HB0 : Hid (∀ o, Below w.heap.size w (w.alloc o)) := fun o => (Below.refl _ _).alloc (Nat.le_refl _) o
  have HN : Hid (Calls Try.prog 27 #[.slice (some ⟨w.heap.size, 0, none⟩) 1 1] (w.alloc (.cells #[.string ⟨#[111, 110, 101]⟩, .string ⟨#[65, 67, 71, 84, 84, 67, 71, 65]⟩] 58)) fun e w' => ∃ bx, e = .returned (.tuple #[.pointer (some ⟨bx, 0, none⟩), .int .i64 0]) ∧ Hid (IxAt w' (w.heap.size + 1) (.pointer (some ⟨bx, 0, none⟩)) Kp.own) ∧ Below (w.heap.size + 1) (w.alloc (.cells #[.string ⟨#[111, 110, 101]⟩, .string ⟨#[65, 67, 71, 84, 84, 67, 71, 65]⟩] 58)) w') := by
    have h := ixNew_any Kp.own w.heap.size 1 (w.alloc (.cells #[.string ⟨#[111, 110, 101]⟩, .string ⟨#[65, 67, 71, 84, 84, 67, 71, 65]⟩] 58)) (by decide) (by decide) (fun k hk => by
      obtain rfl : k = 0 := by have : k < 1 := hk; omega
      exact ⟨cell_of_row _ _ 0 _ _ _ (heap_alloc_new w _), cell_of_row _ _ 1 _ _ _ (heap_alloc_new w _)⟩)
    rw [World.size_alloc, Kp.own_err] at h
    refine h.mono ?_
    rintro e w' ⟨p, rfl, hb, hp⟩
    rcases hp with ⟨h1, _⟩ | ⟨_, h2⟩
    · exact absurd rfl h1
    · obtain ⟨bx, hbx⟩ : ∃ bx, p = .pointer (some ⟨bx, 0, none⟩) := by obtain ⟨bx, _, _, h1, _⟩ := h2; exact ⟨bx, h1⟩
      subst hbx
      exact ⟨bx, rfl, h2, hb⟩
  have heq := Kp.eql_rec
  go_enter Try.func28, Try.ntmps28
  go_wp2_with fail
  refine HN.out.mono ?_
  rintro e w1 ⟨bx, rfl, HIX, hb1⟩
  have HAL : Hid (Calls Try.prog 16 #[.slice (some ⟨w.heap.size, 0, none⟩) 1 1, .pointer (some ⟨bx, 0, none⟩), .agg #[.string ⟨#[114]⟩, .string ⟨#[84, 84, 84, 71]⟩], .int .i64 0] w1 fun e w' => e = .returned (.tuple #[.agg #[.string ⟨#[114]⟩, .int .i64 1, .int .i64 1, .string ⟨#[111, 110, 101]⟩, .int .i64 3, .int .i64 0, .string ⟨#[84, 84, 84, 71]⟩, .string ⟨#[46, 46, 122, 46]⟩], .int .i64 0]) ∧ Below w1.heap.size w1 w') := by
    have hs1 := hb1.size
    have h := palign_any [114] [84, 84, 84, 71] 0 Kp.own (w.heap.size + 1) (.pointer (some ⟨bx, 0, none⟩)) w.heap.size 1 w1 (by decide) (by decide) (Se.right_of _ Kp.own_err) (by decide) HIX.out (by simp at hs1; omega) (fun j u hj => by
      have := two_cells w (.string ⟨#[111, 110, 101]⟩) (.string ⟨#[65, 67, 71, 84, 84, 67, 71, 65]⟩) 58 j u hj
      exact (hb1.cell (by rw [add_block]; simp)).trans this)
    rw [Kp.own_align, Kp.own_none] at h
    exact h
  have HB1 : Hid (Below w.heap.size w w1) := (HB0.out _).trans (hb1.mono (by omega))
  clear HN HIX HB0 hb1
  go_wp2_with fail
  refine HAL.out.mono ?_
  rintro e w2 ⟨rfl, hb2⟩
  have HB2 : Hid (∀ o, Below w.heap.size w (w2.alloc o)) := fun o => by
    have h := HB1.out.trans (hb2.mono HB1.out.size)
    exact h.alloc h.size o
  clear hb2 HAL HB1
  go_wp2
  go_ret
  exact ⟨rfl, HB2.out _⟩

set_option maxRecDepth 100000 in
set_option maxHeartbeats 800000 in
theorem kopen_any (cs : List Pr) (G cc : Nat) (w : World) (hR : Kp.Refs cs) (hp : 0 < cs.length) (hsrc : ∀ j u, (Prs cs)[j]? = some u → w.cell? ((⟨G, 0, none⟩ : Addr).add j) = some u) :
    Calls Try.prog 12 #[.slice (some ⟨G, 0, none⟩) cs.length cc] w fun e w' => ∃ bx, e = .returned (.pointer (some ⟨bx, 0, none⟩)) ∧ Hid (IxAt w' w.heap.size (.pointer (some ⟨bx, 0, none⟩)) cs) ∧ Below w.heap.size w w' := by
  have HN : Hid (Calls Try.prog 27 #[.slice (some ⟨G, 0, none⟩) cs.length cc] w fun e w' => ∃ bx, e = .returned (.tuple #[.pointer (some ⟨bx, 0, none⟩), .int .i64 0]) ∧ Hid (IxAt w' w.heap.size (.pointer (some ⟨bx, 0, none⟩)) cs) ∧ Below w.heap.size w w') := by
    have hf := hR.few
    have h := ixNew_any cs G cc w (by omega) (fun x hx => by have := (hR.let_ x hx).2.2; omega) (fun k hk => by
      have h1 := src_first hsrc k hk
      have h2 := src_pair hsrc k hk
      rw [Addr.add_lit, Nat.zero_add] at h1 h2
      exact ⟨h1, h2⟩)
    rw [hR.err hp] at h
    refine h.mono ?_
    rintro e w' ⟨p, rfl, hb, hp⟩
    rcases hp with ⟨h1, _⟩ | ⟨_, h2⟩
    · exact absurd rfl h1
    · obtain ⟨bx, hbx⟩ : ∃ bx, p = .pointer (some ⟨bx, 0, none⟩) := by obtain ⟨bx, _, _, h1, _⟩ := h2; exact ⟨bx, h1⟩
      subst hbx
      exact ⟨bx, rfl, h2, hb⟩
  clear hR hsrc hp
  go_enter Try.func12, Try.ntmps12
  go_wp2_with fail
  refine HN.out.mono ?_
  rintro e w1 ⟨bx, rfl, HIX, hb1⟩
  go_wp2_with fail
  refine (kworks_any _).mono ?_
  rintro e w2 ⟨rfl, hb2⟩
  have HI2 : Hid _ := IxAt.below HIX.out hb2
  have HB2 : Hid (Below w.heap.size w w2) := hb1.trans (hb2.mono hb1.size)
  clear HIX hb1 hb2 HN
  go_wp2
  go_ret
  exact ⟨bx, rfl, HI2.out, HB2.out⟩

end Go.Proofs.Ytjebhbopmfcopaa

namespace Go.Proofs.Ytjebhbopmfcopaa
open Go.RowKit

structure KpF (w W : World) (cut : Array Value) (cs : List Pr) (g bx B : Nat) : Prop where
  below : Below w.heap.size w W
  lt : w.heap.size < W.heap.size
  box : W.heap[w.heap.size]? = some (.cells cut 31 (0, 0))
  src : ∀ j u, (Prs cs)[j]? = some u → W.cell? ((⟨g, 0, none⟩ : Addr).add j) = some u
  ix : IxAt W B (.pointer (some ⟨bx, 0, none⟩)) cs
  low : g < W.heap.size
theorem KpF.mono {w W W' : World} {cut : Array Value} {cs : List Pr} {g bx B : Nat} (h : KpF w W cut cs g bx B) (hb : Below W.heap.size W W') : KpF w W' cut cs g bx B :=
  have h1 := h.lt
  have h2 := hb.size
  have h3 := h.low
  ⟨h.below.trans (hb.mono (by omega)), by omega, (hb.block _ h1).trans h.box, src_keep h.src hb, IxAt.below h.ix hb, by omega⟩
theorem KpF.alloc {w W : World} {cut : Array Value} {cs : List Pr} {g bx B : Nat} (h : KpF w W cut cs g bx B) (o : Obj) : KpF w (W.alloc o) cut cs g bx B := h.mono ((Below.refl _ _).alloc (Nat.le_refl _) o)

/-- texts that were handed in stay -/
theorem Kp.Txs.mono {w w' : World} {v : Value} {ts : List ByteArray} (h : Kp.Txs w v ts) (hb : Below w.heap.size w w') : Kp.Txs w' v ts := ⟨h.src.mono hb, h.len, h.txt⟩
theorem Kp.Ints.mono {w w' : World} {v : Value} {rs : List Int} (h : Kp.Ints w v rs) (hb : Below w.heap.size w w') : Kp.Ints w' v rs := ⟨h.src.mono hb, h.len, h.fit⟩
theorem Kp.Txs.form {w : World} {v : Value} {ts : List ByteArray} (h : Kp.Txs w v ts) : ∃ va vc, v = .slice va ts.length vc := by
  rcases h.src with ⟨rfl, h0, _⟩ | ⟨ad, c, rfl, _⟩
  · exact ⟨none, 0, by rw [h0]⟩
  · exact ⟨some ad, c, rfl⟩
theorem Kp.Ints.form {w : World} {v : Value} {rs : List Int} (h : Kp.Ints w v rs) : ∃ va vc, v = .slice va rs.length vc := by
  rcases h.src with ⟨rfl, h0, _⟩ | ⟨ad, c, rfl, _⟩
  · exact ⟨none, 0, by rw [h0]⟩
  · exact ⟨some ad, c, rfl⟩

/-- the program's Align of a read named r, of a reference that 'reference' made -/
theorem Kp.align {w W : World} {cut : Array Value} {cs : List Pr} {g bx B : Nat} (h : KpF w W cut cs g bx B) (hR : Kp.Refs cs) (hp : 0 < cs.length) (q : List UInt8) (b : Int) (cc : Nat) (hb0 : 0 ≤ b) (hb3 : b ≤ 3) (hL : Lt.allL q = true) (h1 : 1 ≤ q.length) (h128 : q.length ≤ 128) :
    Calls Try.prog 16 #[.slice (some ⟨g, 0, none⟩) cs.length cc, .pointer (some ⟨bx, 0, none⟩), .agg #[.string ⟨#[114]⟩, .string ⟨q.toArray⟩], .int .i64 b] W fun e w' =>
      e = .returned (.tuple #[.agg (Rc.vals (Al.upto [114] q b cs 4).best), .int .i64 0]) ∧ Below W.heap.size W w' := by
  have hn : ∀ x ∈ cs, x.1.length ≤ 140737488355327 := fun x hx => by
    obtain ⟨i, hi, rfl⟩ := List.mem_iff_getElem.1 hx
    rw [hR.nm i hi]
    simp [Kp.nm]
  exact palign_good [114] q b cs B _ g cc W (by simp) (Se.right_of cs (hR.err hp)) hn h.ix (Kp.err_none hb0 hb3 hL h1 h128) h.low h.src

end Go.Proofs.Ytjebhbopmfcopaa
